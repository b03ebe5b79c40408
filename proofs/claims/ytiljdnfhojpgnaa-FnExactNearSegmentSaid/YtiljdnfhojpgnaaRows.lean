/-
  No cell of these rows narrows 'for every input' (looked for: loops, veiled, ifaces, maps, wideKeys, modest, calm, conditions, laid).
  DERIVED. THE GIVEN ROWS OF THIS SEAT. 11 by the template 'for every input the law returns true; each argument reads behind the call as it read before'; 0 by the template 'total and deterministic' (their statements: YtiljdnfhojpgnaaTotals.lean).
  GIVEN WITH THE SEED: the statements are not yours to turn. If you find one false, say at which input.
  Laid BY PROGRAM, IN A SANDBOX (cutbox-rows.mjs): the forced cells as the released guide's own fill.sh prints them over the translation e8eb4617d140b8e9… (all of the seat's roots in one cut). By AI agents, Wed Nov 11 2026. No macro, syntax, notation, axiom, sorry.
-/
import Derived.Test.YtiljdnfhojpgnaaChecked
import GoSem.Claim
import GoSem.ClaimJoined
import GoSem.ClaimMapViews
import Derived.JoinedTies
import Derived.KernelRfl
namespace Go.Proofs.Ytiljdnfhojpgnaa
/- THE CELL 'sum', in the pinned program and in every row, IS THE sha256 OF THE DUMP (.gsa) THAT YtiljdnfhojpgnaaProg.lean LOADS. Nothing in Lean hashes anything: it is a label: what it is worth is what the hold of that sum in a sandbox is worth. -/
noncomputable def Try.pinned : Pinned := { name := "ytiljdnfhojpgnaa", sum := "e8eb4617d140b8e94b4ab7aaa55bd84a19735bd9b0d9af638e122caab737bd42", checked := Try.checked }
namespace Rows
def none {H : Type} : Left H := { results := [], args := [] }

/-- 'laws.FnExactValidPt': WHATEVER THE INPUT: true; the input reads as it did. -/
def fnExactValidPtSpec : ChangeSpec := { name := "fnExactValidPt", fn := fun _ => fun
  | [d] => { results := [.lit (.bool true)], args := [d] }
  | _ => none }
def fnExactValidPtRow : OpenClaim := { program := "ytiljdnfhojpgnaa", sum := "e8eb4617d140b8e94b4ab7aaa55bd84a19735bd9b0d9af638e122caab737bd42", func := "loop.example/g00883/laws.FnExactValidPt", spec := "fnExactValidPt", apart := false }
def FnExactValidPtSaid : Prop := fnExactValidPtRow.holds Try.pinned (OpenSpec.ofChange fnExactValidPtSpec)

/-- ITS FALSE NEIGHBOUR: 'it returns false'. Refute it at one input. -/
def fnExactValidPtWrong : ChangeSpec := { name := "fnExactValidPt", fn := fun _ => fun
  | [d] => { results := [.lit (.bool false)], args := [d] }
  | _ => none }
def FnExactValidPtWrongFalsely : Prop := fnExactValidPtRow.holds Try.pinned (OpenSpec.ofChange fnExactValidPtWrong)

/-- 'laws.FnExactDivRound': WHATEVER THE INPUT: true; the input reads as it did. -/
def fnExactDivRoundSpec : ChangeSpec := { name := "fnExactDivRound", fn := fun _ => fun
  | [d1, d2] => { results := [.lit (.bool true)], args := [d1, d2] }
  | _ => none }
def fnExactDivRoundRow : OpenClaim := { program := "ytiljdnfhojpgnaa", sum := "e8eb4617d140b8e94b4ab7aaa55bd84a19735bd9b0d9af638e122caab737bd42", func := "loop.example/g00883/laws.FnExactDivRound", spec := "fnExactDivRound", apart := false }
def FnExactDivRoundSaid : Prop := fnExactDivRoundRow.holds Try.pinned (OpenSpec.ofChange fnExactDivRoundSpec)

/-- ITS FALSE NEIGHBOUR: 'it returns false'. Refute it at one input. -/
def fnExactDivRoundWrong : ChangeSpec := { name := "fnExactDivRound", fn := fun _ => fun
  | [d1, d2] => { results := [.lit (.bool false)], args := [d1, d2] }
  | _ => none }
def FnExactDivRoundWrongFalsely : Prop := fnExactDivRoundRow.holds Try.pinned (OpenSpec.ofChange fnExactDivRoundWrong)

/-- 'laws.FnExactTurn': WHATEVER THE INPUT: true; the input reads as it did. -/
def fnExactTurnSpec : ChangeSpec := { name := "fnExactTurn", fn := fun _ => fun
  | [d1, d2, d3] => { results := [.lit (.bool true)], args := [d1, d2, d3] }
  | _ => none }
def fnExactTurnRow : OpenClaim := { program := "ytiljdnfhojpgnaa", sum := "e8eb4617d140b8e94b4ab7aaa55bd84a19735bd9b0d9af638e122caab737bd42", func := "loop.example/g00883/laws.FnExactTurn", spec := "fnExactTurn", apart := false }
def FnExactTurnSaid : Prop := fnExactTurnRow.holds Try.pinned (OpenSpec.ofChange fnExactTurnSpec)

/-- ITS FALSE NEIGHBOUR: 'it returns false'. Refute it at one input. -/
def fnExactTurnWrong : ChangeSpec := { name := "fnExactTurn", fn := fun _ => fun
  | [d1, d2, d3] => { results := [.lit (.bool false)], args := [d1, d2, d3] }
  | _ => none }
def FnExactTurnWrongFalsely : Prop := fnExactTurnRow.holds Try.pinned (OpenSpec.ofChange fnExactTurnWrong)

/-- 'laws.FnExactDistSq': WHATEVER THE INPUT: true; the input reads as it did. -/
def fnExactDistSqSpec : ChangeSpec := { name := "fnExactDistSq", fn := fun _ => fun
  | [d1, d2] => { results := [.lit (.bool true)], args := [d1, d2] }
  | _ => none }
def fnExactDistSqRow : OpenClaim := { program := "ytiljdnfhojpgnaa", sum := "e8eb4617d140b8e94b4ab7aaa55bd84a19735bd9b0d9af638e122caab737bd42", func := "loop.example/g00883/laws.FnExactDistSq", spec := "fnExactDistSq", apart := false }
def FnExactDistSqSaid : Prop := fnExactDistSqRow.holds Try.pinned (OpenSpec.ofChange fnExactDistSqSpec)

/-- ITS FALSE NEIGHBOUR: 'it returns false'. Refute it at one input. -/
def fnExactDistSqWrong : ChangeSpec := { name := "fnExactDistSq", fn := fun _ => fun
  | [d1, d2] => { results := [.lit (.bool false)], args := [d1, d2] }
  | _ => none }
def FnExactDistSqWrongFalsely : Prop := fnExactDistSqRow.holds Try.pinned (OpenSpec.ofChange fnExactDistSqWrong)

/-- 'laws.FnExactMidPt': WHATEVER THE INPUT: true; the input reads as it did. -/
def fnExactMidPtSpec : ChangeSpec := { name := "fnExactMidPt", fn := fun _ => fun
  | [d1, d2] => { results := [.lit (.bool true)], args := [d1, d2] }
  | _ => none }
def fnExactMidPtRow : OpenClaim := { program := "ytiljdnfhojpgnaa", sum := "e8eb4617d140b8e94b4ab7aaa55bd84a19735bd9b0d9af638e122caab737bd42", func := "loop.example/g00883/laws.FnExactMidPt", spec := "fnExactMidPt", apart := false }
def FnExactMidPtSaid : Prop := fnExactMidPtRow.holds Try.pinned (OpenSpec.ofChange fnExactMidPtSpec)

/-- ITS FALSE NEIGHBOUR: 'it returns false'. Refute it at one input. -/
def fnExactMidPtWrong : ChangeSpec := { name := "fnExactMidPt", fn := fun _ => fun
  | [d1, d2] => { results := [.lit (.bool false)], args := [d1, d2] }
  | _ => none }
def FnExactMidPtWrongFalsely : Prop := fnExactMidPtRow.holds Try.pinned (OpenSpec.ofChange fnExactMidPtWrong)

/-- 'laws.FnExactOnSegment': WHATEVER THE INPUT: true; the input reads as it did. -/
def fnExactOnSegmentSpec : ChangeSpec := { name := "fnExactOnSegment", fn := fun _ => fun
  | [d1, d2, d3] => { results := [.lit (.bool true)], args := [d1, d2, d3] }
  | _ => none }
def fnExactOnSegmentRow : OpenClaim := { program := "ytiljdnfhojpgnaa", sum := "e8eb4617d140b8e94b4ab7aaa55bd84a19735bd9b0d9af638e122caab737bd42", func := "loop.example/g00883/laws.FnExactOnSegment", spec := "fnExactOnSegment", apart := false }
def FnExactOnSegmentSaid : Prop := fnExactOnSegmentRow.holds Try.pinned (OpenSpec.ofChange fnExactOnSegmentSpec)

/-- ITS FALSE NEIGHBOUR: 'it returns false'. Refute it at one input. -/
def fnExactOnSegmentWrong : ChangeSpec := { name := "fnExactOnSegment", fn := fun _ => fun
  | [d1, d2, d3] => { results := [.lit (.bool false)], args := [d1, d2, d3] }
  | _ => none }
def FnExactOnSegmentWrongFalsely : Prop := fnExactOnSegmentRow.holds Try.pinned (OpenSpec.ofChange fnExactOnSegmentWrong)

/-- 'laws.FnExactMeetingOf': WHATEVER THE INPUT: true; the input reads as it did. -/
def fnExactMeetingOfSpec : ChangeSpec := { name := "fnExactMeetingOf", fn := fun _ => fun
  | [d1, d2, d3, d4] => { results := [.lit (.bool true)], args := [d1, d2, d3, d4] }
  | _ => none }
def fnExactMeetingOfRow : OpenClaim := { program := "ytiljdnfhojpgnaa", sum := "e8eb4617d140b8e94b4ab7aaa55bd84a19735bd9b0d9af638e122caab737bd42", func := "loop.example/g00883/laws.FnExactMeetingOf", spec := "fnExactMeetingOf", unfollowed := true, recurses := true, apart := false }
def FnExactMeetingOfSaid : Prop := fnExactMeetingOfRow.holds Try.pinned (OpenSpec.ofChange fnExactMeetingOfSpec)

/-- ITS FALSE NEIGHBOUR: 'it returns false'. Refute it at one input. -/
def fnExactMeetingOfWrong : ChangeSpec := { name := "fnExactMeetingOf", fn := fun _ => fun
  | [d1, d2, d3, d4] => { results := [.lit (.bool false)], args := [d1, d2, d3, d4] }
  | _ => none }
def FnExactMeetingOfWrongFalsely : Prop := fnExactMeetingOfRow.holds Try.pinned (OpenSpec.ofChange fnExactMeetingOfWrong)

/-- 'laws.FnExactCrossingOf': WHATEVER THE INPUT: true; the input reads as it did. -/
def fnExactCrossingOfSpec : ChangeSpec := { name := "fnExactCrossingOf", fn := fun _ => fun
  | [d1, d2, d3, d4] => { results := [.lit (.bool true)], args := [d1, d2, d3, d4] }
  | _ => none }
def fnExactCrossingOfRow : OpenClaim := { program := "ytiljdnfhojpgnaa", sum := "e8eb4617d140b8e94b4ab7aaa55bd84a19735bd9b0d9af638e122caab737bd42", func := "loop.example/g00883/laws.FnExactCrossingOf", spec := "fnExactCrossingOf", unfollowed := true, recurses := true, apart := false }
def FnExactCrossingOfSaid : Prop := fnExactCrossingOfRow.holds Try.pinned (OpenSpec.ofChange fnExactCrossingOfSpec)

/-- ITS FALSE NEIGHBOUR: 'it returns false'. Refute it at one input. -/
def fnExactCrossingOfWrong : ChangeSpec := { name := "fnExactCrossingOf", fn := fun _ => fun
  | [d1, d2, d3, d4] => { results := [.lit (.bool false)], args := [d1, d2, d3, d4] }
  | _ => none }
def FnExactCrossingOfWrongFalsely : Prop := fnExactCrossingOfRow.holds Try.pinned (OpenSpec.ofChange fnExactCrossingOfWrong)

/-- 'laws.FnExactNearSegment': WHATEVER THE INPUT: true; the input reads as it did. -/
def fnExactNearSegmentSpec : ChangeSpec := { name := "fnExactNearSegment", fn := fun _ => fun
  | [d1, d2, d3, d4] => { results := [.lit (.bool true)], args := [d1, d2, d3, d4] }
  | _ => none }
def fnExactNearSegmentRow : OpenClaim := { program := "ytiljdnfhojpgnaa", sum := "e8eb4617d140b8e94b4ab7aaa55bd84a19735bd9b0d9af638e122caab737bd42", func := "loop.example/g00883/laws.FnExactNearSegment", spec := "fnExactNearSegment", apart := false }
def FnExactNearSegmentSaid : Prop := fnExactNearSegmentRow.holds Try.pinned (OpenSpec.ofChange fnExactNearSegmentSpec)

/-- ITS FALSE NEIGHBOUR: 'it returns false'. Refute it at one input. -/
def fnExactNearSegmentWrong : ChangeSpec := { name := "fnExactNearSegment", fn := fun _ => fun
  | [d1, d2, d3, d4] => { results := [.lit (.bool false)], args := [d1, d2, d3, d4] }
  | _ => none }
def FnExactNearSegmentWrongFalsely : Prop := fnExactNearSegmentRow.holds Try.pinned (OpenSpec.ofChange fnExactNearSegmentWrong)

/-- 'laws.FnExactCompareAround': WHATEVER THE INPUT: true; the input reads as it did. -/
def fnExactCompareAroundSpec : ChangeSpec := { name := "fnExactCompareAround", fn := fun _ => fun
  | [d1, d2, d3] => { results := [.lit (.bool true)], args := [d1, d2, d3] }
  | _ => none }
def fnExactCompareAroundRow : OpenClaim := { program := "ytiljdnfhojpgnaa", sum := "e8eb4617d140b8e94b4ab7aaa55bd84a19735bd9b0d9af638e122caab737bd42", func := "loop.example/g00883/laws.FnExactCompareAround", spec := "fnExactCompareAround", apart := false }
def FnExactCompareAroundSaid : Prop := fnExactCompareAroundRow.holds Try.pinned (OpenSpec.ofChange fnExactCompareAroundSpec)

/-- ITS FALSE NEIGHBOUR: 'it returns false'. Refute it at one input. -/
def fnExactCompareAroundWrong : ChangeSpec := { name := "fnExactCompareAround", fn := fun _ => fun
  | [d1, d2, d3] => { results := [.lit (.bool false)], args := [d1, d2, d3] }
  | _ => none }
def FnExactCompareAroundWrongFalsely : Prop := fnExactCompareAroundRow.holds Try.pinned (OpenSpec.ofChange fnExactCompareAroundWrong)

/-- 'laws.FnCrossings': WHATEVER THE INPUT: true; the input reads as it did. -/
def fnCrossingsSpec : ChangeSpec := { name := "fnCrossings", fn := fun _ => fun
  | [d] => { results := [.lit (.bool true)], args := [d] }
  | _ => none }
def fnCrossingsRow : OpenClaim := { program := "ytiljdnfhojpgnaa", sum := "e8eb4617d140b8e94b4ab7aaa55bd84a19735bd9b0d9af638e122caab737bd42", func := "loop.example/g00883/laws.FnCrossings", spec := "fnCrossings", unfollowed := true, recurses := true, apart := false }
def FnCrossingsSaid : Prop := fnCrossingsRow.holds Try.pinned (OpenSpec.ofChange fnCrossingsSpec)

/-- ITS FALSE NEIGHBOUR: 'it returns false'. Refute it at one input. -/
def fnCrossingsWrong : ChangeSpec := { name := "fnCrossings", fn := fun _ => fun
  | [d] => { results := [.lit (.bool false)], args := [d] }
  | _ => none }
def FnCrossingsWrongFalsely : Prop := fnCrossingsRow.holds Try.pinned (OpenSpec.ofChange fnCrossingsWrong)

/- THE SECOND FORM. 'bulk': how many values and letters a reading holds, each counted each time it is reached (what is shared counts as often as it is met; a slice's spare places count too). A statement '..UptoSaid' is the law's where the arguments, and the package variables that the reading takes, are together of bulk at most 1048576: NARROWER than '..Said'. Prove '..Said' where nothing that the law and all that it calls make is longer than what came in: it says more and counts as full. Else prove '..UptoSaid'. A law counts once. -/
mutual
def uptoBulk {H : Type} : DataW H → Nat
  | .lit (.string bytes) => bytes.length + 1
  | .lit _ => 1
  | .nil => 1
  | .ptr d => uptoBulk d + 1
  | .slice elems spare => uptoBulkAll elems + uptoBulkAll spare + 1
  | .agg parts => uptoBulkAll parts + 1
  | .iface _ d => uptoBulk d + 1
  | .map entries => uptoBulkEntries entries + 1
  | .held _ => 1
def uptoBulkAll {H : Type} : List (DataW H) → Nat
  | [] => 0
  | d :: r => uptoBulk d + uptoBulkAll r
def uptoBulkEntries {H : Type} : List (Lit × DataW H) → Nat
  | [] => 0
  | x :: r => uptoBulkEntry x + uptoBulkEntries r
def uptoBulkEntry {H : Type} : Lit × DataW H → Nat
  | (.string bytes, d) => bytes.length + uptoBulk d + 1
  | (_, d) => uptoBulk d + 1
 end
def uptoSmall : (H : Type) → List (DataW H) → Bool := fun _ ds => decide (uptoBulkAll ds ≤ 1048576)
def OpenSpec.upto (s : _root_.Go.ChangeSpec) : _root_.Go.OpenSpec := { _root_.Go.OpenSpec.ofChange s with cond := some uptoSmall }

/-- 'laws.FnExactValidPt', WHERE WHAT IT READS IS OF BULK AT MOST 1048576: true; the input reads as it did. -/
def fnExactValidPtUptoRow : OpenClaim := { program := "ytiljdnfhojpgnaa", sum := "e8eb4617d140b8e94b4ab7aaa55bd84a19735bd9b0d9af638e122caab737bd42", func := "loop.example/g00883/laws.FnExactValidPt", spec := "fnExactValidPt", apart := false, narrowed := true }
def FnExactValidPtUptoSaid : Prop := fnExactValidPtUptoRow.holds Try.pinned (OpenSpec.upto fnExactValidPtSpec)

/-- 'laws.FnExactDivRound', WHERE WHAT IT READS IS OF BULK AT MOST 1048576: true; the input reads as it did. -/
def fnExactDivRoundUptoRow : OpenClaim := { program := "ytiljdnfhojpgnaa", sum := "e8eb4617d140b8e94b4ab7aaa55bd84a19735bd9b0d9af638e122caab737bd42", func := "loop.example/g00883/laws.FnExactDivRound", spec := "fnExactDivRound", apart := false, narrowed := true }
def FnExactDivRoundUptoSaid : Prop := fnExactDivRoundUptoRow.holds Try.pinned (OpenSpec.upto fnExactDivRoundSpec)

/-- 'laws.FnExactTurn', WHERE WHAT IT READS IS OF BULK AT MOST 1048576: true; the input reads as it did. -/
def fnExactTurnUptoRow : OpenClaim := { program := "ytiljdnfhojpgnaa", sum := "e8eb4617d140b8e94b4ab7aaa55bd84a19735bd9b0d9af638e122caab737bd42", func := "loop.example/g00883/laws.FnExactTurn", spec := "fnExactTurn", apart := false, narrowed := true }
def FnExactTurnUptoSaid : Prop := fnExactTurnUptoRow.holds Try.pinned (OpenSpec.upto fnExactTurnSpec)

/-- 'laws.FnExactDistSq', WHERE WHAT IT READS IS OF BULK AT MOST 1048576: true; the input reads as it did. -/
def fnExactDistSqUptoRow : OpenClaim := { program := "ytiljdnfhojpgnaa", sum := "e8eb4617d140b8e94b4ab7aaa55bd84a19735bd9b0d9af638e122caab737bd42", func := "loop.example/g00883/laws.FnExactDistSq", spec := "fnExactDistSq", apart := false, narrowed := true }
def FnExactDistSqUptoSaid : Prop := fnExactDistSqUptoRow.holds Try.pinned (OpenSpec.upto fnExactDistSqSpec)

/-- 'laws.FnExactMidPt', WHERE WHAT IT READS IS OF BULK AT MOST 1048576: true; the input reads as it did. -/
def fnExactMidPtUptoRow : OpenClaim := { program := "ytiljdnfhojpgnaa", sum := "e8eb4617d140b8e94b4ab7aaa55bd84a19735bd9b0d9af638e122caab737bd42", func := "loop.example/g00883/laws.FnExactMidPt", spec := "fnExactMidPt", apart := false, narrowed := true }
def FnExactMidPtUptoSaid : Prop := fnExactMidPtUptoRow.holds Try.pinned (OpenSpec.upto fnExactMidPtSpec)

/-- 'laws.FnExactOnSegment', WHERE WHAT IT READS IS OF BULK AT MOST 1048576: true; the input reads as it did. -/
def fnExactOnSegmentUptoRow : OpenClaim := { program := "ytiljdnfhojpgnaa", sum := "e8eb4617d140b8e94b4ab7aaa55bd84a19735bd9b0d9af638e122caab737bd42", func := "loop.example/g00883/laws.FnExactOnSegment", spec := "fnExactOnSegment", apart := false, narrowed := true }
def FnExactOnSegmentUptoSaid : Prop := fnExactOnSegmentUptoRow.holds Try.pinned (OpenSpec.upto fnExactOnSegmentSpec)

/-- 'laws.FnExactMeetingOf', WHERE WHAT IT READS IS OF BULK AT MOST 1048576: true; the input reads as it did. -/
def fnExactMeetingOfUptoRow : OpenClaim := { program := "ytiljdnfhojpgnaa", sum := "e8eb4617d140b8e94b4ab7aaa55bd84a19735bd9b0d9af638e122caab737bd42", func := "loop.example/g00883/laws.FnExactMeetingOf", spec := "fnExactMeetingOf", unfollowed := true, recurses := true, apart := false, narrowed := true }
def FnExactMeetingOfUptoSaid : Prop := fnExactMeetingOfUptoRow.holds Try.pinned (OpenSpec.upto fnExactMeetingOfSpec)

/-- 'laws.FnExactCrossingOf', WHERE WHAT IT READS IS OF BULK AT MOST 1048576: true; the input reads as it did. -/
def fnExactCrossingOfUptoRow : OpenClaim := { program := "ytiljdnfhojpgnaa", sum := "e8eb4617d140b8e94b4ab7aaa55bd84a19735bd9b0d9af638e122caab737bd42", func := "loop.example/g00883/laws.FnExactCrossingOf", spec := "fnExactCrossingOf", unfollowed := true, recurses := true, apart := false, narrowed := true }
def FnExactCrossingOfUptoSaid : Prop := fnExactCrossingOfUptoRow.holds Try.pinned (OpenSpec.upto fnExactCrossingOfSpec)

/-- 'laws.FnExactNearSegment', WHERE WHAT IT READS IS OF BULK AT MOST 1048576: true; the input reads as it did. -/
def fnExactNearSegmentUptoRow : OpenClaim := { program := "ytiljdnfhojpgnaa", sum := "e8eb4617d140b8e94b4ab7aaa55bd84a19735bd9b0d9af638e122caab737bd42", func := "loop.example/g00883/laws.FnExactNearSegment", spec := "fnExactNearSegment", apart := false, narrowed := true }
def FnExactNearSegmentUptoSaid : Prop := fnExactNearSegmentUptoRow.holds Try.pinned (OpenSpec.upto fnExactNearSegmentSpec)

/-- 'laws.FnExactCompareAround', WHERE WHAT IT READS IS OF BULK AT MOST 1048576: true; the input reads as it did. -/
def fnExactCompareAroundUptoRow : OpenClaim := { program := "ytiljdnfhojpgnaa", sum := "e8eb4617d140b8e94b4ab7aaa55bd84a19735bd9b0d9af638e122caab737bd42", func := "loop.example/g00883/laws.FnExactCompareAround", spec := "fnExactCompareAround", apart := false, narrowed := true }
def FnExactCompareAroundUptoSaid : Prop := fnExactCompareAroundUptoRow.holds Try.pinned (OpenSpec.upto fnExactCompareAroundSpec)

/-- 'laws.FnCrossings', WHERE WHAT IT READS IS OF BULK AT MOST 1048576: true; the input reads as it did. -/
def fnCrossingsUptoRow : OpenClaim := { program := "ytiljdnfhojpgnaa", sum := "e8eb4617d140b8e94b4ab7aaa55bd84a19735bd9b0d9af638e122caab737bd42", func := "loop.example/g00883/laws.FnCrossings", spec := "fnCrossings", unfollowed := true, recurses := true, apart := false, narrowed := true }
def FnCrossingsUptoSaid : Prop := fnCrossingsUptoRow.holds Try.pinned (OpenSpec.upto fnCrossingsSpec)

end Rows
end Go.Proofs.Ytiljdnfhojpgnaa
