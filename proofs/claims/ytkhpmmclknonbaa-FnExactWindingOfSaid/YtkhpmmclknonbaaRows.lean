/-
  No cell of these rows narrows 'for every input' (looked for: loops, veiled, ifaces, maps, wideKeys, modest, calm, conditions, laid).
  DERIVED. THE GIVEN ROWS OF THIS SEAT. 10 by the template 'for every input the law returns true; each argument reads behind the call as it read before'; 0 by the template 'total and deterministic' (their statements: YtkhpmmclknonbaaTotals.lean).
  GIVEN WITH THE SEED: the statements are not yours to turn. If you find one false, say at which input.
  Laid BY PROGRAM, IN A SANDBOX (cutbox-rows.mjs): the forced cells as the released guide's own fill.sh prints them over the translation 3c552f95ada6a8cb… (all of the seat's roots in one cut). By AI agents, Wed Nov 11 2026. No macro, syntax, notation, axiom, sorry.
-/
import Derived.Test.YtkhpmmclknonbaaChecked
import GoSem.Claim
import GoSem.ClaimJoined
import GoSem.ClaimMapViews
import Derived.JoinedTies
import Derived.KernelRfl
namespace Go.Proofs.Ytkhpmmclknonbaa
/- THE CELL 'sum', in the pinned program and in every row, IS THE sha256 OF THE DUMP (.gsa) THAT YtkhpmmclknonbaaProg.lean LOADS. Nothing in Lean hashes anything: it is a label: what it is worth is what the hold of that sum in a sandbox is worth. -/
noncomputable def Try.pinned : Pinned := { name := "ytkhpmmclknonbaa", sum := "3c552f95ada6a8cbe3d2c7c6cdae030d956ae7a78b743b9d8f3370b92a86f36c", checked := Try.checked }
namespace Rows
def none {H : Type} : Left H := { results := [], args := [] }

/-- 'laws.FnExactMeetingOf': WHATEVER THE INPUT: true; the input reads as it did. -/
def fnExactMeetingOfSpec : ChangeSpec := { name := "fnExactMeetingOf", fn := fun _ => fun
  | [d1, d2, d3, d4] => { results := [.lit (.bool true)], args := [d1, d2, d3, d4] }
  | _ => none }
def fnExactMeetingOfRow : OpenClaim := { program := "ytkhpmmclknonbaa", sum := "3c552f95ada6a8cbe3d2c7c6cdae030d956ae7a78b743b9d8f3370b92a86f36c", func := "loop.example/g00883/laws.FnExactMeetingOf", spec := "fnExactMeetingOf", unfollowed := true, recurses := true, plainKeys := false, apart := false }
def FnExactMeetingOfSaid : Prop := fnExactMeetingOfRow.holds Try.pinned (OpenSpec.ofChange fnExactMeetingOfSpec)

/-- ITS FALSE NEIGHBOUR: 'it returns false'. Refute it at one input. -/
def fnExactMeetingOfWrong : ChangeSpec := { name := "fnExactMeetingOf", fn := fun _ => fun
  | [d1, d2, d3, d4] => { results := [.lit (.bool false)], args := [d1, d2, d3, d4] }
  | _ => none }
def FnExactMeetingOfWrongFalsely : Prop := fnExactMeetingOfRow.holds Try.pinned (OpenSpec.ofChange fnExactMeetingOfWrong)

/-- 'laws.FnExactCrossingOf': WHATEVER THE INPUT: true; the input reads as it did. -/
def fnExactCrossingOfSpec : ChangeSpec := { name := "fnExactCrossingOf", fn := fun _ => fun
  | [d1, d2, d3, d4] => { results := [.lit (.bool true)], args := [d1, d2, d3, d4] }
  | _ => none }
def fnExactCrossingOfRow : OpenClaim := { program := "ytkhpmmclknonbaa", sum := "3c552f95ada6a8cbe3d2c7c6cdae030d956ae7a78b743b9d8f3370b92a86f36c", func := "loop.example/g00883/laws.FnExactCrossingOf", spec := "fnExactCrossingOf", unfollowed := true, recurses := true, plainKeys := false, apart := false }
def FnExactCrossingOfSaid : Prop := fnExactCrossingOfRow.holds Try.pinned (OpenSpec.ofChange fnExactCrossingOfSpec)

/-- ITS FALSE NEIGHBOUR: 'it returns false'. Refute it at one input. -/
def fnExactCrossingOfWrong : ChangeSpec := { name := "fnExactCrossingOf", fn := fun _ => fun
  | [d1, d2, d3, d4] => { results := [.lit (.bool false)], args := [d1, d2, d3, d4] }
  | _ => none }
def FnExactCrossingOfWrongFalsely : Prop := fnExactCrossingOfRow.holds Try.pinned (OpenSpec.ofChange fnExactCrossingOfWrong)

/-- 'laws.FnExactIsSnapped': WHATEVER THE INPUT: true; the input reads as it did. -/
def fnExactIsSnappedSpec : ChangeSpec := { name := "fnExactIsSnapped", fn := fun _ => fun
  | [d] => { results := [.lit (.bool true)], args := [d] }
  | _ => none }
def fnExactIsSnappedRow : OpenClaim := { program := "ytkhpmmclknonbaa", sum := "3c552f95ada6a8cbe3d2c7c6cdae030d956ae7a78b743b9d8f3370b92a86f36c", func := "loop.example/g00883/laws.FnExactIsSnapped", spec := "fnExactIsSnapped", unfollowed := true, recurses := true, plainKeys := false, apart := false }
def FnExactIsSnappedSaid : Prop := fnExactIsSnappedRow.holds Try.pinned (OpenSpec.ofChange fnExactIsSnappedSpec)

/-- ITS FALSE NEIGHBOUR: 'it returns false'. Refute it at one input. -/
def fnExactIsSnappedWrong : ChangeSpec := { name := "fnExactIsSnapped", fn := fun _ => fun
  | [d] => { results := [.lit (.bool false)], args := [d] }
  | _ => none }
def FnExactIsSnappedWrongFalsely : Prop := fnExactIsSnappedRow.holds Try.pinned (OpenSpec.ofChange fnExactIsSnappedWrong)

/-- 'laws.FnExactAreaTwice': WHATEVER THE INPUT: true; the input reads as it did. -/
def fnExactAreaTwiceSpec : ChangeSpec := { name := "fnExactAreaTwice", fn := fun _ => fun
  | [d] => { results := [.lit (.bool true)], args := [d] }
  | _ => none }
def fnExactAreaTwiceRow : OpenClaim := { program := "ytkhpmmclknonbaa", sum := "3c552f95ada6a8cbe3d2c7c6cdae030d956ae7a78b743b9d8f3370b92a86f36c", func := "loop.example/g00883/laws.FnExactAreaTwice", spec := "fnExactAreaTwice", plainKeys := false, apart := false }
def FnExactAreaTwiceSaid : Prop := fnExactAreaTwiceRow.holds Try.pinned (OpenSpec.ofChange fnExactAreaTwiceSpec)

/-- ITS FALSE NEIGHBOUR: 'it returns false'. Refute it at one input. -/
def fnExactAreaTwiceWrong : ChangeSpec := { name := "fnExactAreaTwice", fn := fun _ => fun
  | [d] => { results := [.lit (.bool false)], args := [d] }
  | _ => none }
def FnExactAreaTwiceWrongFalsely : Prop := fnExactAreaTwiceRow.holds Try.pinned (OpenSpec.ofChange fnExactAreaTwiceWrong)

/-- 'laws.FnExactReverseRegion': WHATEVER THE INPUT: true; the input reads as it did. -/
def fnExactReverseRegionSpec : ChangeSpec := { name := "fnExactReverseRegion", fn := fun _ => fun
  | [d] => { results := [.lit (.bool true)], args := [d] }
  | _ => none }
def fnExactReverseRegionRow : OpenClaim := { program := "ytkhpmmclknonbaa", sum := "3c552f95ada6a8cbe3d2c7c6cdae030d956ae7a78b743b9d8f3370b92a86f36c", func := "loop.example/g00883/laws.FnExactReverseRegion", spec := "fnExactReverseRegion", plainKeys := false, apart := false }
def FnExactReverseRegionSaid : Prop := fnExactReverseRegionRow.holds Try.pinned (OpenSpec.ofChange fnExactReverseRegionSpec)

/-- ITS FALSE NEIGHBOUR: 'it returns false'. Refute it at one input. -/
def fnExactReverseRegionWrong : ChangeSpec := { name := "fnExactReverseRegion", fn := fun _ => fun
  | [d] => { results := [.lit (.bool false)], args := [d] }
  | _ => none }
def FnExactReverseRegionWrongFalsely : Prop := fnExactReverseRegionRow.holds Try.pinned (OpenSpec.ofChange fnExactReverseRegionWrong)

/-- 'laws.FnExactWindingOf': WHATEVER THE INPUT: true; the input reads as it did. -/
def fnExactWindingOfSpec : ChangeSpec := { name := "fnExactWindingOf", fn := fun _ => fun
  | [d1, d2] => { results := [.lit (.bool true)], args := [d1, d2] }
  | _ => none }
def fnExactWindingOfRow : OpenClaim := { program := "ytkhpmmclknonbaa", sum := "3c552f95ada6a8cbe3d2c7c6cdae030d956ae7a78b743b9d8f3370b92a86f36c", func := "loop.example/g00883/laws.FnExactWindingOf", spec := "fnExactWindingOf", plainKeys := false, apart := false }
def FnExactWindingOfSaid : Prop := fnExactWindingOfRow.holds Try.pinned (OpenSpec.ofChange fnExactWindingOfSpec)

/-- ITS FALSE NEIGHBOUR: 'it returns false'. Refute it at one input. -/
def fnExactWindingOfWrong : ChangeSpec := { name := "fnExactWindingOf", fn := fun _ => fun
  | [d1, d2] => { results := [.lit (.bool false)], args := [d1, d2] }
  | _ => none }
def FnExactWindingOfWrongFalsely : Prop := fnExactWindingOfRow.holds Try.pinned (OpenSpec.ofChange fnExactWindingOfWrong)

/-- 'laws.FnExactPointIn': WHATEVER THE INPUT: true; the input reads as it did. -/
def fnExactPointInSpec : ChangeSpec := { name := "fnExactPointIn", fn := fun _ => fun
  | [d1, d2] => { results := [.lit (.bool true)], args := [d1, d2] }
  | _ => none }
def fnExactPointInRow : OpenClaim := { program := "ytkhpmmclknonbaa", sum := "3c552f95ada6a8cbe3d2c7c6cdae030d956ae7a78b743b9d8f3370b92a86f36c", func := "loop.example/g00883/laws.FnExactPointIn", spec := "fnExactPointIn", plainKeys := false, apart := false }
def FnExactPointInSaid : Prop := fnExactPointInRow.holds Try.pinned (OpenSpec.ofChange fnExactPointInSpec)

/-- ITS FALSE NEIGHBOUR: 'it returns false'. Refute it at one input. -/
def fnExactPointInWrong : ChangeSpec := { name := "fnExactPointIn", fn := fun _ => fun
  | [d1, d2] => { results := [.lit (.bool false)], args := [d1, d2] }
  | _ => none }
def FnExactPointInWrongFalsely : Prop := fnExactPointInRow.holds Try.pinned (OpenSpec.ofChange fnExactPointInWrong)

/-- 'laws.FnExactJoinRegions': WHATEVER THE INPUT: true; the input reads as it did. -/
def fnExactJoinRegionsSpec : ChangeSpec := { name := "fnExactJoinRegions", fn := fun _ => fun
  | [d1, d2] => { results := [.lit (.bool true)], args := [d1, d2] }
  | _ => none }
def fnExactJoinRegionsRow : OpenClaim := { program := "ytkhpmmclknonbaa", sum := "3c552f95ada6a8cbe3d2c7c6cdae030d956ae7a78b743b9d8f3370b92a86f36c", func := "loop.example/g00883/laws.FnExactJoinRegions", spec := "fnExactJoinRegions", plainKeys := false, apart := false }
def FnExactJoinRegionsSaid : Prop := fnExactJoinRegionsRow.holds Try.pinned (OpenSpec.ofChange fnExactJoinRegionsSpec)

/-- ITS FALSE NEIGHBOUR: 'it returns false'. Refute it at one input. -/
def fnExactJoinRegionsWrong : ChangeSpec := { name := "fnExactJoinRegions", fn := fun _ => fun
  | [d1, d2] => { results := [.lit (.bool false)], args := [d1, d2] }
  | _ => none }
def FnExactJoinRegionsWrongFalsely : Prop := fnExactJoinRegionsRow.holds Try.pinned (OpenSpec.ofChange fnExactJoinRegionsWrong)

/-- 'laws.FnExactThenMap': WHATEVER THE INPUT: true; the input reads as it did. -/
def fnExactThenMapSpec : ChangeSpec := { name := "fnExactThenMap", fn := fun _ => fun
  | [d1, d2] => { results := [.lit (.bool true)], args := [d1, d2] }
  | _ => none }
def fnExactThenMapRow : OpenClaim := { program := "ytkhpmmclknonbaa", sum := "3c552f95ada6a8cbe3d2c7c6cdae030d956ae7a78b743b9d8f3370b92a86f36c", func := "loop.example/g00883/laws.FnExactThenMap", spec := "fnExactThenMap", unfollowed := true, recurses := true, plainKeys := false, apart := false }
def FnExactThenMapSaid : Prop := fnExactThenMapRow.holds Try.pinned (OpenSpec.ofChange fnExactThenMapSpec)

/-- ITS FALSE NEIGHBOUR: 'it returns false'. Refute it at one input. -/
def fnExactThenMapWrong : ChangeSpec := { name := "fnExactThenMap", fn := fun _ => fun
  | [d1, d2] => { results := [.lit (.bool false)], args := [d1, d2] }
  | _ => none }
def FnExactThenMapWrongFalsely : Prop := fnExactThenMapRow.holds Try.pinned (OpenSpec.ofChange fnExactThenMapWrong)

/-- 'laws.FnExactInvertMap': WHATEVER THE INPUT: true; the input reads as it did. -/
def fnExactInvertMapSpec : ChangeSpec := { name := "fnExactInvertMap", fn := fun _ => fun
  | [d] => { results := [.lit (.bool true)], args := [d] }
  | _ => none }
def fnExactInvertMapRow : OpenClaim := { program := "ytkhpmmclknonbaa", sum := "3c552f95ada6a8cbe3d2c7c6cdae030d956ae7a78b743b9d8f3370b92a86f36c", func := "loop.example/g00883/laws.FnExactInvertMap", spec := "fnExactInvertMap", unfollowed := true, recurses := true, plainKeys := false, apart := false }
def FnExactInvertMapSaid : Prop := fnExactInvertMapRow.holds Try.pinned (OpenSpec.ofChange fnExactInvertMapSpec)

/-- ITS FALSE NEIGHBOUR: 'it returns false'. Refute it at one input. -/
def fnExactInvertMapWrong : ChangeSpec := { name := "fnExactInvertMap", fn := fun _ => fun
  | [d] => { results := [.lit (.bool false)], args := [d] }
  | _ => none }
def FnExactInvertMapWrongFalsely : Prop := fnExactInvertMapRow.holds Try.pinned (OpenSpec.ofChange fnExactInvertMapWrong)

/- THE SECOND FORM. 'bulk': how many values and letters a reading holds, each counted each time it is reached (what is shared counts as often as it is met; a slice's spare places count too). A statement '..UptoSaid' is the law's where the arguments, and the package variables that the reading takes, are together of bulk at most 1048576: NARROWER than '..Said'. Prove '..Said' where nothing that the law and all that it calls make is longer than what came in: it says more and counts as full. Else prove '..UptoSaid'. A law counts once. -/
mutual
def uptoBulk {H : Type} : DataW H → Nat
  | .lit (.string bytes) => bytes.length + 1
  | .lit _ => 1
  | .nil => 1
  | .ptr d => uptoBulk d + 1
  | .slice elems spare => uptoBulkAll elems + uptoBulkAll spare + 1
  | .agg parts => uptoBulkAll parts + 1
  | .iface _ d => uptoBulk d + 1
  | .map entries => uptoBulkEntries entries + 1
  | .held _ => 1
def uptoBulkAll {H : Type} : List (DataW H) → Nat
  | [] => 0
  | d :: r => uptoBulk d + uptoBulkAll r
def uptoBulkEntries {H : Type} : List (Lit × DataW H) → Nat
  | [] => 0
  | x :: r => uptoBulkEntry x + uptoBulkEntries r
def uptoBulkEntry {H : Type} : Lit × DataW H → Nat
  | (.string bytes, d) => bytes.length + uptoBulk d + 1
  | (_, d) => uptoBulk d + 1
 end
def uptoSmall : (H : Type) → List (DataW H) → Bool := fun _ ds => decide (uptoBulkAll ds ≤ 1048576)
def OpenSpec.upto (s : _root_.Go.ChangeSpec) : _root_.Go.OpenSpec := { _root_.Go.OpenSpec.ofChange s with cond := some uptoSmall }

/-- 'laws.FnExactMeetingOf', WHERE WHAT IT READS IS OF BULK AT MOST 1048576: true; the input reads as it did. -/
def fnExactMeetingOfUptoRow : OpenClaim := { program := "ytkhpmmclknonbaa", sum := "3c552f95ada6a8cbe3d2c7c6cdae030d956ae7a78b743b9d8f3370b92a86f36c", func := "loop.example/g00883/laws.FnExactMeetingOf", spec := "fnExactMeetingOf", unfollowed := true, recurses := true, plainKeys := false, apart := false, narrowed := true }
def FnExactMeetingOfUptoSaid : Prop := fnExactMeetingOfUptoRow.holds Try.pinned (OpenSpec.upto fnExactMeetingOfSpec)

/-- 'laws.FnExactCrossingOf', WHERE WHAT IT READS IS OF BULK AT MOST 1048576: true; the input reads as it did. -/
def fnExactCrossingOfUptoRow : OpenClaim := { program := "ytkhpmmclknonbaa", sum := "3c552f95ada6a8cbe3d2c7c6cdae030d956ae7a78b743b9d8f3370b92a86f36c", func := "loop.example/g00883/laws.FnExactCrossingOf", spec := "fnExactCrossingOf", unfollowed := true, recurses := true, plainKeys := false, apart := false, narrowed := true }
def FnExactCrossingOfUptoSaid : Prop := fnExactCrossingOfUptoRow.holds Try.pinned (OpenSpec.upto fnExactCrossingOfSpec)

/-- 'laws.FnExactIsSnapped', WHERE WHAT IT READS IS OF BULK AT MOST 1048576: true; the input reads as it did. -/
def fnExactIsSnappedUptoRow : OpenClaim := { program := "ytkhpmmclknonbaa", sum := "3c552f95ada6a8cbe3d2c7c6cdae030d956ae7a78b743b9d8f3370b92a86f36c", func := "loop.example/g00883/laws.FnExactIsSnapped", spec := "fnExactIsSnapped", unfollowed := true, recurses := true, plainKeys := false, apart := false, narrowed := true }
def FnExactIsSnappedUptoSaid : Prop := fnExactIsSnappedUptoRow.holds Try.pinned (OpenSpec.upto fnExactIsSnappedSpec)

/-- 'laws.FnExactAreaTwice', WHERE WHAT IT READS IS OF BULK AT MOST 1048576: true; the input reads as it did. -/
def fnExactAreaTwiceUptoRow : OpenClaim := { program := "ytkhpmmclknonbaa", sum := "3c552f95ada6a8cbe3d2c7c6cdae030d956ae7a78b743b9d8f3370b92a86f36c", func := "loop.example/g00883/laws.FnExactAreaTwice", spec := "fnExactAreaTwice", plainKeys := false, apart := false, narrowed := true }
def FnExactAreaTwiceUptoSaid : Prop := fnExactAreaTwiceUptoRow.holds Try.pinned (OpenSpec.upto fnExactAreaTwiceSpec)

/-- 'laws.FnExactReverseRegion', WHERE WHAT IT READS IS OF BULK AT MOST 1048576: true; the input reads as it did. -/
def fnExactReverseRegionUptoRow : OpenClaim := { program := "ytkhpmmclknonbaa", sum := "3c552f95ada6a8cbe3d2c7c6cdae030d956ae7a78b743b9d8f3370b92a86f36c", func := "loop.example/g00883/laws.FnExactReverseRegion", spec := "fnExactReverseRegion", plainKeys := false, apart := false, narrowed := true }
def FnExactReverseRegionUptoSaid : Prop := fnExactReverseRegionUptoRow.holds Try.pinned (OpenSpec.upto fnExactReverseRegionSpec)

/-- 'laws.FnExactWindingOf', WHERE WHAT IT READS IS OF BULK AT MOST 1048576: true; the input reads as it did. -/
def fnExactWindingOfUptoRow : OpenClaim := { program := "ytkhpmmclknonbaa", sum := "3c552f95ada6a8cbe3d2c7c6cdae030d956ae7a78b743b9d8f3370b92a86f36c", func := "loop.example/g00883/laws.FnExactWindingOf", spec := "fnExactWindingOf", plainKeys := false, apart := false, narrowed := true }
def FnExactWindingOfUptoSaid : Prop := fnExactWindingOfUptoRow.holds Try.pinned (OpenSpec.upto fnExactWindingOfSpec)

/-- 'laws.FnExactPointIn', WHERE WHAT IT READS IS OF BULK AT MOST 1048576: true; the input reads as it did. -/
def fnExactPointInUptoRow : OpenClaim := { program := "ytkhpmmclknonbaa", sum := "3c552f95ada6a8cbe3d2c7c6cdae030d956ae7a78b743b9d8f3370b92a86f36c", func := "loop.example/g00883/laws.FnExactPointIn", spec := "fnExactPointIn", plainKeys := false, apart := false, narrowed := true }
def FnExactPointInUptoSaid : Prop := fnExactPointInUptoRow.holds Try.pinned (OpenSpec.upto fnExactPointInSpec)

/-- 'laws.FnExactJoinRegions', WHERE WHAT IT READS IS OF BULK AT MOST 1048576: true; the input reads as it did. -/
def fnExactJoinRegionsUptoRow : OpenClaim := { program := "ytkhpmmclknonbaa", sum := "3c552f95ada6a8cbe3d2c7c6cdae030d956ae7a78b743b9d8f3370b92a86f36c", func := "loop.example/g00883/laws.FnExactJoinRegions", spec := "fnExactJoinRegions", plainKeys := false, apart := false, narrowed := true }
def FnExactJoinRegionsUptoSaid : Prop := fnExactJoinRegionsUptoRow.holds Try.pinned (OpenSpec.upto fnExactJoinRegionsSpec)

/-- 'laws.FnExactThenMap', WHERE WHAT IT READS IS OF BULK AT MOST 1048576: true; the input reads as it did. -/
def fnExactThenMapUptoRow : OpenClaim := { program := "ytkhpmmclknonbaa", sum := "3c552f95ada6a8cbe3d2c7c6cdae030d956ae7a78b743b9d8f3370b92a86f36c", func := "loop.example/g00883/laws.FnExactThenMap", spec := "fnExactThenMap", unfollowed := true, recurses := true, plainKeys := false, apart := false, narrowed := true }
def FnExactThenMapUptoSaid : Prop := fnExactThenMapUptoRow.holds Try.pinned (OpenSpec.upto fnExactThenMapSpec)

/-- 'laws.FnExactInvertMap', WHERE WHAT IT READS IS OF BULK AT MOST 1048576: true; the input reads as it did. -/
def fnExactInvertMapUptoRow : OpenClaim := { program := "ytkhpmmclknonbaa", sum := "3c552f95ada6a8cbe3d2c7c6cdae030d956ae7a78b743b9d8f3370b92a86f36c", func := "loop.example/g00883/laws.FnExactInvertMap", spec := "fnExactInvertMap", unfollowed := true, recurses := true, plainKeys := false, apart := false, narrowed := true }
def FnExactInvertMapUptoSaid : Prop := fnExactInvertMapUptoRow.holds Try.pinned (OpenSpec.upto fnExactInvertMapSpec)

end Rows
end Go.Proofs.Ytkhpmmclknonbaa
