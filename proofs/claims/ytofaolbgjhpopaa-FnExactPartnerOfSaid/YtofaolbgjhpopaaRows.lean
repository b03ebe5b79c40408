/-
  No cell of these rows narrows 'for every input' (looked for: loops, veiled, ifaces, maps, wideKeys, modest, calm, conditions, laid).
  DERIVED. THE GIVEN ROWS OF THIS SEAT. 8 by the template 'for every input the law returns true; each argument reads behind the call as it read before'; 0 by the template 'total and deterministic' (their statements: YtofaolbgjhpopaaTotals.lean).
  GIVEN WITH THE SEED: the statements are not yours to turn. If you find one false, say at which input.
  Laid BY PROGRAM, IN A SANDBOX (cutbox-rows.mjs): the forced cells as the released guide's own fill.sh prints them over the translation ec12ce16c4ddcb26… (all of the seat's roots in one cut). By AI agents, Wed Nov 11 2026. No macro, syntax, notation, axiom, sorry.
-/
import Derived.Test.YtofaolbgjhpopaaChecked
import GoSem.Claim
import GoSem.ClaimJoined
import GoSem.ClaimMapViews
import Derived.JoinedTies
import Derived.KernelRfl
namespace Go.Proofs.Ytofaolbgjhpopaa
/- THE CELL 'sum', in the pinned program and in every row, IS THE sha256 OF THE DUMP (.gsa) THAT YtofaolbgjhpopaaProg.lean LOADS. Nothing in Lean hashes anything: it is a label: what it is worth is what the hold of that sum in a sandbox is worth. -/
noncomputable def Try.pinned : Pinned := { name := "ytofaolbgjhpopaa", sum := "ec12ce16c4ddcb264f30426c63176d8b2ec69d6561d69ee4aed3b4a4356a3547", checked := Try.checked }
namespace Rows
def none {H : Type} : Left H := { results := [], args := [] }

/-- 'laws.FnExactScaleTo': WHATEVER THE INPUT: true; the input reads as it did. -/
def fnExactScaleToSpec : ChangeSpec := { name := "fnExactScaleTo", fn := fun _ => fun
  | [d1, d2, d3] => { results := [.lit (.bool true)], args := [d1, d2, d3] }
  | _ => none }
def fnExactScaleToRow : OpenClaim := { program := "ytofaolbgjhpopaa", sum := "ec12ce16c4ddcb264f30426c63176d8b2ec69d6561d69ee4aed3b4a4356a3547", func := "loop.example/g00883/laws.FnExactScaleTo", spec := "fnExactScaleTo", apart := false }
def FnExactScaleToSaid : Prop := fnExactScaleToRow.holds Try.pinned (OpenSpec.ofChange fnExactScaleToSpec)

/-- ITS FALSE NEIGHBOUR: 'it returns false'. Refute it at one input. -/
def fnExactScaleToWrong : ChangeSpec := { name := "fnExactScaleTo", fn := fun _ => fun
  | [d1, d2, d3] => { results := [.lit (.bool false)], args := [d1, d2, d3] }
  | _ => none }
def FnExactScaleToWrongFalsely : Prop := fnExactScaleToRow.holds Try.pinned (OpenSpec.ofChange fnExactScaleToWrong)

/-- 'laws.FnExactScaleBack': WHATEVER THE INPUT: true; the input reads as it did. -/
def fnExactScaleBackSpec : ChangeSpec := { name := "fnExactScaleBack", fn := fun _ => fun
  | [d1, d2, d3] => { results := [.lit (.bool true)], args := [d1, d2, d3] }
  | _ => none }
def fnExactScaleBackRow : OpenClaim := { program := "ytofaolbgjhpopaa", sum := "ec12ce16c4ddcb264f30426c63176d8b2ec69d6561d69ee4aed3b4a4356a3547", func := "loop.example/g00883/laws.FnExactScaleBack", spec := "fnExactScaleBack", apart := false }
def FnExactScaleBackSaid : Prop := fnExactScaleBackRow.holds Try.pinned (OpenSpec.ofChange fnExactScaleBackSpec)

/-- ITS FALSE NEIGHBOUR: 'it returns false'. Refute it at one input. -/
def fnExactScaleBackWrong : ChangeSpec := { name := "fnExactScaleBack", fn := fun _ => fun
  | [d1, d2, d3] => { results := [.lit (.bool false)], args := [d1, d2, d3] }
  | _ => none }
def FnExactScaleBackWrongFalsely : Prop := fnExactScaleBackRow.holds Try.pinned (OpenSpec.ofChange fnExactScaleBackWrong)

/-- 'laws.FnExactRoundTo': WHATEVER THE INPUT: true; the input reads as it did. -/
def fnExactRoundToSpec : ChangeSpec := { name := "fnExactRoundTo", fn := fun _ => fun
  | [d1, d2] => { results := [.lit (.bool true)], args := [d1, d2] }
  | _ => none }
def fnExactRoundToRow : OpenClaim := { program := "ytofaolbgjhpopaa", sum := "ec12ce16c4ddcb264f30426c63176d8b2ec69d6561d69ee4aed3b4a4356a3547", func := "loop.example/g00883/laws.FnExactRoundTo", spec := "fnExactRoundTo", unfollowed := true, recurses := true, apart := false }
def FnExactRoundToSaid : Prop := fnExactRoundToRow.holds Try.pinned (OpenSpec.ofChange fnExactRoundToSpec)

/-- ITS FALSE NEIGHBOUR: 'it returns false'. Refute it at one input. -/
def fnExactRoundToWrong : ChangeSpec := { name := "fnExactRoundTo", fn := fun _ => fun
  | [d1, d2] => { results := [.lit (.bool false)], args := [d1, d2] }
  | _ => none }
def FnExactRoundToWrongFalsely : Prop := fnExactRoundToRow.holds Try.pinned (OpenSpec.ofChange fnExactRoundToWrong)

/-- 'laws.FnExactKeepRound': WHATEVER THE INPUT: true; the input reads as it did. -/
def fnExactKeepRoundSpec : ChangeSpec := { name := "fnExactKeepRound", fn := fun _ => fun
  | [d1, d2, d3] => { results := [.lit (.bool true)], args := [d1, d2, d3] }
  | _ => none }
def fnExactKeepRoundRow : OpenClaim := { program := "ytofaolbgjhpopaa", sum := "ec12ce16c4ddcb264f30426c63176d8b2ec69d6561d69ee4aed3b4a4356a3547", func := "loop.example/g00883/laws.FnExactKeepRound", spec := "fnExactKeepRound", unfollowed := true, recurses := true, apart := false }
def FnExactKeepRoundSaid : Prop := fnExactKeepRoundRow.holds Try.pinned (OpenSpec.ofChange fnExactKeepRoundSpec)

/-- ITS FALSE NEIGHBOUR: 'it returns false'. Refute it at one input. -/
def fnExactKeepRoundWrong : ChangeSpec := { name := "fnExactKeepRound", fn := fun _ => fun
  | [d1, d2, d3] => { results := [.lit (.bool false)], args := [d1, d2, d3] }
  | _ => none }
def FnExactKeepRoundWrongFalsely : Prop := fnExactKeepRoundRow.holds Try.pinned (OpenSpec.ofChange fnExactKeepRoundWrong)

/-- 'laws.FnExactValidHint': WHATEVER THE INPUT: true; the input reads as it did. -/
def fnExactValidHintSpec : ChangeSpec := { name := "fnExactValidHint", fn := fun _ => fun
  | [d] => { results := [.lit (.bool true)], args := [d] }
  | _ => none }
def fnExactValidHintRow : OpenClaim := { program := "ytofaolbgjhpopaa", sum := "ec12ce16c4ddcb264f30426c63176d8b2ec69d6561d69ee4aed3b4a4356a3547", func := "loop.example/g00883/laws.FnExactValidHint", spec := "fnExactValidHint", apart := false }
def FnExactValidHintSaid : Prop := fnExactValidHintRow.holds Try.pinned (OpenSpec.ofChange fnExactValidHintSpec)

/-- ITS FALSE NEIGHBOUR: 'it returns false'. Refute it at one input. -/
def fnExactValidHintWrong : ChangeSpec := { name := "fnExactValidHint", fn := fun _ => fun
  | [d] => { results := [.lit (.bool false)], args := [d] }
  | _ => none }
def FnExactValidHintWrongFalsely : Prop := fnExactValidHintRow.holds Try.pinned (OpenSpec.ofChange fnExactValidHintWrong)

/-- 'laws.FnExactPartnerOf': WHATEVER THE INPUT: true; the input reads as it did. -/
def fnExactPartnerOfSpec : ChangeSpec := { name := "fnExactPartnerOf", fn := fun _ => fun
  | [d1, d2] => { results := [.lit (.bool true)], args := [d1, d2] }
  | _ => none }
def fnExactPartnerOfRow : OpenClaim := { program := "ytofaolbgjhpopaa", sum := "ec12ce16c4ddcb264f30426c63176d8b2ec69d6561d69ee4aed3b4a4356a3547", func := "loop.example/g00883/laws.FnExactPartnerOf", spec := "fnExactPartnerOf", unfollowed := true, recurses := true, apart := false }
def FnExactPartnerOfSaid : Prop := fnExactPartnerOfRow.holds Try.pinned (OpenSpec.ofChange fnExactPartnerOfSpec)

/-- ITS FALSE NEIGHBOUR: 'it returns false'. Refute it at one input. -/
def fnExactPartnerOfWrong : ChangeSpec := { name := "fnExactPartnerOf", fn := fun _ => fun
  | [d1, d2] => { results := [.lit (.bool false)], args := [d1, d2] }
  | _ => none }
def FnExactPartnerOfWrongFalsely : Prop := fnExactPartnerOfRow.holds Try.pinned (OpenSpec.ofChange fnExactPartnerOfWrong)

/-- 'laws.FnExactMoveOutline': WHATEVER THE INPUT: true; the input reads as it did. -/
def fnExactMoveOutlineSpec : ChangeSpec := { name := "fnExactMoveOutline", fn := fun _ => fun
  | [d1, d2] => { results := [.lit (.bool true)], args := [d1, d2] }
  | _ => none }
def fnExactMoveOutlineRow : OpenClaim := { program := "ytofaolbgjhpopaa", sum := "ec12ce16c4ddcb264f30426c63176d8b2ec69d6561d69ee4aed3b4a4356a3547", func := "loop.example/g00883/laws.FnExactMoveOutline", spec := "fnExactMoveOutline", unfollowed := true, recurses := true, apart := false }
def FnExactMoveOutlineSaid : Prop := fnExactMoveOutlineRow.holds Try.pinned (OpenSpec.ofChange fnExactMoveOutlineSpec)

/-- ITS FALSE NEIGHBOUR: 'it returns false'. Refute it at one input. -/
def fnExactMoveOutlineWrong : ChangeSpec := { name := "fnExactMoveOutline", fn := fun _ => fun
  | [d1, d2] => { results := [.lit (.bool false)], args := [d1, d2] }
  | _ => none }
def FnExactMoveOutlineWrongFalsely : Prop := fnExactMoveOutlineRow.holds Try.pinned (OpenSpec.ofChange fnExactMoveOutlineWrong)

/-- 'laws.FnExactScaleOutline': WHATEVER THE INPUT: true; the input reads as it did. -/
def fnExactScaleOutlineSpec : ChangeSpec := { name := "fnExactScaleOutline", fn := fun _ => fun
  | [d1, d2, d3] => { results := [.lit (.bool true)], args := [d1, d2, d3] }
  | _ => none }
def fnExactScaleOutlineRow : OpenClaim := { program := "ytofaolbgjhpopaa", sum := "ec12ce16c4ddcb264f30426c63176d8b2ec69d6561d69ee4aed3b4a4356a3547", func := "loop.example/g00883/laws.FnExactScaleOutline", spec := "fnExactScaleOutline", unfollowed := true, recurses := true, apart := false }
def FnExactScaleOutlineSaid : Prop := fnExactScaleOutlineRow.holds Try.pinned (OpenSpec.ofChange fnExactScaleOutlineSpec)

/-- ITS FALSE NEIGHBOUR: 'it returns false'. Refute it at one input. -/
def fnExactScaleOutlineWrong : ChangeSpec := { name := "fnExactScaleOutline", fn := fun _ => fun
  | [d1, d2, d3] => { results := [.lit (.bool false)], args := [d1, d2, d3] }
  | _ => none }
def FnExactScaleOutlineWrongFalsely : Prop := fnExactScaleOutlineRow.holds Try.pinned (OpenSpec.ofChange fnExactScaleOutlineWrong)

/- THE SECOND FORM. 'bulk': how many values and letters a reading holds, each counted each time it is reached (what is shared counts as often as it is met; a slice's spare places count too). A statement '..UptoSaid' is the law's where the arguments, and the package variables that the reading takes, are together of bulk at most 1048576: NARROWER than '..Said'. Prove '..Said' where nothing that the law and all that it calls make is longer than what came in: it says more and counts as full. Else prove '..UptoSaid'. A law counts once. -/
mutual
def uptoBulk {H : Type} : DataW H → Nat
  | .lit (.string bytes) => bytes.length + 1
  | .lit _ => 1
  | .nil => 1
  | .ptr d => uptoBulk d + 1
  | .slice elems spare => uptoBulkAll elems + uptoBulkAll spare + 1
  | .agg parts => uptoBulkAll parts + 1
  | .iface _ d => uptoBulk d + 1
  | .map entries => uptoBulkEntries entries + 1
  | .held _ => 1
def uptoBulkAll {H : Type} : List (DataW H) → Nat
  | [] => 0
  | d :: r => uptoBulk d + uptoBulkAll r
def uptoBulkEntries {H : Type} : List (Lit × DataW H) → Nat
  | [] => 0
  | x :: r => uptoBulkEntry x + uptoBulkEntries r
def uptoBulkEntry {H : Type} : Lit × DataW H → Nat
  | (.string bytes, d) => bytes.length + uptoBulk d + 1
  | (_, d) => uptoBulk d + 1
 end
def uptoSmall : (H : Type) → List (DataW H) → Bool := fun _ ds => decide (uptoBulkAll ds ≤ 1048576)
def OpenSpec.upto (s : _root_.Go.ChangeSpec) : _root_.Go.OpenSpec := { _root_.Go.OpenSpec.ofChange s with cond := some uptoSmall }

/-- 'laws.FnExactScaleTo', WHERE WHAT IT READS IS OF BULK AT MOST 1048576: true; the input reads as it did. -/
def fnExactScaleToUptoRow : OpenClaim := { program := "ytofaolbgjhpopaa", sum := "ec12ce16c4ddcb264f30426c63176d8b2ec69d6561d69ee4aed3b4a4356a3547", func := "loop.example/g00883/laws.FnExactScaleTo", spec := "fnExactScaleTo", apart := false, narrowed := true }
def FnExactScaleToUptoSaid : Prop := fnExactScaleToUptoRow.holds Try.pinned (OpenSpec.upto fnExactScaleToSpec)

/-- 'laws.FnExactScaleBack', WHERE WHAT IT READS IS OF BULK AT MOST 1048576: true; the input reads as it did. -/
def fnExactScaleBackUptoRow : OpenClaim := { program := "ytofaolbgjhpopaa", sum := "ec12ce16c4ddcb264f30426c63176d8b2ec69d6561d69ee4aed3b4a4356a3547", func := "loop.example/g00883/laws.FnExactScaleBack", spec := "fnExactScaleBack", apart := false, narrowed := true }
def FnExactScaleBackUptoSaid : Prop := fnExactScaleBackUptoRow.holds Try.pinned (OpenSpec.upto fnExactScaleBackSpec)

/-- 'laws.FnExactRoundTo', WHERE WHAT IT READS IS OF BULK AT MOST 1048576: true; the input reads as it did. -/
def fnExactRoundToUptoRow : OpenClaim := { program := "ytofaolbgjhpopaa", sum := "ec12ce16c4ddcb264f30426c63176d8b2ec69d6561d69ee4aed3b4a4356a3547", func := "loop.example/g00883/laws.FnExactRoundTo", spec := "fnExactRoundTo", unfollowed := true, recurses := true, apart := false, narrowed := true }
def FnExactRoundToUptoSaid : Prop := fnExactRoundToUptoRow.holds Try.pinned (OpenSpec.upto fnExactRoundToSpec)

/-- 'laws.FnExactKeepRound', WHERE WHAT IT READS IS OF BULK AT MOST 1048576: true; the input reads as it did. -/
def fnExactKeepRoundUptoRow : OpenClaim := { program := "ytofaolbgjhpopaa", sum := "ec12ce16c4ddcb264f30426c63176d8b2ec69d6561d69ee4aed3b4a4356a3547", func := "loop.example/g00883/laws.FnExactKeepRound", spec := "fnExactKeepRound", unfollowed := true, recurses := true, apart := false, narrowed := true }
def FnExactKeepRoundUptoSaid : Prop := fnExactKeepRoundUptoRow.holds Try.pinned (OpenSpec.upto fnExactKeepRoundSpec)

/-- 'laws.FnExactValidHint', WHERE WHAT IT READS IS OF BULK AT MOST 1048576: true; the input reads as it did. -/
def fnExactValidHintUptoRow : OpenClaim := { program := "ytofaolbgjhpopaa", sum := "ec12ce16c4ddcb264f30426c63176d8b2ec69d6561d69ee4aed3b4a4356a3547", func := "loop.example/g00883/laws.FnExactValidHint", spec := "fnExactValidHint", apart := false, narrowed := true }
def FnExactValidHintUptoSaid : Prop := fnExactValidHintUptoRow.holds Try.pinned (OpenSpec.upto fnExactValidHintSpec)

/-- 'laws.FnExactPartnerOf', WHERE WHAT IT READS IS OF BULK AT MOST 1048576: true; the input reads as it did. -/
def fnExactPartnerOfUptoRow : OpenClaim := { program := "ytofaolbgjhpopaa", sum := "ec12ce16c4ddcb264f30426c63176d8b2ec69d6561d69ee4aed3b4a4356a3547", func := "loop.example/g00883/laws.FnExactPartnerOf", spec := "fnExactPartnerOf", unfollowed := true, recurses := true, apart := false, narrowed := true }
def FnExactPartnerOfUptoSaid : Prop := fnExactPartnerOfUptoRow.holds Try.pinned (OpenSpec.upto fnExactPartnerOfSpec)

/-- 'laws.FnExactMoveOutline', WHERE WHAT IT READS IS OF BULK AT MOST 1048576: true; the input reads as it did. -/
def fnExactMoveOutlineUptoRow : OpenClaim := { program := "ytofaolbgjhpopaa", sum := "ec12ce16c4ddcb264f30426c63176d8b2ec69d6561d69ee4aed3b4a4356a3547", func := "loop.example/g00883/laws.FnExactMoveOutline", spec := "fnExactMoveOutline", unfollowed := true, recurses := true, apart := false, narrowed := true }
def FnExactMoveOutlineUptoSaid : Prop := fnExactMoveOutlineUptoRow.holds Try.pinned (OpenSpec.upto fnExactMoveOutlineSpec)

/-- 'laws.FnExactScaleOutline', WHERE WHAT IT READS IS OF BULK AT MOST 1048576: true; the input reads as it did. -/
def fnExactScaleOutlineUptoRow : OpenClaim := { program := "ytofaolbgjhpopaa", sum := "ec12ce16c4ddcb264f30426c63176d8b2ec69d6561d69ee4aed3b4a4356a3547", func := "loop.example/g00883/laws.FnExactScaleOutline", spec := "fnExactScaleOutline", unfollowed := true, recurses := true, apart := false, narrowed := true }
def FnExactScaleOutlineUptoSaid : Prop := fnExactScaleOutlineUptoRow.holds Try.pinned (OpenSpec.upto fnExactScaleOutlineSpec)

end Rows
end Go.Proofs.Ytofaolbgjhpopaa
