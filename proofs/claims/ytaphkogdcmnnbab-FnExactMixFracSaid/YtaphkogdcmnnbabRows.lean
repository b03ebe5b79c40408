/-
  No cell of these rows narrows 'for every input' (looked for: loops, veiled, ifaces, maps, wideKeys, modest, calm, conditions, laid).
  DERIVED. THE GIVEN ROWS OF THIS SEAT. 7 by the template 'for every input the law returns true; each argument reads behind the call as it read before'; 0 by the template 'total and deterministic' (their statements: YtaphkogdcmnnbabTotals.lean).
  GIVEN WITH THE SEED: the statements are not yours to turn. If you find one false, say at which input.
  Laid BY PROGRAM, IN A SANDBOX (cutbox-rows.mjs): the forced cells as the released guide's own fill.sh prints them over the translation d2fa9d0f3568a207… (all of the seat's roots in one cut). By AI agents, Wed Nov 11 2026. No macro, syntax, notation, axiom, sorry.
-/
import Derived.Test.YtaphkogdcmnnbabChecked
import GoSem.Claim
import GoSem.ClaimJoined
import GoSem.ClaimMapViews
import Derived.JoinedTies
import Derived.KernelRfl
namespace Go.Proofs.Ytaphkogdcmnnbab
/- THE CELL 'sum', in the pinned program and in every row, IS THE sha256 OF THE DUMP (.gsa) THAT YtaphkogdcmnnbabProg.lean LOADS. Nothing in Lean hashes anything: it is a label: what it is worth is what the hold of that sum in a sandbox is worth. -/
noncomputable def Try.pinned : Pinned := { name := "ytaphkogdcmnnbab", sum := "d2fa9d0f3568a2071a5609369c6c11bf1826b0159f61440ef6cc09181b256bca", checked := Try.checked }
namespace Rows
def none {H : Type} : Left H := { results := [], args := [] }

/-- 'laws.FnExactMulFrac': WHATEVER THE INPUT: true; the input reads as it did. -/
def fnExactMulFracSpec : ChangeSpec := { name := "fnExactMulFrac", fn := fun _ => fun
  | [d1, d2] => { results := [.lit (.bool true)], args := [d1, d2] }
  | _ => none }
def fnExactMulFracRow : OpenClaim := { program := "ytaphkogdcmnnbab", sum := "d2fa9d0f3568a2071a5609369c6c11bf1826b0159f61440ef6cc09181b256bca", func := "loop.example/g00883/laws.FnExactMulFrac", spec := "fnExactMulFrac", unfollowed := true, recurses := true, apart := false }
def FnExactMulFracSaid : Prop := fnExactMulFracRow.holds Try.pinned (OpenSpec.ofChange fnExactMulFracSpec)

/-- ITS FALSE NEIGHBOUR: 'it returns false'. Refute it at one input. -/
def fnExactMulFracWrong : ChangeSpec := { name := "fnExactMulFrac", fn := fun _ => fun
  | [d1, d2] => { results := [.lit (.bool false)], args := [d1, d2] }
  | _ => none }
def FnExactMulFracWrongFalsely : Prop := fnExactMulFracRow.holds Try.pinned (OpenSpec.ofChange fnExactMulFracWrong)

/-- 'laws.FnExactDivFrac': WHATEVER THE INPUT: true; the input reads as it did. -/
def fnExactDivFracSpec : ChangeSpec := { name := "fnExactDivFrac", fn := fun _ => fun
  | [d1, d2] => { results := [.lit (.bool true)], args := [d1, d2] }
  | _ => none }
def fnExactDivFracRow : OpenClaim := { program := "ytaphkogdcmnnbab", sum := "d2fa9d0f3568a2071a5609369c6c11bf1826b0159f61440ef6cc09181b256bca", func := "loop.example/g00883/laws.FnExactDivFrac", spec := "fnExactDivFrac", unfollowed := true, recurses := true, apart := false }
def FnExactDivFracSaid : Prop := fnExactDivFracRow.holds Try.pinned (OpenSpec.ofChange fnExactDivFracSpec)

/-- ITS FALSE NEIGHBOUR: 'it returns false'. Refute it at one input. -/
def fnExactDivFracWrong : ChangeSpec := { name := "fnExactDivFrac", fn := fun _ => fun
  | [d1, d2] => { results := [.lit (.bool false)], args := [d1, d2] }
  | _ => none }
def FnExactDivFracWrongFalsely : Prop := fnExactDivFracRow.holds Try.pinned (OpenSpec.ofChange fnExactDivFracWrong)

/-- 'laws.FnExactCompareFrac': WHATEVER THE INPUT: true; the input reads as it did. -/
def fnExactCompareFracSpec : ChangeSpec := { name := "fnExactCompareFrac", fn := fun _ => fun
  | [d1, d2] => { results := [.lit (.bool true)], args := [d1, d2] }
  | _ => none }
def fnExactCompareFracRow : OpenClaim := { program := "ytaphkogdcmnnbab", sum := "d2fa9d0f3568a2071a5609369c6c11bf1826b0159f61440ef6cc09181b256bca", func := "loop.example/g00883/laws.FnExactCompareFrac", spec := "fnExactCompareFrac", apart := false }
def FnExactCompareFracSaid : Prop := fnExactCompareFracRow.holds Try.pinned (OpenSpec.ofChange fnExactCompareFracSpec)

/-- ITS FALSE NEIGHBOUR: 'it returns false'. Refute it at one input. -/
def fnExactCompareFracWrong : ChangeSpec := { name := "fnExactCompareFrac", fn := fun _ => fun
  | [d1, d2] => { results := [.lit (.bool false)], args := [d1, d2] }
  | _ => none }
def FnExactCompareFracWrongFalsely : Prop := fnExactCompareFracRow.holds Try.pinned (OpenSpec.ofChange fnExactCompareFracWrong)

/-- 'laws.FnExactFloorFrac': WHATEVER THE INPUT: true; the input reads as it did. -/
def fnExactFloorFracSpec : ChangeSpec := { name := "fnExactFloorFrac", fn := fun _ => fun
  | [d] => { results := [.lit (.bool true)], args := [d] }
  | _ => none }
def fnExactFloorFracRow : OpenClaim := { program := "ytaphkogdcmnnbab", sum := "d2fa9d0f3568a2071a5609369c6c11bf1826b0159f61440ef6cc09181b256bca", func := "loop.example/g00883/laws.FnExactFloorFrac", spec := "fnExactFloorFrac", apart := false }
def FnExactFloorFracSaid : Prop := fnExactFloorFracRow.holds Try.pinned (OpenSpec.ofChange fnExactFloorFracSpec)

/-- ITS FALSE NEIGHBOUR: 'it returns false'. Refute it at one input. -/
def fnExactFloorFracWrong : ChangeSpec := { name := "fnExactFloorFrac", fn := fun _ => fun
  | [d] => { results := [.lit (.bool false)], args := [d] }
  | _ => none }
def FnExactFloorFracWrongFalsely : Prop := fnExactFloorFracRow.holds Try.pinned (OpenSpec.ofChange fnExactFloorFracWrong)

/-- 'laws.FnExactRoundFrac': WHATEVER THE INPUT: true; the input reads as it did. -/
def fnExactRoundFracSpec : ChangeSpec := { name := "fnExactRoundFrac", fn := fun _ => fun
  | [d] => { results := [.lit (.bool true)], args := [d] }
  | _ => none }
def fnExactRoundFracRow : OpenClaim := { program := "ytaphkogdcmnnbab", sum := "d2fa9d0f3568a2071a5609369c6c11bf1826b0159f61440ef6cc09181b256bca", func := "loop.example/g00883/laws.FnExactRoundFrac", spec := "fnExactRoundFrac", named := ["math/bits.divideError", "math/bits.overflowError"], apart := false }
def FnExactRoundFracSaid : Prop := fnExactRoundFracRow.holds Try.pinned (OpenSpec.ofChange fnExactRoundFracSpec)

/-- ITS FALSE NEIGHBOUR: 'it returns false'. Refute it at one input. -/
def fnExactRoundFracWrong : ChangeSpec := { name := "fnExactRoundFrac", fn := fun _ => fun
  | [d] => { results := [.lit (.bool false)], args := [d] }
  | _ => none }
def FnExactRoundFracWrongFalsely : Prop := fnExactRoundFracRow.holds Try.pinned (OpenSpec.ofChange fnExactRoundFracWrong)

/-- 'laws.FnExactScaleFrac': WHATEVER THE INPUT: true; the input reads as it did. -/
def fnExactScaleFracSpec : ChangeSpec := { name := "fnExactScaleFrac", fn := fun _ => fun
  | [d1, d2] => { results := [.lit (.bool true)], args := [d1, d2] }
  | _ => none }
def fnExactScaleFracRow : OpenClaim := { program := "ytaphkogdcmnnbab", sum := "d2fa9d0f3568a2071a5609369c6c11bf1826b0159f61440ef6cc09181b256bca", func := "loop.example/g00883/laws.FnExactScaleFrac", spec := "fnExactScaleFrac", named := ["math/bits.divideError", "math/bits.overflowError"], apart := false }
def FnExactScaleFracSaid : Prop := fnExactScaleFracRow.holds Try.pinned (OpenSpec.ofChange fnExactScaleFracSpec)

/-- ITS FALSE NEIGHBOUR: 'it returns false'. Refute it at one input. -/
def fnExactScaleFracWrong : ChangeSpec := { name := "fnExactScaleFrac", fn := fun _ => fun
  | [d1, d2] => { results := [.lit (.bool false)], args := [d1, d2] }
  | _ => none }
def FnExactScaleFracWrongFalsely : Prop := fnExactScaleFracRow.holds Try.pinned (OpenSpec.ofChange fnExactScaleFracWrong)

/-- 'laws.FnExactMixFrac': WHATEVER THE INPUT: true; the input reads as it did. -/
def fnExactMixFracSpec : ChangeSpec := { name := "fnExactMixFrac", fn := fun _ => fun
  | [d1, d2, d3] => { results := [.lit (.bool true)], args := [d1, d2, d3] }
  | _ => none }
def fnExactMixFracRow : OpenClaim := { program := "ytaphkogdcmnnbab", sum := "d2fa9d0f3568a2071a5609369c6c11bf1826b0159f61440ef6cc09181b256bca", func := "loop.example/g00883/laws.FnExactMixFrac", spec := "fnExactMixFrac", unfollowed := true, recurses := true, apart := false }
def FnExactMixFracSaid : Prop := fnExactMixFracRow.holds Try.pinned (OpenSpec.ofChange fnExactMixFracSpec)

/-- ITS FALSE NEIGHBOUR: 'it returns false'. Refute it at one input. -/
def fnExactMixFracWrong : ChangeSpec := { name := "fnExactMixFrac", fn := fun _ => fun
  | [d1, d2, d3] => { results := [.lit (.bool false)], args := [d1, d2, d3] }
  | _ => none }
def FnExactMixFracWrongFalsely : Prop := fnExactMixFracRow.holds Try.pinned (OpenSpec.ofChange fnExactMixFracWrong)

/- THE SECOND FORM. 'bulk': how many values and letters a reading holds, each counted each time it is reached (what is shared counts as often as it is met; a slice's spare places count too). A statement '..UptoSaid' is the law's where the arguments, and the package variables that the reading takes, are together of bulk at most 1048576: NARROWER than '..Said'. Prove '..Said' where nothing that the law and all that it calls make is longer than what came in: it says more and counts as full. Else prove '..UptoSaid'. A law counts once. -/
mutual
def uptoBulk {H : Type} : DataW H → Nat
  | .lit (.string bytes) => bytes.length + 1
  | .lit _ => 1
  | .nil => 1
  | .ptr d => uptoBulk d + 1
  | .slice elems spare => uptoBulkAll elems + uptoBulkAll spare + 1
  | .agg parts => uptoBulkAll parts + 1
  | .iface _ d => uptoBulk d + 1
  | .map entries => uptoBulkEntries entries + 1
  | .held _ => 1
def uptoBulkAll {H : Type} : List (DataW H) → Nat
  | [] => 0
  | d :: r => uptoBulk d + uptoBulkAll r
def uptoBulkEntries {H : Type} : List (Lit × DataW H) → Nat
  | [] => 0
  | x :: r => uptoBulkEntry x + uptoBulkEntries r
def uptoBulkEntry {H : Type} : Lit × DataW H → Nat
  | (.string bytes, d) => bytes.length + uptoBulk d + 1
  | (_, d) => uptoBulk d + 1
 end
def uptoSmall : (H : Type) → List (DataW H) → Bool := fun _ ds => decide (uptoBulkAll ds ≤ 1048576)
def OpenSpec.upto (s : _root_.Go.ChangeSpec) : _root_.Go.OpenSpec := { _root_.Go.OpenSpec.ofChange s with cond := some uptoSmall }

/-- 'laws.FnExactMulFrac', WHERE WHAT IT READS IS OF BULK AT MOST 1048576: true; the input reads as it did. -/
def fnExactMulFracUptoRow : OpenClaim := { program := "ytaphkogdcmnnbab", sum := "d2fa9d0f3568a2071a5609369c6c11bf1826b0159f61440ef6cc09181b256bca", func := "loop.example/g00883/laws.FnExactMulFrac", spec := "fnExactMulFrac", unfollowed := true, recurses := true, apart := false, narrowed := true }
def FnExactMulFracUptoSaid : Prop := fnExactMulFracUptoRow.holds Try.pinned (OpenSpec.upto fnExactMulFracSpec)

/-- 'laws.FnExactDivFrac', WHERE WHAT IT READS IS OF BULK AT MOST 1048576: true; the input reads as it did. -/
def fnExactDivFracUptoRow : OpenClaim := { program := "ytaphkogdcmnnbab", sum := "d2fa9d0f3568a2071a5609369c6c11bf1826b0159f61440ef6cc09181b256bca", func := "loop.example/g00883/laws.FnExactDivFrac", spec := "fnExactDivFrac", unfollowed := true, recurses := true, apart := false, narrowed := true }
def FnExactDivFracUptoSaid : Prop := fnExactDivFracUptoRow.holds Try.pinned (OpenSpec.upto fnExactDivFracSpec)

/-- 'laws.FnExactCompareFrac', WHERE WHAT IT READS IS OF BULK AT MOST 1048576: true; the input reads as it did. -/
def fnExactCompareFracUptoRow : OpenClaim := { program := "ytaphkogdcmnnbab", sum := "d2fa9d0f3568a2071a5609369c6c11bf1826b0159f61440ef6cc09181b256bca", func := "loop.example/g00883/laws.FnExactCompareFrac", spec := "fnExactCompareFrac", apart := false, narrowed := true }
def FnExactCompareFracUptoSaid : Prop := fnExactCompareFracUptoRow.holds Try.pinned (OpenSpec.upto fnExactCompareFracSpec)

/-- 'laws.FnExactFloorFrac', WHERE WHAT IT READS IS OF BULK AT MOST 1048576: true; the input reads as it did. -/
def fnExactFloorFracUptoRow : OpenClaim := { program := "ytaphkogdcmnnbab", sum := "d2fa9d0f3568a2071a5609369c6c11bf1826b0159f61440ef6cc09181b256bca", func := "loop.example/g00883/laws.FnExactFloorFrac", spec := "fnExactFloorFrac", apart := false, narrowed := true }
def FnExactFloorFracUptoSaid : Prop := fnExactFloorFracUptoRow.holds Try.pinned (OpenSpec.upto fnExactFloorFracSpec)

/-- 'laws.FnExactRoundFrac', WHERE WHAT IT READS IS OF BULK AT MOST 1048576: true; the input reads as it did. -/
def fnExactRoundFracUptoRow : OpenClaim := { program := "ytaphkogdcmnnbab", sum := "d2fa9d0f3568a2071a5609369c6c11bf1826b0159f61440ef6cc09181b256bca", func := "loop.example/g00883/laws.FnExactRoundFrac", spec := "fnExactRoundFrac", named := ["math/bits.divideError", "math/bits.overflowError"], apart := false, narrowed := true }
def FnExactRoundFracUptoSaid : Prop := fnExactRoundFracUptoRow.holds Try.pinned (OpenSpec.upto fnExactRoundFracSpec)

/-- 'laws.FnExactScaleFrac', WHERE WHAT IT READS IS OF BULK AT MOST 1048576: true; the input reads as it did. -/
def fnExactScaleFracUptoRow : OpenClaim := { program := "ytaphkogdcmnnbab", sum := "d2fa9d0f3568a2071a5609369c6c11bf1826b0159f61440ef6cc09181b256bca", func := "loop.example/g00883/laws.FnExactScaleFrac", spec := "fnExactScaleFrac", named := ["math/bits.divideError", "math/bits.overflowError"], apart := false, narrowed := true }
def FnExactScaleFracUptoSaid : Prop := fnExactScaleFracUptoRow.holds Try.pinned (OpenSpec.upto fnExactScaleFracSpec)

/-- 'laws.FnExactMixFrac', WHERE WHAT IT READS IS OF BULK AT MOST 1048576: true; the input reads as it did. -/
def fnExactMixFracUptoRow : OpenClaim := { program := "ytaphkogdcmnnbab", sum := "d2fa9d0f3568a2071a5609369c6c11bf1826b0159f61440ef6cc09181b256bca", func := "loop.example/g00883/laws.FnExactMixFrac", spec := "fnExactMixFrac", unfollowed := true, recurses := true, apart := false, narrowed := true }
def FnExactMixFracUptoSaid : Prop := fnExactMixFracUptoRow.holds Try.pinned (OpenSpec.upto fnExactMixFracSpec)

end Rows
end Go.Proofs.Ytaphkogdcmnnbab
