/-
  No cell of these rows narrows 'for every input' (looked for: loops, veiled, ifaces, maps, wideKeys, modest, calm, conditions, laid).
  DERIVED. THE GIVEN ROWS OF THIS SEAT. 4 by the template 'for every input the law returns true; each argument reads behind the call as it read before'; 0 by the template 'total and deterministic' (their statements: YticgomikfleabaaTotals.lean).
  GIVEN WITH THE SEED: the statements are not yours to turn. If you find one false, say at which input.
  Laid BY PROGRAM, IN A SANDBOX (cutbox-rows.mjs): the forced cells as the released guide's own fill.sh prints them over the translation 9bad595830e8cbf7… (all of the seat's roots in one cut). By AI agents, Wed Nov 11 2026. No macro, syntax, notation, axiom, sorry.
-/
import Derived.Test.YticgomikfleabaaChecked
import GoSem.Claim
import GoSem.ClaimJoined
import GoSem.ClaimMapViews
import Derived.JoinedTies
import Derived.KernelRfl
namespace Go.Proofs.Yticgomikfleabaa
/- THE CELL 'sum', in the pinned program and in every row, IS THE sha256 OF THE DUMP (.gsa) THAT YticgomikfleabaaProg.lean LOADS. Nothing in Lean hashes anything: it is a label: what it is worth is what the hold of that sum in a sandbox is worth. -/
noncomputable def Try.pinned : Pinned := { name := "yticgomikfleabaa", sum := "9bad595830e8cbf75515d9078a0ce5cb6605bb01dc6badd3e1b6d416e18b6cf9", checked := Try.checked }
namespace Rows
def none {H : Type} : Left H := { results := [], args := [] }

/-- 'laws.FnExactFlattenQuad': WHATEVER THE INPUT: true; the input reads as it did. -/
def fnExactFlattenQuadSpec : ChangeSpec := { name := "fnExactFlattenQuad", fn := fun _ => fun
  | [d1, d2] => { results := [.lit (.bool true)], args := [d1, d2] }
  | _ => none }
def fnExactFlattenQuadRow : OpenClaim := { program := "yticgomikfleabaa", sum := "9bad595830e8cbf75515d9078a0ce5cb6605bb01dc6badd3e1b6d416e18b6cf9", func := "loop.example/g00883/laws.FnExactFlattenQuad", spec := "fnExactFlattenQuad", unfollowed := true, recurses := true, apart := false }
def FnExactFlattenQuadSaid : Prop := fnExactFlattenQuadRow.holds Try.pinned (OpenSpec.ofChange fnExactFlattenQuadSpec)

/-- ITS FALSE NEIGHBOUR: 'it returns false'. Refute it at one input. -/
def fnExactFlattenQuadWrong : ChangeSpec := { name := "fnExactFlattenQuad", fn := fun _ => fun
  | [d1, d2] => { results := [.lit (.bool false)], args := [d1, d2] }
  | _ => none }
def FnExactFlattenQuadWrongFalsely : Prop := fnExactFlattenQuadRow.holds Try.pinned (OpenSpec.ofChange fnExactFlattenQuadWrong)

/-- 'laws.FnExactFlattenCubic': WHATEVER THE INPUT: true; the input reads as it did. -/
def fnExactFlattenCubicSpec : ChangeSpec := { name := "fnExactFlattenCubic", fn := fun _ => fun
  | [d1, d2] => { results := [.lit (.bool true)], args := [d1, d2] }
  | _ => none }
def fnExactFlattenCubicRow : OpenClaim := { program := "yticgomikfleabaa", sum := "9bad595830e8cbf75515d9078a0ce5cb6605bb01dc6badd3e1b6d416e18b6cf9", func := "loop.example/g00883/laws.FnExactFlattenCubic", spec := "fnExactFlattenCubic", unfollowed := true, recurses := true, apart := false }
def FnExactFlattenCubicSaid : Prop := fnExactFlattenCubicRow.holds Try.pinned (OpenSpec.ofChange fnExactFlattenCubicSpec)

/-- ITS FALSE NEIGHBOUR: 'it returns false'. Refute it at one input. -/
def fnExactFlattenCubicWrong : ChangeSpec := { name := "fnExactFlattenCubic", fn := fun _ => fun
  | [d1, d2] => { results := [.lit (.bool false)], args := [d1, d2] }
  | _ => none }
def FnExactFlattenCubicWrongFalsely : Prop := fnExactFlattenCubicRow.holds Try.pinned (OpenSpec.ofChange fnExactFlattenCubicWrong)

/-- 'laws.FnExactFitQuad': WHATEVER THE INPUT: true; the input reads as it did. -/
def fnExactFitQuadSpec : ChangeSpec := { name := "fnExactFitQuad", fn := fun _ => fun
  | [d1, d2] => { results := [.lit (.bool true)], args := [d1, d2] }
  | _ => none }
def fnExactFitQuadRow : OpenClaim := { program := "yticgomikfleabaa", sum := "9bad595830e8cbf75515d9078a0ce5cb6605bb01dc6badd3e1b6d416e18b6cf9", func := "loop.example/g00883/laws.FnExactFitQuad", spec := "fnExactFitQuad", unfollowed := true, recurses := true, apart := false }
def FnExactFitQuadSaid : Prop := fnExactFitQuadRow.holds Try.pinned (OpenSpec.ofChange fnExactFitQuadSpec)

/-- ITS FALSE NEIGHBOUR: 'it returns false'. Refute it at one input. -/
def fnExactFitQuadWrong : ChangeSpec := { name := "fnExactFitQuad", fn := fun _ => fun
  | [d1, d2] => { results := [.lit (.bool false)], args := [d1, d2] }
  | _ => none }
def FnExactFitQuadWrongFalsely : Prop := fnExactFitQuadRow.holds Try.pinned (OpenSpec.ofChange fnExactFitQuadWrong)

/-- 'laws.FnExactFitRing': WHATEVER THE INPUT: true; the input reads as it did. -/
def fnExactFitRingSpec : ChangeSpec := { name := "fnExactFitRing", fn := fun _ => fun
  | [d1, d2] => { results := [.lit (.bool true)], args := [d1, d2] }
  | _ => none }
def fnExactFitRingRow : OpenClaim := { program := "yticgomikfleabaa", sum := "9bad595830e8cbf75515d9078a0ce5cb6605bb01dc6badd3e1b6d416e18b6cf9", func := "loop.example/g00883/laws.FnExactFitRing", spec := "fnExactFitRing", unfollowed := true, recurses := true, apart := false }
def FnExactFitRingSaid : Prop := fnExactFitRingRow.holds Try.pinned (OpenSpec.ofChange fnExactFitRingSpec)

/-- ITS FALSE NEIGHBOUR: 'it returns false'. Refute it at one input. -/
def fnExactFitRingWrong : ChangeSpec := { name := "fnExactFitRing", fn := fun _ => fun
  | [d1, d2] => { results := [.lit (.bool false)], args := [d1, d2] }
  | _ => none }
def FnExactFitRingWrongFalsely : Prop := fnExactFitRingRow.holds Try.pinned (OpenSpec.ofChange fnExactFitRingWrong)

/- THE SECOND FORM. 'bulk': how many values and letters a reading holds, each counted each time it is reached (what is shared counts as often as it is met; a slice's spare places count too). A statement '..UptoSaid' is the law's where the arguments, and the package variables that the reading takes, are together of bulk at most 1048576: NARROWER than '..Said'. Prove '..Said' where nothing that the law and all that it calls make is longer than what came in: it says more and counts as full. Else prove '..UptoSaid'. A law counts once. -/
mutual
def uptoBulk {H : Type} : DataW H → Nat
  | .lit (.string bytes) => bytes.length + 1
  | .lit _ => 1
  | .nil => 1
  | .ptr d => uptoBulk d + 1
  | .slice elems spare => uptoBulkAll elems + uptoBulkAll spare + 1
  | .agg parts => uptoBulkAll parts + 1
  | .iface _ d => uptoBulk d + 1
  | .map entries => uptoBulkEntries entries + 1
  | .held _ => 1
def uptoBulkAll {H : Type} : List (DataW H) → Nat
  | [] => 0
  | d :: r => uptoBulk d + uptoBulkAll r
def uptoBulkEntries {H : Type} : List (Lit × DataW H) → Nat
  | [] => 0
  | x :: r => uptoBulkEntry x + uptoBulkEntries r
def uptoBulkEntry {H : Type} : Lit × DataW H → Nat
  | (.string bytes, d) => bytes.length + uptoBulk d + 1
  | (_, d) => uptoBulk d + 1
 end
def uptoSmall : (H : Type) → List (DataW H) → Bool := fun _ ds => decide (uptoBulkAll ds ≤ 1048576)
def OpenSpec.upto (s : _root_.Go.ChangeSpec) : _root_.Go.OpenSpec := { _root_.Go.OpenSpec.ofChange s with cond := some uptoSmall }

/-- 'laws.FnExactFlattenQuad', WHERE WHAT IT READS IS OF BULK AT MOST 1048576: true; the input reads as it did. -/
def fnExactFlattenQuadUptoRow : OpenClaim := { program := "yticgomikfleabaa", sum := "9bad595830e8cbf75515d9078a0ce5cb6605bb01dc6badd3e1b6d416e18b6cf9", func := "loop.example/g00883/laws.FnExactFlattenQuad", spec := "fnExactFlattenQuad", unfollowed := true, recurses := true, apart := false, narrowed := true }
def FnExactFlattenQuadUptoSaid : Prop := fnExactFlattenQuadUptoRow.holds Try.pinned (OpenSpec.upto fnExactFlattenQuadSpec)

/-- 'laws.FnExactFlattenCubic', WHERE WHAT IT READS IS OF BULK AT MOST 1048576: true; the input reads as it did. -/
def fnExactFlattenCubicUptoRow : OpenClaim := { program := "yticgomikfleabaa", sum := "9bad595830e8cbf75515d9078a0ce5cb6605bb01dc6badd3e1b6d416e18b6cf9", func := "loop.example/g00883/laws.FnExactFlattenCubic", spec := "fnExactFlattenCubic", unfollowed := true, recurses := true, apart := false, narrowed := true }
def FnExactFlattenCubicUptoSaid : Prop := fnExactFlattenCubicUptoRow.holds Try.pinned (OpenSpec.upto fnExactFlattenCubicSpec)

/-- 'laws.FnExactFitQuad', WHERE WHAT IT READS IS OF BULK AT MOST 1048576: true; the input reads as it did. -/
def fnExactFitQuadUptoRow : OpenClaim := { program := "yticgomikfleabaa", sum := "9bad595830e8cbf75515d9078a0ce5cb6605bb01dc6badd3e1b6d416e18b6cf9", func := "loop.example/g00883/laws.FnExactFitQuad", spec := "fnExactFitQuad", unfollowed := true, recurses := true, apart := false, narrowed := true }
def FnExactFitQuadUptoSaid : Prop := fnExactFitQuadUptoRow.holds Try.pinned (OpenSpec.upto fnExactFitQuadSpec)

/-- 'laws.FnExactFitRing', WHERE WHAT IT READS IS OF BULK AT MOST 1048576: true; the input reads as it did. -/
def fnExactFitRingUptoRow : OpenClaim := { program := "yticgomikfleabaa", sum := "9bad595830e8cbf75515d9078a0ce5cb6605bb01dc6badd3e1b6d416e18b6cf9", func := "loop.example/g00883/laws.FnExactFitRing", spec := "fnExactFitRing", unfollowed := true, recurses := true, apart := false, narrowed := true }
def FnExactFitRingUptoSaid : Prop := fnExactFitRingUptoRow.holds Try.pinned (OpenSpec.upto fnExactFitRingSpec)

end Rows
end Go.Proofs.Yticgomikfleabaa
