/-
  No cell of these rows narrows 'for every input' (looked for: loops, veiled, ifaces, maps, wideKeys, modest, calm, conditions, laid).
  DERIVED. THE GIVEN ROWS OF THIS SEAT. 10 by the template 'for every input the law returns true; each argument reads behind the call as it read before'; 0 by the template 'total and deterministic' (their statements: YtaikdjonecmlgaaTotals.lean).
  GIVEN WITH THE SEED: the statements are not yours to turn. If you find one false, say at which input.
  Laid BY PROGRAM, IN A SANDBOX (cutbox-rows.mjs): the forced cells as the released guide's own fill.sh prints them over the translation 65d121743dbe36cf… (all of the seat's roots in one cut). By AI agents, Wed Nov 11 2026. No macro, syntax, notation, axiom, sorry.
-/
import Derived.Test.YtaikdjonecmlgaaChecked
import GoSem.Claim
import GoSem.ClaimJoined
import GoSem.ClaimMapViews
import Derived.JoinedTies
import Derived.KernelRfl
namespace Go.Proofs.Ytaikdjonecmlgaa
/- THE CELL 'sum', in the pinned program and in every row, IS THE sha256 OF THE DUMP (.gsa) THAT YtaikdjonecmlgaaProg.lean LOADS. Nothing in Lean hashes anything: it is a label: what it is worth is what the hold of that sum in a sandbox is worth. -/
noncomputable def Try.pinned : Pinned := { name := "ytaikdjonecmlgaa", sum := "65d121743dbe36cfac331f9b35683e56d403d355bc006a6bc2d850ac0a15c305", checked := Try.checked }
namespace Rows
def none {H : Type} : Left H := { results := [], args := [] }

/-- 'laws.FnExactReverseOutline': WHATEVER THE INPUT: true; the input reads as it did. -/
def fnExactReverseOutlineSpec : ChangeSpec := { name := "fnExactReverseOutline", fn := fun _ => fun
  | [d] => { results := [.lit (.bool true)], args := [d] }
  | _ => none }
def fnExactReverseOutlineRow : OpenClaim := { program := "ytaikdjonecmlgaa", sum := "65d121743dbe36cfac331f9b35683e56d403d355bc006a6bc2d850ac0a15c305", func := "loop.example/g00883/laws.FnExactReverseOutline", spec := "fnExactReverseOutline", apart := false }
def FnExactReverseOutlineSaid : Prop := fnExactReverseOutlineRow.holds Try.pinned (OpenSpec.ofChange fnExactReverseOutlineSpec)

/-- ITS FALSE NEIGHBOUR: 'it returns false'. Refute it at one input. -/
def fnExactReverseOutlineWrong : ChangeSpec := { name := "fnExactReverseOutline", fn := fun _ => fun
  | [d] => { results := [.lit (.bool false)], args := [d] }
  | _ => none }
def FnExactReverseOutlineWrongFalsely : Prop := fnExactReverseOutlineRow.holds Try.pinned (OpenSpec.ofChange fnExactReverseOutlineWrong)

/-- 'laws.FnExactConvexHull': WHATEVER THE INPUT: true; the input reads as it did. -/
def fnExactConvexHullSpec : ChangeSpec := { name := "fnExactConvexHull", fn := fun _ => fun
  | [d] => { results := [.lit (.bool true)], args := [d] }
  | _ => none }
def fnExactConvexHullRow : OpenClaim := { program := "ytaikdjonecmlgaa", sum := "65d121743dbe36cfac331f9b35683e56d403d355bc006a6bc2d850ac0a15c305", func := "loop.example/g00883/laws.FnExactConvexHull", spec := "fnExactConvexHull", inPlace := ["internal/reflectlite.ValueOf", "internal/reflectlite.Swapper", "(internal/reflectlite.Value).Len"], unfollowed := true, recurses := true, apart := false }
def FnExactConvexHullSaid : Prop := fnExactConvexHullRow.holds Try.pinned (OpenSpec.ofChange fnExactConvexHullSpec)

/-- ITS FALSE NEIGHBOUR: 'it returns false'. Refute it at one input. -/
def fnExactConvexHullWrong : ChangeSpec := { name := "fnExactConvexHull", fn := fun _ => fun
  | [d] => { results := [.lit (.bool false)], args := [d] }
  | _ => none }
def FnExactConvexHullWrongFalsely : Prop := fnExactConvexHullRow.holds Try.pinned (OpenSpec.ofChange fnExactConvexHullWrong)

/-- 'laws.FnExactIsPen': WHATEVER THE INPUT: true; the input reads as it did. -/
def fnExactIsPenSpec : ChangeSpec := { name := "fnExactIsPen", fn := fun _ => fun
  | [d] => { results := [.lit (.bool true)], args := [d] }
  | _ => none }
def fnExactIsPenRow : OpenClaim := { program := "ytaikdjonecmlgaa", sum := "65d121743dbe36cfac331f9b35683e56d403d355bc006a6bc2d850ac0a15c305", func := "loop.example/g00883/laws.FnExactIsPen", spec := "fnExactIsPen", inPlace := ["internal/reflectlite.ValueOf", "internal/reflectlite.Swapper", "(internal/reflectlite.Value).Len"], unfollowed := true, recurses := true, apart := false }
def FnExactIsPenSaid : Prop := fnExactIsPenRow.holds Try.pinned (OpenSpec.ofChange fnExactIsPenSpec)

/-- ITS FALSE NEIGHBOUR: 'it returns false'. Refute it at one input. -/
def fnExactIsPenWrong : ChangeSpec := { name := "fnExactIsPen", fn := fun _ => fun
  | [d] => { results := [.lit (.bool false)], args := [d] }
  | _ => none }
def FnExactIsPenWrongFalsely : Prop := fnExactIsPenRow.holds Try.pinned (OpenSpec.ofChange fnExactIsPenWrong)

/-- 'laws.FnExactBoxPen': WHATEVER THE INPUT: true; the input reads as it did. -/
def fnExactBoxPenSpec : ChangeSpec := { name := "fnExactBoxPen", fn := fun _ => fun
  | [d1, d2] => { results := [.lit (.bool true)], args := [d1, d2] }
  | _ => none }
def fnExactBoxPenRow : OpenClaim := { program := "ytaikdjonecmlgaa", sum := "65d121743dbe36cfac331f9b35683e56d403d355bc006a6bc2d850ac0a15c305", func := "loop.example/g00883/laws.FnExactBoxPen", spec := "fnExactBoxPen", inPlace := ["internal/reflectlite.ValueOf", "internal/reflectlite.Swapper", "(internal/reflectlite.Value).Len"], unfollowed := true, recurses := true, apart := false }
def FnExactBoxPenSaid : Prop := fnExactBoxPenRow.holds Try.pinned (OpenSpec.ofChange fnExactBoxPenSpec)

/-- ITS FALSE NEIGHBOUR: 'it returns false'. Refute it at one input. -/
def fnExactBoxPenWrong : ChangeSpec := { name := "fnExactBoxPen", fn := fun _ => fun
  | [d1, d2] => { results := [.lit (.bool false)], args := [d1, d2] }
  | _ => none }
def FnExactBoxPenWrongFalsely : Prop := fnExactBoxPenRow.holds Try.pinned (OpenSpec.ofChange fnExactBoxPenWrong)

/-- 'laws.FnExactOvalPen': WHATEVER THE INPUT: true; the input reads as it did. -/
def fnExactOvalPenSpec : ChangeSpec := { name := "fnExactOvalPen", fn := fun _ => fun
  | [d1, d2] => { results := [.lit (.bool true)], args := [d1, d2] }
  | _ => none }
def fnExactOvalPenRow : OpenClaim := { program := "ytaikdjonecmlgaa", sum := "65d121743dbe36cfac331f9b35683e56d403d355bc006a6bc2d850ac0a15c305", func := "loop.example/g00883/laws.FnExactOvalPen", spec := "fnExactOvalPen", inPlace := ["internal/reflectlite.ValueOf", "internal/reflectlite.Swapper", "(internal/reflectlite.Value).Len"], unfollowed := true, recurses := true, apart := false }
def FnExactOvalPenSaid : Prop := fnExactOvalPenRow.holds Try.pinned (OpenSpec.ofChange fnExactOvalPenSpec)

/-- ITS FALSE NEIGHBOUR: 'it returns false'. Refute it at one input. -/
def fnExactOvalPenWrong : ChangeSpec := { name := "fnExactOvalPen", fn := fun _ => fun
  | [d1, d2] => { results := [.lit (.bool false)], args := [d1, d2] }
  | _ => none }
def FnExactOvalPenWrongFalsely : Prop := fnExactOvalPenRow.holds Try.pinned (OpenSpec.ofChange fnExactOvalPenWrong)

/-- 'laws.FnExactReflectPen': WHATEVER THE INPUT: true; the input reads as it did. -/
def fnExactReflectPenSpec : ChangeSpec := { name := "fnExactReflectPen", fn := fun _ => fun
  | [d] => { results := [.lit (.bool true)], args := [d] }
  | _ => none }
def fnExactReflectPenRow : OpenClaim := { program := "ytaikdjonecmlgaa", sum := "65d121743dbe36cfac331f9b35683e56d403d355bc006a6bc2d850ac0a15c305", func := "loop.example/g00883/laws.FnExactReflectPen", spec := "fnExactReflectPen", inPlace := ["internal/reflectlite.ValueOf", "internal/reflectlite.Swapper", "(internal/reflectlite.Value).Len"], unfollowed := true, recurses := true, apart := false }
def FnExactReflectPenSaid : Prop := fnExactReflectPenRow.holds Try.pinned (OpenSpec.ofChange fnExactReflectPenSpec)

/-- ITS FALSE NEIGHBOUR: 'it returns false'. Refute it at one input. -/
def fnExactReflectPenWrong : ChangeSpec := { name := "fnExactReflectPen", fn := fun _ => fun
  | [d] => { results := [.lit (.bool false)], args := [d] }
  | _ => none }
def FnExactReflectPenWrongFalsely : Prop := fnExactReflectPenRow.holds Try.pinned (OpenSpec.ofChange fnExactReflectPenWrong)

/-- 'laws.FnExactPenHas': WHATEVER THE INPUT: true; the input reads as it did. -/
def fnExactPenHasSpec : ChangeSpec := { name := "fnExactPenHas", fn := fun _ => fun
  | [d1, d2] => { results := [.lit (.bool true)], args := [d1, d2] }
  | _ => none }
def fnExactPenHasRow : OpenClaim := { program := "ytaikdjonecmlgaa", sum := "65d121743dbe36cfac331f9b35683e56d403d355bc006a6bc2d850ac0a15c305", func := "loop.example/g00883/laws.FnExactPenHas", spec := "fnExactPenHas", inPlace := ["internal/reflectlite.ValueOf", "internal/reflectlite.Swapper", "(internal/reflectlite.Value).Len"], unfollowed := true, recurses := true, apart := false }
def FnExactPenHasSaid : Prop := fnExactPenHasRow.holds Try.pinned (OpenSpec.ofChange fnExactPenHasSpec)

/-- ITS FALSE NEIGHBOUR: 'it returns false'. Refute it at one input. -/
def fnExactPenHasWrong : ChangeSpec := { name := "fnExactPenHas", fn := fun _ => fun
  | [d1, d2] => { results := [.lit (.bool false)], args := [d1, d2] }
  | _ => none }
def FnExactPenHasWrongFalsely : Prop := fnExactPenHasRow.holds Try.pinned (OpenSpec.ofChange fnExactPenHasWrong)

/-- 'laws.FnExactSupportOf': WHATEVER THE INPUT: true; the input reads as it did. -/
def fnExactSupportOfSpec : ChangeSpec := { name := "fnExactSupportOf", fn := fun _ => fun
  | [d1, d2] => { results := [.lit (.bool true)], args := [d1, d2] }
  | _ => none }
def fnExactSupportOfRow : OpenClaim := { program := "ytaikdjonecmlgaa", sum := "65d121743dbe36cfac331f9b35683e56d403d355bc006a6bc2d850ac0a15c305", func := "loop.example/g00883/laws.FnExactSupportOf", spec := "fnExactSupportOf", inPlace := ["internal/reflectlite.ValueOf", "internal/reflectlite.Swapper", "(internal/reflectlite.Value).Len"], unfollowed := true, recurses := true, apart := false }
def FnExactSupportOfSaid : Prop := fnExactSupportOfRow.holds Try.pinned (OpenSpec.ofChange fnExactSupportOfSpec)

/-- ITS FALSE NEIGHBOUR: 'it returns false'. Refute it at one input. -/
def fnExactSupportOfWrong : ChangeSpec := { name := "fnExactSupportOf", fn := fun _ => fun
  | [d1, d2] => { results := [.lit (.bool false)], args := [d1, d2] }
  | _ => none }
def FnExactSupportOfWrongFalsely : Prop := fnExactSupportOfRow.holds Try.pinned (OpenSpec.ofChange fnExactSupportOfWrong)

/-- 'laws.FnExactExtentOf': WHATEVER THE INPUT: true; the input reads as it did. -/
def fnExactExtentOfSpec : ChangeSpec := { name := "fnExactExtentOf", fn := fun _ => fun
  | [d1, d2] => { results := [.lit (.bool true)], args := [d1, d2] }
  | _ => none }
def fnExactExtentOfRow : OpenClaim := { program := "ytaikdjonecmlgaa", sum := "65d121743dbe36cfac331f9b35683e56d403d355bc006a6bc2d850ac0a15c305", func := "loop.example/g00883/laws.FnExactExtentOf", spec := "fnExactExtentOf", inPlace := ["internal/reflectlite.ValueOf", "internal/reflectlite.Swapper", "(internal/reflectlite.Value).Len"], unfollowed := true, recurses := true, apart := false }
def FnExactExtentOfSaid : Prop := fnExactExtentOfRow.holds Try.pinned (OpenSpec.ofChange fnExactExtentOfSpec)

/-- ITS FALSE NEIGHBOUR: 'it returns false'. Refute it at one input. -/
def fnExactExtentOfWrong : ChangeSpec := { name := "fnExactExtentOf", fn := fun _ => fun
  | [d1, d2] => { results := [.lit (.bool false)], args := [d1, d2] }
  | _ => none }
def FnExactExtentOfWrongFalsely : Prop := fnExactExtentOfRow.holds Try.pinned (OpenSpec.ofChange fnExactExtentOfWrong)

/-- 'laws.FnExactMinkowskiSum': WHATEVER THE INPUT: true; the input reads as it did. -/
def fnExactMinkowskiSumSpec : ChangeSpec := { name := "fnExactMinkowskiSum", fn := fun _ => fun
  | [d1, d2] => { results := [.lit (.bool true)], args := [d1, d2] }
  | _ => none }
def fnExactMinkowskiSumRow : OpenClaim := { program := "ytaikdjonecmlgaa", sum := "65d121743dbe36cfac331f9b35683e56d403d355bc006a6bc2d850ac0a15c305", func := "loop.example/g00883/laws.FnExactMinkowskiSum", spec := "fnExactMinkowskiSum", inPlace := ["internal/reflectlite.ValueOf", "internal/reflectlite.Swapper", "(internal/reflectlite.Value).Len"], unfollowed := true, recurses := true, apart := false }
def FnExactMinkowskiSumSaid : Prop := fnExactMinkowskiSumRow.holds Try.pinned (OpenSpec.ofChange fnExactMinkowskiSumSpec)

/-- ITS FALSE NEIGHBOUR: 'it returns false'. Refute it at one input. -/
def fnExactMinkowskiSumWrong : ChangeSpec := { name := "fnExactMinkowskiSum", fn := fun _ => fun
  | [d1, d2] => { results := [.lit (.bool false)], args := [d1, d2] }
  | _ => none }
def FnExactMinkowskiSumWrongFalsely : Prop := fnExactMinkowskiSumRow.holds Try.pinned (OpenSpec.ofChange fnExactMinkowskiSumWrong)

/- THE SECOND FORM. 'bulk': how many values and letters a reading holds, each counted each time it is reached (what is shared counts as often as it is met; a slice's spare places count too). A statement '..UptoSaid' is the law's where the arguments, and the package variables that the reading takes, are together of bulk at most 1048576: NARROWER than '..Said'. Prove '..Said' where nothing that the law and all that it calls make is longer than what came in: it says more and counts as full. Else prove '..UptoSaid'. A law counts once. -/
mutual
def uptoBulk {H : Type} : DataW H → Nat
  | .lit (.string bytes) => bytes.length + 1
  | .lit _ => 1
  | .nil => 1
  | .ptr d => uptoBulk d + 1
  | .slice elems spare => uptoBulkAll elems + uptoBulkAll spare + 1
  | .agg parts => uptoBulkAll parts + 1
  | .iface _ d => uptoBulk d + 1
  | .map entries => uptoBulkEntries entries + 1
  | .held _ => 1
def uptoBulkAll {H : Type} : List (DataW H) → Nat
  | [] => 0
  | d :: r => uptoBulk d + uptoBulkAll r
def uptoBulkEntries {H : Type} : List (Lit × DataW H) → Nat
  | [] => 0
  | x :: r => uptoBulkEntry x + uptoBulkEntries r
def uptoBulkEntry {H : Type} : Lit × DataW H → Nat
  | (.string bytes, d) => bytes.length + uptoBulk d + 1
  | (_, d) => uptoBulk d + 1
 end
def uptoSmall : (H : Type) → List (DataW H) → Bool := fun _ ds => decide (uptoBulkAll ds ≤ 1048576)
def OpenSpec.upto (s : _root_.Go.ChangeSpec) : _root_.Go.OpenSpec := { _root_.Go.OpenSpec.ofChange s with cond := some uptoSmall }

/-- 'laws.FnExactReverseOutline', WHERE WHAT IT READS IS OF BULK AT MOST 1048576: true; the input reads as it did. -/
def fnExactReverseOutlineUptoRow : OpenClaim := { program := "ytaikdjonecmlgaa", sum := "65d121743dbe36cfac331f9b35683e56d403d355bc006a6bc2d850ac0a15c305", func := "loop.example/g00883/laws.FnExactReverseOutline", spec := "fnExactReverseOutline", apart := false, narrowed := true }
def FnExactReverseOutlineUptoSaid : Prop := fnExactReverseOutlineUptoRow.holds Try.pinned (OpenSpec.upto fnExactReverseOutlineSpec)

/-- 'laws.FnExactConvexHull', WHERE WHAT IT READS IS OF BULK AT MOST 1048576: true; the input reads as it did. -/
def fnExactConvexHullUptoRow : OpenClaim := { program := "ytaikdjonecmlgaa", sum := "65d121743dbe36cfac331f9b35683e56d403d355bc006a6bc2d850ac0a15c305", func := "loop.example/g00883/laws.FnExactConvexHull", spec := "fnExactConvexHull", inPlace := ["internal/reflectlite.ValueOf", "internal/reflectlite.Swapper", "(internal/reflectlite.Value).Len"], unfollowed := true, recurses := true, apart := false, narrowed := true }
def FnExactConvexHullUptoSaid : Prop := fnExactConvexHullUptoRow.holds Try.pinned (OpenSpec.upto fnExactConvexHullSpec)

/-- 'laws.FnExactIsPen', WHERE WHAT IT READS IS OF BULK AT MOST 1048576: true; the input reads as it did. -/
def fnExactIsPenUptoRow : OpenClaim := { program := "ytaikdjonecmlgaa", sum := "65d121743dbe36cfac331f9b35683e56d403d355bc006a6bc2d850ac0a15c305", func := "loop.example/g00883/laws.FnExactIsPen", spec := "fnExactIsPen", inPlace := ["internal/reflectlite.ValueOf", "internal/reflectlite.Swapper", "(internal/reflectlite.Value).Len"], unfollowed := true, recurses := true, apart := false, narrowed := true }
def FnExactIsPenUptoSaid : Prop := fnExactIsPenUptoRow.holds Try.pinned (OpenSpec.upto fnExactIsPenSpec)

/-- 'laws.FnExactBoxPen', WHERE WHAT IT READS IS OF BULK AT MOST 1048576: true; the input reads as it did. -/
def fnExactBoxPenUptoRow : OpenClaim := { program := "ytaikdjonecmlgaa", sum := "65d121743dbe36cfac331f9b35683e56d403d355bc006a6bc2d850ac0a15c305", func := "loop.example/g00883/laws.FnExactBoxPen", spec := "fnExactBoxPen", inPlace := ["internal/reflectlite.ValueOf", "internal/reflectlite.Swapper", "(internal/reflectlite.Value).Len"], unfollowed := true, recurses := true, apart := false, narrowed := true }
def FnExactBoxPenUptoSaid : Prop := fnExactBoxPenUptoRow.holds Try.pinned (OpenSpec.upto fnExactBoxPenSpec)

/-- 'laws.FnExactOvalPen', WHERE WHAT IT READS IS OF BULK AT MOST 1048576: true; the input reads as it did. -/
def fnExactOvalPenUptoRow : OpenClaim := { program := "ytaikdjonecmlgaa", sum := "65d121743dbe36cfac331f9b35683e56d403d355bc006a6bc2d850ac0a15c305", func := "loop.example/g00883/laws.FnExactOvalPen", spec := "fnExactOvalPen", inPlace := ["internal/reflectlite.ValueOf", "internal/reflectlite.Swapper", "(internal/reflectlite.Value).Len"], unfollowed := true, recurses := true, apart := false, narrowed := true }
def FnExactOvalPenUptoSaid : Prop := fnExactOvalPenUptoRow.holds Try.pinned (OpenSpec.upto fnExactOvalPenSpec)

/-- 'laws.FnExactReflectPen', WHERE WHAT IT READS IS OF BULK AT MOST 1048576: true; the input reads as it did. -/
def fnExactReflectPenUptoRow : OpenClaim := { program := "ytaikdjonecmlgaa", sum := "65d121743dbe36cfac331f9b35683e56d403d355bc006a6bc2d850ac0a15c305", func := "loop.example/g00883/laws.FnExactReflectPen", spec := "fnExactReflectPen", inPlace := ["internal/reflectlite.ValueOf", "internal/reflectlite.Swapper", "(internal/reflectlite.Value).Len"], unfollowed := true, recurses := true, apart := false, narrowed := true }
def FnExactReflectPenUptoSaid : Prop := fnExactReflectPenUptoRow.holds Try.pinned (OpenSpec.upto fnExactReflectPenSpec)

/-- 'laws.FnExactPenHas', WHERE WHAT IT READS IS OF BULK AT MOST 1048576: true; the input reads as it did. -/
def fnExactPenHasUptoRow : OpenClaim := { program := "ytaikdjonecmlgaa", sum := "65d121743dbe36cfac331f9b35683e56d403d355bc006a6bc2d850ac0a15c305", func := "loop.example/g00883/laws.FnExactPenHas", spec := "fnExactPenHas", inPlace := ["internal/reflectlite.ValueOf", "internal/reflectlite.Swapper", "(internal/reflectlite.Value).Len"], unfollowed := true, recurses := true, apart := false, narrowed := true }
def FnExactPenHasUptoSaid : Prop := fnExactPenHasUptoRow.holds Try.pinned (OpenSpec.upto fnExactPenHasSpec)

/-- 'laws.FnExactSupportOf', WHERE WHAT IT READS IS OF BULK AT MOST 1048576: true; the input reads as it did. -/
def fnExactSupportOfUptoRow : OpenClaim := { program := "ytaikdjonecmlgaa", sum := "65d121743dbe36cfac331f9b35683e56d403d355bc006a6bc2d850ac0a15c305", func := "loop.example/g00883/laws.FnExactSupportOf", spec := "fnExactSupportOf", inPlace := ["internal/reflectlite.ValueOf", "internal/reflectlite.Swapper", "(internal/reflectlite.Value).Len"], unfollowed := true, recurses := true, apart := false, narrowed := true }
def FnExactSupportOfUptoSaid : Prop := fnExactSupportOfUptoRow.holds Try.pinned (OpenSpec.upto fnExactSupportOfSpec)

/-- 'laws.FnExactExtentOf', WHERE WHAT IT READS IS OF BULK AT MOST 1048576: true; the input reads as it did. -/
def fnExactExtentOfUptoRow : OpenClaim := { program := "ytaikdjonecmlgaa", sum := "65d121743dbe36cfac331f9b35683e56d403d355bc006a6bc2d850ac0a15c305", func := "loop.example/g00883/laws.FnExactExtentOf", spec := "fnExactExtentOf", inPlace := ["internal/reflectlite.ValueOf", "internal/reflectlite.Swapper", "(internal/reflectlite.Value).Len"], unfollowed := true, recurses := true, apart := false, narrowed := true }
def FnExactExtentOfUptoSaid : Prop := fnExactExtentOfUptoRow.holds Try.pinned (OpenSpec.upto fnExactExtentOfSpec)

/-- 'laws.FnExactMinkowskiSum', WHERE WHAT IT READS IS OF BULK AT MOST 1048576: true; the input reads as it did. -/
def fnExactMinkowskiSumUptoRow : OpenClaim := { program := "ytaikdjonecmlgaa", sum := "65d121743dbe36cfac331f9b35683e56d403d355bc006a6bc2d850ac0a15c305", func := "loop.example/g00883/laws.FnExactMinkowskiSum", spec := "fnExactMinkowskiSum", inPlace := ["internal/reflectlite.ValueOf", "internal/reflectlite.Swapper", "(internal/reflectlite.Value).Len"], unfollowed := true, recurses := true, apart := false, narrowed := true }
def FnExactMinkowskiSumUptoSaid : Prop := fnExactMinkowskiSumUptoRow.holds Try.pinned (OpenSpec.upto fnExactMinkowskiSumSpec)

end Rows
end Go.Proofs.Ytaikdjonecmlgaa
