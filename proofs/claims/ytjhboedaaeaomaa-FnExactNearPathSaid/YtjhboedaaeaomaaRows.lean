/-
  No cell of these rows narrows 'for every input' (looked for: loops, veiled, ifaces, maps, wideKeys, modest, calm, conditions, laid).
  DERIVED. THE GIVEN ROWS OF THIS SEAT. 9 by the template 'for every input the law returns true; each argument reads behind the call as it read before'; 0 by the template 'total and deterministic' (their statements: YtjhboedaaeaomaaTotals.lean).
  GIVEN WITH THE SEED: the statements are not yours to turn. If you find one false, say at which input.
  Laid BY PROGRAM, IN A SANDBOX (cutbox-rows.mjs): the forced cells as the released guide's own fill.sh prints them over the translation c3fcbf21a1c33dfd… (all of the seat's roots in one cut). By AI agents, Wed Nov 11 2026. No macro, syntax, notation, axiom, sorry.
-/
import Derived.Test.YtjhboedaaeaomaaChecked
import GoSem.Claim
import GoSem.ClaimJoined
import GoSem.ClaimMapViews
import Derived.JoinedTies
import Derived.KernelRfl
namespace Go.Proofs.Ytjhboedaaeaomaa
/- THE CELL 'sum', in the pinned program and in every row, IS THE sha256 OF THE DUMP (.gsa) THAT YtjhboedaaeaomaaProg.lean LOADS. Nothing in Lean hashes anything: it is a label: what it is worth is what the hold of that sum in a sandbox is worth. -/
noncomputable def Try.pinned : Pinned := { name := "ytjhboedaaeaomaa", sum := "c3fcbf21a1c33dfd21ccce6987f75c378072d6478ff5e010039a9ca478f8c2b0", checked := Try.checked }
namespace Rows
def none {H : Type} : Left H := { results := [], args := [] }

/-- 'laws.FnExactIsCorner': WHATEVER THE INPUT: true; the input reads as it did. -/
def fnExactIsCornerSpec : ChangeSpec := { name := "fnExactIsCorner", fn := fun _ => fun
  | [d1, d2, d3] => { results := [.lit (.bool true)], args := [d1, d2, d3] }
  | _ => none }
def fnExactIsCornerRow : OpenClaim := { program := "ytjhboedaaeaomaa", sum := "c3fcbf21a1c33dfd21ccce6987f75c378072d6478ff5e010039a9ca478f8c2b0", func := "loop.example/g00883/laws.FnExactIsCorner", spec := "fnExactIsCorner", apart := false }
def FnExactIsCornerSaid : Prop := fnExactIsCornerRow.holds Try.pinned (OpenSpec.ofChange fnExactIsCornerSpec)

/-- ITS FALSE NEIGHBOUR: 'it returns false'. Refute it at one input. -/
def fnExactIsCornerWrong : ChangeSpec := { name := "fnExactIsCorner", fn := fun _ => fun
  | [d1, d2, d3] => { results := [.lit (.bool false)], args := [d1, d2, d3] }
  | _ => none }
def FnExactIsCornerWrongFalsely : Prop := fnExactIsCornerRow.holds Try.pinned (OpenSpec.ofChange fnExactIsCornerWrong)

/-- 'laws.FnExactNearPath': WHATEVER THE INPUT: true; the input reads as it did. -/
def fnExactNearPathSpec : ChangeSpec := { name := "fnExactNearPath", fn := fun _ => fun
  | [d1, d2, d3] => { results := [.lit (.bool true)], args := [d1, d2, d3] }
  | _ => none }
def fnExactNearPathRow : OpenClaim := { program := "ytjhboedaaeaomaa", sum := "c3fcbf21a1c33dfd21ccce6987f75c378072d6478ff5e010039a9ca478f8c2b0", func := "loop.example/g00883/laws.FnExactNearPath", spec := "fnExactNearPath", unfollowed := true, recurses := true, apart := false }
def FnExactNearPathSaid : Prop := fnExactNearPathRow.holds Try.pinned (OpenSpec.ofChange fnExactNearPathSpec)

/-- ITS FALSE NEIGHBOUR: 'it returns false'. Refute it at one input. -/
def fnExactNearPathWrong : ChangeSpec := { name := "fnExactNearPath", fn := fun _ => fun
  | [d1, d2, d3] => { results := [.lit (.bool false)], args := [d1, d2, d3] }
  | _ => none }
def FnExactNearPathWrongFalsely : Prop := fnExactNearPathRow.holds Try.pinned (OpenSpec.ofChange fnExactNearPathWrong)

/-- 'laws.FnExactLinesMeet': WHATEVER THE INPUT: true; the input reads as it did. -/
def fnExactLinesMeetSpec : ChangeSpec := { name := "fnExactLinesMeet", fn := fun _ => fun
  | [d1, d2, d3, d4] => { results := [.lit (.bool true)], args := [d1, d2, d3, d4] }
  | _ => none }
def fnExactLinesMeetRow : OpenClaim := { program := "ytjhboedaaeaomaa", sum := "c3fcbf21a1c33dfd21ccce6987f75c378072d6478ff5e010039a9ca478f8c2b0", func := "loop.example/g00883/laws.FnExactLinesMeet", spec := "fnExactLinesMeet", apart := false }
def FnExactLinesMeetSaid : Prop := fnExactLinesMeetRow.holds Try.pinned (OpenSpec.ofChange fnExactLinesMeetSpec)

/-- ITS FALSE NEIGHBOUR: 'it returns false'. Refute it at one input. -/
def fnExactLinesMeetWrong : ChangeSpec := { name := "fnExactLinesMeet", fn := fun _ => fun
  | [d1, d2, d3, d4] => { results := [.lit (.bool false)], args := [d1, d2, d3, d4] }
  | _ => none }
def FnExactLinesMeetWrongFalsely : Prop := fnExactLinesMeetRow.holds Try.pinned (OpenSpec.ofChange fnExactLinesMeetWrong)

/-- 'laws.FnExactPathWithin': WHATEVER THE INPUT: true; the input reads as it did. -/
def fnExactPathWithinSpec : ChangeSpec := { name := "fnExactPathWithin", fn := fun _ => fun
  | [d1, d2, d3] => { results := [.lit (.bool true)], args := [d1, d2, d3] }
  | _ => none }
def fnExactPathWithinRow : OpenClaim := { program := "ytjhboedaaeaomaa", sum := "c3fcbf21a1c33dfd21ccce6987f75c378072d6478ff5e010039a9ca478f8c2b0", func := "loop.example/g00883/laws.FnExactPathWithin", spec := "fnExactPathWithin", unfollowed := true, recurses := true, apart := false }
def FnExactPathWithinSaid : Prop := fnExactPathWithinRow.holds Try.pinned (OpenSpec.ofChange fnExactPathWithinSpec)

/-- ITS FALSE NEIGHBOUR: 'it returns false'. Refute it at one input. -/
def fnExactPathWithinWrong : ChangeSpec := { name := "fnExactPathWithin", fn := fun _ => fun
  | [d1, d2, d3] => { results := [.lit (.bool false)], args := [d1, d2, d3] }
  | _ => none }
def FnExactPathWithinWrongFalsely : Prop := fnExactPathWithinRow.holds Try.pinned (OpenSpec.ofChange fnExactPathWithinWrong)

/-- 'laws.FnExactCrossingOf': WHATEVER THE INPUT: true; the input reads as it did. -/
def fnExactCrossingOfSpec : ChangeSpec := { name := "fnExactCrossingOf", fn := fun _ => fun
  | [d1, d2, d3, d4] => { results := [.lit (.bool true)], args := [d1, d2, d3, d4] }
  | _ => none }
def fnExactCrossingOfRow : OpenClaim := { program := "ytjhboedaaeaomaa", sum := "c3fcbf21a1c33dfd21ccce6987f75c378072d6478ff5e010039a9ca478f8c2b0", func := "loop.example/g00883/laws.FnExactCrossingOf", spec := "fnExactCrossingOf", unfollowed := true, recurses := true, apart := false }
def FnExactCrossingOfSaid : Prop := fnExactCrossingOfRow.holds Try.pinned (OpenSpec.ofChange fnExactCrossingOfSpec)

/-- ITS FALSE NEIGHBOUR: 'it returns false'. Refute it at one input. -/
def fnExactCrossingOfWrong : ChangeSpec := { name := "fnExactCrossingOf", fn := fun _ => fun
  | [d1, d2, d3, d4] => { results := [.lit (.bool false)], args := [d1, d2, d3, d4] }
  | _ => none }
def FnExactCrossingOfWrongFalsely : Prop := fnExactCrossingOfRow.holds Try.pinned (OpenSpec.ofChange fnExactCrossingOfWrong)

/-- 'laws.FnExactThenMap': WHATEVER THE INPUT: true; the input reads as it did. -/
def fnExactThenMapSpec : ChangeSpec := { name := "fnExactThenMap", fn := fun _ => fun
  | [d1, d2] => { results := [.lit (.bool true)], args := [d1, d2] }
  | _ => none }
def fnExactThenMapRow : OpenClaim := { program := "ytjhboedaaeaomaa", sum := "c3fcbf21a1c33dfd21ccce6987f75c378072d6478ff5e010039a9ca478f8c2b0", func := "loop.example/g00883/laws.FnExactThenMap", spec := "fnExactThenMap", unfollowed := true, recurses := true, apart := false }
def FnExactThenMapSaid : Prop := fnExactThenMapRow.holds Try.pinned (OpenSpec.ofChange fnExactThenMapSpec)

/-- ITS FALSE NEIGHBOUR: 'it returns false'. Refute it at one input. -/
def fnExactThenMapWrong : ChangeSpec := { name := "fnExactThenMap", fn := fun _ => fun
  | [d1, d2] => { results := [.lit (.bool false)], args := [d1, d2] }
  | _ => none }
def FnExactThenMapWrongFalsely : Prop := fnExactThenMapRow.holds Try.pinned (OpenSpec.ofChange fnExactThenMapWrong)

/-- 'laws.FnExactConvexHull': WHATEVER THE INPUT: true; the input reads as it did. -/
def fnExactConvexHullSpec : ChangeSpec := { name := "fnExactConvexHull", fn := fun _ => fun
  | [d] => { results := [.lit (.bool true)], args := [d] }
  | _ => none }
def fnExactConvexHullRow : OpenClaim := { program := "ytjhboedaaeaomaa", sum := "c3fcbf21a1c33dfd21ccce6987f75c378072d6478ff5e010039a9ca478f8c2b0", func := "loop.example/g00883/laws.FnExactConvexHull", spec := "fnExactConvexHull", inPlace := ["internal/reflectlite.ValueOf", "internal/reflectlite.Swapper", "(internal/reflectlite.Value).Len"], unfollowed := true, recurses := true, apart := false }
def FnExactConvexHullSaid : Prop := fnExactConvexHullRow.holds Try.pinned (OpenSpec.ofChange fnExactConvexHullSpec)

/-- ITS FALSE NEIGHBOUR: 'it returns false'. Refute it at one input. -/
def fnExactConvexHullWrong : ChangeSpec := { name := "fnExactConvexHull", fn := fun _ => fun
  | [d] => { results := [.lit (.bool false)], args := [d] }
  | _ => none }
def FnExactConvexHullWrongFalsely : Prop := fnExactConvexHullRow.holds Try.pinned (OpenSpec.ofChange fnExactConvexHullWrong)

/-- 'laws.FnExactIsPen': WHATEVER THE INPUT: true; the input reads as it did. -/
def fnExactIsPenSpec : ChangeSpec := { name := "fnExactIsPen", fn := fun _ => fun
  | [d] => { results := [.lit (.bool true)], args := [d] }
  | _ => none }
def fnExactIsPenRow : OpenClaim := { program := "ytjhboedaaeaomaa", sum := "c3fcbf21a1c33dfd21ccce6987f75c378072d6478ff5e010039a9ca478f8c2b0", func := "loop.example/g00883/laws.FnExactIsPen", spec := "fnExactIsPen", inPlace := ["internal/reflectlite.ValueOf", "internal/reflectlite.Swapper", "(internal/reflectlite.Value).Len"], unfollowed := true, recurses := true, apart := false }
def FnExactIsPenSaid : Prop := fnExactIsPenRow.holds Try.pinned (OpenSpec.ofChange fnExactIsPenSpec)

/-- ITS FALSE NEIGHBOUR: 'it returns false'. Refute it at one input. -/
def fnExactIsPenWrong : ChangeSpec := { name := "fnExactIsPen", fn := fun _ => fun
  | [d] => { results := [.lit (.bool false)], args := [d] }
  | _ => none }
def FnExactIsPenWrongFalsely : Prop := fnExactIsPenRow.holds Try.pinned (OpenSpec.ofChange fnExactIsPenWrong)

/-- 'laws.FnExactBoxPen': WHATEVER THE INPUT: true; the input reads as it did. -/
def fnExactBoxPenSpec : ChangeSpec := { name := "fnExactBoxPen", fn := fun _ => fun
  | [d1, d2] => { results := [.lit (.bool true)], args := [d1, d2] }
  | _ => none }
def fnExactBoxPenRow : OpenClaim := { program := "ytjhboedaaeaomaa", sum := "c3fcbf21a1c33dfd21ccce6987f75c378072d6478ff5e010039a9ca478f8c2b0", func := "loop.example/g00883/laws.FnExactBoxPen", spec := "fnExactBoxPen", inPlace := ["internal/reflectlite.ValueOf", "internal/reflectlite.Swapper", "(internal/reflectlite.Value).Len"], unfollowed := true, recurses := true, apart := false }
def FnExactBoxPenSaid : Prop := fnExactBoxPenRow.holds Try.pinned (OpenSpec.ofChange fnExactBoxPenSpec)

/-- ITS FALSE NEIGHBOUR: 'it returns false'. Refute it at one input. -/
def fnExactBoxPenWrong : ChangeSpec := { name := "fnExactBoxPen", fn := fun _ => fun
  | [d1, d2] => { results := [.lit (.bool false)], args := [d1, d2] }
  | _ => none }
def FnExactBoxPenWrongFalsely : Prop := fnExactBoxPenRow.holds Try.pinned (OpenSpec.ofChange fnExactBoxPenWrong)

/- THE SECOND FORM. 'bulk': how many values and letters a reading holds, each counted each time it is reached (what is shared counts as often as it is met; a slice's spare places count too). A statement '..UptoSaid' is the law's where the arguments, and the package variables that the reading takes, are together of bulk at most 1048576: NARROWER than '..Said'. Prove '..Said' where nothing that the law and all that it calls make is longer than what came in: it says more and counts as full. Else prove '..UptoSaid'. A law counts once. -/
mutual
def uptoBulk {H : Type} : DataW H → Nat
  | .lit (.string bytes) => bytes.length + 1
  | .lit _ => 1
  | .nil => 1
  | .ptr d => uptoBulk d + 1
  | .slice elems spare => uptoBulkAll elems + uptoBulkAll spare + 1
  | .agg parts => uptoBulkAll parts + 1
  | .iface _ d => uptoBulk d + 1
  | .map entries => uptoBulkEntries entries + 1
  | .held _ => 1
def uptoBulkAll {H : Type} : List (DataW H) → Nat
  | [] => 0
  | d :: r => uptoBulk d + uptoBulkAll r
def uptoBulkEntries {H : Type} : List (Lit × DataW H) → Nat
  | [] => 0
  | x :: r => uptoBulkEntry x + uptoBulkEntries r
def uptoBulkEntry {H : Type} : Lit × DataW H → Nat
  | (.string bytes, d) => bytes.length + uptoBulk d + 1
  | (_, d) => uptoBulk d + 1
 end
def uptoSmall : (H : Type) → List (DataW H) → Bool := fun _ ds => decide (uptoBulkAll ds ≤ 1048576)
def OpenSpec.upto (s : _root_.Go.ChangeSpec) : _root_.Go.OpenSpec := { _root_.Go.OpenSpec.ofChange s with cond := some uptoSmall }

/-- 'laws.FnExactIsCorner', WHERE WHAT IT READS IS OF BULK AT MOST 1048576: true; the input reads as it did. -/
def fnExactIsCornerUptoRow : OpenClaim := { program := "ytjhboedaaeaomaa", sum := "c3fcbf21a1c33dfd21ccce6987f75c378072d6478ff5e010039a9ca478f8c2b0", func := "loop.example/g00883/laws.FnExactIsCorner", spec := "fnExactIsCorner", apart := false, narrowed := true }
def FnExactIsCornerUptoSaid : Prop := fnExactIsCornerUptoRow.holds Try.pinned (OpenSpec.upto fnExactIsCornerSpec)

/-- 'laws.FnExactNearPath', WHERE WHAT IT READS IS OF BULK AT MOST 1048576: true; the input reads as it did. -/
def fnExactNearPathUptoRow : OpenClaim := { program := "ytjhboedaaeaomaa", sum := "c3fcbf21a1c33dfd21ccce6987f75c378072d6478ff5e010039a9ca478f8c2b0", func := "loop.example/g00883/laws.FnExactNearPath", spec := "fnExactNearPath", unfollowed := true, recurses := true, apart := false, narrowed := true }
def FnExactNearPathUptoSaid : Prop := fnExactNearPathUptoRow.holds Try.pinned (OpenSpec.upto fnExactNearPathSpec)

/-- 'laws.FnExactLinesMeet', WHERE WHAT IT READS IS OF BULK AT MOST 1048576: true; the input reads as it did. -/
def fnExactLinesMeetUptoRow : OpenClaim := { program := "ytjhboedaaeaomaa", sum := "c3fcbf21a1c33dfd21ccce6987f75c378072d6478ff5e010039a9ca478f8c2b0", func := "loop.example/g00883/laws.FnExactLinesMeet", spec := "fnExactLinesMeet", apart := false, narrowed := true }
def FnExactLinesMeetUptoSaid : Prop := fnExactLinesMeetUptoRow.holds Try.pinned (OpenSpec.upto fnExactLinesMeetSpec)

/-- 'laws.FnExactPathWithin', WHERE WHAT IT READS IS OF BULK AT MOST 1048576: true; the input reads as it did. -/
def fnExactPathWithinUptoRow : OpenClaim := { program := "ytjhboedaaeaomaa", sum := "c3fcbf21a1c33dfd21ccce6987f75c378072d6478ff5e010039a9ca478f8c2b0", func := "loop.example/g00883/laws.FnExactPathWithin", spec := "fnExactPathWithin", unfollowed := true, recurses := true, apart := false, narrowed := true }
def FnExactPathWithinUptoSaid : Prop := fnExactPathWithinUptoRow.holds Try.pinned (OpenSpec.upto fnExactPathWithinSpec)

/-- 'laws.FnExactCrossingOf', WHERE WHAT IT READS IS OF BULK AT MOST 1048576: true; the input reads as it did. -/
def fnExactCrossingOfUptoRow : OpenClaim := { program := "ytjhboedaaeaomaa", sum := "c3fcbf21a1c33dfd21ccce6987f75c378072d6478ff5e010039a9ca478f8c2b0", func := "loop.example/g00883/laws.FnExactCrossingOf", spec := "fnExactCrossingOf", unfollowed := true, recurses := true, apart := false, narrowed := true }
def FnExactCrossingOfUptoSaid : Prop := fnExactCrossingOfUptoRow.holds Try.pinned (OpenSpec.upto fnExactCrossingOfSpec)

/-- 'laws.FnExactThenMap', WHERE WHAT IT READS IS OF BULK AT MOST 1048576: true; the input reads as it did. -/
def fnExactThenMapUptoRow : OpenClaim := { program := "ytjhboedaaeaomaa", sum := "c3fcbf21a1c33dfd21ccce6987f75c378072d6478ff5e010039a9ca478f8c2b0", func := "loop.example/g00883/laws.FnExactThenMap", spec := "fnExactThenMap", unfollowed := true, recurses := true, apart := false, narrowed := true }
def FnExactThenMapUptoSaid : Prop := fnExactThenMapUptoRow.holds Try.pinned (OpenSpec.upto fnExactThenMapSpec)

/-- 'laws.FnExactConvexHull', WHERE WHAT IT READS IS OF BULK AT MOST 1048576: true; the input reads as it did. -/
def fnExactConvexHullUptoRow : OpenClaim := { program := "ytjhboedaaeaomaa", sum := "c3fcbf21a1c33dfd21ccce6987f75c378072d6478ff5e010039a9ca478f8c2b0", func := "loop.example/g00883/laws.FnExactConvexHull", spec := "fnExactConvexHull", inPlace := ["internal/reflectlite.ValueOf", "internal/reflectlite.Swapper", "(internal/reflectlite.Value).Len"], unfollowed := true, recurses := true, apart := false, narrowed := true }
def FnExactConvexHullUptoSaid : Prop := fnExactConvexHullUptoRow.holds Try.pinned (OpenSpec.upto fnExactConvexHullSpec)

/-- 'laws.FnExactIsPen', WHERE WHAT IT READS IS OF BULK AT MOST 1048576: true; the input reads as it did. -/
def fnExactIsPenUptoRow : OpenClaim := { program := "ytjhboedaaeaomaa", sum := "c3fcbf21a1c33dfd21ccce6987f75c378072d6478ff5e010039a9ca478f8c2b0", func := "loop.example/g00883/laws.FnExactIsPen", spec := "fnExactIsPen", inPlace := ["internal/reflectlite.ValueOf", "internal/reflectlite.Swapper", "(internal/reflectlite.Value).Len"], unfollowed := true, recurses := true, apart := false, narrowed := true }
def FnExactIsPenUptoSaid : Prop := fnExactIsPenUptoRow.holds Try.pinned (OpenSpec.upto fnExactIsPenSpec)

/-- 'laws.FnExactBoxPen', WHERE WHAT IT READS IS OF BULK AT MOST 1048576: true; the input reads as it did. -/
def fnExactBoxPenUptoRow : OpenClaim := { program := "ytjhboedaaeaomaa", sum := "c3fcbf21a1c33dfd21ccce6987f75c378072d6478ff5e010039a9ca478f8c2b0", func := "loop.example/g00883/laws.FnExactBoxPen", spec := "fnExactBoxPen", inPlace := ["internal/reflectlite.ValueOf", "internal/reflectlite.Swapper", "(internal/reflectlite.Value).Len"], unfollowed := true, recurses := true, apart := false, narrowed := true }
def FnExactBoxPenUptoSaid : Prop := fnExactBoxPenUptoRow.holds Try.pinned (OpenSpec.upto fnExactBoxPenSpec)

end Rows
end Go.Proofs.Ytjhboedaaeaomaa
