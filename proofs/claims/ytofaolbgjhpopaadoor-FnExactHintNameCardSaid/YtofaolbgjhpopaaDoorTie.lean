/-
  DERIVED. GIVEN WITH THE SEED: THE PROGRAM's TIES (one call each: nine closed facts by the kernel) AND EACH ROW's TIE, after the 31st guide's Derived/Test/Toyas{Tie, Card}.lean. No idea stands in it: it is a product of the set-up. Laid BY PROGRAM, IN A SANDBOX (cutbox-door.mjs). By AI agents, Wed Nov 11 2026. No macro, syntax, notation, axiom, sorry.
-/
import Derived.Test.YtofaolbgjhpopaaDoorRows
import Derived.LaidByTextLater
import Derived.SevenTiedAt
import Derived.LaidSub
import Derived.LaidOnce
namespace Go.Proofs.YtofaolbgjhpopaaDoor
open Go
set_option maxRecDepth 100000
theorem seatTie1 : Tryd.prog.laidByTextLater [("loop.example/g00883/impl.stateNames", Rows.laid_loop_example_g00883_impl_stateNames), ("loop.example/g00883/impl.hintWords", Rows.laid_loop_example_g00883_impl_hintWords)] [.data, .data] true :=
  Program.laidByTextLater_by_one 19 8 46 (by kernel_rfl) (by kernel_rfl) (by kernel_rfl) (by kernel_rfl) (by kernel_rfl) (by kernel_rfl) (fun _ _ => by kernel_rfl)
theorem noOwnUnsafe : Tryd.pinned.checked.prog.headLifts.contains "ownunsafe" = false := by kernel_rfl
theorem tie : Tryd.prog.laidByTextLater [("loop.example/g00883/impl.stateNames", Rows.laid_loop_example_g00883_impl_stateNames)] [.data] true :=
  Program.laidByTextLater.sub seatTie1 ["loop.example/g00883/impl.stateNames"] (by kernel_rfl) (by kernel_rfl)
theorem fnExactStateName_row_tie : Rows.fnExactStateNameRow.laidByTextAt .later Tryd.pinned [.data] true :=
  OpenClaim.laidByTextAt_later rfl rfl tie noOwnUnsafe
theorem fnExactStateNamed_row_tie : Rows.fnExactStateNamedRow.laidByTextAt .later Tryd.pinned [.data] true :=
  OpenClaim.laidByTextAt_later rfl rfl tie noOwnUnsafe
theorem tie2 : Tryd.prog.laidByTextLater [("loop.example/g00883/impl.hintWords", Rows.laid_loop_example_g00883_impl_hintWords)] [.data] true :=
  Program.laidByTextLater.sub seatTie1 ["loop.example/g00883/impl.hintWords"] (by kernel_rfl) (by kernel_rfl)
theorem fnExactHintName_row_tie : Rows.fnExactHintNameRow.laidByTextAt .later Tryd.pinned [.data] true :=
  OpenClaim.laidByTextAt_later rfl rfl tie2 noOwnUnsafe
theorem fnExactHintNamed_row_tie : Rows.fnExactHintNamedRow.laidByTextAt .later Tryd.pinned [.data] true :=
  OpenClaim.laidByTextAt_later rfl rfl tie2 noOwnUnsafe
theorem fnExactStateNameUpto_row_tie : Rows.fnExactStateNameUptoRow.laidByTextAt .later Tryd.pinned [.data] true :=
  OpenClaim.laidByTextAt_later rfl rfl tie noOwnUnsafe
theorem fnExactStateNamedUpto_row_tie : Rows.fnExactStateNamedUptoRow.laidByTextAt .later Tryd.pinned [.data] true :=
  OpenClaim.laidByTextAt_later rfl rfl tie noOwnUnsafe
theorem fnExactHintNameUpto_row_tie : Rows.fnExactHintNameUptoRow.laidByTextAt .later Tryd.pinned [.data] true :=
  OpenClaim.laidByTextAt_later rfl rfl tie2 noOwnUnsafe
theorem fnExactHintNamedUpto_row_tie : Rows.fnExactHintNamedUptoRow.laidByTextAt .later Tryd.pinned [.data] true :=
  OpenClaim.laidByTextAt_later rfl rfl tie2 noOwnUnsafe
end Go.Proofs.YtofaolbgjhpopaaDoor
