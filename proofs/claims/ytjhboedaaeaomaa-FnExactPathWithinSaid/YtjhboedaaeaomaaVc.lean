/- Walks: rings are measured, copied, compared. -/
import Derived.Test.YtjhboedaaeaomaaVb
namespace Go.Proofs.Ytjhboedaaeaomaa
open Go.RowKit
set_option linter.unusedVariables false
theorem ret_i {a b : Int} (h : a = b) : Ending.returned (.int .i64 a) = .returned (.int .i64 b) := by rw [h]
def ToRing (x0A : Option Addr) (x0c : Nat) (x0l : List APt) (w : World) (e : Ending) (w' : World) : Prop := ∃ gx0 : Nat, e = .returned (.agg #[.slice (some ⟨gx0, 0, none⟩) x0l.length x0l.length]) ∧ w'.ownsRow w.heap.size 25 2 (.slice (some ⟨gx0, 0, none⟩) x0l.length x0l.length) x0l.length (cellsF cPt x0l) ∧ Below w.heap.size w w'
end Go.Proofs.Ytjhboedaaeaomaa
