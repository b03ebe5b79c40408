/- Walks: the boxes of two edges, the reference's side. -/
import Derived.Test.YtkhpmmclknonbaaEc
import Derived.Test.YtkhpmmclknonbaaEd0
import Derived.Test.YtkhpmmclknonbaaEd1
import Derived.Test.YtkhpmmclknonbaaEd2
import Derived.Test.YtkhpmmclknonbaaEd3
import Derived.Test.YtkhpmmclknonbaaEd4
namespace Go.Proofs.Ytkhpmmclknonbaa
open Go.RowKit
set_option linter.unusedVariables false
theorem l13Apart_any (ax ay bx ey cx cy dx dy : Int) (b p d q : Nat) (w : World) (p0 : w.cell? ⟨b, p, none⟩ = some (.int .i64 ax)) (p1 : w.cell? ⟨b, p + 1, none⟩ = some (.int .i64 ay)) (p2 : w.cell? ⟨b, p + 2, none⟩ = some (.int .i64 bx)) (p3 : w.cell? ⟨b, p + 3, none⟩ = some (.int .i64 ey)) (q0 : w.cell? ⟨d, q, none⟩ = some (.int .i64 cx)) (q1 : w.cell? ⟨d, q + 1, none⟩ = some (.int .i64 cy)) (q2 : w.cell? ⟨d, q + 2, none⟩ = some (.int .i64 dx)) (q3 : w.cell? ⟨d, q + 3, none⟩ = some (.int .i64 dy)) :
    Calls Try.prog 54 #[.pointer (some ⟨b, p, none⟩), .pointer (some ⟨d, q, none⟩)] w fun e w' => e = .returned (.bool (sepB ax ay bx ey cx cy dx dy)) ∧ ∃ m, w' = w.drewN m := by
  by_cases h0 : mxI ax bx < mnI cx dx
  · rw [show sepB ax ay bx ey cx cy dx dy = true from by unfold sepB; rw [decide_eq_true h0]; simp]
    exact l13Apart_0 ax ay bx ey cx cy dx dy b p d q w p0 p1 p2 p3 q0 q1 q2 q3 h0
  by_cases h1 : mxI cx dx < mnI ax bx
  · rw [show sepB ax ay bx ey cx cy dx dy = true from by unfold sepB; rw [decide_eq_true h1]; simp]
    exact l13Apart_1 ax ay bx ey cx cy dx dy b p d q w p0 p1 p2 p3 q0 q1 q2 q3 h0 h1
  by_cases h2 : mxI ay ey < mnI cy dy
  · rw [show sepB ax ay bx ey cx cy dx dy = true from by unfold sepB; rw [decide_eq_true h2]; simp]
    exact l13Apart_2 ax ay bx ey cx cy dx dy b p d q w p0 p1 p2 p3 q0 q1 q2 q3 h0 h1 h2
  by_cases h3 : mxI cy dy < mnI ay ey
  · rw [show sepB ax ay bx ey cx cy dx dy = true from by unfold sepB; rw [decide_eq_true h3]; simp]
    exact l13Apart_3 ax ay bx ey cx cy dx dy b p d q w p0 p1 p2 p3 q0 q1 q2 q3 h0 h1 h2 h3
  rw [show sepB ax ay bx ey cx cy dx dy = false from by unfold sepB; rw [decide_eq_false h0, decide_eq_false h1, decide_eq_false h2, decide_eq_false h3]; rfl]
  exact l13Apart_4 ax ay bx ey cx cy dx dy b p d q w p0 p1 p2 p3 q0 q1 q2 q3 h0 h1 h2 h3
end Go.Proofs.Ytkhpmmclknonbaa
