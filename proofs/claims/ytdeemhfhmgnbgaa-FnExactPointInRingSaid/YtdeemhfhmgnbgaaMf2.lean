/- Walks: how two segments meet, the reference's side. -/
import Derived.Test.YtdeemhfhmgnbgaaMe2
import Derived.Test.YtdeemhfhmgnbgaaPs
namespace Go.Proofs.Ytdeemhfhmgnbgaa
open Go.RowKit

theorem sgn_b (n : Int) : -1 ≤ sgnI n ∧ sgnI n ≤ 1 := by unfold sgnI; split <;> (try split) <;> omega
theorem wrap_prod {x y : Int} (h1 : -1 ≤ x ∧ x ≤ 1) (h2 : -1 ≤ y ∧ y ≤ 1) : IntKind.i64.wrap (x * y) = x * y := by
  refine IntWalk.i64_in _ ?_
  obtain ⟨a1, a2⟩ := h1
  have h3 : x = -1 ∨ x = 0 ∨ x = 1 := by omega
  rcases h3 with rfl | rfl | rfl <;> omega
section
variable {ax ay bx ey cx cy dx dy : Int} {n : Nat}
theorem meet_zero (hn : 0 = (endsF (bothB ax ay bx ey cx cy dx dy) [(ax, ay), (bx, ey), (cx, cy), (dx, dy)]).length) :
    meetI ax ay bx ey cx cy dx dy = if sgnI (turnI ax ay bx ey cx cy) * sgnI (turnI ax ay bx ey dx dy) < 0 ∧ sgnI (turnI cx cy dx dy ax ay) * sgnI (turnI cx cy dx dy bx ey) < 0 then 2 else 0 := by
  unfold meetI; rw [← hn]; rfl
theorem meet_single (hn : 1 = (endsF (bothB ax ay bx ey cx cy dx dy) [(ax, ay), (bx, ey), (cx, cy), (dx, dy)]).length) : 1 = meetI ax ay bx ey cx cy dx dy := by
  unfold meetI; rw [← hn]; rfl
theorem meet_more (hn : n = (endsF (bothB ax ay bx ey cx cy dx dy) [(ax, ay), (bx, ey), (cx, cy), (dx, dy)]).length) (h0 : ¬ n = 0) (h1 : ¬ n = 1) : 3 = meetI ax ay bx ey cx cy dx dy := by
  unfold meetI; rw [← hn, if_neg h0, if_neg h1]
end
end Go.Proofs.Ytdeemhfhmgnbgaa
