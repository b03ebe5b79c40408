/- Walks: quotients that are rounded, distances, middles. -/
import Derived.Test.YtofaolbgjhpopabDoorPc
namespace Go.Proofs.YtofaolbgjhpopabDoor
open Go.RowKit

theorem div_zero {n d : Int} (h : d ≤ 0) : 0 = divRound n d := by simp [divRound, h]
theorem div_near {n d : Int} (h : 0 < d) : near n d = divRound n d := by
  unfold divRound; rw [show decide (d ≤ 0) = false by simp; omega]; rfl
theorem tdiv_bounds {n d : Int} (hn : -9223372036854775808 ≤ n ∧ n ≤ 9223372036854775807) (h : 2 ≤ d) : -4611686018427387904 ≤ n.tdiv d ∧ n.tdiv d ≤ 4611686018427387904 := by
  have e := Int.mul_tdiv_add_tmod n d
  have h1 := Int.lt_tmod_of_pos n (show 0 < d by omega)
  have h2 := Int.tmod_lt_of_pos n (show 0 < d by omega)
  have h3 := Int.natAbs_tdiv n d
  have h4 : n.natAbs / d.natAbs ≤ n.natAbs / 2 := Nat.div_le_div_left (by omega) (by omega)
  have h5 : (n.tdiv d).natAbs ≤ n.natAbs / 2 := by rw [h3]; exact h4
  omega
def sqV (ax ay bx ey : Int) : Int := bif okB ax ay && okB bx ey then sqI ax ay bx ey else -1
theorem sqV_no {ax ay bx ey : Int} (h : (okB ax ay && okB bx ey) = false) : -1 = sqV ax ay bx ey := by simp [sqV, h]
theorem sqV_yes {ax ay bx ey : Int} (h : (okB ax ay && okB bx ey) = true) : (bx - ax) * (bx - ax) + (ey - ay) * (ey - ay) = sqV ax ay bx ey := by simp [sqV, h, sqI]
theorem sqV_is {ax ay bx ey : Int} (h1 : okB ax ay = true) (h2 : okB bx ey = true) : sqI ax ay bx ey = sqV ax ay bx ey := by simp [sqV, *]
theorem sqV_f1 {ax ay bx ey : Int} (h : okB ax ay = false) : -1 = sqV ax ay bx ey := by simp [sqV, h]
theorem sqV_f2 {ax ay bx ey : Int} (h : okB bx ey = false) : -1 = sqV ax ay bx ey := by simp [sqV, h]
end Go.Proofs.YtofaolbgjhpopabDoor
