/- Walks: the point in the middle, on both sides. -/
import Derived.Test.YticgomikfleabaaPv
namespace Go.Proofs.Yticgomikfleabaa
open Go.RowKit

theorem near2_bounds {n : Int} (h1 : -524288 ≤ n) (h2 : n ≤ 524288) : -262144 ≤ near n 2 ∧ near n 2 ≤ 262144 := by unfold near; omega
/-- What MidPt answers. -/
def midX (ax ay bx ey : Int) : Int := bif okB ax ay && okB bx ey then near (ax + bx) 2 else 0
def midY (ax ay bx ey : Int) : Int := bif okB ax ay && okB bx ey then near (ay + ey) 2 else 0
def midC (ax ay bx ey : Int) : Int := bif okB ax ay && okB bx ey then 0 else 1
def MidRet (ax ay bx ey : Int) (w : World) (e : Ending) (w' : World) : Prop :=
  e = .returned (.tuple #[.agg #[.int .i64 (midX ax ay bx ey), .int .i64 (midY ax ay bx ey)], .int .i64 (midC ax ay bx ey)]) ∧ Below w.heap.size w w'
theorem MidRet.mk {ax ay bx ey a b c : Int} {w w' : World} (h : midX ax ay bx ey = a ∧ midY ax ay bx ey = b ∧ midC ax ay bx ey = c) (hb : Below w.heap.size w w') :
    MidRet ax ay bx ey w (.returned (.tuple #[.agg #[.int .i64 a, .int .i64 b], .int .i64 c])) w' := by
  obtain ⟨rfl, rfl, rfl⟩ := h
  exact ⟨rfl, hb⟩
theorem mid_no {ax ay bx ey : Int} (h : (okB ax ay && okB bx ey) = false) : midX ax ay bx ey = 0 ∧ midY ax ay bx ey = 0 ∧ midC ax ay bx ey = 1 := by simp [midX, midY, midC, h]
theorem mid_yes {ax ay bx ey : Int} (h : (okB ax ay && okB bx ey) = true) : midX ax ay bx ey = near (ax + bx) 2 ∧ midY ax ay bx ey = near (ay + ey) 2 ∧ midC ax ay bx ey = 0 := by simp [midX, midY, midC, h]
theorem mid_f1 {ax ay bx ey : Int} (h : okB ax ay = false) : (okB ax ay && okB bx ey) = false := by simp [h]
theorem mid_f2 {ax ay bx ey : Int} (h : okB bx ey = false) : (okB ax ay && okB bx ey) = false := by simp [h]

end Go.Proofs.Yticgomikfleabaa
