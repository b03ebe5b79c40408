/- Plain facts on distances from segments, and on products of two words; no program in sight. -/
import Derived.Test.YticgomikfleabaaPn
namespace Go.Proofs.Yticgomikfleabaa

def alongI (ax ay bx ey px py : Int) : Int := (px - ax) * (bx - ax) + (py - ay) * (ey - ay)
theorem lag (e f g h : Int) : (e * h - f * g) * (e * h - f * g) + (g * e + h * f) * (g * e + h * f) = (g * g + h * h) * (e * e + f * f) := by grind
theorem lag2 (e f g h : Int) : (e * h - f * g) * (e * h - f * g) + (g * e + h * f - (e * e + f * f)) * (g * e + h * f - (e * e + f * f)) = ((g - e) * (g - e) + (h - f) * (h - f)) * (e * e + f * f) := by grind
theorem sqq (e f g h : Int) : (g - e) * (g - e) + (h - f) * (h - f) = (g * g + h * h) - 2 * (g * e + h * f) + (e * e + f * f) := by grind
theorem sq_far (ax ay bx ey px py : Int) : sqI bx ey px py = sqI ax ay px py - 2 * alongI ax ay bx ey px py + sqI ax ay bx ey := by
  have := sqq (bx - ax) (ey - ay) (px - ax) (py - ay)
  unfold sqI alongI
  rw [show px - ax - (bx - ax) = px - bx by omega, show py - ay - (ey - ay) = py - ey by omega] at this
  exact this
theorem lag_a (ax ay bx ey px py : Int) : turnI ax ay bx ey px py * turnI ax ay bx ey px py + alongI ax ay bx ey px py * alongI ax ay bx ey px py = sqI ax ay px py * sqI ax ay bx ey := by
  have := lag (bx - ax) (ey - ay) (px - ax) (py - ay)
  unfold turnI sqI alongI
  exact this
theorem lag_b (ax ay bx ey px py : Int) : turnI ax ay bx ey px py * turnI ax ay bx ey px py + (alongI ax ay bx ey px py - sqI ax ay bx ey) * (alongI ax ay bx ey px py - sqI ax ay bx ey) = sqI bx ey px py * sqI ax ay bx ey := by
  have := lag2 (bx - ax) (ey - ay) (px - ax) (py - ay)
  rw [show px - ax - (bx - ax) = px - bx by omega, show py - ay - (ey - ay) = py - ey by omega] at this
  unfold turnI sqI alongI
  exact this
theorem sq_nonneg (ax ay bx ey : Int) : 0 ≤ sqI ax ay bx ey := by
  have h1 := sqn (bx - ax); have h2 := sqn (ey - ay); unfold sqI; omega

/-- Is the point within a distance of the segment, whose square is q? -/
def nearQ (ax ay bx ey px py q : Int) : Bool :=
  decide (sqI ax ay px py ≤ q) || decide (sqI bx ey px py ≤ q) || (decide (0 < alongI ax ay bx ey px py) && decide (alongI ax ay bx ey px py < sqI ax ay bx ey) && decide (turnI ax ay bx ey px py * turnI ax ay bx ey px py ≤ q * sqI ax ay bx ey))
theorem near_1 {ax ay bx ey px py q : Int} (h : alongI ax ay bx ey px py ≤ 0) : decide (sqI ax ay px py ≤ q) = nearQ ax ay bx ey px py q := by
  have h1 := sq_far ax ay bx ey px py
  have h2 := sq_nonneg ax ay bx ey
  unfold nearQ
  rw [show decide (0 < alongI ax ay bx ey px py) = false by simp; omega]
  by_cases hq : sqI ax ay px py ≤ q
  · simp [hq]
  · simp [hq]; omega
theorem near_2 {ax ay bx ey px py q : Int} (h0 : 0 < alongI ax ay bx ey px py) (h : sqI ax ay bx ey ≤ alongI ax ay bx ey px py) : decide (sqI bx ey px py ≤ q) = nearQ ax ay bx ey px py q := by
  have h1 := sq_far ax ay bx ey px py
  unfold nearQ
  rw [show decide (alongI ax ay bx ey px py < sqI ax ay bx ey) = false by simp; omega]
  by_cases hq : sqI bx ey px py ≤ q
  · simp [hq]
  · simp [hq]; omega
theorem near_3 {ax ay bx ey px py q : Int} (h0 : 0 < alongI ax ay bx ey px py) (h : alongI ax ay bx ey px py < sqI ax ay bx ey) : decide (turnI ax ay bx ey px py * turnI ax ay bx ey px py ≤ q * sqI ax ay bx ey) = nearQ ax ay bx ey px py q := by
  have ha := lag_a ax ay bx ey px py
  have hb := lag_b ax ay bx ey px py
  have hs := sq_nonneg ax ay bx ey
  have n1 := sqn (alongI ax ay bx ey px py)
  have n2 := sqn (alongI ax ay bx ey px py - sqI ax ay bx ey)
  unfold nearQ
  rw [show decide (0 < alongI ax ay bx ey px py) = true by simpa using h0, show decide (alongI ax ay bx ey px py < sqI ax ay bx ey) = true by simpa using h]
  by_cases hq : turnI ax ay bx ey px py * turnI ax ay bx ey px py ≤ q * sqI ax ay bx ey
  · simp [hq]
  · have k1 : ¬ sqI ax ay px py ≤ q := fun e => hq (by have := Int.mul_le_mul_of_nonneg_right e hs; omega)
    have k2 : ¬ sqI bx ey px py ≤ q := fun e => hq (by have := Int.mul_le_mul_of_nonneg_right e hs; omega)
    simp [hq, k1, k2]
theorem near_yes {ax ay bx ey px py q : Int} (h : sqI ax ay px py ≤ q ∨ sqI bx ey px py ≤ q) : true = nearQ ax ay bx ey px py q := by
  unfold nearQ; rcases h with h | h <;> simp [h]
theorem near_far {ax ay bx ey px py q : Int} (h1 : ¬ sqI ax ay px py ≤ q) (h2 : ¬ sqI bx ey px py ≤ q) (h3 : alongI ax ay bx ey px py ≤ 0 ∨ sqI ax ay bx ey ≤ alongI ax ay bx ey px py) : false = nearQ ax ay bx ey px py q := by
  unfold nearQ
  rcases h3 with h3 | h3
  · simp [h1, h2]; intro; omega
  · simp [h1, h2]; intros; omega

/-- Two numbers in two digits of a base, compared. -/
def lexB (B p q : Int) : Bool := decide (p / B < q / B) || (decide (p / B = q / B) && decide (p % B ≤ q % B))
theorem lex_is {B p q : Int} (hB : 0 < B) : lexB B p q = decide (p ≤ q) := by
  have e1 := Int.mul_ediv_add_emod p B
  have e2 := Int.mul_ediv_add_emod q B
  have p1 := Int.emod_nonneg p (show B ≠ 0 by omega)
  have p2 := Int.emod_lt_of_pos p hB
  have q1 := Int.emod_nonneg q (show B ≠ 0 by omega)
  have q2 := Int.emod_lt_of_pos q hB
  unfold lexB
  rcases Int.lt_trichotomy (p / B) (q / B) with h | h | h
  · have : B * (p / B + 1) ≤ B * (q / B) := Int.mul_le_mul_of_nonneg_left (by omega) (by omega)
    rw [Int.mul_add, Int.mul_one] at this
    simp [h]; omega
  · rw [h] at e1
    simp [h]; omega
  · have : B * (q / B + 1) ≤ B * (p / B) := Int.mul_le_mul_of_nonneg_left (by omega) (by omega)
    rw [Int.mul_add, Int.mul_one] at this
    have hn : ¬ p / B < q / B := by omega
    have hn2 : ¬ p / B = q / B := by omega
    simp [hn, hn2]; omega
end Go.Proofs.Yticgomikfleabaa
