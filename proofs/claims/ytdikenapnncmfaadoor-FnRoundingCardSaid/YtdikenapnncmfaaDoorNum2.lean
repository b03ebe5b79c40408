/- Plain facts on quotients that are rounded; no program in sight. -/
namespace Go.Proofs.YtdikenapnncmfaaDoor

theorem floor_of {a b q : Int} (hb : 0 < b) (h1 : q * b ≤ a) (h2 : a < (q + 1) * b) : a / b = q := by
  have g1 := (Int.le_ediv_iff_mul_le hb).2 h1
  have g2 := (Int.ediv_lt_iff_lt_mul hb).2 h2
  omega
theorem floor_neg {a b : Int} (hb : 0 < b) (h : a.tmod b < 0) : a.tdiv b - 1 = a / b := by
  have h1 := Int.mul_tdiv_add_tmod a b
  have h2 := Int.lt_tmod_of_pos a hb
  have e1 : b * a.tdiv b = a.tdiv b * b := Int.mul_comm _ _
  have e2 : (a.tdiv b - 1) * b = a.tdiv b * b - b := by rw [Int.sub_mul, Int.one_mul]
  have e3 : (a.tdiv b - 1 + 1) * b = a.tdiv b * b := by rw [show a.tdiv b - 1 + 1 = a.tdiv b from by omega]
  exact (floor_of hb (by omega) (by omega)).symm
theorem floor_pos {a b : Int} (hb : 0 < b) (h : 0 ≤ a.tmod b) : a.tdiv b = a / b := by
  have h1 := Int.mul_tdiv_add_tmod a b
  have h2 := Int.tmod_lt_of_pos a hb
  have e1 : b * a.tdiv b = a.tdiv b * b := Int.mul_comm _ _
  have e3 : (a.tdiv b + 1) * b = a.tdiv b * b + b := by rw [Int.add_mul, Int.one_mul]
  exact (floor_of hb (by omega) (by omega)).symm

/-- The integer nearest to x / d, the greater one of two (d positive). -/
def near (x d : Int) : Int := (2 * x + d) / (2 * d)
theorem near_down {p d q r : Int} (hd : 0 < d) (h : p = d * q + r) (hr0 : 0 ≤ r) (h2 : 2 * r < d) : near p d = q := by
  have e1 : q * (2 * d) = 2 * (d * q) := by rw [Int.mul_comm q, Int.mul_assoc]
  have e3 : (q + 1) * (2 * d) = 2 * (d * q) + 2 * d := by rw [Int.add_mul, Int.one_mul, e1]
  exact floor_of (by omega) (by omega) (by omega)
theorem near_up {p d q r : Int} (hd : 0 < d) (h : p = d * q + r) (hr : r < d) (h2 : d ≤ 2 * r) : near p d = q + 1 := by
  have e1 : q * (2 * d) = 2 * (d * q) := by rw [Int.mul_comm q, Int.mul_assoc]
  have e3 : (q + 1) * (2 * d) = 2 * (d * q) + 2 * d := by rw [Int.add_mul, Int.one_mul, e1]
  have e4 : (q + 1 + 1) * (2 * d) = 2 * (d * q) + 2 * d + 2 * d := by rw [Int.add_mul, Int.one_mul, e3]
  exact floor_of (by omega) (by omega) (by omega)
theorem near_neg_down {p d q r : Int} (hd : 0 < d) (h : p = d * q + r) (hr0 : 0 ≤ r) (h2 : 2 * r ≤ d) : near (-p) d = -q := by
  have e1 : q * (2 * d) = 2 * (d * q) := by rw [Int.mul_comm q, Int.mul_assoc]
  have e2 : -q * (2 * d) = -(2 * (d * q)) := by rw [Int.neg_mul, e1]
  have e3 : (-q + 1) * (2 * d) = -(2 * (d * q)) + 2 * d := by rw [Int.add_mul, Int.one_mul, e2]
  exact floor_of (by omega) (by omega) (by omega)
theorem near_neg_up {p d q r : Int} (hd : 0 < d) (h : p = d * q + r) (hr : r < d) (h2 : d < 2 * r) : near (-p) d = -(q + 1) := by
  have e1 : q * (2 * d) = 2 * (d * q) := by rw [Int.mul_comm q, Int.mul_assoc]
  have e2 : -(q + 1) * (2 * d) = -(2 * (d * q)) - 2 * d := by rw [Int.neg_mul, Int.add_mul, Int.one_mul, e1]; omega
  have e3 : (-(q + 1) + 1) * (2 * d) = -(2 * (d * q)) := by rw [Int.add_mul, Int.one_mul, e2]; omega
  exact floor_of (by omega) (by omega) (by omega)

end Go.Proofs.YtdikenapnncmfaaDoor
