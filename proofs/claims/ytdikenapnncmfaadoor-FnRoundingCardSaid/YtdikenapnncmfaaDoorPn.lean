/- Plain facts on points that the walks of this seat use; no program in sight. -/
import Derived.Test.YtdikenapnncmfaaDoorNum2
namespace Go.Proofs.YtdikenapnncmfaaDoor

/-- Is the point valid? -/
def okB (x y : Int) : Bool := decide (-262144 ≤ x ∧ x ≤ 262144 ∧ -262144 ≤ y ∧ y ≤ 262144)
theorem okB_bounds {x y : Int} (h : okB x y = true) : -262144 ≤ x ∧ x ≤ 262144 ∧ -262144 ≤ y ∧ y ≤ 262144 := by simpa [okB] using h
theorem okB_yes {x y : Int} (h1 : -262144 ≤ x) (h2 : x ≤ 262144) (h3 : -262144 ≤ y) (h4 : y ≤ 262144) : true = okB x y := by simp [okB, *]
theorem okB_no {x y : Int} (h : x < -262144 ∨ 262144 < x ∨ y < -262144 ∨ 262144 < y) : false = okB x y := by simp [okB]; omega

/-- What DivRound answers. -/
def divRound (n d : Int) : Int := bif decide (d ≤ 0) then 0 else near n d

def turnI (ax ay bx ey cx cy : Int) : Int := (bx - ax) * (cy - ay) - (ey - ay) * (cx - ax)
def sqI (ax ay bx ey : Int) : Int := (bx - ax) * (bx - ax) + (ey - ay) * (ey - ay)

theorem mulB {a b A B : Int} (ha1 : -A ≤ a) (ha2 : a ≤ A) (hb1 : -B ≤ b) (hb2 : b ≤ B) : -(A * B) ≤ a * b ∧ a * b ≤ A * B := by
  have hA : 0 ≤ A := by omega
  have hB : 0 ≤ B := by omega
  have h : (a * b).natAbs ≤ (A * B).natAbs := by
    rw [Int.natAbs_mul, Int.natAbs_mul]
    exact Nat.mul_le_mul (by omega) (by omega)
  have h2 : ((A * B).natAbs : Int) = A * B := by
    have := Int.mul_nonneg hA hB
    omega
  omega
theorem sqn (a : Int) : 0 ≤ a * a := by
  rcases Int.le_total 0 a with h | h
  · exact Int.mul_nonneg h h
  · exact Int.mul_nonneg_of_nonpos_of_nonpos h h

theorem prod_bound {a b : Int} (h1 : -524288 ≤ a) (h2 : a ≤ 524288) (h3 : -524288 ≤ b) (h4 : b ≤ 524288) : -274877906944 ≤ a * b ∧ a * b ≤ 274877906944 := by
  have := mulB (a := a) (b := b) (A := 524288) (B := 524288) h1 h2 h3 h4
  omega
theorem turn_bound {ax ay bx ey cx cy : Int} (ha : okB ax ay = true) (hb : okB bx ey = true) (hc : okB cx cy = true) : -549755813888 ≤ turnI ax ay bx ey cx cy ∧ turnI ax ay bx ey cx cy ≤ 549755813888 := by
  obtain ⟨a1, a2, a3, a4⟩ := okB_bounds ha
  obtain ⟨b1, b2, b3, b4⟩ := okB_bounds hb
  obtain ⟨c1, c2, c3, c4⟩ := okB_bounds hc
  have h1 := prod_bound (a := bx - ax) (b := cy - ay) (by omega) (by omega) (by omega) (by omega)
  have h2 := prod_bound (a := ey - ay) (b := cx - ax) (by omega) (by omega) (by omega) (by omega)
  unfold turnI
  omega
theorem sq_bound {ax ay bx ey : Int} (ha : okB ax ay = true) (hb : okB bx ey = true) : 0 ≤ sqI ax ay bx ey ∧ sqI ax ay bx ey ≤ 549755813888 := by
  obtain ⟨a1, a2, a3, a4⟩ := okB_bounds ha
  obtain ⟨b1, b2, b3, b4⟩ := okB_bounds hb
  have h1 := prod_bound (a := bx - ax) (b := bx - ax) (by omega) (by omega) (by omega) (by omega)
  have h2 := prod_bound (a := ey - ay) (b := ey - ay) (by omega) (by omega) (by omega) (by omega)
  have h3 := sqn (bx - ax)
  have h4 := sqn (ey - ay)
  unfold sqI
  omega
theorem dr_np {n d : Int} (hd : 0 < d) (h : n.tmod d < 0) (h2 : d ≤ 2 * (n.tmod d + d)) : n.tdiv d - 1 + 1 = near n d := by
  have t := Int.lt_tmod_of_pos n hd
  rw [near_up hd (q := n.tdiv d - 1) (r := n.tmod d + d) ?_ (by omega) h2]
  have := Int.mul_tdiv_add_tmod n d
  rw [Int.mul_sub, Int.mul_one]; omega
theorem dr_nm {n d : Int} (hd : 0 < d) (h2 : 2 * (n.tmod d + d) < d) : n.tdiv d - 1 = near n d := by
  have t := Int.lt_tmod_of_pos n hd
  rw [near_down hd (q := n.tdiv d - 1) (r := n.tmod d + d) ?_ (by omega) h2]
  have := Int.mul_tdiv_add_tmod n d
  rw [Int.mul_sub, Int.mul_one]; omega
theorem dr_pp {n d : Int} (hd : 0 < d) (h2 : d ≤ 2 * (n.tmod d)) : n.tdiv d + 1 = near n d := by
  have t := Int.tmod_lt_of_pos n hd
  rw [near_up hd (q := n.tdiv d) (r := n.tmod d) ?_ (by omega) h2]
  have := Int.mul_tdiv_add_tmod n d
  omega
theorem dr_pm {n d : Int} (hd : 0 < d) (h : 0 ≤ n.tmod d) (h2 : 2 * (n.tmod d) < d) : n.tdiv d = near n d := by
  rw [near_down hd (q := n.tdiv d) (r := n.tmod d) ?_ h h2]
  have := Int.mul_tdiv_add_tmod n d
  omega
end Go.Proofs.YtdikenapnncmfaaDoor
