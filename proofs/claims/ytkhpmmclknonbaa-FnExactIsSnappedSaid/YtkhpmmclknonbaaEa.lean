/- Segments whose boxes are apart do not meet: plain facts. -/
import Derived.Test.YtkhpmmclknonbaaMi
namespace Go.Proofs.Ytkhpmmclknonbaa
set_option linter.unusedVariables false
theorem no_cross {a b c d s t u v M : Int} (hs : 0 < s) (ht : 0 < t) (hu : 0 < u) (hv : 0 < v) (ha : a ≤ M) (hb : b ≤ M) (hc : M < c) (hd : M < d) : ¬ (a * s + b * t) * (u + v) = (c * u + d * v) * (s + t) := by
  intro e
  have e1 := Int.mul_le_mul_of_nonneg_right ha (Int.le_of_lt hs)
  have e2 := Int.mul_le_mul_of_nonneg_right hb (Int.le_of_lt ht)
  have e3 := Int.mul_lt_mul_of_pos_right hc hu
  have e4 := Int.mul_lt_mul_of_pos_right hd hv
  have l1 : a * s + b * t ≤ M * (s + t) := by rw [Int.mul_add]; omega
  have l2 : M * (u + v) < c * u + d * v := by rw [Int.mul_add]; omega
  have l3 := Int.mul_le_mul_of_nonneg_right l1 (show 0 ≤ u + v by omega)
  have l4 := Int.mul_lt_mul_of_pos_right l2 (show 0 < s + t by omega)
  have l5 : M * (s + t) * (u + v) = M * (u + v) * (s + t) := by grind
  omega
theorem cross_x (ax ay bx ey cx cy dx dy : Int) : (ax * turnI cx cy dx dy bx ey - bx * turnI cx cy dx dy ax ay) * (turnI ax ay bx ey dx dy - turnI ax ay bx ey cx cy) = (cx * turnI ax ay bx ey dx dy - dx * turnI ax ay bx ey cx cy) * (turnI cx cy dx dy bx ey - turnI cx cy dx dy ax ay) := by unfold turnI; grind
theorem cross_y (ax ay bx ey cx cy dx dy : Int) : (ay * turnI cx cy dx dy bx ey - ey * turnI cx cy dx dy ax ay) * (turnI ax ay bx ey dx dy - turnI ax ay bx ey cx cy) = (cy * turnI ax ay bx ey dx dy - dy * turnI ax ay bx ey cx cy) * (turnI cx cy dx dy bx ey - turnI cx cy dx dy ax ay) := by unfold turnI; grind
theorem sgn_opp {m n : Int} (h : sgnI m * sgnI n < 0) : (0 < m ∧ n < 0) ∨ (m < 0 ∧ 0 < n) := (sgn_prod m n).2.2.1 h
/-- Weights of both signs: what crosses lies between. -/
theorem apart_1 {a b c d ta tb tc td M : Int} (h1 : (0 < ta ∧ tb < 0) ∨ (ta < 0 ∧ 0 < tb)) (h2 : (0 < tc ∧ td < 0) ∨ (tc < 0 ∧ 0 < td)) (e : (a * tb - b * ta) * (td - tc) = (c * td - d * tc) * (tb - ta)) (ha : a ≤ M) (hb : b ≤ M) (hc : M < c) (hd : M < d) : False := by
  rcases h1 with ⟨x, y⟩ | ⟨x, y⟩ <;> rcases h2 with ⟨z, w⟩ | ⟨z, w⟩
  · exact no_cross (s := -tb) (t := ta) (u := -td) (v := tc) (by omega) (by omega) (by omega) (by omega) ha hb hc hd (by grind)
  · exact no_cross (s := -tb) (t := ta) (u := td) (v := -tc) (by omega) (by omega) (by omega) (by omega) ha hb hc hd (by grind)
  · exact no_cross (s := tb) (t := -ta) (u := -td) (v := tc) (by omega) (by omega) (by omega) (by omega) ha hb hc hd (by grind)
  · exact no_cross (s := tb) (t := -ta) (u := td) (v := -tc) (by omega) (by omega) (by omega) (by omega) ha hb hc hd (by grind)
def sepB (ax ay bx ey cx cy dx dy : Int) : Bool := decide (mxI ax bx < mnI cx dx) || (decide (mxI cx dx < mnI ax bx) || (decide (mxI ay ey < mnI cy dy) || decide (mxI cy dy < mnI ay ey)))
theorem mx_ge (a b : Int) : a ≤ mxI a b ∧ b ≤ mxI a b := by unfold mxI; split <;> omega
theorem mn_le (a b : Int) : mnI a b ≤ a ∧ mnI a b ≤ b := by unfold mnI; split <;> omega
theorem sep_meet {ax ay bx ey cx cy dx dy : Int} (h : sepB ax ay bx ey cx cy dx dy = true) : meetI ax ay bx ey cx cy dx dy = 0 := by
  have x1 := mx_ge ax bx
  have x2 := mn_le ax bx
  have x3 := mx_ge cx dx
  have x4 := mn_le cx dx
  have y1 := mx_ge ay ey
  have y2 := mn_le ay ey
  have y3 := mx_ge cy dy
  have y4 := mn_le cy dy
  have hs : mxI ax bx < mnI cx dx ∨ mxI cx dx < mnI ax bx ∨ mxI ay ey < mnI cy dy ∨ mxI cy dy < mnI ay ey := by
    simpa only [sepB, Bool.or_eq_true, decide_eq_true_eq] using h
  have hn : endsF (bothB ax ay bx ey cx cy dx dy) [(ax, ay), (bx, ey), (cx, cy), (dx, dy)] = [] := by
    refine ends_none fun p _ => ?_
    rcases hb : bothB ax ay bx ey cx cy dx dy p with _ | _
    · rfl
    · obtain ⟨g1, g2⟩ := both_on hb
      simp only [onB, boxB, btwB, Bool.and_eq_true, decide_eq_true_eq] at g1 g2
      omega
  unfold meetI
  rw [hn]
  simp only [List.length_nil, if_true]
  rw [if_neg]
  rintro ⟨k1, k2⟩
  have o1 := sgn_opp k1
  have o2 := sgn_opp k2
  have ex := cross_x ax ay bx ey cx cy dx dy
  have ey_ := cross_y ax ay bx ey cx cy dx dy
  generalize turnI ax ay bx ey cx cy = tc at *
  generalize turnI ax ay bx ey dx dy = td at *
  generalize turnI cx cy dx dy ax ay = ta at *
  generalize turnI cx cy dx dy bx ey = tb at *
  rcases hs with k | k | k | k
  · exact apart_1 o2 o1 ex x1.1 x1.2 (by omega) (by omega)
  · exact apart_1 o1 o2 ex.symm x3.1 x3.2 (by omega) (by omega)
  · exact apart_1 o2 o1 ey_ y1.1 y1.2 (by omega) (by omega)
  · exact apart_1 o1 o2 ey_.symm y3.1 y3.2 (by omega) (by omega)
end Go.Proofs.Ytkhpmmclknonbaa
