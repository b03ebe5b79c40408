/- Plain facts on fractions in lowest terms that the walks of the maps use; no program in sight. -/
import Derived.Test.YtjlmoadnbbeloaaNum
namespace Go.Proofs.Ytjlmoadnbbeloaa

theorem mk_canon {n d : Int} (h : validB n d = true) : mkNum n d = n ∧ mkDen n d = d ∧ mkCode n d = 0 := by
  obtain ⟨h1, h2, h3, h4, h5⟩ := validB_bounds h
  have hd : ¬ d = 0 := by omega
  have hr : ¬ (n.natAbs / 1 > 1000000000 ∨ d.natAbs / 1 > 1000000) := by omega
  unfold mkNum mkDen mkCode
  rw [h5, if_neg hd, if_neg hd, if_neg hd, if_neg hr, if_neg hr, if_neg hr]
  refine ⟨?_, by omega, rfl⟩
  by_cases hn : n < 0
  · rw [if_neg (by simp [hn]; omega)]; omega
  · rw [if_pos (by simp [hn]; omega)]; omega
theorem mk_code {n d : Int} (hd : ¬ d = 0) : mkCode n d = 0 ∨ (mkCode n d = 2 ∧ mkNum n d = 0 ∧ mkDen n d = 0) := by
  unfold mkNum mkDen mkCode
  by_cases hr : n.natAbs / Nat.gcd n.natAbs d.natAbs > 1000000000 ∨ d.natAbs / Nat.gcd n.natAbs d.natAbs > 1000000
  · right; simp [hd, hr]
  · left; simp [hd, hr]
theorem mk_valid {n d : Int} (h : mkCode n d = 0) : validB (mkNum n d) (mkDen n d) = true := by
  have hd : ¬ d = 0 := by intro e; simp [mkCode, e] at h
  have hr : ¬ (n.natAbs / Nat.gcd n.natAbs d.natAbs > 1000000000 ∨ d.natAbs / Nat.gcd n.natAbs d.natAbs > 1000000) := by
    intro e; unfold mkCode at h; rw [if_neg hd, if_pos e] at h; omega
  have gp : 0 < Nat.gcd n.natAbs d.natAbs := gcd_pos hd
  have g1 : Nat.gcd (n.natAbs / Nat.gcd n.natAbs d.natAbs) (d.natAbs / Nat.gcd n.natAbs d.natAbs) = 1 := Nat.gcd_div_gcd_div_gcd_of_pos_right (by omega)
  have g2 : 1 ≤ d.natAbs / Nat.gcd n.natAbs d.natAbs := Nat.div_pos (Nat.gcd_le_right _ (by omega)) gp
  have e1 : (mkNum n d).natAbs = n.natAbs / Nat.gcd n.natAbs d.natAbs := by
    unfold mkNum; rw [if_neg hd, if_neg hr]; generalize n.natAbs / Nat.gcd n.natAbs d.natAbs = q; split <;> omega
  have e2 : mkDen n d = ((d.natAbs / Nat.gcd n.natAbs d.natAbs : Nat) : Int) := by
    unfold mkDen; rw [if_neg hd, if_neg hr]
  have e3 : (mkDen n d).natAbs = d.natAbs / Nat.gcd n.natAbs d.natAbs := by rw [e2]; exact Int.natAbs_natCast _
  generalize hq : n.natAbs / Nat.gcd n.natAbs d.natAbs = q at *
  generalize ht : d.natAbs / Nat.gcd n.natAbs d.natAbs = t at *
  unfold validB
  rw [decide_eq_true_iff, e1, e3]
  refine ⟨by omega, by omega, by omega, by omega, g1⟩
/-- Products and sums of fractions. -/
def mulN (a b c d : Int) : Int := mkNum (a * c) (b * d)
def mulD (a b c d : Int) : Int := mkDen (a * c) (b * d)
def mulC (a b c d : Int) : Int := mkCode (a * c) (b * d)
def addN (a b c d : Int) : Int := mkNum (a * d + c * b) (b * d)
def addD (a b c d : Int) : Int := mkDen (a * d + c * b) (b * d)
def addC (a b c d : Int) : Int := mkCode (a * d + c * b) (b * d)
theorem mul_zero_r {a b : Int} (h : validB a b = true) : mulN a b 0 1 = 0 ∧ mulD a b 0 1 = 1 ∧ mulC a b 0 1 = 0 := by
  obtain ⟨h1, h2, _, _, _⟩ := validB_bounds h
  unfold mulN mulD mulC
  have e : Nat.gcd 0 b.natAbs = b.natAbs := Nat.gcd_zero_left _
  have hb : 0 < b.natAbs := by omega
  simp [mkNum, mkDen, mkCode, e, Nat.div_self hb, show ¬ b = 0 by omega]
theorem mul_zero_l {a b : Int} (h : validB a b = true) : mulN 0 1 a b = 0 ∧ mulD 0 1 a b = 1 ∧ mulC 0 1 a b = 0 := by
  have := mul_zero_r h
  unfold mulN mulD mulC at *
  rw [Int.mul_comm 0 a, Int.mul_comm 1 b]; exact this
theorem mul_one_r {a b : Int} (h : validB a b = true) : mulN a b 1 1 = a ∧ mulD a b 1 1 = b ∧ mulC a b 1 1 = 0 := by
  unfold mulN mulD mulC; rw [Int.mul_one, Int.mul_one]; exact mk_canon h
theorem mul_one_l {a b : Int} (h : validB a b = true) : mulN 1 1 a b = a ∧ mulD 1 1 a b = b ∧ mulC 1 1 a b = 0 := by
  unfold mulN mulD mulC; rw [Int.one_mul, Int.one_mul]; exact mk_canon h
theorem add_zero_l {a b : Int} (h : validB a b = true) : addN 0 1 a b = a ∧ addD 0 1 a b = b ∧ addC 0 1 a b = 0 := by
  unfold addN addD addC; rw [Int.zero_mul, Int.zero_add, Int.mul_one, Int.one_mul]; exact mk_canon h
theorem add_zero_r {a b : Int} (h : validB a b = true) : addN a b 0 1 = a ∧ addD a b 0 1 = b ∧ addC a b 0 1 = 0 := by
  unfold addN addD addC; rw [Int.zero_mul, Int.add_zero, Int.mul_one, Int.mul_one]; exact mk_canon h
end Go.Proofs.Ytjlmoadnbbeloaa
