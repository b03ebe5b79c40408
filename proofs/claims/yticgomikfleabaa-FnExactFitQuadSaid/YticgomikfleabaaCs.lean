/- Plain facts on points of cubics; no program in sight. -/
import Derived.Test.YticgomikfleabaaCq
namespace Go.Proofs.Yticgomikfleabaa
/-- A coordinate of a cubic at k / n, times n to the power of 3. -/
def mixI (a b c d k n : Int) : Int := (n - k) * (n - k) * (n - k) * a + 3 * (n - k) * (n - k) * k * b + 3 * (n - k) * k * k * c + k * k * k * d
def mix2 (a b c k n : Int) : Int := (n - k) * (n - k) * a + 2 * (n - k) * k * b + k * k * c
theorem tl_zero (k : Int) {left : Int} (h : 1 ≤ left) : tl k 0 left = k := by unfold tl; rw [if_neg (by omega)]
theorem cas3_mix (n k a b c d : Int) : casF n k 0 3 (fun q => [a, b, c, d].getD q 0) 3 0 = mixI a b c d k n := by
  simp only [casF, Nat.reduceSub, Nat.reduceLT, if_pos, List.getD_cons_zero, List.getD_cons_succ, Nat.zero_add, Nat.reduceAdd, Nat.lt_add_one]
  simp only [show (((1 : Nat)) : Int) = 1 from rfl, show (((2 : Nat)) : Int) = 2 from rfl, show (((3 : Nat)) : Int) = 3 from rfl, tl_zero k (show (1 : Int) ≤ 1 by omega), tl_zero k (show (1 : Int) ≤ 2 by omega), tl_zero k (show (1 : Int) ≤ 3 by omega)]
  unfold lpI mixI
  grind
theorem cas2_mix (n k a b c : Int) : casF n k 0 2 (fun q => [a, b, c].getD q 0) 2 0 = mix2 a b c k n := by
  simp only [casF, Nat.reduceSub, Nat.reduceLT, if_pos, List.getD_cons_zero, List.getD_cons_succ, Nat.zero_add, Nat.reduceAdd, Nat.lt_add_one]
  simp only [show (((1 : Nat)) : Int) = 1 from rfl, show (((2 : Nat)) : Int) = 2 from rfl, tl_zero k (show (1 : Int) ≤ 1 by omega), tl_zero k (show (1 : Int) ≤ 2 by omega)]
  unfold lpI mix2
  grind
theorem mul_in {x y A B : Int} (hx : -A ≤ x ∧ x ≤ A) (hy : -B ≤ y ∧ y ≤ B) (C : Int) (hC : A * B = C) : -C ≤ x * y ∧ x * y ≤ C := by
  have h := mulB hx.1 hx.2 hy.1 hy.2
  rw [hC] at h; exact h
end Go.Proofs.Yticgomikfleabaa
