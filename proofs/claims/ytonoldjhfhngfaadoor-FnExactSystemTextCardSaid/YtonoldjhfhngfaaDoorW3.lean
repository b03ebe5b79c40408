/- Walks: the fraction of two numbers, on both sides. -/
import Derived.Test.YtonoldjhfhngfaaDoorW2
namespace Go.Proofs.YtonoldjhfhngfaaDoor
open Go.RowKit

theorem mk_zero (n : Int) : mkNum n 0 = 0 ∧ mkDen n 0 = 0 ∧ mkCode n 0 = 1 := by simp [mkNum, mkDen, mkCode]
theorem mk_range {n d : Int} {g : Nat} (h : ¬ d = 0) (hg : Nat.gcd n.natAbs d.natAbs = g) (h2 : 1000000000 < (n.natAbs : Int) / (g : Int) ∨ 1000000 < (d.natAbs : Int) / (g : Int)) : mkNum n d = 0 ∧ mkDen n d = 0 ∧ mkCode n d = 2 := by
  have h3 : n.natAbs / g > 1000000000 ∨ d.natAbs / g > 1000000 := by
    rw [← Int.natCast_ediv, ← Int.natCast_ediv] at h2
    omega
  subst hg
  simp [mkNum, mkDen, mkCode, h, h3]
theorem mk_same {n d : Int} {g : Nat} (h : ¬ d = 0) (hg : Nat.gcd n.natAbs d.natAbs = g) (h1 : (n.natAbs : Int) / (g : Int) ≤ 1000000000) (h2 : (d.natAbs : Int) / (g : Int) ≤ 1000000) (hs : (decide (n < 0)) = (decide (d < 0))) :
    mkNum n d = (n.natAbs : Int) / (g : Int) ∧ mkDen n d = (d.natAbs : Int) / (g : Int) ∧ mkCode n d = 0 := by
  have h3 : ¬ (n.natAbs / g > 1000000000 ∨ d.natAbs / g > 1000000) := by
    rw [← Int.natCast_ediv] at h1 h2
    omega
  subst hg
  unfold mkNum mkDen mkCode
  rw [if_neg h, if_neg h, if_neg h, if_neg h3, if_neg h3, if_neg h3, if_pos hs]
  exact ⟨by simp, by simp, rfl⟩
theorem mk_other {n d : Int} {g : Nat} (h : ¬ d = 0) (hg : Nat.gcd n.natAbs d.natAbs = g) (h1 : (n.natAbs : Int) / (g : Int) ≤ 1000000000) (h2 : (d.natAbs : Int) / (g : Int) ≤ 1000000) (hs : ¬ (decide (n < 0)) = (decide (d < 0))) :
    mkNum n d = -((n.natAbs : Int) / (g : Int)) ∧ mkDen n d = (d.natAbs : Int) / (g : Int) ∧ mkCode n d = 0 := by
  have h3 : ¬ (n.natAbs / g > 1000000000 ∨ d.natAbs / g > 1000000) := by
    rw [← Int.natCast_ediv] at h1 h2
    omega
  subst hg
  unfold mkNum mkDen mkCode
  rw [if_neg h, if_neg h, if_neg h, if_neg h3, if_neg h3, if_neg h3, if_neg hs]
  exact ⟨by simp, by simp, rfl⟩
theorem quo_bounds (n : Int) (g : Nat) : 0 ≤ (n.natAbs : Int) / (g : Int) ∧ (n.natAbs : Int) / (g : Int) ≤ n.natAbs := by
  exact ⟨Int.ediv_nonneg (by omega) (by omega), Int.ediv_le_self _ (by omega)⟩

/-- What MakeFrac returns. -/
def MkRet (n d : Int) (w : World) (e : Ending) (w' : World) : Prop :=
  e = .returned (.tuple #[.agg #[.int .i64 (mkNum n d), .int .i64 (mkDen n d)], .int .i64 (mkCode n d)]) ∧ Below w.heap.size w w'
theorem MkRet.mk {n d a b c : Int} {w w' : World} (h : mkNum n d = a ∧ mkDen n d = b ∧ mkCode n d = c) (hb : Below w.heap.size w w') :
    MkRet n d w (.returned (.tuple #[.agg #[.int .i64 a, .int .i64 b], .int .i64 c])) w' := by
  obtain ⟨rfl, rfl, rfl⟩ := h
  exact ⟨rfl, hb⟩


set_option maxHeartbeats 800000 in
theorem eqFrac_same (n d : Int) (w : World) :
    Calls Tryd.prog 85 #[.agg #[.int .i64 n, .int .i64 d], .agg #[.int .i64 n, .int .i64 d]] w fun e w' => e = .returned (.bool true) ∧ Below w.heap.size w w' := by
  have e1 : (n != n) = false := by simp
  have e2 : (d != d) = false := by simp
  go_enter Tryd.func85, Tryd.ntmps85
  go_wp2
  go_ret
  exact ⟨rfl, ((Below.refl _ _).alloc (Nat.le_refl _) _).alloc (by simp) _⟩

end Go.Proofs.YtonoldjhfhngfaaDoor
