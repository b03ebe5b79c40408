/- Plain facts on bends and levels; no program in sight. -/
import Derived.Test.YticgomikfleabaaPn
namespace Go.Proofs.Yticgomikfleabaa
def szI (x y : Int) : Int := max x (-x) + max y (-y)
def secI (a b c : Int) : Int := a - 2 * b + c
def bendI (m0 m1 m2 m3 m4 m5 m6 m7 : Int) : Int := max (szI (secI m0 m2 m4) (secI m1 m3 m5)) (szI (secI m2 m4 m6) (secI m3 m5 m7))
theorem secI_bound {a b c : Int} (h1 : -262144 ≤ a) (h2 : a ≤ 262144) (h3 : -262144 ≤ b) (h4 : b ≤ 262144) (h5 : -262144 ≤ c) (h6 : c ≤ 262144) : -1048576 ≤ secI a b c ∧ secI a b c ≤ 1048576 := by unfold secI; omega
theorem szI_bound {x y : Int} (hx : -1048576 ≤ x ∧ x ≤ 1048576) (hy : -1048576 ≤ y ∧ y ≤ 1048576) : 0 ≤ szI x y ∧ szI x y ≤ 2097152 := by unfold szI; omega
theorem bendI_bound {m0 m1 m2 m3 m4 m5 m6 m7 : Int} (h0 : okB m0 m1 = true) (h1 : okB m2 m3 = true) (h2 : okB m4 m5 = true) (h3 : okB m6 m7 = true) : 0 ≤ bendI m0 m1 m2 m3 m4 m5 m6 m7 ∧ bendI m0 m1 m2 m3 m4 m5 m6 m7 ≤ 2097152 := by
  obtain ⟨a1, a2, a3, a4⟩ := okB_bounds h0
  obtain ⟨b1, b2, b3, b4⟩ := okB_bounds h1
  obtain ⟨c1, c2, c3, c4⟩ := okB_bounds h2
  obtain ⟨d1, d2, d3, d4⟩ := okB_bounds h3
  have e1 := szI_bound (secI_bound a1 a2 b1 b2 c1 c2) (secI_bound a3 a4 b3 b4 c3 c4)
  have e2 := szI_bound (secI_bound b1 b2 c1 c2 d1 d2) (secI_bound b3 b4 c3 c4 d3 d4)
  unfold bendI
  omega
/-- The least level up to 6 at which b ≤ t 4^level, from k on; 7 if there is none. -/
def lev (b t : Int) : Nat → Nat → Nat
  | 0, k => k
  | f + 1, k => if b ≤ t * 4 ^ k then k else lev b t f (k + 1)
def levI (b t : Int) : Nat := lev b t 7 0
end Go.Proofs.Yticgomikfleabaa
