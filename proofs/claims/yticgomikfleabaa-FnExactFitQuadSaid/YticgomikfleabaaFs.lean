/- Plain facts: the points of a flattened quadratic are valid; what is fitted to a path. -/
import Derived.Test.YticgomikfleabaaFm
import Derived.Test.YticgomikfleabaaFd
import Derived.Test.YticgomikfleabaaFb
namespace Go.Proofs.Yticgomikfleabaa
open Go.RowKit
set_option linter.unusedVariables false
theorem near_in {v m : Int} (h0 : 1 ≤ m) (h1 : -(262144 * m) ≤ v) (h2 : v ≤ 262144 * m) : -262144 ≤ near v m ∧ near v m ≤ 262144 := by
  unfold near
  constructor
  · apply (Int.le_ediv_iff_mul_le (by omega)).2; omega
  · have : (2 * v + m) / (2 * m) < 262145 := Int.ediv_lt_of_lt_mul (by omega) (by omega)
    omega
theorem mix2_in {a b c k n : Int} (hk0 : 0 ≤ k) (hk : k ≤ n) (ha : -262144 ≤ a ∧ a ≤ 262144) (hb : -262144 ≤ b ∧ b ≤ 262144) (hc : -262144 ≤ c ∧ c ≤ 262144) :
    -(262144 * (n * n)) ≤ mix2 a b c k n ∧ mix2 a b c k n ≤ 262144 * (n * n) := by
  unfold mix2
  obtain ⟨m, hm⟩ : ∃ m, m = n - k := ⟨_, rfl⟩
  rw [← hm]
  have hn : n * n = m * m + 2 * m * k + k * k := by rw [show n = m + k by omega]; grind
  have p1 : 0 ≤ m * m := Int.mul_nonneg (by omega) (by omega)
  have p2 : 0 ≤ 2 * m * k := Int.mul_nonneg (by omega) (by omega)
  have p3 : 0 ≤ k * k := Int.mul_nonneg (by omega) (by omega)
  have a1 := Int.mul_le_mul_of_nonneg_left ha.2 p1
  have a2 := Int.mul_le_mul_of_nonneg_left ha.1 p1
  have b1 := Int.mul_le_mul_of_nonneg_left hb.2 p2
  have b2 := Int.mul_le_mul_of_nonneg_left hb.1 p2
  have c1 := Int.mul_le_mul_of_nonneg_left hc.2 p3
  have c2 := Int.mul_le_mul_of_nonneg_left hc.1 p3
  rw [hn]
  omega
theorem crv_okB {m0 m1 m2 m3 m4 m5 : Int} {N k : Nat} (hok : okQ m0 m1 m2 m3 m4 m5 = true) (hN : 1 ≤ N) (hk : k ≤ N) : okB (crvQ m0 m1 m2 m3 m4 m5 N k).1 (crvQ m0 m1 m2 m3 m4 m5 N k).2 = true := by
  obtain ⟨h0, h1, h2⟩ := okQ_parts hok
  obtain ⟨a1, a2, a3, a4⟩ := okB_bounds h0
  obtain ⟨b1, b2, b3, b4⟩ := okB_bounds h1
  obtain ⟨c1, c2, c3, c4⟩ := okB_bounds h2
  have hp : 1 ≤ (N : Int) * N := by have := Int.mul_le_mul (show (1 : Int) ≤ N by omega) (show (1 : Int) ≤ N by omega) (by omega) (by omega); omega
  have x := mix2_in (a := m0) (b := m2) (c := m4) (k := k) (n := N) (by omega) (by omega) ⟨a1, a2⟩ ⟨b1, b2⟩ ⟨c1, c2⟩
  have y := mix2_in (a := m1) (b := m3) (c := m5) (k := k) (n := N) (by omega) (by omega) ⟨a3, a4⟩ ⟨b3, b4⟩ ⟨c3, c4⟩
  have u := near_in hp x.1 x.2
  have v := near_in hp y.1 y.2
  exact (okB_yes u.1 u.2 v.1 v.2).symm
theorem up_at {f : Nat → APt} {n j : Nat} {p : APt} (h : (upP f n)[j]? = some p) : j < n ∧ p = f j := by
  unfold upP at h
  rw [List.getElem?_map] at h
  rcases Nat.lt_or_ge j n with hj | hj
  · rw [List.getElem?_range hj] at h; simp at h; exact ⟨hj, h.symm⟩
  · rw [List.getElem?_eq_none (by simpa using hj)] at h; cases h
theorem up_valid {f : Nat → APt} {n : Nat} (h : ∀ j, j < n → okB (f j).1 (f j).2 = true) : ptsUp (upP f n) (upP f n).length = true := by
  unfold ptsUp
  rw [List.all_eq_true]
  intro j hj
  unfold pOk
  rcases hp : (upP f n)[j]? with _ | p
  · rfl
  · obtain ⟨hj, rfl⟩ := up_at hp
    exact h j hj
section
variable (a1 a2 b1 b2 z1 z2 y1 y2 : Int) (l : List APt) (t : Int)
/-- The curve of a path: its control point; its flattened points; whether it is near. -/
def fqX : Int := (lnP a1 a2 b1 b2 z1 z2 y1 y2).1
def fqY : Int := (lnP a1 a2 b1 b2 z1 z2 y1 y2).2
def fqF : List APt := flQl a1 a2 (fqX a1 a2 b1 b2 z1 z2 y1 y2) (fqY a1 a2 b1 b2 z1 z2 y1 y2) z1 z2 1
def fqL : Bool := decide (lmC a1 a2 b1 b2 z1 z2 y1 y2 = 0)
def fqB : Bool := lvB (szQ a1 a2 (fqX a1 a2 b1 b2 z1 z2 y1 y2) (fqY a1 a2 b1 b2 z1 z2 y1 y2) z1 z2) 1
def fqG : Bool := fqL a1 a2 b1 b2 z1 z2 y1 y2 && fqB a1 a2 b1 b2 z1 z2 y1 y2 && alV l (fqF a1 a2 b1 b2 z1 z2 y1 y2) t && alV (fqF a1 a2 b1 b2 z1 z2 y1 y2) l t
end
section
variable {a1 a2 b1 b2 z1 z2 y1 y2 : Int} {l : List APt} {t : Int}
theorem fq_quad (ha : okB a1 a2 = true) (hz : okB z1 z2 = true) (h : fqL a1 a2 b1 b2 z1 z2 y1 y2 = true) : okQ a1 a2 (fqX a1 a2 b1 b2 z1 z2 y1 y2) (fqY a1 a2 b1 b2 z1 z2 y1 y2) z1 z2 = true := by
  have h1 : lmC a1 a2 b1 b2 z1 z2 y1 y2 = 0 := by unfold fqL at h; simpa using h
  have h2 : okB (fqX a1 a2 b1 b2 z1 z2 y1 y2) (fqY a1 a2 b1 b2 z1 z2 y1 y2) = true := by
    unfold lmC at h1
    split at h1
    · omega
    · split at h1
      · omega
      · split at h1
        · rename_i h3; exact h3
        · omega
  unfold okQ; rw [ha, hz, h2]; rfl
theorem fq_flat (ha : okB a1 a2 = true) (hz : okB z1 z2 = true) (h : fqL a1 a2 b1 b2 z1 z2 y1 y2 = true) (hB : fqB a1 a2 b1 b2 z1 z2 y1 y2 = true) :
    1 ≤ (fqF a1 a2 b1 b2 z1 z2 y1 y2).length ∧ (fqF a1 a2 b1 b2 z1 z2 y1 y2).length ≤ 65 ∧ ptsUp (fqF a1 a2 b1 b2 z1 z2 y1 y2) (fqF a1 a2 b1 b2 z1 z2 y1 y2).length = true := by
  have hq := fq_quad ha hz h
  have hl : (fqF a1 a2 b1 b2 z1 z2 y1 y2).length ≤ 65 := flQl_len _ _ _ _ _ _ _
  unfold fqF at hl ⊢
  rw [(fl_yes hq (by omega) (by omega) hB).1] at hl ⊢
  obtain ⟨L0, L6⟩ := levV_in (szQ a1 a2 (fqX a1 a2 b1 b2 z1 z2 y1 y2) (fqY a1 a2 b1 b2 z1 z2 y1 y2) z1 z2) 1
  obtain ⟨N1, N64, SH, SW⟩ := shl_one L0 L6
  refine ⟨by rw [upP_len]; omega, hl, up_valid fun j hj => crv_okB (N := flN a1 a2 (fqX a1 a2 b1 b2 z1 z2 y1 y2) (fqY a1 a2 b1 b2 z1 z2 y1 y2) z1 z2 1) hq N1 (by omega)⟩
end
end Go.Proofs.Yticgomikfleabaa
