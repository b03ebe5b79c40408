/- Plain facts on rounding and scaling. -/
import Derived.Test.YtdikenapnncmfaaDoorTsf
import Derived.Test.YtdikenapnncmfaaDoorRxcq
import Derived.Test.YtdikenapnncmfaaDoorNmbq
namespace Go.Proofs.YtdikenapnncmfaaDoor
open Go.RowKit
set_option linter.unusedVariables false
theorem rt_is {v s : Int} (h : -300000 ≤ v ∧ v ≤ 300000) : rtI v s = rdI v s := by unfold rtI; exact if_pos (show ptI v by unfold ptI; omega)
theorem rd_near {v s : Int} : rdI v s - v < 64 ∧ v - rdI v s < 64 := by
  unfold rdI
  have a1 := dn64_in (v := v + 32); have a2 := dn64_in (v := v); have a3 := dn32_in (v := v + 16); have a4 := dn64_in (v := v + 63)
  repeat' split
  all_goals omega
theorem rd_twice {v s : Int} : rdI (rdI v s) s = rdI v s := by
  unfold rdI dnI
  repeat' split
  all_goals omega
theorem rd_mono {a b s : Int} (h : a ≤ b) : rdI a s ≤ rdI b s := by
  unfold rdI dnI
  repeat' split
  all_goals omega
theorem kp_is {v s l : Int} (h : -300000 ≤ v ∧ v ≤ 300000) (hl : 0 ≤ l ∧ l ≤ 100) : kpI v s l = if v < 0 then -max (rdI (-v) s) l else max (rdI v s) l := by
  unfold kpI; exact if_pos ⟨show ptI v by unfold ptI; omega, by omega, by omega⟩
theorem kp_neg {v s l : Int} (h : -300000 ≤ v ∧ v ≤ 300000) (hl : 0 ≤ l ∧ l ≤ 100) (h0 : 0 < v) : kpI v s l = -kpI (-v) s l := by
  rw [kp_is h hl, kp_is (v := -v) (by omega) hl, if_neg (by omega), if_pos (by omega)]; simp only [Int.neg_neg]
theorem kp_least {v s l : Int} (h : -300000 ≤ v ∧ v ≤ 300000) (hl : 0 ≤ l ∧ l ≤ 100) : ¬ (kpI v s l < l ∧ -l < kpI v s l) := by
  rw [kp_is h hl]; split <;> omega
theorem kp_in {v s l : Int} (h : -300000 ≤ v ∧ v ≤ 300000) (hl : 0 ≤ l ∧ l ≤ 100) : -400000 ≤ kpI v s l ∧ kpI v s l ≤ 400000 := by
  rw [kp_is h hl]
  have h1 := rd_near (v := v) (s := s)
  have h2 := rd_near (v := -v) (s := s)
  split <;> omega
theorem st_names : ∀ k : Fin 6, Nam.nmI Nam.stNm (Nam.nmAt Nam.stNm (k.val : Int)) = (k.val : Int) := by decide +kernel
theorem st_name {s : Int} (h : 0 ≤ s ∧ s < 6) : Nam.nmI Nam.stNm (Nam.nmAt Nam.stNm s) = s := by
  have := st_names ⟨s.toNat, by omega⟩
  simp only at this
  rw [show ((s.toNat : Nat) : Int) = s by omega] at this
  exact this
theorem near_bounds {p d : Int} (hd : 0 < d) : 2 * p - d < 2 * (d * near p d) ∧ 2 * (d * near p d) ≤ 2 * p + d := by
  unfold near
  have h1 := Int.mul_ediv_add_emod (2 * p + d) (2 * d)
  have h2 := Int.emod_nonneg (2 * p + d) (show 2 * d ≠ 0 by omega)
  have h3 := Int.emod_lt_of_pos (2 * p + d) (show 0 < 2 * d by omega)
  generalize (2 * p + d) / (2 * d) = q at *
  have h4 : 2 * d * q = 2 * (d * q) := by rw [Int.mul_assoc]
  omega
/-- Scaling and scaling back. -/
theorem back_is {v S u : Int} (hS : 0 < S) (hu : 0 < u) (h : u ≤ S) : near (near (v * S) u * u) S = v := by
  have h1 := near_bounds (p := v * S) hu
  obtain ⟨r, hr⟩ : ∃ r, r = near (v * S) u := ⟨_, rfl⟩
  rw [← hr] at h1 ⊢
  have h2 := near_bounds (p := r * u) hS
  generalize near (r * u) S = t at h2 ⊢
  have e1 : u * r = r * u := Int.mul_comm _ _
  have e2 : S * t = t * S := Int.mul_comm _ _
  rw [e1] at h1
  rw [e2] at h2
  have key : 2 * (t * S) - 2 * (v * S) < 2 * S ∧ -(2 * S) < 2 * (t * S) - 2 * (v * S) ∨ (2 * (t * S) - 2 * (v * S) = 2 * S ∧ u = S) := by omega
  rcases key with ⟨k1, k2⟩ | ⟨k1, k2⟩
  · rcases Int.lt_trichotomy t v with ht | ht | ht
    · exfalso
      have : (t + 1) * S ≤ v * S := Int.mul_le_mul_of_nonneg_right (by omega) (by omega)
      rw [Int.add_mul] at this; omega
    · exact ht
    · exfalso
      have : (v + 1) * S ≤ t * S := Int.mul_le_mul_of_nonneg_right (by omega) (by omega)
      rw [Int.add_mul] at this; omega
  · exfalso
    subst k2
    -- u = S: r is v
    have hrv : r = v := by
      rcases Int.lt_trichotomy r v with ht | ht | ht
      · exfalso
        have : (r + 1) * u ≤ v * u := Int.mul_le_mul_of_nonneg_right (by omega) (by omega)
        rw [Int.add_mul] at this; omega
      · exact ht
      · exfalso
        have : (v + 1) * u ≤ r * u := Int.mul_le_mul_of_nonneg_right (by omega) (by omega)
        rw [Int.add_mul] at this; omega
    subst hrv
    omega
end Go.Proofs.YtdikenapnncmfaaDoor
