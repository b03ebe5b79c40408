/- Walks: sizes and parts: ScaleTo and ScaleBack, both sides; the laws. -/
import Derived.Test.YtdikenapnncmfaaDoorPd
namespace Go.Proofs.YtdikenapnncmfaaDoor
open Go.RowKit
set_option linter.unusedVariables false
/-- A size and a unit that are ones. -/
def suI (s u : Int) : Prop := 1 ≤ s ∧ s ≤ 128 ∧ 16 ≤ u ∧ u ≤ 16384
instance {s u : Int} : Decidable (suI s u) := by unfold suI; infer_instance
def suB (s u : Int) : Bool := decide (suI s u)
def scI (v s u : Int) : Prop := (-262144 ≤ v ∧ v ≤ 262144) ∧ suI s u
instance {v s u : Int} : Decidable (scI v s u) := by unfold scI; infer_instance
def scC (v s u : Int) : Int := if scI v s u then 0 else 2
def scT (v s u : Int) : Int := if scI v s u then near (v * s * 64) u else 0
def scK (v s u : Int) : Int := if scI v s u then near (v * u) (s * 64) else 0
theorem sc_b1 {v s : Int} (h : -262144 ≤ v ∧ v ≤ 262144) (hs : 1 ≤ s ∧ s ≤ 128) : -33554432 ≤ v * s ∧ v * s ≤ 33554432 := by
  have h1 : -(262144 * 128) ≤ v * s := by
    have := Int.mul_le_mul_of_nonneg_right (show -262144 ≤ v by omega) (show 0 ≤ s by omega); omega
  have h2 : v * s ≤ 262144 * 128 := by
    have := Int.mul_le_mul_of_nonneg_right (show v ≤ 262144 by omega) (show 0 ≤ s by omega); omega
  omega
theorem sc_b2 {v s : Int} (h : -262144 ≤ v ∧ v ≤ 262144) (hs : 16 ≤ s ∧ s ≤ 16384) : -4294967296 ≤ v * s ∧ v * s ≤ 4294967296 := by
  have h1 : -(262144 * 16384) ≤ v * s := by
    have := Int.mul_le_mul_of_nonneg_right (show -262144 ≤ v by omega) (show 0 ≤ s by omega); omega
  have h2 : v * s ≤ 262144 * 16384 := by
    have := Int.mul_le_mul_of_nonneg_right (show v ≤ 262144 by omega) (show 0 ≤ s by omega); omega
  omega
set_option maxHeartbeats 400000 in
theorem isSize_yes (n : Int) (w : World) (h1 : 1 ≤ n) (h2 : n ≤ 128) :
    Calls Tryd.prog 55 #[.int .i64 n] w fun e w' => e = .returned (.bool true) ∧ w = w' := by
  go_enter Tryd.func55, Tryd.ntmps55
  go_wp2
  go_ret
  exact ⟨rfl, rfl⟩
set_option maxHeartbeats 400000 in
theorem isSize_no (n : Int) (w : World) (h : n < 1 ∨ 128 < n) :
    Calls Tryd.prog 55 #[.int .i64 n] w fun e w' => e = .returned (.bool false) ∧ w = w' := by
  by_cases h1 : n < 1
  · clear h
    have h2 : decide (1 ≤ n) = false := by simp; omega
    go_enter Tryd.func55, Tryd.ntmps55
    go_wp2
    go_ret
    exact ⟨rfl, rfl⟩
  · have h2 : decide (n ≤ 128) = false := by simp; omega
    have h3 : 1 ≤ n := by omega
    clear h h1
    go_enter Tryd.func55, Tryd.ntmps55
    go_wp2
    go_ret
    exact ⟨rfl, rfl⟩
set_option maxHeartbeats 400000 in
theorem isUnit_yes (n : Int) (w : World) (h1 : 16 ≤ n) (h2 : n ≤ 16384) :
    Calls Tryd.prog 56 #[.int .i64 n] w fun e w' => e = .returned (.bool true) ∧ w = w' := by
  go_enter Tryd.func56, Tryd.ntmps56
  go_wp2
  go_ret
  exact ⟨rfl, rfl⟩
set_option maxHeartbeats 400000 in
theorem isUnit_no (n : Int) (w : World) (h : n < 16 ∨ 16384 < n) :
    Calls Tryd.prog 56 #[.int .i64 n] w fun e w' => e = .returned (.bool false) ∧ w = w' := by
  by_cases h1 : n < 16
  · clear h
    have h2 : decide (16 ≤ n) = false := by simp; omega
    go_enter Tryd.func56, Tryd.ntmps56
    go_wp2
    go_ret
    exact ⟨rfl, rfl⟩
  · have h2 : decide (n ≤ 16384) = false := by simp; omega
    have h3 : 16 ≤ n := by omega
    clear h h1
    go_enter Tryd.func56, Tryd.ntmps56
    go_wp2
    go_ret
    exact ⟨rfl, rfl⟩
set_option maxHeartbeats 1600000 in
theorem scale_isValid_yes (s u : Int) (w : World) (h : suI s u) :
    Calls Tryd.prog 35 #[.agg #[.int .i64 s, .int .i64 u]] w fun e w' => e = .returned (.bool true) ∧ Below w.heap.size w w' := by
  obtain ⟨h3, h4, h5, h6⟩ := h
  go_enter Tryd.func35, Tryd.ntmps35
  go_wp2_with (first | (go_at_call 56; first | (refine (isUnit_yes _ _ (by omega) (by omega)).mono ?_; rintro e w1 ⟨rfl, rfl⟩) | (refine (isUnit_no _ _ (by omega)).mono ?_; rintro e w1 ⟨rfl, rfl⟩)) | (go_at_call 55; first | (refine (isSize_yes _ _ (by omega) (by omega)).mono ?_; rintro e w1 ⟨rfl, rfl⟩) | (refine (isSize_no _ _ (by omega)).mono ?_; rintro e w1 ⟨rfl, rfl⟩)))
  go_ret
  exact ⟨rfl, by repeat' (first | assumption | exact Below.refl _ _ | (refine Below.setCell ?_ ?_ _) | (refine Below.alloc ?_ ?_ _) | (refine below_dr ?_ _) | exact Nat.le_refl _ | (simp; done) | (simp; omega))⟩
set_option maxHeartbeats 1600000 in
theorem scale_isValid_no (s u : Int) (w : World) (h : ¬ suI s u) :
    Calls Tryd.prog 35 #[.agg #[.int .i64 s, .int .i64 u]] w fun e w' => e = .returned (.bool false) ∧ Below w.heap.size w w' := by
  unfold suI at h
  by_cases b : 1 ≤ s ∧ s ≤ 128
  · have c : u < 16 ∨ 16384 < u := by omega
    clear h
    go_enter Tryd.func35, Tryd.ntmps35
    go_wp2_with (first | (go_at_call 56; first | (refine (isUnit_yes _ _ (by omega) (by omega)).mono ?_; rintro e w1 ⟨rfl, rfl⟩) | (refine (isUnit_no _ _ (by omega)).mono ?_; rintro e w1 ⟨rfl, rfl⟩)) | (go_at_call 55; first | (refine (isSize_yes _ _ (by omega) (by omega)).mono ?_; rintro e w1 ⟨rfl, rfl⟩) | (refine (isSize_no _ _ (by omega)).mono ?_; rintro e w1 ⟨rfl, rfl⟩)))
    go_ret
    exact ⟨rfl, by repeat' (first | assumption | exact Below.refl _ _ | (refine Below.setCell ?_ ?_ _) | (refine Below.alloc ?_ ?_ _) | (refine below_dr ?_ _) | exact Nat.le_refl _ | (simp; done) | (simp; omega))⟩
  · have c : s < 1 ∨ 128 < s := by omega
    clear h b
    go_enter Tryd.func35, Tryd.ntmps35
    go_wp2_with (first | (go_at_call 56; first | (refine (isUnit_yes _ _ (by omega) (by omega)).mono ?_; rintro e w1 ⟨rfl, rfl⟩) | (refine (isUnit_no _ _ (by omega)).mono ?_; rintro e w1 ⟨rfl, rfl⟩)) | (go_at_call 55; first | (refine (isSize_yes _ _ (by omega) (by omega)).mono ?_; rintro e w1 ⟨rfl, rfl⟩) | (refine (isSize_no _ _ (by omega)).mono ?_; rintro e w1 ⟨rfl, rfl⟩)))
    go_ret
    exact ⟨rfl, by repeat' (first | assumption | exact Below.refl _ _ | (refine Below.setCell ?_ ?_ _) | (refine Below.alloc ?_ ?_ _) | (refine below_dr ?_ _) | exact Nat.le_refl _ | (simp; done) | (simp; omega))⟩
end Go.Proofs.YtdikenapnncmfaaDoor
