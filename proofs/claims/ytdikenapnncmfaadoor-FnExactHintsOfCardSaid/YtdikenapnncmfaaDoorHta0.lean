/- Walks: valid instructions, on both sides; the law on ValidHint. -/
import Derived.Test.YtdikenapnncmfaaDoorPd
import Derived.Test.YtdikenapnncmfaaDoorAw
namespace Go.Proofs.YtdikenapnncmfaaDoor
open Go.RowKit
set_option linter.unusedVariables false
/-- The bytes of an operand and its limits, by the code. -/
def fmB (c : Int) : Int := if c = 39 ∨ c = 41 ∨ c = 44 then 1 else if c = 40 ∨ c = 42 ∨ c = 43 then 2 else 0
def fmL (c : Int) : Int := if c = 39 then -128 else if c = 40 then -32768 else 0
def fmG (c : Int) : Int := if c = 39 then 127 else if c = 40 then 32767 else if c = 41 then 5 else if c = 42 ∨ c = 43 then 32767 else if c = 44 then 127 else 0
def hvB (c x : Int) : Bool := decide (0 ≤ c ∧ c ≤ 44 ∧ fmL c ≤ x ∧ x ≤ fmG c)
theorem hv_at (c x L G : Int) (hL : fmL c = L) (hG : fmG c = G) (hc : 0 ≤ c ∧ c ≤ 44) : hvB c x = decide (L ≤ x ∧ x ≤ G) := by
  unfold hvB; rw [hL, hG]; simp [hc.1, hc.2]
theorem hv_in {c x L G : Int} (hL : fmL c = L) (hG : fmG c = G) (hc : 0 ≤ c ∧ c ≤ 44) (h1 : L ≤ x) (h2 : x ≤ G) : hvB c x = true := by
  rw [hv_at c x L G hL hG hc]; simp [h1, h2]
theorem hv_out {c x L G : Int} (hL : fmL c = L) (hG : fmG c = G) (h : x < L ∨ G < x) : hvB c x = false := by
  unfold hvB; rw [hL, hG]; simp; omega
theorem hv_code {c x : Int} (h : c < 0 ∨ 44 < c) : hvB c x = false := by
  unfold hvB; simp; omega
theorem ret_b {a b : Bool} (h : a = b) : Ending.returned (.bool a) = .returned (.bool b) := by rw [h]
set_option maxHeartbeats 800000 in
theorem l00In_any (n lo hi : Int) (w : World) :
    Calls Tryd.prog 73 #[.int .i64 n, .int .i64 lo, .int .i64 hi] w fun e w' => e = .returned (.bool (decide (lo ≤ n ∧ n ≤ hi))) ∧ w = w' := by
  by_cases h : lo ≤ n ∧ n ≤ hi
  · rw [show decide (lo ≤ n ∧ n ≤ hi) = true by simp [h]]; exact l00In_yes n lo hi w h.1 h.2
  · rw [show decide (lo ≤ n ∧ n ≤ hi) = false by simp; omega]; exact l00In_no n lo hi w (by omega)
set_option maxHeartbeats 3200000 in
theorem l19Hint_any (c x : Int) (w : World) :
    Calls Tryd.prog 59 #[.agg #[.int .i64 c, .int .i64 x]] w fun e w' => e = .returned (.bool (hvB c x)) ∧ Below w.heap.size w w' := by
  by_cases e39 : c = 39
  · subst e39
    rw [hv_at 39 x (-128) 127 rfl rfl (by omega)]
    have C := Lib.hid (fun w => l00In_any x (-128) 127 w)
    generalize decide (-128 ≤ x ∧ x ≤ 127) = r at C ⊢
    go_enter Tryd.func59, Tryd.ntmps59
    go_wp2_with (go_at_call 73; (with_reducible refine (C.out _).mono ?_); rintro e wq ⟨rfl, rfl⟩)
    go_ret
    exact ⟨rfl, by repeat' (first | assumption | exact Below.refl _ _ | (refine Below.setCell ?_ ?_ _) | (refine Below.alloc ?_ ?_ _) | (refine below_dr ?_ _) | exact Nat.le_refl _ | (simp; done) | (simp; omega))⟩
  have d39 : (c == 39) = false := beq_eq_false_iff_ne.2 e39
  by_cases e40 : c = 40
  · subst e40
    rw [hv_at 40 x (-32768) 32767 rfl rfl (by omega)]
    have C := Lib.hid (fun w => l00In_any x (-32768) 32767 w)
    generalize decide (-32768 ≤ x ∧ x ≤ 32767) = r at C ⊢
    go_enter Tryd.func59, Tryd.ntmps59
    go_wp2_with (go_at_call 73; (with_reducible refine (C.out _).mono ?_); rintro e wq ⟨rfl, rfl⟩)
    go_ret
    exact ⟨rfl, by repeat' (first | assumption | exact Below.refl _ _ | (refine Below.setCell ?_ ?_ _) | (refine Below.alloc ?_ ?_ _) | (refine below_dr ?_ _) | exact Nat.le_refl _ | (simp; done) | (simp; omega))⟩
  have d40 : (c == 40) = false := beq_eq_false_iff_ne.2 e40
  by_cases e41 : c = 41
  · subst e41
    rw [hv_at 41 x (0) 5 rfl rfl (by omega)]
    have C := Lib.hid (fun w => l00In_any x (0) 5 w)
    generalize decide (0 ≤ x ∧ x ≤ 5) = r at C ⊢
    go_enter Tryd.func59, Tryd.ntmps59
    go_wp2_with (go_at_call 73; (with_reducible refine (C.out _).mono ?_); rintro e wq ⟨rfl, rfl⟩)
    go_ret
    exact ⟨rfl, by repeat' (first | assumption | exact Below.refl _ _ | (refine Below.setCell ?_ ?_ _) | (refine Below.alloc ?_ ?_ _) | (refine below_dr ?_ _) | exact Nat.le_refl _ | (simp; done) | (simp; omega))⟩
  have d41 : (c == 41) = false := beq_eq_false_iff_ne.2 e41
  by_cases e42 : c = 42
  · subst e42
    rw [hv_at 42 x (0) 32767 rfl rfl (by omega)]
    have C := Lib.hid (fun w => l00In_any x (0) 32767 w)
    generalize decide (0 ≤ x ∧ x ≤ 32767) = r at C ⊢
    go_enter Tryd.func59, Tryd.ntmps59
    go_wp2_with (go_at_call 73; (with_reducible refine (C.out _).mono ?_); rintro e wq ⟨rfl, rfl⟩)
    go_ret
    exact ⟨rfl, by repeat' (first | assumption | exact Below.refl _ _ | (refine Below.setCell ?_ ?_ _) | (refine Below.alloc ?_ ?_ _) | (refine below_dr ?_ _) | exact Nat.le_refl _ | (simp; done) | (simp; omega))⟩
  have d42 : (c == 42) = false := beq_eq_false_iff_ne.2 e42
  by_cases e43 : c = 43
  · subst e43
    rw [hv_at 43 x (0) 32767 rfl rfl (by omega)]
    have C := Lib.hid (fun w => l00In_any x (0) 32767 w)
    generalize decide (0 ≤ x ∧ x ≤ 32767) = r at C ⊢
    go_enter Tryd.func59, Tryd.ntmps59
    go_wp2_with (go_at_call 73; (with_reducible refine (C.out _).mono ?_); rintro e wq ⟨rfl, rfl⟩)
    go_ret
    exact ⟨rfl, by repeat' (first | assumption | exact Below.refl _ _ | (refine Below.setCell ?_ ?_ _) | (refine Below.alloc ?_ ?_ _) | (refine below_dr ?_ _) | exact Nat.le_refl _ | (simp; done) | (simp; omega))⟩
  have d43 : (c == 43) = false := beq_eq_false_iff_ne.2 e43
  by_cases e44 : c = 44
  · subst e44
    rw [hv_at 44 x (0) 127 rfl rfl (by omega)]
    have C := Lib.hid (fun w => l00In_any x (0) 127 w)
    generalize decide (0 ≤ x ∧ x ≤ 127) = r at C ⊢
    go_enter Tryd.func59, Tryd.ntmps59
    go_wp2_with (go_at_call 73; (with_reducible refine (C.out _).mono ?_); rintro e wq ⟨rfl, rfl⟩)
    go_ret
    exact ⟨rfl, by repeat' (first | assumption | exact Below.refl _ _ | (refine Below.setCell ?_ ?_ _) | (refine Below.alloc ?_ ?_ _) | (refine below_dr ?_ _) | exact Nat.le_refl _ | (simp; done) | (simp; omega))⟩
  have d44 : (c == 44) = false := beq_eq_false_iff_ne.2 e44
  by_cases hc : 0 ≤ c ∧ c ≤ 38
  · rw [hv_at c x 0 0 (by unfold fmL; repeat' split <;> omega) (by unfold fmG; repeat' split <;> omega) (by omega)]
    obtain ⟨c1, c2⟩ := hc
    by_cases hx : x = 0
    · subst hx
      go_enter Tryd.func59, Tryd.ntmps59
      go_wp2_with (go_at_call 73; first | (refine (l00In_yes _ _ _ _ (by omega) (by omega)).mono ?_; rintro e w1 ⟨rfl, rfl⟩) | (refine (l00In_no _ _ _ _ (by omega)).mono ?_; rintro e w1 ⟨rfl, rfl⟩))
      go_ret
      exact ⟨rfl, by repeat' (first | assumption | exact Below.refl _ _ | (refine Below.setCell ?_ ?_ _) | (refine Below.alloc ?_ ?_ _) | (refine below_dr ?_ _) | exact Nat.le_refl _ | (simp; done) | (simp; omega))⟩
    · have dx : (x == 0) = false := beq_eq_false_iff_ne.2 hx
      rw [show decide (0 ≤ x ∧ x ≤ 0) = false by simp; omega]
      go_enter Tryd.func59, Tryd.ntmps59
      go_wp2_with (go_at_call 73; first | (refine (l00In_yes _ _ _ _ (by omega) (by omega)).mono ?_; rintro e w1 ⟨rfl, rfl⟩) | (refine (l00In_no _ _ _ _ (by omega)).mono ?_; rintro e w1 ⟨rfl, rfl⟩))
      go_ret
      exact ⟨rfl, by repeat' (first | assumption | exact Below.refl _ _ | (refine Below.setCell ?_ ?_ _) | (refine Below.alloc ?_ ?_ _) | (refine below_dr ?_ _) | exact Nat.le_refl _ | (simp; done) | (simp; omega))⟩
  · rw [hv_code (c := c) (by omega)]
    have hc2 : c < 0 ∨ 38 < c := by omega
    clear hc
    go_enter Tryd.func59, Tryd.ntmps59
    go_wp2_with (go_at_call 73; first | (refine (l00In_yes _ _ _ _ (by omega) (by omega)).mono ?_; rintro e w1 ⟨rfl, rfl⟩) | (refine (l00In_no _ _ _ _ (by omega)).mono ?_; rintro e w1 ⟨rfl, rfl⟩))
    go_ret
    exact ⟨rfl, by repeat' (first | assumption | exact Below.refl _ _ | (refine Below.setCell ?_ ?_ _) | (refine Below.alloc ?_ ?_ _) | (refine below_dr ?_ _) | exact Nat.le_refl _ | (simp; done) | (simp; omega))⟩
set_option maxHeartbeats 3200000 in
theorem form_any (c x : Int) (w : World) :
    Calls Tryd.prog 60 #[.agg #[.int .i64 c, .int .i64 x]] w fun e w' => e = .returned (.agg #[.int .i64 (fmB c), .int .i64 (fmL c), .int .i64 (fmG c)]) ∧ Below w.heap.size w w' := by
  by_cases e39 : c = 39
  · subst e39
    rw [show fmB 39 = 1 from rfl, show fmL 39 = -128 from rfl, show fmG 39 = 127 from rfl]
    go_enter Tryd.func60, Tryd.ntmps60
    go_wp2
    refine bodyPost_ret (v := .agg #[.int .i64 1, .int .i64 (-128), .int .i64 127]) (by simp [results, Tryd.results60, go_sem, *]) rfl ?_
    exact ⟨rfl, by repeat' (first | assumption | exact Below.refl _ _ | (refine Below.setCell ?_ ?_ _) | (refine Below.alloc ?_ ?_ _) | (refine below_dr ?_ _) | exact Nat.le_refl _ | (simp; done) | (simp; omega))⟩
  have d39 : (c == 39) = false := beq_eq_false_iff_ne.2 e39
  by_cases e40 : c = 40
  · subst e40
    rw [show fmB 40 = 2 from rfl, show fmL 40 = -32768 from rfl, show fmG 40 = 32767 from rfl]
    go_enter Tryd.func60, Tryd.ntmps60
    go_wp2
    refine bodyPost_ret (v := .agg #[.int .i64 2, .int .i64 (-32768), .int .i64 32767]) (by simp [results, Tryd.results60, go_sem, *]) rfl ?_
    exact ⟨rfl, by repeat' (first | assumption | exact Below.refl _ _ | (refine Below.setCell ?_ ?_ _) | (refine Below.alloc ?_ ?_ _) | (refine below_dr ?_ _) | exact Nat.le_refl _ | (simp; done) | (simp; omega))⟩
  have d40 : (c == 40) = false := beq_eq_false_iff_ne.2 e40
  by_cases e41 : c = 41
  · subst e41
    rw [show fmB 41 = 1 from rfl, show fmL 41 = 0 from rfl, show fmG 41 = 5 from rfl]
    go_enter Tryd.func60, Tryd.ntmps60
    go_wp2
    refine bodyPost_ret (v := .agg #[.int .i64 1, .int .i64 (0), .int .i64 5]) (by simp [results, Tryd.results60, go_sem, *]) rfl ?_
    exact ⟨rfl, by repeat' (first | assumption | exact Below.refl _ _ | (refine Below.setCell ?_ ?_ _) | (refine Below.alloc ?_ ?_ _) | (refine below_dr ?_ _) | exact Nat.le_refl _ | (simp; done) | (simp; omega))⟩
  have d41 : (c == 41) = false := beq_eq_false_iff_ne.2 e41
  by_cases e42 : c = 42
  · subst e42
    rw [show fmB 42 = 2 from rfl, show fmL 42 = 0 from rfl, show fmG 42 = 32767 from rfl]
    go_enter Tryd.func60, Tryd.ntmps60
    go_wp2
    refine bodyPost_ret (v := .agg #[.int .i64 2, .int .i64 (0), .int .i64 32767]) (by simp [results, Tryd.results60, go_sem, *]) rfl ?_
    exact ⟨rfl, by repeat' (first | assumption | exact Below.refl _ _ | (refine Below.setCell ?_ ?_ _) | (refine Below.alloc ?_ ?_ _) | (refine below_dr ?_ _) | exact Nat.le_refl _ | (simp; done) | (simp; omega))⟩
  have d42 : (c == 42) = false := beq_eq_false_iff_ne.2 e42
  by_cases e43 : c = 43
  · subst e43
    rw [show fmB 43 = 2 from rfl, show fmL 43 = 0 from rfl, show fmG 43 = 32767 from rfl]
    go_enter Tryd.func60, Tryd.ntmps60
    go_wp2
    refine bodyPost_ret (v := .agg #[.int .i64 2, .int .i64 (0), .int .i64 32767]) (by simp [results, Tryd.results60, go_sem, *]) rfl ?_
    exact ⟨rfl, by repeat' (first | assumption | exact Below.refl _ _ | (refine Below.setCell ?_ ?_ _) | (refine Below.alloc ?_ ?_ _) | (refine below_dr ?_ _) | exact Nat.le_refl _ | (simp; done) | (simp; omega))⟩
  have d43 : (c == 43) = false := beq_eq_false_iff_ne.2 e43
  by_cases e44 : c = 44
  · subst e44
    rw [show fmB 44 = 1 from rfl, show fmL 44 = 0 from rfl, show fmG 44 = 127 from rfl]
    go_enter Tryd.func60, Tryd.ntmps60
    go_wp2
    refine bodyPost_ret (v := .agg #[.int .i64 1, .int .i64 (0), .int .i64 127]) (by simp [results, Tryd.results60, go_sem, *]) rfl ?_
    exact ⟨rfl, by repeat' (first | assumption | exact Below.refl _ _ | (refine Below.setCell ?_ ?_ _) | (refine Below.alloc ?_ ?_ _) | (refine below_dr ?_ _) | exact Nat.le_refl _ | (simp; done) | (simp; omega))⟩
  have d44 : (c == 44) = false := beq_eq_false_iff_ne.2 e44
  rw [show fmB c = 0 by unfold fmB; repeat' split <;> omega, show fmL c = 0 by unfold fmL; repeat' split <;> omega, show fmG c = 0 by unfold fmG; repeat' split <;> omega]
  go_enter Tryd.func60, Tryd.ntmps60
  go_wp2
  refine bodyPost_ret (v := .agg #[.int .i64 0, .int .i64 0, .int .i64 0]) (by simp [results, Tryd.results60, go_sem, *]) rfl ?_
  exact ⟨rfl, by repeat' (first | assumption | exact Below.refl _ _ | (refine Below.setCell ?_ ?_ _) | (refine Below.alloc ?_ ?_ _) | (refine below_dr ?_ _) | exact Nat.le_refl _ | (simp; done) | (simp; omega))⟩
set_option maxHeartbeats 800000 in
theorem isHintCode_yes (c : Int) (w : World) (h : 0 ≤ c ∧ c ≤ 44) :
    Calls Tryd.prog 117 #[.int .i64 c] w fun e w' => e = .returned (.bool true) ∧ Below w.heap.size w w' := by
  obtain ⟨h1, h2⟩ := h
  go_enter Tryd.func117, Tryd.ntmps117
  go_wp2_with (fail)
  go_ret
  exact ⟨rfl, by repeat' (first | assumption | exact Below.refl _ _ | (refine Below.setCell ?_ ?_ _) | (refine Below.alloc ?_ ?_ _) | (refine below_dr ?_ _) | exact Nat.le_refl _ | (simp; done) | (simp; omega))⟩
set_option maxHeartbeats 800000 in
theorem isHintCode_no (c : Int) (w : World) (h : c < 0 ∨ 44 < c) :
    Calls Tryd.prog 117 #[.int .i64 c] w fun e w' => e = .returned (.bool false) ∧ Below w.heap.size w w' := by
  by_cases h1 : 0 ≤ c
  · have h3 : decide (c ≤ 44) = false := by simp; omega
    clear h
    go_enter Tryd.func117, Tryd.ntmps117
    go_wp2_with (fail)
    go_ret
    exact ⟨rfl, by repeat' (first | assumption | exact Below.refl _ _ | (refine Below.setCell ?_ ?_ _) | (refine Below.alloc ?_ ?_ _) | (refine below_dr ?_ _) | exact Nat.le_refl _ | (simp; done) | (simp; omega))⟩
  · have h3 : decide (0 ≤ c) = false := by simp; omega
    clear h
    go_enter Tryd.func117, Tryd.ntmps117
    go_wp2_with (fail)
    go_ret
    exact ⟨rfl, by repeat' (first | assumption | exact Below.refl _ _ | (refine Below.setCell ?_ ?_ _) | (refine Below.alloc ?_ ?_ _) | (refine below_dr ?_ _) | exact Nat.le_refl _ | (simp; done) | (simp; omega))⟩
end Go.Proofs.YtdikenapnncmfaaDoor
