/- Walks: signs, on both sides. -/
import Derived.Test.YtjhboedaaeaomaaPg
namespace Go.Proofs.Ytjhboedaaeaomaa
open Go.RowKit

theorem sgn_p {n : Int} (h : 0 < n) : 1 = sgnI n := by unfold sgnI; rw [if_neg (by omega), if_pos h]
theorem sgn_n {n : Int} (h : n < 0) : -1 = sgnI n := by unfold sgnI; rw [if_pos h]
theorem sgn_0 : 0 = sgnI 0 := by unfold sgnI; rw [if_neg (by omega), if_neg (by omega)]
set_option maxHeartbeats 800000 in
theorem isNaN_any (n : Int) (w : World) : Calls Try.prog 143 #[.int .i64 n] w fun e w' => e = .returned (.bool false) ∧ w = w' := by
  have e1 : (n != n) = false := by simp
  go_enter Try.func143, Try.ntmps143
  go_wp2
  go_ret
  exact ⟨rfl, rfl⟩
set_option maxHeartbeats 800000 in
theorem l03Sign_any (n : Int) (w : World) : Calls Try.prog 120 #[.int .i64 n] w fun e w' => e = .returned (.int .i64 (sgnI n)) ∧ w = w' := by
  rcases Int.lt_trichotomy n 0 with h | h | h
  · have H := Lib.hid (sgn_n h)
    have h2 : decide (0 < n) = false := by simp; omega
    have e1 : (n != n) = false := by simp
    go_enter Try.func120, Try.ntmps120
    go_wp2
    go_ret
    exact ⟨ret_i64 H.out, rfl⟩
  · subst h
    have H := Lib.hid sgn_0
    go_enter Try.func120, Try.ntmps120
    go_wp2
    go_ret
    exact ⟨ret_i64 H.out, rfl⟩
  · have H := Lib.hid (sgn_p h)
    have h2 : decide (n < 0) = false := by simp; omega
    have e1 : (n != n) = false := by simp
    go_enter Try.func120, Try.ntmps120
    go_wp2
    go_ret
    exact ⟨ret_i64 H.out, rfl⟩
set_option maxHeartbeats 800000 in
theorem cmp0_any (n : Int) (w : World) : Calls Try.prog 122 #[.int .i64 n, .int .i64 0] w fun e w' => e = .returned (.int .i64 (sgnI n)) ∧ w = w' := by
  rcases Int.lt_trichotomy n 0 with h | h | h
  · have H := Lib.hid (sgn_n h)
    have h2 : decide (0 < n) = false := by simp; omega
    have e1 : (n != n) = false := by simp
    go_enter Try.func122, Try.ntmps122
    go_wp2_with (go_at_call 143; refine (isNaN_any _ _).mono ?_; rintro e w1 ⟨rfl, rfl⟩)
    go_ret
    exact ⟨ret_i64 H.out, rfl⟩
  · subst h
    have H := Lib.hid sgn_0
    go_enter Try.func122, Try.ntmps122
    go_wp2_with (go_at_call 143; refine (isNaN_any _ _).mono ?_; rintro e w1 ⟨rfl, rfl⟩)
    go_ret
    exact ⟨ret_i64 H.out, rfl⟩
  · have H := Lib.hid (sgn_p h)
    have h2 : decide (n < 0) = false := by simp; omega
    have e1 : (n != n) = false := by simp
    go_enter Try.func122, Try.ntmps122
    go_wp2_with (go_at_call 143; refine (isNaN_any _ _).mono ?_; rintro e w1 ⟨rfl, rfl⟩)
    go_ret
    exact ⟨ret_i64 H.out, rfl⟩
set_option maxHeartbeats 800000 in
theorem sign_any (n : Int) (w : World) : Calls Try.prog 91 #[.int .i64 n] w fun e w' => e = .returned (.int .i64 (sgnI n)) ∧ w = w' := by
  rcases Int.lt_trichotomy n 0 with h | h | h
  · have H := Lib.hid (sgn_n h)
    have h2 : decide (0 < n) = false := by simp; omega
    have e1 : (n != n) = false := by simp
    go_enter Try.func91, Try.ntmps91
    go_wp2_with (go_at_call 122; refine (cmp0_any _ _).mono ?_; rw [← H.out]; rintro e w1 ⟨rfl, rfl⟩)
    go_ret
    exact ⟨ret_i64 H.out, rfl⟩
  · subst h
    have H := Lib.hid sgn_0
    go_enter Try.func91, Try.ntmps91
    go_wp2_with (go_at_call 122; refine (cmp0_any _ _).mono ?_; rw [← H.out]; rintro e w1 ⟨rfl, rfl⟩)
    go_ret
    exact ⟨ret_i64 H.out, rfl⟩
  · have H := Lib.hid (sgn_p h)
    have h2 : decide (n < 0) = false := by simp; omega
    have e1 : (n != n) = false := by simp
    go_enter Try.func91, Try.ntmps91
    go_wp2_with (go_at_call 122; refine (cmp0_any _ _).mono ?_; rw [← H.out]; rintro e w1 ⟨rfl, rfl⟩)
    go_ret
    exact ⟨ret_i64 H.out, rfl⟩
end Go.Proofs.Ytjhboedaaeaomaa
