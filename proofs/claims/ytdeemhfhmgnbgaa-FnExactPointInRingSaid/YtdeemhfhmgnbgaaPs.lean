/- Walks: signs, on both sides. -/
import Derived.Test.YtdeemhfhmgnbgaaPg
namespace Go.Proofs.Ytdeemhfhmgnbgaa
open Go.RowKit

theorem sgn_p {n : Int} (h : 0 < n) : 1 = sgnI n := by unfold sgnI; rw [if_neg (by omega), if_pos h]
theorem sgn_n {n : Int} (h : n < 0) : -1 = sgnI n := by unfold sgnI; rw [if_pos h]
theorem sgn_0 : 0 = sgnI 0 := by unfold sgnI; rw [if_neg (by omega), if_neg (by omega)]
set_option maxHeartbeats 800000 in
theorem isNaN_any (n : Int) (w : World) : Calls Try.prog 116 #[.int .i64 n] w fun e w' => e = .returned (.bool false) ∧ w = w' := by
  have e1 : (n != n) = false := by simp
  go_enter Try.func116, Try.ntmps116
  go_wp2
  go_ret
  exact ⟨rfl, rfl⟩
set_option maxHeartbeats 800000 in
theorem cmp0_any (n : Int) (w : World) : Calls Try.prog 115 #[.int .i64 n, .int .i64 0] w fun e w' => e = .returned (.int .i64 (sgnI n)) ∧ w = w' := by
  rcases Int.lt_trichotomy n 0 with h | h | h
  · have H := Lib.hid (sgn_n h)
    have h2 : decide (0 < n) = false := by simp; omega
    have e1 : (n != n) = false := by simp
    go_enter Try.func115, Try.ntmps115
    go_wp2_with (go_at_call 116; refine (isNaN_any _ _).mono ?_; rintro e w1 ⟨rfl, rfl⟩)
    go_ret
    exact ⟨ret_i64 H.out, rfl⟩
  · subst h
    have H := Lib.hid sgn_0
    go_enter Try.func115, Try.ntmps115
    go_wp2_with (go_at_call 116; refine (isNaN_any _ _).mono ?_; rintro e w1 ⟨rfl, rfl⟩)
    go_ret
    exact ⟨ret_i64 H.out, rfl⟩
  · have H := Lib.hid (sgn_p h)
    have h2 : decide (n < 0) = false := by simp; omega
    have e1 : (n != n) = false := by simp
    go_enter Try.func115, Try.ntmps115
    go_wp2_with (go_at_call 116; refine (isNaN_any _ _).mono ?_; rintro e w1 ⟨rfl, rfl⟩)
    go_ret
    exact ⟨ret_i64 H.out, rfl⟩
end Go.Proofs.Ytdeemhfhmgnbgaa
