/- Walks: directions around a point, on both sides. -/
import Derived.Test.YtiljdnfhojpgnaaPg
namespace Go.Proofs.Ytiljdnfhojpgnaa
open Go.RowKit

theorem sgn_p {n : Int} (h : 0 < n) : 1 = sgnI n := by unfold sgnI; rw [if_neg (by omega), if_pos h]
theorem sgn_n {n : Int} (h : n < 0) : -1 = sgnI n := by unfold sgnI; rw [if_pos h]
theorem sgn_0 : 0 = sgnI 0 := by unfold sgnI; rw [if_neg (by omega), if_neg (by omega)]
set_option maxHeartbeats 800000 in
theorem isNaN_any (n : Int) (w : World) : Calls Try.prog 82 #[.int .i64 n] w fun e w' => e = .returned (.bool false) ∧ w = w' := by
  have e1 : (n != n) = false := by simp
  go_enter Try.func82, Try.ntmps82
  go_wp2
  go_ret
  exact ⟨rfl, rfl⟩
set_option maxHeartbeats 800000 in
theorem l03Sign_any (n : Int) (w : World) : Calls Try.prog 69 #[.int .i64 n] w fun e w' => e = .returned (.int .i64 (sgnI n)) ∧ w = w' := by
  rcases Int.lt_trichotomy n 0 with h | h | h
  · have H := Lib.hid (sgn_n h)
    have h2 : decide (0 < n) = false := by simp; omega
    have e1 : (n != n) = false := by simp
    go_enter Try.func69, Try.ntmps69
    go_wp2
    go_ret
    exact ⟨ret_i64 H.out, rfl⟩
  · subst h
    have H := Lib.hid sgn_0
    go_enter Try.func69, Try.ntmps69
    go_wp2
    go_ret
    exact ⟨ret_i64 H.out, rfl⟩
  · have H := Lib.hid (sgn_p h)
    have h2 : decide (n < 0) = false := by simp; omega
    have e1 : (n != n) = false := by simp
    go_enter Try.func69, Try.ntmps69
    go_wp2
    go_ret
    exact ⟨ret_i64 H.out, rfl⟩
set_option maxHeartbeats 800000 in
theorem cmp0_any (n : Int) (w : World) : Calls Try.prog 70 #[.int .i64 n, .int .i64 0] w fun e w' => e = .returned (.int .i64 (sgnI n)) ∧ w = w' := by
  rcases Int.lt_trichotomy n 0 with h | h | h
  · have H := Lib.hid (sgn_n h)
    have h2 : decide (0 < n) = false := by simp; omega
    have e1 : (n != n) = false := by simp
    go_enter Try.func70, Try.ntmps70
    go_wp2_with (go_at_call 82; refine (isNaN_any _ _).mono ?_; rintro e w1 ⟨rfl, rfl⟩)
    go_ret
    exact ⟨ret_i64 H.out, rfl⟩
  · subst h
    have H := Lib.hid sgn_0
    go_enter Try.func70, Try.ntmps70
    go_wp2_with (go_at_call 82; refine (isNaN_any _ _).mono ?_; rintro e w1 ⟨rfl, rfl⟩)
    go_ret
    exact ⟨ret_i64 H.out, rfl⟩
  · have H := Lib.hid (sgn_p h)
    have h2 : decide (n < 0) = false := by simp; omega
    have e1 : (n != n) = false := by simp
    go_enter Try.func70, Try.ntmps70
    go_wp2_with (go_at_call 82; refine (isNaN_any _ _).mono ?_; rintro e w1 ⟨rfl, rfl⟩)
    go_ret
    exact ⟨ret_i64 H.out, rfl⟩
set_option maxHeartbeats 800000 in
theorem sign_any (n : Int) (w : World) : Calls Try.prog 51 #[.int .i64 n] w fun e w' => e = .returned (.int .i64 (sgnI n)) ∧ w = w' := by
  rcases Int.lt_trichotomy n 0 with h | h | h
  · have H := Lib.hid (sgn_n h)
    have h2 : decide (0 < n) = false := by simp; omega
    have e1 : (n != n) = false := by simp
    go_enter Try.func51, Try.ntmps51
    go_wp2_with (go_at_call 70; refine (cmp0_any _ _).mono ?_; rw [← H.out]; rintro e w1 ⟨rfl, rfl⟩)
    go_ret
    exact ⟨ret_i64 H.out, rfl⟩
  · subst h
    have H := Lib.hid sgn_0
    go_enter Try.func51, Try.ntmps51
    go_wp2_with (go_at_call 70; refine (cmp0_any _ _).mono ?_; rw [← H.out]; rintro e w1 ⟨rfl, rfl⟩)
    go_ret
    exact ⟨ret_i64 H.out, rfl⟩
  · have H := Lib.hid (sgn_p h)
    have h2 : decide (n < 0) = false := by simp; omega
    have e1 : (n != n) = false := by simp
    go_enter Try.func51, Try.ntmps51
    go_wp2_with (go_at_call 70; refine (cmp0_any _ _).mono ?_; rw [← H.out]; rintro e w1 ⟨rfl, rfl⟩)
    go_ret
    exact ⟨ret_i64 H.out, rfl⟩
def halfI (ox oy ax ay : Int) : Int := if oy < ay ∨ (ay = oy ∧ ox < ax) then 0 else 1
def lowB (x y : Int) : Bool := decide (y < 0) || (decide (y = 0) && decide (x < 0))
set_option maxHeartbeats 800000 in
theorem l03Half_any (ox oy ax ay : Int) (w : World) : Calls Try.prog 75 #[.agg #[.int .i64 ox, .int .i64 oy], .agg #[.int .i64 ax, .int .i64 ay]] w fun e w' => e = .returned (.int .i64 (halfI ox oy ax ay)) ∧ Below w.heap.size w w' := by
  rcases Int.lt_trichotomy ay oy with h | h | h
  · have H := Lib.hid (show 1 = halfI ox oy ax ay by unfold halfI; rw [if_neg (by omega)])
    have h2 : decide (oy < ay) = false := by simp; omega
    have h3 : (ay == oy) = false := by simp; omega
    go_enter Try.func75, Try.ntmps75
    go_wp2
    go_ret
    exact ⟨ret_i64 H.out, by repeat' (first | assumption | exact Below.refl _ _ | (refine Below.setCell ?_ ?_ _) | (refine Below.alloc ?_ ?_ _) | (refine below_dr ?_ _) | exact Nat.le_refl _ | (simp; done) | (simp; omega))⟩
  · subst h
    by_cases hx : ox < ax
    · have H := Lib.hid (show 0 = halfI ox ay ax ay by unfold halfI; rw [if_pos (by omega)])
      have h2 : decide (ay < ay) = false := by simp
      have h3 : (ay == ay) = true := by simp
      go_enter Try.func75, Try.ntmps75
      go_wp2
      go_ret
      exact ⟨ret_i64 H.out, by repeat' (first | assumption | exact Below.refl _ _ | (refine Below.setCell ?_ ?_ _) | (refine Below.alloc ?_ ?_ _) | (refine below_dr ?_ _) | exact Nat.le_refl _ | (simp; done) | (simp; omega))⟩
    · have H := Lib.hid (show 1 = halfI ox ay ax ay by unfold halfI; rw [if_neg (by omega)])
      have h2 : decide (ay < ay) = false := by simp
      have h3 : (ay == ay) = true := by simp
      have h4 : decide (ox < ax) = false := by simpa using hx
      clear hx
      go_enter Try.func75, Try.ntmps75
      go_wp2
      go_ret
      exact ⟨ret_i64 H.out, by repeat' (first | assumption | exact Below.refl _ _ | (refine Below.setCell ?_ ?_ _) | (refine Below.alloc ?_ ?_ _) | (refine below_dr ?_ _) | exact Nat.le_refl _ | (simp; done) | (simp; omega))⟩
  · have H := Lib.hid (show 0 = halfI ox oy ax ay by unfold halfI; rw [if_pos (by omega)])
    go_enter Try.func75, Try.ntmps75
    go_wp2
    go_ret
    exact ⟨ret_i64 H.out, by repeat' (first | assumption | exact Below.refl _ _ | (refine Below.setCell ?_ ?_ _) | (refine Below.alloc ?_ ?_ _) | (refine below_dr ?_ _) | exact Nat.le_refl _ | (simp; done) | (simp; omega))⟩
set_option maxHeartbeats 800000 in
theorem low_any (x y : Int) (w : World) : Calls Try.prog 62 #[.agg #[.int .i64 x, .int .i64 y]] w fun e w' => e = .returned (.bool (lowB x y)) ∧ Below w.heap.size w w' := by
  rcases Int.lt_trichotomy y 0 with h | h | h
  · have H := Lib.hid (show true = lowB x y by simp [lowB, h])
    go_enter Try.func62, Try.ntmps62
    go_wp2
    go_ret
    exact ⟨ret_bool H.out, by repeat' (first | assumption | exact Below.refl _ _ | (refine Below.setCell ?_ ?_ _) | (refine Below.alloc ?_ ?_ _) | (refine below_dr ?_ _) | exact Nat.le_refl _ | (simp; done) | (simp; omega))⟩
  · subst h
    by_cases hx : x < 0
    · have H := Lib.hid (show true = lowB x 0 by simp [lowB, hx])
      go_enter Try.func62, Try.ntmps62
      go_wp2
      go_ret
      exact ⟨ret_bool H.out, by repeat' (first | assumption | exact Below.refl _ _ | (refine Below.setCell ?_ ?_ _) | (refine Below.alloc ?_ ?_ _) | (refine below_dr ?_ _) | exact Nat.le_refl _ | (simp; done) | (simp; omega))⟩
    · have H := Lib.hid (show false = lowB x 0 by simp [lowB]; omega)
      have h4 : decide (x < 0) = false := by simpa using hx
      clear hx
      go_enter Try.func62, Try.ntmps62
      go_wp2
      go_ret
      exact ⟨ret_bool H.out, by repeat' (first | assumption | exact Below.refl _ _ | (refine Below.setCell ?_ ?_ _) | (refine Below.alloc ?_ ?_ _) | (refine below_dr ?_ _) | exact Nat.le_refl _ | (simp; done) | (simp; omega))⟩
  · have H := Lib.hid (show false = lowB x y by simp [lowB]; omega)
    have h2 : decide (y < 0) = false := by simp; omega
    have h3 : (y == 0) = false := by simp; omega
    go_enter Try.func62, Try.ntmps62
    go_wp2
    go_ret
    exact ⟨ret_bool H.out, by repeat' (first | assumption | exact Below.refl _ _ | (refine Below.setCell ?_ ?_ _) | (refine Below.alloc ?_ ?_ _) | (refine below_dr ?_ _) | exact Nat.le_refl _ | (simp; done) | (simp; omega))⟩
end Go.Proofs.Ytiljdnfhojpgnaa
