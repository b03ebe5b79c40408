/- Walks: places on segments, directions around a point, on both sides. -/
import Derived.Test.YticgomikfleabaaPe
namespace Go.Proofs.Yticgomikfleabaa
open Go.RowKit

def mnI (a b : Int) : Int := if a < b then a else b
def mxI (a b : Int) : Int := if a < b then b else a
def btwB (a b c : Int) : Bool := decide (mnI a b ≤ c ∧ c ≤ mxI a b)
def boxB (ax ay bx ey px py : Int) : Bool := btwB ax bx px && btwB ay ey py
def onB (ax ay bx ey px py : Int) : Bool := decide (turnI ax ay bx ey px py = 0) && boxB ax ay bx ey px py
def onV (ax ay bx ey px py : Int) : Bool := okB ax ay && okB bx ey && okB px py && onB ax ay bx ey px py
def sgnI (n : Int) : Int := if n < 0 then -1 else if 0 < n then 1 else 0

set_option maxHeartbeats 400000 in
theorem l00Max_any (a b : Int) (w : World) : Calls Try.prog 99 #[.int .i64 a, .int .i64 b] w fun e w' => e = .returned (.int .i64 (mxI a b)) ∧ w = w' := by
  by_cases h : b < a
  · have H := Lib.hid (show a = mxI a b by unfold mxI; rw [if_neg (by omega)])
    go_enter Try.func99, Try.ntmps99
    go_wp2
    go_ret
    exact ⟨ret_i64 H.out, rfl⟩
  · have H := Lib.hid (show b = mxI a b by unfold mxI; split <;> omega)
    have h2 : decide (b < a) = false := by simpa using h
    clear h
    go_enter Try.func99, Try.ntmps99
    go_wp2
    go_ret
    exact ⟨ret_i64 H.out, rfl⟩

theorem btw_yes {a b c : Int} (h1 : mnI a b ≤ c) (h2 : c ≤ mxI a b) : true = btwB a b c := by simp [btwB, *]
theorem btw_no {a b c : Int} (h : c < mnI a b ∨ mxI a b < c) : false = btwB a b c := by simp [btwB]; omega
theorem on_t0 {ax ay bx ey px py : Int} (h : turnI ax ay bx ey px py = 0) : boxB ax ay bx ey px py = onB ax ay bx ey px py := by simp [onB, h]
theorem on_t1 {ax ay bx ey px py : Int} (h : ¬ turnI ax ay bx ey px py = 0) : false = onB ax ay bx ey px py := by simp [onB, h]
theorem onV_f1 {ax ay bx ey px py : Int} (h : okB ax ay = false) : false = onV ax ay bx ey px py := by simp [onV, h]
theorem onV_f2 {ax ay bx ey px py : Int} (h : okB bx ey = false) : false = onV ax ay bx ey px py := by simp [onV, h]
theorem onV_f3 {ax ay bx ey px py : Int} (h : okB px py = false) : false = onV ax ay bx ey px py := by simp [onV, h]
theorem onV_no {ax ay bx ey px py : Int} (h : (okB ax ay && okB bx ey && okB px py) = false) : false = onV ax ay bx ey px py := by simp [onV, h]
theorem onV_is {ax ay bx ey px py : Int} (h1 : okB ax ay = true) (h2 : okB bx ey = true) (h3 : okB px py = true) : onB ax ay bx ey px py = onV ax ay bx ey px py := by simp [onV, *]
theorem on_b1 {ax ay bx ey px py : Int} (h0 : (okB ax ay && okB bx ey && okB px py) = true) (h : turnV ax ay bx ey px py = 0) (hb : btwB ax bx px = true) : btwB ay ey py = onV ax ay bx ey px py := by
  obtain ⟨h1, h2, h3⟩ := and3 h0
  have : turnI ax ay bx ey px py = 0 := by rw [turnV_is h1 h2 h3]; exact h
  simp [onV, onB, boxB, *]
theorem on_b2 {ax ay bx ey px py : Int} (hb : btwB ax bx px = false) : false = onV ax ay bx ey px py := by simp [onV, onB, boxB, hb]
theorem on_b3 {ax ay bx ey px py : Int} (h0 : (okB ax ay && okB bx ey && okB px py) = true) (h : ¬ turnV ax ay bx ey px py = 0) : false = onV ax ay bx ey px py := by
  obtain ⟨h1, h2, h3⟩ := and3 h0
  have : ¬ turnI ax ay bx ey px py = 0 := by rw [turnV_is h1 h2 h3]; exact h
  simp [onV, onB, *]
end Go.Proofs.Yticgomikfleabaa
