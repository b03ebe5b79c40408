/- Walks: greatest and least, the reference's side, the reference's side. -/
import Derived.Test.YtkhpmmclknonbaaEa
import Derived.Test.YtkhpmmclknonbaaBl
import Derived.Deep.RegionHeld3
import Derived.Deep.QuietTactic
import Derived.BigQuiet
namespace Go.Proofs.Ytkhpmmclknonbaa
open Go.RowKit
set_option linter.unusedVariables false
theorem mx_is1 {a b : Int} (h : b < a) : mxI a b = a := by unfold mxI; rw [if_neg (by omega)]
theorem mx_is2 {a b : Int} (h : ¬ b < a) : mxI a b = b := by unfold mxI; split <;> omega
theorem mn_is1 {a b : Int} (h : a < b) : mnI a b = a := by unfold mnI; rw [if_pos h]
theorem mn_is2 {a b : Int} (h : ¬ a < b) : mnI a b = b := by unfold mnI; rw [if_neg h]
set_option maxHeartbeats 800000 in
theorem l00MaxQ_any (a b : Int) (w : World) : Calls Try.prog 108 #[.int .i64 a, .int .i64 b] w fun e w' => e = .returned (.int .i64 (mxI a b)) ∧ w = w' := by
  by_cases h : b < a
  · have H := Lib.hid (mx_is1 h)
    have d := decide_eq_true h
    clear h
    go_enter Try.func108, Try.ntmps108
    go_wp2
    go_ret
    exact ⟨ret_i64 H.out.symm, rfl⟩
  · have H := Lib.hid (mx_is2 h)
    have d := decide_eq_false h
    clear h
    go_enter Try.func108, Try.ntmps108
    go_wp2
    go_ret
    exact ⟨ret_i64 H.out.symm, rfl⟩
set_option maxHeartbeats 800000 in
theorem l00MinQ_any (a b : Int) (w : World) : Calls Try.prog 109 #[.int .i64 a, .int .i64 b] w fun e w' => e = .returned (.int .i64 (mnI a b)) ∧ w = w' := by
  by_cases h : a < b
  · have H := Lib.hid (mn_is1 h)
    have d := decide_eq_true h
    clear h
    go_enter Try.func109, Try.ntmps109
    go_wp2
    go_ret
    exact ⟨ret_i64 H.out.symm, rfl⟩
  · have H := Lib.hid (mn_is2 h)
    have d := decide_eq_false h
    clear h
    go_enter Try.func109, Try.ntmps109
    go_wp2
    go_ret
    exact ⟨ret_i64 H.out.symm, rfl⟩
end Go.Proofs.Ytkhpmmclknonbaa
