/- The walk of the law on IsName: it returns true. -/
import Derived.Test.YtaphkogdcmnnbaaW1
namespace Go.Proofs.Ytaphkogdcmnnbaa
open Go.RowKit

set_option maxHeartbeats 400000 in
theorem walk_IsName (s : ByteArray) (hs : s.size ≤ maxLen) (w : World) :
    Calls Try.prog 3 #[.string s] w fun e w' => e = .returned (.bool true) ∧ Below w.heap.size w w' := by
  unfold maxLen at hs
  by_cases hb : 1048576 < s.size
  · go_enter Try.func3, Try.ntmps3
    go_wp2
    go_ret
    exact ⟨rfl, Below.refl _ _⟩
  · generalize hv : nameB s.data.toList = v
    have c1 := fun w => specIsName_any s w (by omega)
    have c2 := fun w => implIsName_any s w (by omega)
    rw [hv] at c1 c2
    have C1 := Lib.hid c1
    have C2 := Lib.hid c2
    clear c1 c2 hv
    cases v
    all_goals
      go_enter Try.func3, Try.ntmps3
      go_wp2_with (first | (go_at_call 12; refine (C1.out _).mono ?_; rintro e w' ⟨rfl, rfl⟩) | (go_at_call 13; refine (C2.out _).mono ?_; rintro e w' ⟨rfl, rfl⟩))
      go_ret
      exact ⟨rfl, Below.refl _ _⟩

end Go.Proofs.Ytaphkogdcmnnbaa
