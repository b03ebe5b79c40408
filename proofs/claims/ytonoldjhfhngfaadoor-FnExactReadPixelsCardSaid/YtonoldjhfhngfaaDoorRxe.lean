/- The law on ReadPixels: it returns true. -/
import Derived.Test.YtonoldjhfhngfaaDoorRxd
namespace Go.Proofs.YtonoldjhfhngfaaDoor
open Go.RowKit
set_option maxRecDepth 100000 in
set_option maxHeartbeats 1600000 in
theorem walk_ReadPixels (s : ByteArray) (w : World) (hT : Tabs w) (hM : MaxIs w) :
    Calls Tryd.prog 3 #[.string s] w fun e w' => e = .returned (.bool true) ∧ Below w.heap.size w w' := by
  by_cases hs : 1048576 < s.size
  · clear hT hM
    go_enter Tryd.func3, Tryd.ntmps3
    go_wp2
    go_ret
    exact ⟨rfl, Below.refl _ _⟩
  · have C1 := Lib.hid (fun w => specReadPixels_any s w (by omega))
    have C2 := Lib.hid (fun w1 (hb : Below w.heap.size w w1) => implReadPixels_any s w1 (by omega) (hT.stay hb) (hM.stay hb))
    clear hT hM
    go_enter Tryd.func3, Tryd.ntmps3
    go_wp2_with fail
    refine (C1.out _).mono ?_
    rintro e w1 ⟨n1, b1, rfl, hR1, hb1⟩
    go_wp2_with fail
    refine (C2.out _ hb1).mono ?_
    rintro e w2 ⟨n2, b2, rfl, hR2, hb2⟩
    obtain ⟨rfl, rfl⟩ := Rp_same hR1 hR2
    have e1 : (b1 != b1) = false := by simp
    have e2 : (n1 != n1) = false := by simp
    have hz := hb1.size
    clear hR1 hR2
    go_wp2
    go_ret
    exact ⟨rfl, hb1.trans (hb2.mono hz)⟩
end Go.Proofs.YtonoldjhfhngfaaDoor
