/- Walks: the law on IsKeyword: it returns true. -/
import Derived.Test.YthedimnjbfeaiaaIk
namespace Go.Proofs.Ythedimnjbfeaiaa
open Go.RowKit
set_option maxHeartbeats 400000 in
theorem walk_IsKeyword (s : ByteArray) (hs : s.size ≤ maxLen) (w : World) :
    Calls Try.prog 10 #[.string s] w fun e w' => e = .returned (.bool true) ∧ Below w.heap.size w w' := by
  unfold maxLen at hs
  by_cases hb : 1048576 < s.size
  · go_enter Try.func10, Try.ntmps10
    go_wp2
    go_ret
    exact ⟨rfl, Below.refl _ _⟩
  · generalize hv : kwB s = v
    have C1 := Lib.hid (fun w => specIsKeyword_any s w)
    have C2 := Lib.hid (fun w => implIsKeyword_any s w)
    rw [hv] at C1 C2
    clear hv
    have e_v : (v != v) = false := by simp
    go_enter Try.func10, Try.ntmps10
    go_wp2_with (first | (go_at_call 43; refine (C1.out _).mono ?_; rintro e w1 ⟨rfl, hb1⟩) | (go_at_call 44; refine (C2.out _).mono ?_; rintro e w2 ⟨rfl, hb2⟩; have hz1 := hb1.size))
    go_ret
    exact ⟨rfl, by repeat' (first | with_reducible assumption | with_reducible exact Below.refl _ _ | (with_reducible refine Below.setCell ?_ ?_ _) | (with_reducible refine Below.alloc ?_ ?_ _) | (with_reducible refine Below.drew ?_) | (with_reducible refine below_dr ?_ _) | (with_reducible refine Below.trans ?_ (Below.mono (by with_reducible assumption) ?_)) | omega | (simp; done) | (simp; omega))⟩
end Go.Proofs.Ythedimnjbfeaiaa
