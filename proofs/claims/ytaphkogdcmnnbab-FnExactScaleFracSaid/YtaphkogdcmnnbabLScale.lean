/- The walk of the law on ScaleFrac: it returns true. -/
import Derived.Test.YtaphkogdcmnnbabW7
import Derived.Test.YtaphkogdcmnnbabW5
namespace Go.Proofs.Ytaphkogdcmnnbab
open Go.RowKit

set_option maxHeartbeats 1600000 in
theorem walk_ScaleFrac (k n d : Int) (wk : (Lit.int .i64 k).wf = true) (wn : (Lit.int .i64 n).wf = true) (wd : (Lit.int .i64 d).wf = true) (w : World) :
    Calls Try.prog 8 #[.int .i64 k, .agg #[.int .i64 n, .int .i64 d]] w fun e w' => e = .returned (.bool true) ∧ Below w.heap.size w w' := by
  have hk := i64_bounds wk
  have hn := i64_bounds wn
  have hd := i64_bounds wd
  clear wk wn wd
  have C1 := Lib.hid (fun w => specScale_any k n d w hk hn hd)
  have C2 := Lib.hid (fun w => implScale_any k n d w hk hn hd)
  unfold ScRet at C1 C2
  generalize (bif validB n d then (bif decide (-1073741824 ≤ k ∧ k ≤ 1073741824) then near (k * n) d else 0) else 0) = v at C1 C2
  generalize (bif validB n d then (bif decide (-1073741824 ≤ k ∧ k ≤ 1073741824) then (0 : Int) else 2) else 1) = c at C1 C2
  have e1 : (v != v) = false := by simp
  have e2 : (c != c) = false := by simp
  go_enter Try.func8, Try.ntmps8
  go_wp2_with fail
  refine (toFrac_any _ _ _).mono ?_
  rintro e w1 ⟨rfl, hb1⟩
  obtain ⟨hc1, hf1⟩ := bcell hb1
  have hz1 : w.heap.size < w1.heap.size := by have := hb1.size; simp at this; omega
  go_wp2_with fail
  refine (C1.out _).mono ?_
  rintro e w2 ⟨rfl, hb2⟩
  obtain ⟨hc2, hf2⟩ := bcell hb2
  have hz2 : w.heap.size < w2.heap.size := by have := hb2.size; omega
  go_wp2_with fail
  refine (toFrac_any _ _ _).mono ?_
  rintro e w3 ⟨rfl, hb3⟩
  go_wp2_with fail
  refine (C2.out _).mono ?_
  rintro e w4 ⟨rfl, hb4⟩
  go_wp2
  go_ret
  refine ⟨rfl, ?_⟩
  have g1 : Below w.heap.size w w1 := ((Below.refl _ _).alloc (Nat.le_refl _) _).trans (hb1.mono (by simp))
  have g2 := g1.trans (hb2.mono g1.size)
  have g3 := g2.trans (hb3.mono g2.size)
  exact g3.trans (hb4.mono g3.size)

end Go.Proofs.Ytaphkogdcmnnbab
