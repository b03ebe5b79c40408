/- The walk of the law on CompareFrac: it returns true. -/
import Derived.Test.YtaphkogdcmnnbabW8
import Derived.Test.YtaphkogdcmnnbabW5
namespace Go.Proofs.Ytaphkogdcmnnbab
open Go.RowKit

set_option maxHeartbeats 4000000 in
theorem walk_CompareFrac (n1 d1 n2 d2 : Int) (wn1 : (Lit.int .i64 n1).wf = true) (wd1 : (Lit.int .i64 d1).wf = true) (wn2 : (Lit.int .i64 n2).wf = true) (wd2 : (Lit.int .i64 d2).wf = true) (w : World) :
    Calls Try.prog 5 #[.agg #[.int .i64 n1, .int .i64 d1], .agg #[.int .i64 n2, .int .i64 d2]] w fun e w' => e = .returned (.bool true) ∧ Below w.heap.size w w' := by
  have h1 := i64_bounds wn1
  have h2 := i64_bounds wd1
  have h3 := i64_bounds wn2
  have h4 := i64_bounds wd2
  have C1 := Lib.hid (fun w => specCompare_any n1 d1 n2 d2 w h1 h2 h3 h4)
  have C2 := Lib.hid (fun w => implCompare_any n1 d1 n2 d2 w h1 h2 h3 h4)
  unfold CmpRet at C1 C2
  generalize (bif (validB n1 d1 && validB n2 d2) then cmpV (n1 * d2) (n2 * d1) else 0) = v at C1 C2
  clear h1 h2 h3 h4 wn1 wd1 wn2 wd2
  have ev : (v != v) = false := by simp
  go_enter Try.func5, Try.ntmps5
  go_wp2_with fail
  generalize hW : (w.alloc (.cells #[.int .i64 n1, .int .i64 d1] 23)).alloc (.cells #[.int .i64 n2, .int .i64 d2] 23) = W0
  have tw0 : Two n1 d1 n2 d2 w W0 := by rw [← hW]; exact Two.start _ _ _ _ _ _ _
  clear hW
  obtain ⟨s1, s2, s3, s4, s6, s5, _⟩ := id tw0
  go_region_held3 (fun w' => w'.cell? ⟨w.heap.size, 0, none⟩ = some (.int .i64 n1) ∧ w'.cell? ⟨w.heap.size, 1, none⟩ = some (.int .i64 d1) ∧ w'.cell? ⟨w.heap.size + 1, 0, none⟩ = some (.int .i64 n2) ∧ w'.cell? ⟨w.heap.size + 1, 1, none⟩ = some (.int .i64 d2) ∧ w.heap.size < w'.heap.size ∧ w.heap.size + 1 < w'.heap.size)
    (first | ((try dsimp only); (repeat' apply And.intro); all_goals (first | assumption | omega | (simp (disch := omega) [*]; done) | (simp; omega))) | fail)
    (first
      | (go_at_call 11; (with_reducible refine (toFrac_any n1 d1 _).mono ?_); rintro e wA ⟨rfl, hbA⟩; obtain ⟨hcA, hfA⟩ := bcell hbA; have hzA := hbA.size; (try simp only [World.size_drew] at hcA hfA hzA))
      | (go_at_call 11; (with_reducible refine (toFrac_any n2 d2 _).mono ?_); rintro e wB ⟨rfl, hbB⟩; obtain ⟨hcB, hfB⟩ := bcell hbB; have hzB := hbB.size; (try simp only [World.size_drew] at hcB hfB hzB))
      | (go_at_call 16; (with_reducible refine (C1.out _).mono ?_); rintro e wC ⟨rfl, hbC⟩; obtain ⟨hcC, hfC⟩ := bcell hbC; have hzC := hbC.size; (try simp only [World.size_drew] at hcC hfC hzC)))
  have tA : Two n1 d1 n2 d2 w wA := tw0.drew.below hbA
  have tB := tA.below hbB
  have tC := tB.below hbC
  clear s1 s2 s3 s4 s5 s6 hcA hfA hzA hcB hfB hzB hcC hfC hzC
  obtain ⟨s1, s2, s3, s4, s6, s5, _⟩ := id tC
  go_wp2_with fail
  go_region_held3 (fun w' => w'.cell? ⟨w.heap.size, 0, none⟩ = some (.int .i64 n1) ∧ w'.cell? ⟨w.heap.size, 1, none⟩ = some (.int .i64 d1) ∧ w'.cell? ⟨w.heap.size + 1, 0, none⟩ = some (.int .i64 n2) ∧ w'.cell? ⟨w.heap.size + 1, 1, none⟩ = some (.int .i64 d2) ∧ w.heap.size < w'.heap.size ∧ w.heap.size + 1 < w'.heap.size)
    (first | ((try dsimp only); (repeat' apply And.intro); all_goals (first | assumption | omega | (simp (disch := omega) [*]; done) | (simp; omega))) | fail)
    (first
      | (go_at_call 11; (with_reducible refine (toFrac_any n1 d1 _).mono ?_); rintro e wD ⟨rfl, hbD⟩; obtain ⟨hcD, hfD⟩ := bcell hbD; have hzD := hbD.size; (try simp only [World.size_drew] at hcD hfD hzD))
      | (go_at_call 11; (with_reducible refine (toFrac_any n2 d2 _).mono ?_); rintro e wE ⟨rfl, hbE⟩; obtain ⟨hcE, hfE⟩ := bcell hbE; have hzE := hbE.size; (try simp only [World.size_drew] at hcE hfE hzE))
      | (go_at_call 17; (with_reducible refine (C2.out _).mono ?_); rintro e wG ⟨rfl, hbG⟩; obtain ⟨hcG, hfG⟩ := bcell hbG; have hzG := hbG.size; (try simp only [World.size_drew] at hcG hfG hzG)))
  have tD := tC.drew.below hbD
  have tE := tD.below hbE
  have tF := tE.below hbG
  go_wp2
  go_ret
  exact ⟨rfl, tF.bel⟩

end Go.Proofs.Ytaphkogdcmnnbab
