/- The walk of the law on DivFrac: it returns true. -/
import Derived.Test.YtiljdnfhojpgnabW5
import Derived.Test.YtiljdnfhojpgnabWDiv2
namespace Go.Proofs.Ytiljdnfhojpgnab
open Go.RowKit

set_option maxHeartbeats 4000000 in
theorem walk_DivFrac (n1 d1 n2 d2 : Int) (wn1 : (Lit.int .i64 n1).wf = true) (wd1 : (Lit.int .i64 d1).wf = true) (wn2 : (Lit.int .i64 n2).wf = true) (wd2 : (Lit.int .i64 d2).wf = true) (w : World) :
    Calls Try.prog 13 #[.agg #[.int .i64 n1, .int .i64 d1], .agg #[.int .i64 n2, .int .i64 d2]] w fun e w' => e = .returned (.bool true) ∧ Below w.heap.size w w' := by
  have h1 := i64_bounds wn1
  have h2 := i64_bounds wd1
  have h3 := i64_bounds wn2
  have h4 := i64_bounds wd2
  have C1 := Lib.hid (fun w => specDiv_any n1 d1 n2 d2 w h1 h2 h3 h4)
  have C2 := Lib.hid (fun w => implDiv_any n1 d1 n2 d2 w h1 h2 h3 h4)
  unfold OpRet at C1 C2
  generalize (bif (validB n1 d1 && validB n2 d2) then (divNum n1 d1 n2 d2) else 0) = a at C1 C2
  generalize (bif (validB n1 d1 && validB n2 d2) then (divDen n1 d1 n2 d2) else 0) = b at C1 C2
  generalize (bif (validB n1 d1 && validB n2 d2) then (divCode n1 d1 n2 d2) else 1) = c at C1 C2
  clear h1 h2 h3 h4 wn1 wd1 wn2 wd2
  go_enter Try.func13, Try.ntmps13
  go_upto_region 1 with fail
  go_cut [5, 6] (fun s5 s6 wx => Left2 n1 d1 n2 d2 a b w s5 wx ∧ s6 = .int .i64 c)
  case first =>
    generalize hW : (w.alloc (.cells #[.int .i64 n1, .int .i64 d1] 23)).alloc (.cells #[.int .i64 n2, .int .i64 d2] 23) = W0
    have tw0 : Two n1 d1 n2 d2 w W0 := by rw [← hW]; exact Two.start _ _ _ _ _ _ _
    clear hW
    obtain ⟨s1, s2, s3, s4, s6, s5, _⟩ := id tw0
    go_region_held3 (fun w' => w'.cell? ⟨w.heap.size, 0, none⟩ = some (.int .i64 n1) ∧ w'.cell? ⟨w.heap.size, 1, none⟩ = some (.int .i64 d1) ∧ w'.cell? ⟨w.heap.size + 1, 0, none⟩ = some (.int .i64 n2) ∧ w'.cell? ⟨w.heap.size + 1, 1, none⟩ = some (.int .i64 d2) ∧ w.heap.size < w'.heap.size ∧ w.heap.size + 1 < w'.heap.size)
      (first | ((try dsimp only); (repeat' apply And.intro); all_goals (first | assumption | omega | (simp (disch := omega) [cell_alloc_at, *]; done) | (simp (disch := omega) [cell_set_at, *]; done) | (rw [cell_set_at _ _ (by omega), cell_set_at _ _ (by omega)]; first | assumption | (simp (disch := omega) [*]; done) | (simp (disch := omega) [cell_alloc_at, *]; done)) | (simp; omega))) | fail)
      (first
        | (go_at_call 21; (with_reducible refine (toFrac_any n1 d1 _).mono ?_); rintro e wA ⟨rfl, hbA⟩; obtain ⟨hcA, hfA⟩ := bcell hbA; have hzA := hbA.size; (try simp only [World.size_drew] at hcA hfA hzA); (try simp only [World.size_alloc] at hcA hfA hzA); (try have qAW0 : W0.heap.size < wA.heap.size := by omega))
        | (go_at_call 21; (with_reducible refine (toFrac_any n2 d2 _).mono ?_); rintro e wB ⟨rfl, hbB⟩; obtain ⟨hcB, hfB⟩ := bcell hbB; have hzB := hbB.size; (try simp only [World.size_drew] at hcB hfB hzB); (try simp only [World.size_alloc] at hcB hfB hzB); (try have qBW0 : W0.heap.size < wB.heap.size := by omega); (try have qBwA : wA.heap.size < wB.heap.size := by omega))
        | (go_at_call 40; (with_reducible refine (C1.out _).mono ?_); rintro e wC ⟨rfl, hbC⟩; obtain ⟨hcC, hfC⟩ := bcell hbC; have hzC := hbC.size; (try simp only [World.size_drew] at hcC hfC hzC); (try simp only [World.size_alloc] at hcC hfC hzC); (try have qCW0 : W0.heap.size < wC.heap.size := by omega); (try have qCwA : wA.heap.size < wC.heap.size := by omega); (try have qCwB : wB.heap.size < wC.heap.size := by omega)))
    all_goals
      have tA : Two n1 d1 n2 d2 w wA := by first | exact tw0.drew.below hbA | exact (tw0.alloc _).drew.below hbA
      have tB : Two n1 d1 n2 d2 w wB := by first | exact tA.below hbB | exact (tA.alloc _).below hbB
      have tC : Two n1 d1 n2 d2 w wC := by first | exact tB.below hbC | exact (tB.alloc _).below hbC
      go_wp2_with fail
      go_meet
    · exact ⟨⟨_, rfl, tC.alloc _, At2.new _ _ _ _, tC.lt⟩, rfl⟩
    · exact ⟨⟨_, rfl, tC.store tB.lt _ _, ((At2.new wB 0 0 _).below hbC).store, tB.lt⟩, rfl⟩
    · exact ⟨⟨_, rfl, tC.store tA.lt _ _, (((At2.new wA 0 0 _).below hbB).below hbC).store, tA.lt⟩, rfl⟩
    · exact ⟨⟨_, rfl, tC.store tw0.lt _ _, ((((At2.new W0 0 0 _).drew.below hbA).below hbB).below hbC).store, tw0.lt⟩, rfl⟩
  case rest =>
    obtain ⟨⟨g1, rfl, tw0, at1, hg1⟩, rfl⟩ := hcut
    obtain ⟨W0, rfl⟩ : ∃ W : World, W = wc := ⟨_, rfl⟩
    go_upto_region 2 with fail
    go_cut [7, 8] (fun s7 s8 wx => Left2 n1 d1 n2 d2 a b w s7 wx ∧ s8 = .int .i64 c ∧ At2 g1 a b wx)
    case first =>
      obtain ⟨s1, s2, s3, s4, s6, s5, _⟩ := id tw0
      go_region_held3 (fun w' => w'.cell? ⟨w.heap.size, 0, none⟩ = some (.int .i64 n1) ∧ w'.cell? ⟨w.heap.size, 1, none⟩ = some (.int .i64 d1) ∧ w'.cell? ⟨w.heap.size + 1, 0, none⟩ = some (.int .i64 n2) ∧ w'.cell? ⟨w.heap.size + 1, 1, none⟩ = some (.int .i64 d2) ∧ w.heap.size < w'.heap.size ∧ w.heap.size + 1 < w'.heap.size)
        (first | ((try dsimp only); (repeat' apply And.intro); all_goals (first | assumption | omega | (simp (disch := omega) [cell_alloc_at, *]; done) | (simp (disch := omega) [cell_set_at, *]; done) | (rw [cell_set_at _ _ (by omega), cell_set_at _ _ (by omega)]; first | assumption | (simp (disch := omega) [*]; done) | (simp (disch := omega) [cell_alloc_at, *]; done)) | (simp; omega))) | fail)
        (first
          | (go_at_call 21; (with_reducible refine (toFrac_any n1 d1 _).mono ?_); rintro e wA ⟨rfl, hbA⟩; obtain ⟨hcA, hfA⟩ := bcell hbA; have hzA := hbA.size; (try simp only [World.size_drew] at hcA hfA hzA); (try simp only [World.size_alloc] at hcA hfA hzA); (try have qAW0 : W0.heap.size < wA.heap.size := by omega))
          | (go_at_call 21; (with_reducible refine (toFrac_any n2 d2 _).mono ?_); rintro e wB ⟨rfl, hbB⟩; obtain ⟨hcB, hfB⟩ := bcell hbB; have hzB := hbB.size; (try simp only [World.size_drew] at hcB hfB hzB); (try simp only [World.size_alloc] at hcB hfB hzB); (try have qBW0 : W0.heap.size < wB.heap.size := by omega); (try have qBwA : wA.heap.size < wB.heap.size := by omega))
          | (go_at_call 41; (with_reducible refine (C2.out _).mono ?_); rintro e wC ⟨rfl, hbC⟩; obtain ⟨hcC, hfC⟩ := bcell hbC; have hzC := hbC.size; (try simp only [World.size_drew] at hcC hfC hzC); (try simp only [World.size_alloc] at hcC hfC hzC); (try have qCW0 : W0.heap.size < wC.heap.size := by omega); (try have qCwA : wA.heap.size < wC.heap.size := by omega); (try have qCwB : wB.heap.size < wC.heap.size := by omega)))
      all_goals
        have tA : Two n1 d1 n2 d2 w wA := by first | exact tw0.drew.below hbA | exact (tw0.alloc _).drew.below hbA
        have tB : Two n1 d1 n2 d2 w wB := by first | exact tA.below hbB | exact (tA.alloc _).below hbB
        have tC : Two n1 d1 n2 d2 w wC := by first | exact tB.below hbC | exact (tB.alloc _).below hbC
        have uA : At2 g1 a b wA := by first | exact at1.drew.below hbA | exact (at1.below ((Below.refl _ _).alloc (Nat.le_refl _) _)).drew.below hbA
        have uB : At2 g1 a b wB := by first | exact uA.below hbB | exact (uA.below ((Below.refl _ _).alloc (Nat.le_refl _) _)).below hbB
        have uC : At2 g1 a b wC := by first | exact uB.below hbC | exact (uB.below ((Below.refl _ _).alloc (Nat.le_refl _) _)).below hbC
        go_wp2_with fail
        go_meet
      · exact ⟨⟨_, rfl, tC.alloc _, At2.new _ _ _ _, tC.lt⟩, rfl, uC.below ((Below.refl _ _).alloc (Nat.le_refl _) _)⟩
      · exact ⟨⟨_, rfl, tC.store tB.lt _ _, ((At2.new wB 0 0 _).below hbC).store, tB.lt⟩, rfl, uC.far uB.lt _ _⟩
      · exact ⟨⟨_, rfl, tC.store tA.lt _ _, (((At2.new wA 0 0 _).below hbB).below hbC).store, tA.lt⟩, rfl, uC.far uA.lt _ _⟩
      · exact ⟨⟨_, rfl, tC.store tw0.lt _ _, ((((At2.new W0 0 0 _).drew.below hbA).below hbB).below hbC).store, tw0.lt⟩, rfl, uC.far at1.lt _ _⟩
    case rest =>
      obtain ⟨⟨g2, rfl, tw2, at2, hg2⟩, rfl, at3⟩ := hcut
      obtain ⟨k1, k2, k3⟩ := at2
      obtain ⟨k4, k5, k6⟩ := at3
      have e1 : (c != c) = false := by simp
      go_wp2_with fail
      refine (eqFrac_same _ _ _).mono ?_
      rintro e w3 ⟨rfl, hb3⟩
      go_wp2
      go_ret
      exact ⟨rfl, tw2.bel.trans (hb3.mono (by have := tw2.lt; omega))⟩

end Go.Proofs.Ytiljdnfhojpgnab
