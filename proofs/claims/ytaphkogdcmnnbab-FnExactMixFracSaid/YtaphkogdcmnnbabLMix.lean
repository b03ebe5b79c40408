/- The walk of the law on MixFrac: it returns true. -/
import Derived.Test.YtaphkogdcmnnbabW9
namespace Go.Proofs.Ytaphkogdcmnnbab
open Go.RowKit

/-- The boxes of a law's three structs of two integers lie in the first three new blocks. -/
def Three (n1 d1 n2 d2 n3 d3 : Int) (w wx : World) : Prop :=
  At2 w.heap.size n1 d1 wx ∧ At2 (w.heap.size + 1) n2 d2 wx ∧ At2 (w.heap.size + 1 + 1) n3 d3 wx ∧ Below w.heap.size w wx
section
variable {n1 d1 n2 d2 n3 d3 : Int} {w wx wy : World}
theorem Three.start (n1 d1 n2 d2 n3 d3 : Int) (t : TypeId) (w : World) : Three n1 d1 n2 d2 n3 d3 w (((w.alloc (.cells #[.int .i64 n1, .int .i64 d1] t)).alloc (.cells #[.int .i64 n2, .int .i64 d2] t)).alloc (.cells #[.int .i64 n3, .int .i64 d3] t)) :=
  ⟨⟨by simp [go_sem], by simp [go_sem], by simp; omega⟩, ⟨by simp [go_sem], by simp [go_sem], by simp⟩, ⟨by simp [go_sem], by simp [go_sem], by simp⟩, (((Below.refl _ _).alloc (Nat.le_refl _) _).alloc (by simp) _).alloc (by simp; omega) _⟩
theorem Three.lt (h : Three n1 d1 n2 d2 n3 d3 w wx) : w.heap.size + 1 + 1 < wx.heap.size := h.2.2.1.lt
theorem Three.bel (h : Three n1 d1 n2 d2 n3 d3 w wx) : Below w.heap.size w wx := h.2.2.2
theorem Three.below (h : Three n1 d1 n2 d2 n3 d3 w wx) (hb : Below wx.heap.size wx wy) : Three n1 d1 n2 d2 n3 d3 w wy :=
  ⟨h.1.below hb, h.2.1.below hb, h.2.2.1.below hb, h.2.2.2.trans (hb.mono (by have := h.lt; omega))⟩
theorem Three.alloc (h : Three n1 d1 n2 d2 n3 d3 w wx) (o : Obj) : Three n1 d1 n2 d2 n3 d3 w (wx.alloc o) := h.below ((Below.refl _ _).alloc (Nat.le_refl _) o)
theorem Three.drew (h : Three n1 d1 n2 d2 n3 d3 w wx) : Three n1 d1 n2 d2 n3 d3 w wx.drew := ⟨h.1, h.2.1, h.2.2.1, h.2.2.2.drew⟩
theorem Three.store {g : Nat} (h : Three n1 d1 n2 d2 n3 d3 w wx) (hg : w.heap.size + 1 + 1 < g) (u v : Value) : Three n1 d1 n2 d2 n3 d3 w ((wx.setCell ⟨g, 0, none⟩ u).setCell ⟨g, 1, none⟩ v) :=
  ⟨h.1.far (by omega) _ _, h.2.1.far (by omega) _ _, h.2.2.1.far hg _ _, (h.2.2.2.setCell (by show w.heap.size ≤ g; omega) _).setCell (by show w.heap.size ≤ g; omega) _⟩
end
/-- What a region leaves that converts three structs, calls and stores a struct of two integers. -/
def Left3 (n1 d1 n2 d2 n3 d3 a b : Int) (w : World) (v : Value) (wx : World) : Prop := ∃ g, v = .pointer (some ⟨g, 0, none⟩) ∧ Three n1 d1 n2 d2 n3 d3 w wx ∧ At2 g a b wx ∧ w.heap.size + 1 + 1 < g


set_option maxHeartbeats 8000000 in
theorem walk_MixFrac (n1 d1 n2 d2 n3 d3 : Int) (wn1 : (Lit.int .i64 n1).wf = true) (wd1 : (Lit.int .i64 d1).wf = true) (wn2 : (Lit.int .i64 n2).wf = true) (wd2 : (Lit.int .i64 d2).wf = true) (wn3 : (Lit.int .i64 n3).wf = true) (wd3 : (Lit.int .i64 d3).wf = true) (w : World) :
    Calls Try.prog 9 #[.agg #[.int .i64 n1, .int .i64 d1], .agg #[.int .i64 n2, .int .i64 d2], .agg #[.int .i64 n3, .int .i64 d3]] w fun e w' => e = .returned (.bool true) ∧ Below w.heap.size w w' := by
  obtain ⟨a, b, c, c1, c2⟩ := mix_both n1 d1 n2 d2 n3 d3 (i64_bounds wn1) (i64_bounds wd1) (i64_bounds wn2) (i64_bounds wd2) (i64_bounds wn3) (i64_bounds wd3)
  have C1 := Lib.hid c1
  have C2 := Lib.hid c2
  clear c1 c2
  unfold TriRet at C1 C2
  clear wn1 wd1 wn2 wd2 wn3 wd3
  go_enter Try.func9, Try.ntmps9
  go_upto_region 1 with fail
  go_cut [7, 8] (fun s7 s8 wx => Left3 n1 d1 n2 d2 n3 d3 a b w s7 wx ∧ s8 = .int .i64 c)
  case first =>
    generalize hW : ((w.alloc (.cells #[.int .i64 n1, .int .i64 d1] 23)).alloc (.cells #[.int .i64 n2, .int .i64 d2] 23)).alloc (.cells #[.int .i64 n3, .int .i64 d3] 23) = W0
    have tw0 : Three n1 d1 n2 d2 n3 d3 w W0 := by rw [← hW]; exact Three.start _ _ _ _ _ _ _ _
    clear hW
    obtain ⟨⟨s1, s2, s7⟩, ⟨s3, s4, s8⟩, ⟨s5, s6, s9⟩, _⟩ := id tw0
    go_region_held3 (fun w' => w'.cell? ⟨w.heap.size, 0, none⟩ = some (.int .i64 n1) ∧ w'.cell? ⟨w.heap.size, 1, none⟩ = some (.int .i64 d1) ∧ w'.cell? ⟨w.heap.size + 1, 0, none⟩ = some (.int .i64 n2) ∧ w'.cell? ⟨w.heap.size + 1, 1, none⟩ = some (.int .i64 d2) ∧ w'.cell? ⟨w.heap.size + 1 + 1, 0, none⟩ = some (.int .i64 n3) ∧ w'.cell? ⟨w.heap.size + 1 + 1, 1, none⟩ = some (.int .i64 d3) ∧ w.heap.size < w'.heap.size ∧ w.heap.size + 1 < w'.heap.size ∧ w.heap.size + 1 + 1 < w'.heap.size)
      (first | ((try dsimp only); (repeat' apply And.intro); all_goals (first | assumption | omega | (simp (disch := omega) [cell_alloc_at, *]; done) | (simp (disch := omega) [cell_set_at, *]; done) | (rw [cell_set_at _ _ (by omega), cell_set_at _ _ (by omega)]; first | assumption | (simp (disch := omega) [*]; done) | (simp (disch := omega) [cell_alloc_at, *]; done)) | (simp; omega))) | fail)
      (first
        | (go_at_call 11; (with_reducible refine (toFrac_any n1 d1 _).mono ?_); rintro e wA ⟨rfl, hbA⟩; obtain ⟨hcA, hfA⟩ := bcell hbA; have hzA := hbA.size; (try simp only [World.size_drew] at hcA hfA hzA); (try simp only [World.size_alloc] at hcA hfA hzA); (try have qAW0 : W0.heap.size < wA.heap.size := by omega))
        | (go_at_call 11; (with_reducible refine (toFrac_any n2 d2 _).mono ?_); rintro e wB ⟨rfl, hbB⟩; obtain ⟨hcB, hfB⟩ := bcell hbB; have hzB := hbB.size; (try simp only [World.size_drew] at hcB hfB hzB); (try simp only [World.size_alloc] at hcB hfB hzB); (try have qBW0 : W0.heap.size < wB.heap.size := by omega); (try have qBwA : wA.heap.size < wB.heap.size := by omega))
        | (go_at_call 11; (with_reducible refine (toFrac_any n3 d3 _).mono ?_); rintro e wC ⟨rfl, hbC⟩; obtain ⟨hcC, hfC⟩ := bcell hbC; have hzC := hbC.size; (try simp only [World.size_drew] at hcC hfC hzC); (try simp only [World.size_alloc] at hcC hfC hzC); (try have qCW0 : W0.heap.size < wC.heap.size := by omega); (try have qCwA : wA.heap.size < wC.heap.size := by omega); (try have qCwB : wB.heap.size < wC.heap.size := by omega))
        | (go_at_call 24; (with_reducible refine (C1.out _).mono ?_); rintro e wD ⟨rfl, hbD⟩; obtain ⟨hcD, hfD⟩ := bcell hbD; have hzD := hbD.size; (try simp only [World.size_drew] at hcD hfD hzD); (try simp only [World.size_alloc] at hcD hfD hzD); (try have qDW0 : W0.heap.size < wD.heap.size := by omega); (try have qDwA : wA.heap.size < wD.heap.size := by omega); (try have qDwB : wB.heap.size < wD.heap.size := by omega); (try have qDwC : wC.heap.size < wD.heap.size := by omega)))
    all_goals
      have tA : Three n1 d1 n2 d2 n3 d3 w wA := by first | exact tw0.drew.below hbA | exact (tw0.alloc _).drew.below hbA
      have tB : Three n1 d1 n2 d2 n3 d3 w wB := by first | exact tA.below hbB | exact (tA.alloc _).below hbB
      have tC : Three n1 d1 n2 d2 n3 d3 w wC := by first | exact tB.below hbC | exact (tB.alloc _).below hbC
      have tD : Three n1 d1 n2 d2 n3 d3 w wD := by first | exact tC.below hbD | exact (tC.alloc _).below hbD
      go_wp2_with fail
      go_meet
    · exact ⟨⟨_, rfl, tD.alloc _, At2.new _ _ _ _, tD.lt⟩, rfl⟩
    · exact ⟨⟨_, rfl, tD.store tC.lt _ _, ((At2.new wC 0 0 _).below hbD).store, tC.lt⟩, rfl⟩
    · exact ⟨⟨_, rfl, tD.store tB.lt _ _, (((At2.new wB 0 0 _).below hbC).below hbD).store, tB.lt⟩, rfl⟩
    · exact ⟨⟨_, rfl, tD.store tA.lt _ _, ((((At2.new wA 0 0 _).below hbB).below hbC).below hbD).store, tA.lt⟩, rfl⟩
    · exact ⟨⟨_, rfl, tD.store tw0.lt _ _, (((((At2.new W0 0 0 _).drew.below hbA).below hbB).below hbC).below hbD).store, tw0.lt⟩, rfl⟩
  case rest =>
    obtain ⟨⟨g1, rfl, tw0, at1, hg1⟩, rfl⟩ := hcut
    obtain ⟨W0, rfl⟩ : ∃ W : World, W = wc := ⟨_, rfl⟩
    go_upto_region 2 with fail
    go_cut [9, 10] (fun s9 s10 wx => Left3 n1 d1 n2 d2 n3 d3 a b w s9 wx ∧ s10 = .int .i64 c ∧ At2 g1 a b wx)
    case first =>
      obtain ⟨⟨s1, s2, s7⟩, ⟨s3, s4, s8⟩, ⟨s5, s6, s9⟩, _⟩ := id tw0
      go_region_held3 (fun w' => w'.cell? ⟨w.heap.size, 0, none⟩ = some (.int .i64 n1) ∧ w'.cell? ⟨w.heap.size, 1, none⟩ = some (.int .i64 d1) ∧ w'.cell? ⟨w.heap.size + 1, 0, none⟩ = some (.int .i64 n2) ∧ w'.cell? ⟨w.heap.size + 1, 1, none⟩ = some (.int .i64 d2) ∧ w'.cell? ⟨w.heap.size + 1 + 1, 0, none⟩ = some (.int .i64 n3) ∧ w'.cell? ⟨w.heap.size + 1 + 1, 1, none⟩ = some (.int .i64 d3) ∧ w.heap.size < w'.heap.size ∧ w.heap.size + 1 < w'.heap.size ∧ w.heap.size + 1 + 1 < w'.heap.size)
        (first | ((try dsimp only); (repeat' apply And.intro); all_goals (first | assumption | omega | (simp (disch := omega) [cell_alloc_at, *]; done) | (simp (disch := omega) [cell_set_at, *]; done) | (rw [cell_set_at _ _ (by omega), cell_set_at _ _ (by omega)]; first | assumption | (simp (disch := omega) [*]; done) | (simp (disch := omega) [cell_alloc_at, *]; done)) | (simp; omega))) | fail)
        (first
          | (go_at_call 11; (with_reducible refine (toFrac_any n1 d1 _).mono ?_); rintro e wA ⟨rfl, hbA⟩; obtain ⟨hcA, hfA⟩ := bcell hbA; have hzA := hbA.size; (try simp only [World.size_drew] at hcA hfA hzA); (try simp only [World.size_alloc] at hcA hfA hzA); (try have qAW0 : W0.heap.size < wA.heap.size := by omega))
          | (go_at_call 11; (with_reducible refine (toFrac_any n2 d2 _).mono ?_); rintro e wB ⟨rfl, hbB⟩; obtain ⟨hcB, hfB⟩ := bcell hbB; have hzB := hbB.size; (try simp only [World.size_drew] at hcB hfB hzB); (try simp only [World.size_alloc] at hcB hfB hzB); (try have qBW0 : W0.heap.size < wB.heap.size := by omega); (try have qBwA : wA.heap.size < wB.heap.size := by omega))
          | (go_at_call 11; (with_reducible refine (toFrac_any n3 d3 _).mono ?_); rintro e wC ⟨rfl, hbC⟩; obtain ⟨hcC, hfC⟩ := bcell hbC; have hzC := hbC.size; (try simp only [World.size_drew] at hcC hfC hzC); (try simp only [World.size_alloc] at hcC hfC hzC); (try have qCW0 : W0.heap.size < wC.heap.size := by omega); (try have qCwA : wA.heap.size < wC.heap.size := by omega); (try have qCwB : wB.heap.size < wC.heap.size := by omega))
          | (go_at_call 25; (with_reducible refine (C2.out _).mono ?_); rintro e wD ⟨rfl, hbD⟩; obtain ⟨hcD, hfD⟩ := bcell hbD; have hzD := hbD.size; (try simp only [World.size_drew] at hcD hfD hzD); (try simp only [World.size_alloc] at hcD hfD hzD); (try have qDW0 : W0.heap.size < wD.heap.size := by omega); (try have qDwA : wA.heap.size < wD.heap.size := by omega); (try have qDwB : wB.heap.size < wD.heap.size := by omega); (try have qDwC : wC.heap.size < wD.heap.size := by omega)))
      all_goals
        have tA : Three n1 d1 n2 d2 n3 d3 w wA := by first | exact tw0.drew.below hbA | exact (tw0.alloc _).drew.below hbA
        have tB : Three n1 d1 n2 d2 n3 d3 w wB := by first | exact tA.below hbB | exact (tA.alloc _).below hbB
        have tC : Three n1 d1 n2 d2 n3 d3 w wC := by first | exact tB.below hbC | exact (tB.alloc _).below hbC
        have tD : Three n1 d1 n2 d2 n3 d3 w wD := by first | exact tC.below hbD | exact (tC.alloc _).below hbD
        have uA : At2 g1 a b wA := by first | exact at1.drew.below hbA | exact (at1.below ((Below.refl _ _).alloc (Nat.le_refl _) _)).drew.below hbA
        have uB : At2 g1 a b wB := by first | exact uA.below hbB | exact (uA.below ((Below.refl _ _).alloc (Nat.le_refl _) _)).below hbB
        have uC : At2 g1 a b wC := by first | exact uB.below hbC | exact (uB.below ((Below.refl _ _).alloc (Nat.le_refl _) _)).below hbC
        have uD : At2 g1 a b wD := by first | exact uC.below hbD | exact (uC.below ((Below.refl _ _).alloc (Nat.le_refl _) _)).below hbD
        go_wp2_with fail
        go_meet
      · exact ⟨⟨_, rfl, tD.alloc _, At2.new _ _ _ _, tD.lt⟩, rfl, uD.below ((Below.refl _ _).alloc (Nat.le_refl _) _)⟩
      · exact ⟨⟨_, rfl, tD.store tC.lt _ _, ((At2.new wC 0 0 _).below hbD).store, tC.lt⟩, rfl, uD.far uC.lt _ _⟩
      · exact ⟨⟨_, rfl, tD.store tB.lt _ _, (((At2.new wB 0 0 _).below hbC).below hbD).store, tB.lt⟩, rfl, uD.far uB.lt _ _⟩
      · exact ⟨⟨_, rfl, tD.store tA.lt _ _, ((((At2.new wA 0 0 _).below hbB).below hbC).below hbD).store, tA.lt⟩, rfl, uD.far uA.lt _ _⟩
      · exact ⟨⟨_, rfl, tD.store tw0.lt _ _, (((((At2.new W0 0 0 _).drew.below hbA).below hbB).below hbC).below hbD).store, tw0.lt⟩, rfl, uD.far at1.lt _ _⟩
    case rest =>
      obtain ⟨⟨g2, rfl, tw2, at2, hg2⟩, rfl, at3⟩ := hcut
      obtain ⟨k1, k2, k3⟩ := at2
      obtain ⟨k4, k5, k6⟩ := at3
      have e1 : (c != c) = false := by simp
      go_wp2_with fail
      refine (eqFrac_same _ _ _).mono ?_
      rintro e w3 ⟨rfl, hb3⟩
      go_wp2
      go_ret
      exact ⟨rfl, tw2.bel.trans (hb3.mono (by have := tw2.lt; omega))⟩

end Go.Proofs.Ytaphkogdcmnnbab
