/- The walks of the laws on ValidPt, DivRound, Turn, DistSq, MidPt: they return true. -/
import Derived.Test.YtcjjmkkphbeoeaaPe
namespace Go.Proofs.Ytcjjmkkphbeoeaa
open Go.RowKit
set_option maxHeartbeats 4000000 in
theorem walk_MidPt (ax ay bx ey : Int) (w_ax : (Lit.int .i64 ax).wf = true) (w_ay : (Lit.int .i64 ay).wf = true) (w_bx : (Lit.int .i64 bx).wf = true) (w_ey : (Lit.int .i64 ey).wf = true) (w : World) :
    Calls Try.prog 3 #[.agg #[.int .i64 ax, .int .i64 ay], .agg #[.int .i64 bx, .int .i64 ey]] w fun e w' => e = .returned (.bool true) ∧ Below w.heap.size w w' := by
  have i_ax := i64_bounds w_ax
  have i_ay := i64_bounds w_ay
  have i_bx := i64_bounds w_bx
  have i_ey := i64_bounds w_ey
  have C1 := Lib.hid (fun w => specMidPt_any ax ay bx ey w)
  have C2 := Lib.hid (fun w => implMidPt_any ax ay bx ey w)
  unfold MidRet at C1 C2
  generalize midX ax ay bx ey = u at C1 C2
  generalize midY ax ay bx ey = v at C1 C2
  generalize midC ax ay bx ey = c at C1 C2
  clear i_ax w_ax i_ay w_ay i_bx w_bx i_ey w_ey
  have e_u : (u != u) = false := by simp
  have e_v : (v != v) = false := by simp
  have e_c : (c != c) = false := by simp
  go_enter Try.func3, Try.ntmps3
  go_upto_region 1 with fail
  go_cut [5, 6] (fun sA sB wx => LeftP [.int .i64 u, .int .i64 v] sA wx ∧ sB = .int .i64 c ∧ Below w.heap.size w wx ∧ AtL (w.heap.size) [.int .i64 ax, .int .i64 ay] wx ∧ AtL (w.heap.size + 1) [.int .i64 bx, .int .i64 ey] wx)
  case first =>
    generalize hW : ((w.alloc (.cells #[.int .i64 ax, .int .i64 ay] 23)).alloc (.cells #[.int .i64 bx, .int .i64 ey] 23)) = W0
    have g0 : Below w.heap.size w W0 := by rw [← hW]; repeat' (first | assumption | exact Below.refl _ _ | (refine Below.setCell ?_ ?_ _) | (refine Below.alloc ?_ ?_ _) | (refine below_dr ?_ _) | exact Nat.le_refl _ | (simp; done) | (simp; omega))
    have s1 : W0.cell? ⟨w.heap.size, 0, none⟩ = some (.int .i64 ax) := by rw [← hW]; simp [go_sem]
    have s2 : W0.cell? ⟨w.heap.size, 1, none⟩ = some (.int .i64 ay) := by rw [← hW]; simp [go_sem]
    have s3 : W0.cell? ⟨w.heap.size + 1, 0, none⟩ = some (.int .i64 bx) := by rw [← hW]; simp [go_sem]
    have s4 : W0.cell? ⟨w.heap.size + 1, 1, none⟩ = some (.int .i64 ey) := by rw [← hW]; simp [go_sem]
    have sz : w.heap.size + 1 < W0.heap.size := by rw [← hW]; simp
    clear hW
    have zz0 : w.heap.size < W0.heap.size := by omega
    have bx0 : AtL (w.heap.size) [.int .i64 ax, .int .i64 ay] W0 := ⟨fun i v hv => by
      match i, hv with
      | 0, hv => exact (Option.some.inj hv) ▸ s1
      | 1, hv => exact (Option.some.inj hv) ▸ s2
      , zz0⟩
    have zz1 : w.heap.size + 1 < W0.heap.size := by omega
    have bx1 : AtL (w.heap.size + 1) [.int .i64 bx, .int .i64 ey] W0 := ⟨fun i v hv => by
      match i, hv with
      | 0, hv => exact (Option.some.inj hv) ▸ s3
      | 1, hv => exact (Option.some.inj hv) ▸ s4
      , zz1⟩
    go_region_held3 (fun w' => w'.cell? ⟨w.heap.size, 0, none⟩ = some (.int .i64 ax) ∧ w'.cell? ⟨w.heap.size, 1, none⟩ = some (.int .i64 ay) ∧ w'.cell? ⟨w.heap.size + 1, 0, none⟩ = some (.int .i64 bx) ∧ w'.cell? ⟨w.heap.size + 1, 1, none⟩ = some (.int .i64 ey) ∧ w.heap.size + 1 < w'.heap.size)
      (first | ((try dsimp only); (repeat' apply And.intro); all_goals (first | assumption | omega | (simp (disch := first | omega | (simp; omega)) [*]; done) | (simp (disch := first | omega | (simp; omega)) [cell_alloc_at, *]; done) | (rw [cell_set_at _ _ (by first | omega | (simp; omega)), cell_set_at _ _ (by first | omega | (simp; omega))]; first | assumption | (simp (disch := first | omega | (simp; omega)) [*]; done) | (simp (disch := first | omega | (simp; omega)) [cell_alloc_at, *]; done)) | (simp; omega))) | fail)
      (first
        | (go_at_call 10; (with_reducible refine (toPt_any ax ay _).mono ?_); rintro e wA0 ⟨rfl, hbwA0⟩; obtain ⟨hcwA0, hfwA0⟩ := bcell hbwA0; have hzwA0 := hbwA0.size; (try simp only [World.size_drew] at hcwA0 hfwA0 hzwA0); (try simp only [World.size_alloc] at hcwA0 hfwA0 hzwA0); (try have qW0wA0 : W0.heap.size < wA0.heap.size := (by omega)))
        | (go_at_call 10; (with_reducible refine (toPt_any bx ey _).mono ?_); rintro e wA1 ⟨rfl, hbwA1⟩; obtain ⟨hcwA1, hfwA1⟩ := bcell hbwA1; have hzwA1 := hbwA1.size; (try simp only [World.size_drew] at hcwA1 hfwA1 hzwA1); (try simp only [World.size_alloc] at hcwA1 hfwA1 hzwA1); (try have qW0wA1 : W0.heap.size < wA1.heap.size := (by omega)); (try have qwA0wA1 : wA0.heap.size < wA1.heap.size := (by omega)))
        | (go_at_call 9; ((with_reducible refine (C1.out _).mono ?_); rintro e wC ⟨rfl, hbwC⟩; obtain ⟨hcwC, hfwC⟩ := bcell hbwC; have hzwC := hbwC.size; (try simp only [World.size_drew] at hcwC hfwC hzwC); (try simp only [World.size_alloc] at hcwC hfwC hzwC); (try have qW0wC : W0.heap.size < wC.heap.size := (by omega)); (try have qwA0wC : wA0.heap.size < wC.heap.size := (by omega)); (try have qwA1wC : wA1.heap.size < wC.heap.size := (by omega)))))
    all_goals
      go_wp2_with fail
      go_meet
    all_goals exact ⟨⟨_, rfl, by repeat' (first | with_reducible assumption | with_reducible exact AtL.new _ _ _ | (with_reducible refine AtL.drew ?_) | (with_reducible apply AtL.store2) | (with_reducible refine AtL.alloc ?_ _) | (with_reducible refine AtL.far ?_ ?_ _ _) | (with_reducible refine AtL.below ?_ (by with_reducible assumption)) | omega | (simp; done) | (simp; omega))⟩, rfl, by repeat' (first | with_reducible assumption | with_reducible exact Below.refl _ _ | (with_reducible refine Below.setCell ?_ ?_ _) | (with_reducible refine Below.alloc ?_ ?_ _) | (with_reducible refine Below.drew ?_) | (with_reducible refine below_dr ?_ _) | (with_reducible refine Below.trans ?_ (Below.mono (by with_reducible assumption) ?_)) | omega | (simp; done) | (simp; omega)), by repeat' (first | with_reducible assumption | with_reducible exact AtL.new _ _ _ | (with_reducible refine AtL.drew ?_) | (with_reducible apply AtL.store2) | (with_reducible refine AtL.alloc ?_ _) | (with_reducible refine AtL.far ?_ ?_ _ _) | (with_reducible refine AtL.below ?_ (by with_reducible assumption)) | omega | (simp; done) | (simp; omega)), by repeat' (first | with_reducible assumption | with_reducible exact AtL.new _ _ _ | (with_reducible refine AtL.drew ?_) | (with_reducible apply AtL.store2) | (with_reducible refine AtL.alloc ?_ _) | (with_reducible refine AtL.far ?_ ?_ _ _) | (with_reducible refine AtL.below ?_ (by with_reducible assumption)) | omega | (simp; done) | (simp; omega))⟩
  case rest =>
    obtain ⟨⟨g1, rfl, at1⟩, rfl, bel1, bx0, bx1⟩ := hcut
    obtain ⟨W0, rfl⟩ : ∃ W : World, W = wc := ⟨_, rfl⟩
    have lt1 := at1.lt
    have s1 := bx0.cell 0 rfl
    have s2 := bx0.cell 1 rfl
    have s3 := bx1.cell 0 rfl
    have s4 := bx1.cell 1 rfl
    have sz := bx1.lt
    have zz0 := bx0.lt
    have zz1 := bx1.lt
    go_upto_region 2 with fail
    go_cut [7, 8] (fun sA sB wx => LeftP [.int .i64 u, .int .i64 v] sA wx ∧ sB = .int .i64 c ∧ Below w.heap.size w wx ∧ AtL (w.heap.size) [.int .i64 ax, .int .i64 ay] wx ∧ AtL (w.heap.size + 1) [.int .i64 bx, .int .i64 ey] wx ∧ AtL g1 [.int .i64 u, .int .i64 v] wx)
    case first =>
      go_region_held3 (fun w' => w'.cell? ⟨w.heap.size, 0, none⟩ = some (.int .i64 ax) ∧ w'.cell? ⟨w.heap.size, 1, none⟩ = some (.int .i64 ay) ∧ w'.cell? ⟨w.heap.size + 1, 0, none⟩ = some (.int .i64 bx) ∧ w'.cell? ⟨w.heap.size + 1, 1, none⟩ = some (.int .i64 ey) ∧ w.heap.size + 1 < w'.heap.size)
        (first | ((try dsimp only); (repeat' apply And.intro); all_goals (first | assumption | omega | (simp (disch := first | omega | (simp; omega)) [*]; done) | (simp (disch := first | omega | (simp; omega)) [cell_alloc_at, *]; done) | (rw [cell_set_at _ _ (by first | omega | (simp; omega)), cell_set_at _ _ (by first | omega | (simp; omega))]; first | assumption | (simp (disch := first | omega | (simp; omega)) [*]; done) | (simp (disch := first | omega | (simp; omega)) [cell_alloc_at, *]; done)) | (simp; omega))) | fail)
        (first
          | (go_at_call 10; (with_reducible refine (toPt_any ax ay _).mono ?_); rintro e wA0 ⟨rfl, hbwA0⟩; obtain ⟨hcwA0, hfwA0⟩ := bcell hbwA0; have hzwA0 := hbwA0.size; (try simp only [World.size_drew] at hcwA0 hfwA0 hzwA0); (try simp only [World.size_alloc] at hcwA0 hfwA0 hzwA0); (try have qW0wA0 : W0.heap.size < wA0.heap.size := (by omega)))
          | (go_at_call 10; (with_reducible refine (toPt_any bx ey _).mono ?_); rintro e wA1 ⟨rfl, hbwA1⟩; obtain ⟨hcwA1, hfwA1⟩ := bcell hbwA1; have hzwA1 := hbwA1.size; (try simp only [World.size_drew] at hcwA1 hfwA1 hzwA1); (try simp only [World.size_alloc] at hcwA1 hfwA1 hzwA1); (try have qW0wA1 : W0.heap.size < wA1.heap.size := (by omega)); (try have qwA0wA1 : wA0.heap.size < wA1.heap.size := (by omega)))
          | (go_at_call 11; ((with_reducible refine (C2.out _).mono ?_); rintro e wC ⟨rfl, hbwC⟩; obtain ⟨hcwC, hfwC⟩ := bcell hbwC; have hzwC := hbwC.size; (try simp only [World.size_drew] at hcwC hfwC hzwC); (try simp only [World.size_alloc] at hcwC hfwC hzwC); (try have qW0wC : W0.heap.size < wC.heap.size := (by omega)); (try have qwA0wC : wA0.heap.size < wC.heap.size := (by omega)); (try have qwA1wC : wA1.heap.size < wC.heap.size := (by omega)))))
      all_goals
        go_wp2_with fail
        go_meet
      all_goals exact ⟨⟨_, rfl, by repeat' (first | with_reducible assumption | with_reducible exact AtL.new _ _ _ | (with_reducible refine AtL.drew ?_) | (with_reducible apply AtL.store2) | (with_reducible refine AtL.alloc ?_ _) | (with_reducible refine AtL.far ?_ ?_ _ _) | (with_reducible refine AtL.below ?_ (by with_reducible assumption)) | omega | (simp; done) | (simp; omega))⟩, rfl, by repeat' (first | with_reducible assumption | with_reducible exact Below.refl _ _ | (with_reducible refine Below.setCell ?_ ?_ _) | (with_reducible refine Below.alloc ?_ ?_ _) | (with_reducible refine Below.drew ?_) | (with_reducible refine below_dr ?_ _) | (with_reducible refine Below.trans ?_ (Below.mono (by with_reducible assumption) ?_)) | omega | (simp; done) | (simp; omega)), by repeat' (first | with_reducible assumption | with_reducible exact AtL.new _ _ _ | (with_reducible refine AtL.drew ?_) | (with_reducible apply AtL.store2) | (with_reducible refine AtL.alloc ?_ _) | (with_reducible refine AtL.far ?_ ?_ _ _) | (with_reducible refine AtL.below ?_ (by with_reducible assumption)) | omega | (simp; done) | (simp; omega)), by repeat' (first | with_reducible assumption | with_reducible exact AtL.new _ _ _ | (with_reducible refine AtL.drew ?_) | (with_reducible apply AtL.store2) | (with_reducible refine AtL.alloc ?_ _) | (with_reducible refine AtL.far ?_ ?_ _ _) | (with_reducible refine AtL.below ?_ (by with_reducible assumption)) | omega | (simp; done) | (simp; omega)), by repeat' (first | with_reducible assumption | with_reducible exact AtL.new _ _ _ | (with_reducible refine AtL.drew ?_) | (with_reducible apply AtL.store2) | (with_reducible refine AtL.alloc ?_ _) | (with_reducible refine AtL.far ?_ ?_ _ _) | (with_reducible refine AtL.below ?_ (by with_reducible assumption)) | omega | (simp; done) | (simp; omega))⟩
    case rest =>
      obtain ⟨⟨g2, rfl, at2⟩, rfl, bel2, _, _, at3⟩ := hcut
      have k0 := at2.cell 0 rfl
      have k1 := at2.cell 1 rfl
      have k2 := at3.cell 0 rfl
      have k3 := at3.cell 1 rfl
      go_wp2_with fail
      refine (eqPt_same _ _ _).mono ?_
      rintro e wE ⟨rfl, hbwE⟩
      have zE := bel2.size
      go_wp2
      go_ret
      exact ⟨rfl, by repeat' (first | with_reducible assumption | with_reducible exact Below.refl _ _ | (with_reducible refine Below.setCell ?_ ?_ _) | (with_reducible refine Below.alloc ?_ ?_ _) | (with_reducible refine Below.drew ?_) | (with_reducible refine below_dr ?_ _) | (with_reducible refine Below.trans ?_ (Below.mono (by with_reducible assumption) ?_)) | omega | (simp; done) | (simp; omega))⟩
end Go.Proofs.Ytcjjmkkphbeoeaa
