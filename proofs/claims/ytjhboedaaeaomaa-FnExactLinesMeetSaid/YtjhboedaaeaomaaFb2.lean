/- Walks: the law on LinesMeet: it returns true. -/
import Derived.Test.YtjhboedaaeaomaaFb
import Derived.Test.YtjhboedaaeaomaaCw
namespace Go.Proofs.Ytjhboedaaeaomaa
open Go.RowKit
set_option maxHeartbeats 4000000 in
theorem walk_LinesMeet (ax ay bx ey cx cy dx dy : Int) (w_ax : (Lit.int .i64 ax).wf = true) (w_ay : (Lit.int .i64 ay).wf = true) (w_bx : (Lit.int .i64 bx).wf = true) (w_ey : (Lit.int .i64 ey).wf = true) (w_cx : (Lit.int .i64 cx).wf = true) (w_cy : (Lit.int .i64 cy).wf = true) (w_dx : (Lit.int .i64 dx).wf = true) (w_dy : (Lit.int .i64 dy).wf = true) (w : World) :
    Calls Try.prog 5 #[.agg #[.int .i64 ax, .int .i64 ay], .agg #[.int .i64 bx, .int .i64 ey], .agg #[.int .i64 cx, .int .i64 cy], .agg #[.int .i64 dx, .int .i64 dy]] w fun e w' => e = .returned (.bool true) ∧ Below w.heap.size w w' := by
  have i_ax := i64_bounds w_ax
  have i_ay := i64_bounds w_ay
  have i_bx := i64_bounds w_bx
  have i_ey := i64_bounds w_ey
  have i_cx := i64_bounds w_cx
  have i_cy := i64_bounds w_cy
  have i_dx := i64_bounds w_dx
  have i_dy := i64_bounds w_dy
  have C1 := Lib.hid (fun w => specLinesMeet_any ax ay bx ey cx cy dx dy w)
  have C2 := Lib.hid (fun w => implLinesMeet_any ax ay bx ey cx cy dx dy w)
  unfold LmRet at C1 C2
  generalize (lmP ax ay bx ey cx cy dx dy).1 = cu at C1 C2
  generalize (lmP ax ay bx ey cx cy dx dy).2 = cv at C1 C2
  generalize lmC ax ay bx ey cx cy dx dy = cc at C1 C2
  clear i_ax w_ax i_ay w_ay i_bx w_bx i_ey w_ey i_cx w_cx i_cy w_cy i_dx w_dx i_dy w_dy
  have e_cu : (cu != cu) = false := by simp
  have e_cv : (cv != cv) = false := by simp
  have e_cc : (cc != cc) = false := by simp
  go_enter Try.func5, Try.ntmps5
  go_upto_region 1 with fail
  go_cut [9, 10] (fun sA sB wx => LeftP [.int .i64 cu, .int .i64 cv] sA wx ∧ sB = .int .i64 cc ∧ Below w.heap.size w wx ∧ AtL (w.heap.size) [.int .i64 ax, .int .i64 ay] wx ∧ AtL (w.heap.size + 1) [.int .i64 bx, .int .i64 ey] wx ∧ AtL (w.heap.size + 1 + 1) [.int .i64 cx, .int .i64 cy] wx ∧ AtL (w.heap.size + 1 + 1 + 1) [.int .i64 dx, .int .i64 dy] wx)
  case first =>
    generalize hW : ((((w.alloc (.cells #[.int .i64 ax, .int .i64 ay] 23)).alloc (.cells #[.int .i64 bx, .int .i64 ey] 23)).alloc (.cells #[.int .i64 cx, .int .i64 cy] 23)).alloc (.cells #[.int .i64 dx, .int .i64 dy] 23)) = W0
    have g0 : Below w.heap.size w W0 := by rw [← hW]; repeat' (first | assumption | exact Below.refl _ _ | (refine Below.setCell ?_ ?_ _) | (refine Below.alloc ?_ ?_ _) | (refine below_dr ?_ _) | exact Nat.le_refl _ | (simp; done) | (simp; omega))
    have s1 : W0.cell? ⟨w.heap.size, 0, none⟩ = some (.int .i64 ax) := by rw [← hW]; simp [go_sem]
    have s2 : W0.cell? ⟨w.heap.size, 1, none⟩ = some (.int .i64 ay) := by rw [← hW]; simp [go_sem]
    have s3 : W0.cell? ⟨w.heap.size + 1, 0, none⟩ = some (.int .i64 bx) := by rw [← hW]; simp [go_sem]
    have s4 : W0.cell? ⟨w.heap.size + 1, 1, none⟩ = some (.int .i64 ey) := by rw [← hW]; simp [go_sem]
    have s5 : W0.cell? ⟨w.heap.size + 1 + 1, 0, none⟩ = some (.int .i64 cx) := by rw [← hW]; simp [go_sem]
    have s6 : W0.cell? ⟨w.heap.size + 1 + 1, 1, none⟩ = some (.int .i64 cy) := by rw [← hW]; simp [go_sem]
    have s7 : W0.cell? ⟨w.heap.size + 1 + 1 + 1, 0, none⟩ = some (.int .i64 dx) := by rw [← hW]; simp [go_sem]
    have s8 : W0.cell? ⟨w.heap.size + 1 + 1 + 1, 1, none⟩ = some (.int .i64 dy) := by rw [← hW]; simp [go_sem]
    have sz : w.heap.size + 1 + 1 + 1 < W0.heap.size := by rw [← hW]; simp
    clear hW
    have zz0 : w.heap.size < W0.heap.size := by omega
    have bx0 : AtL (w.heap.size) [.int .i64 ax, .int .i64 ay] W0 := ⟨fun i v hv => by
      match i, hv with
      | 0, hv => exact (Option.some.inj hv) ▸ s1
      | 1, hv => exact (Option.some.inj hv) ▸ s2
      , zz0⟩
    have zz1 : w.heap.size + 1 < W0.heap.size := by omega
    have bx1 : AtL (w.heap.size + 1) [.int .i64 bx, .int .i64 ey] W0 := ⟨fun i v hv => by
      match i, hv with
      | 0, hv => exact (Option.some.inj hv) ▸ s3
      | 1, hv => exact (Option.some.inj hv) ▸ s4
      , zz1⟩
    have zz2 : w.heap.size + 1 + 1 < W0.heap.size := by omega
    have bx2 : AtL (w.heap.size + 1 + 1) [.int .i64 cx, .int .i64 cy] W0 := ⟨fun i v hv => by
      match i, hv with
      | 0, hv => exact (Option.some.inj hv) ▸ s5
      | 1, hv => exact (Option.some.inj hv) ▸ s6
      , zz2⟩
    have zz3 : w.heap.size + 1 + 1 + 1 < W0.heap.size := by omega
    have bx3 : AtL (w.heap.size + 1 + 1 + 1) [.int .i64 dx, .int .i64 dy] W0 := ⟨fun i v hv => by
      match i, hv with
      | 0, hv => exact (Option.some.inj hv) ▸ s7
      | 1, hv => exact (Option.some.inj hv) ▸ s8
      , zz3⟩
    go_region_held3 (fun w' => (∀ b o, b < W0.heap.size → w'.cell? ⟨b, o, none⟩ = W0.cell? ⟨b, o, none⟩) ∧ W0.heap.size ≤ w'.heap.size)
      (first | ((try dsimp only); exact ⟨fun b o h => (by (repeat (first | with_reducible exact rfl | (with_reducible refine (cell_drew_at _ _).trans ?_) | (with_reducible refine (cell_set_at _ _ (by first | omega | (simp; done) | (simp; omega))).trans ?_) | (with_reducible refine (cell_alloc_at _ _ (by first | omega | (simp; done) | (simp; omega))).trans ?_) | (with_reducible refine (hcwC b o (by first | omega | (simp; done) | (simp; omega))).trans ?_)))), (by first | omega | (simp; done) | (simp; omega))⟩) | fail)
      (first
        | (go_at_call 13; (with_reducible refine (toPt_x ax ay _).mono ?_); rintro e wA0 ⟨rfl, rfl⟩)
        | (go_at_call 13; (with_reducible refine (toPt_x bx ey _).mono ?_); rintro e wA1 ⟨rfl, rfl⟩)
        | (go_at_call 13; (with_reducible refine (toPt_x cx cy _).mono ?_); rintro e wA2 ⟨rfl, rfl⟩)
        | (go_at_call 13; (with_reducible refine (toPt_x dx dy _).mono ?_); rintro e wA3 ⟨rfl, rfl⟩)
        | (go_at_call 20; ((with_reducible refine (C1.out _).mono ?_); rintro e wC ⟨rfl, hbwC⟩; obtain ⟨hcwC, hfwC⟩ := bcell hbwC; have hzwC := hbwC.size; (try simp only [World.size_drew] at hcwC hfwC hzwC); (try simp only [World.size_alloc] at hcwC hfwC hzwC); (try have q0wC : W0.heap.size < wC.heap.size := (by omega)); (try have q1wC : W0.heap.size + 1 + 1 + 1 < wC.heap.size := (by omega)); (try have q2wC : W0.heap.size + 1 + 1 + 1 + 1 + 1 + 1 < wC.heap.size := (by omega)); (try have q3wC : W0.heap.size + 1 + 1 + 1 + 1 + 1 + 1 + 1 + 1 + 1 < wC.heap.size := (by omega)); (try have q4wC : W0.heap.size + 1 + 1 + 1 + 1 + 1 + 1 + 1 + 1 + 1 + 1 + 1 + 1 < wC.heap.size := (by omega)))))
    all_goals
      go_wp2_with fail
      go_meet
    all_goals exact ⟨⟨_, rfl, by repeat' (first | ((with_reducible refine AtL.newAt ?_); (first | rfl | (simp; done))) | with_reducible assumption | with_reducible exact AtL.new _ _ _ | (with_reducible refine AtL.drew ?_) | (with_reducible apply AtL.store2) | (with_reducible refine AtL.alloc ?_ _) | (with_reducible refine AtL.far ?_ ?_ _ _) | (with_reducible refine AtL.below ?_ (by with_reducible assumption)) | omega | (simp; done) | (simp; omega))⟩, rfl, by repeat' (first | with_reducible assumption | with_reducible exact Below.refl _ _ | (with_reducible refine Below.setCell ?_ ?_ _) | (with_reducible refine Below.alloc ?_ ?_ _) | (with_reducible refine Below.drew ?_) | (with_reducible refine below_dr ?_ _) | (with_reducible refine Below.trans ?_ (Below.mono (by with_reducible assumption) ?_)) | omega | (simp; done) | (simp; omega)), by repeat' (first | ((with_reducible refine AtL.newAt ?_); (first | rfl | (simp; done))) | with_reducible assumption | with_reducible exact AtL.new _ _ _ | (with_reducible refine AtL.drew ?_) | (with_reducible apply AtL.store2) | (with_reducible refine AtL.alloc ?_ _) | (with_reducible refine AtL.far ?_ ?_ _ _) | (with_reducible refine AtL.below ?_ (by with_reducible assumption)) | omega | (simp; done) | (simp; omega)), by repeat' (first | ((with_reducible refine AtL.newAt ?_); (first | rfl | (simp; done))) | with_reducible assumption | with_reducible exact AtL.new _ _ _ | (with_reducible refine AtL.drew ?_) | (with_reducible apply AtL.store2) | (with_reducible refine AtL.alloc ?_ _) | (with_reducible refine AtL.far ?_ ?_ _ _) | (with_reducible refine AtL.below ?_ (by with_reducible assumption)) | omega | (simp; done) | (simp; omega)), by repeat' (first | ((with_reducible refine AtL.newAt ?_); (first | rfl | (simp; done))) | with_reducible assumption | with_reducible exact AtL.new _ _ _ | (with_reducible refine AtL.drew ?_) | (with_reducible apply AtL.store2) | (with_reducible refine AtL.alloc ?_ _) | (with_reducible refine AtL.far ?_ ?_ _ _) | (with_reducible refine AtL.below ?_ (by with_reducible assumption)) | omega | (simp; done) | (simp; omega)), by repeat' (first | ((with_reducible refine AtL.newAt ?_); (first | rfl | (simp; done))) | with_reducible assumption | with_reducible exact AtL.new _ _ _ | (with_reducible refine AtL.drew ?_) | (with_reducible apply AtL.store2) | (with_reducible refine AtL.alloc ?_ _) | (with_reducible refine AtL.far ?_ ?_ _ _) | (with_reducible refine AtL.below ?_ (by with_reducible assumption)) | omega | (simp; done) | (simp; omega))⟩
  case rest =>
    obtain ⟨⟨g1, rfl, at1⟩, rfl, bel1, bx0, bx1, bx2, bx3⟩ := hcut
    obtain ⟨W0, rfl⟩ : ∃ W : World, W = wc := ⟨_, rfl⟩
    have lt1 := at1.lt
    have s1 := bx0.cell 0 rfl
    have s2 := bx0.cell 1 rfl
    have s3 := bx1.cell 0 rfl
    have s4 := bx1.cell 1 rfl
    have s5 := bx2.cell 0 rfl
    have s6 := bx2.cell 1 rfl
    have s7 := bx3.cell 0 rfl
    have s8 := bx3.cell 1 rfl
    have sz := bx3.lt
    have zz0 := bx0.lt
    have zz1 := bx1.lt
    have zz2 := bx2.lt
    have zz3 := bx3.lt
    go_upto_region 2 with fail
    go_cut [11, 12] (fun sA sB wx => LeftP [.int .i64 cu, .int .i64 cv] sA wx ∧ sB = .int .i64 cc ∧ Below w.heap.size w wx ∧ AtL (w.heap.size) [.int .i64 ax, .int .i64 ay] wx ∧ AtL (w.heap.size + 1) [.int .i64 bx, .int .i64 ey] wx ∧ AtL (w.heap.size + 1 + 1) [.int .i64 cx, .int .i64 cy] wx ∧ AtL (w.heap.size + 1 + 1 + 1) [.int .i64 dx, .int .i64 dy] wx ∧ AtL g1 [.int .i64 cu, .int .i64 cv] wx)
    case first =>
      go_region_held3 (fun w' => (∀ b o, b < W0.heap.size → w'.cell? ⟨b, o, none⟩ = W0.cell? ⟨b, o, none⟩) ∧ W0.heap.size ≤ w'.heap.size)
        (first | ((try dsimp only); exact ⟨fun b o h => (by (repeat (first | with_reducible exact rfl | (with_reducible refine (cell_drew_at _ _).trans ?_) | (with_reducible refine (cell_set_at _ _ (by first | omega | (simp; done) | (simp; omega))).trans ?_) | (with_reducible refine (cell_alloc_at _ _ (by first | omega | (simp; done) | (simp; omega))).trans ?_) | (with_reducible refine (hcwC b o (by first | omega | (simp; done) | (simp; omega))).trans ?_)))), (by first | omega | (simp; done) | (simp; omega))⟩) | fail)
        (first
          | (go_at_call 13; (with_reducible refine (toPt_x ax ay _).mono ?_); rintro e wA0 ⟨rfl, rfl⟩)
          | (go_at_call 13; (with_reducible refine (toPt_x bx ey _).mono ?_); rintro e wA1 ⟨rfl, rfl⟩)
          | (go_at_call 13; (with_reducible refine (toPt_x cx cy _).mono ?_); rintro e wA2 ⟨rfl, rfl⟩)
          | (go_at_call 13; (with_reducible refine (toPt_x dx dy _).mono ?_); rintro e wA3 ⟨rfl, rfl⟩)
          | (go_at_call 21; ((with_reducible refine (C2.out _).mono ?_); rintro e wC ⟨rfl, hbwC⟩; obtain ⟨hcwC, hfwC⟩ := bcell hbwC; have hzwC := hbwC.size; (try simp only [World.size_drew] at hcwC hfwC hzwC); (try simp only [World.size_alloc] at hcwC hfwC hzwC); (try have q0wC : W0.heap.size < wC.heap.size := (by omega)); (try have q1wC : W0.heap.size + 1 + 1 + 1 < wC.heap.size := (by omega)); (try have q2wC : W0.heap.size + 1 + 1 + 1 + 1 + 1 + 1 < wC.heap.size := (by omega)); (try have q3wC : W0.heap.size + 1 + 1 + 1 + 1 + 1 + 1 + 1 + 1 + 1 < wC.heap.size := (by omega)); (try have q4wC : W0.heap.size + 1 + 1 + 1 + 1 + 1 + 1 + 1 + 1 + 1 + 1 + 1 + 1 < wC.heap.size := (by omega)))))
      all_goals
        go_wp2_with fail
        go_meet
      all_goals exact ⟨⟨_, rfl, by repeat' (first | ((with_reducible refine AtL.newAt ?_); (first | rfl | (simp; done))) | with_reducible assumption | with_reducible exact AtL.new _ _ _ | (with_reducible refine AtL.drew ?_) | (with_reducible apply AtL.store2) | (with_reducible refine AtL.alloc ?_ _) | (with_reducible refine AtL.far ?_ ?_ _ _) | (with_reducible refine AtL.below ?_ (by with_reducible assumption)) | omega | (simp; done) | (simp; omega))⟩, rfl, by repeat' (first | with_reducible assumption | with_reducible exact Below.refl _ _ | (with_reducible refine Below.setCell ?_ ?_ _) | (with_reducible refine Below.alloc ?_ ?_ _) | (with_reducible refine Below.drew ?_) | (with_reducible refine below_dr ?_ _) | (with_reducible refine Below.trans ?_ (Below.mono (by with_reducible assumption) ?_)) | omega | (simp; done) | (simp; omega)), by repeat' (first | ((with_reducible refine AtL.newAt ?_); (first | rfl | (simp; done))) | with_reducible assumption | with_reducible exact AtL.new _ _ _ | (with_reducible refine AtL.drew ?_) | (with_reducible apply AtL.store2) | (with_reducible refine AtL.alloc ?_ _) | (with_reducible refine AtL.far ?_ ?_ _ _) | (with_reducible refine AtL.below ?_ (by with_reducible assumption)) | omega | (simp; done) | (simp; omega)), by repeat' (first | ((with_reducible refine AtL.newAt ?_); (first | rfl | (simp; done))) | with_reducible assumption | with_reducible exact AtL.new _ _ _ | (with_reducible refine AtL.drew ?_) | (with_reducible apply AtL.store2) | (with_reducible refine AtL.alloc ?_ _) | (with_reducible refine AtL.far ?_ ?_ _ _) | (with_reducible refine AtL.below ?_ (by with_reducible assumption)) | omega | (simp; done) | (simp; omega)), by repeat' (first | ((with_reducible refine AtL.newAt ?_); (first | rfl | (simp; done))) | with_reducible assumption | with_reducible exact AtL.new _ _ _ | (with_reducible refine AtL.drew ?_) | (with_reducible apply AtL.store2) | (with_reducible refine AtL.alloc ?_ _) | (with_reducible refine AtL.far ?_ ?_ _ _) | (with_reducible refine AtL.below ?_ (by with_reducible assumption)) | omega | (simp; done) | (simp; omega)), by repeat' (first | ((with_reducible refine AtL.newAt ?_); (first | rfl | (simp; done))) | with_reducible assumption | with_reducible exact AtL.new _ _ _ | (with_reducible refine AtL.drew ?_) | (with_reducible apply AtL.store2) | (with_reducible refine AtL.alloc ?_ _) | (with_reducible refine AtL.far ?_ ?_ _ _) | (with_reducible refine AtL.below ?_ (by with_reducible assumption)) | omega | (simp; done) | (simp; omega)), by repeat' (first | ((with_reducible refine AtL.newAt ?_); (first | rfl | (simp; done))) | with_reducible assumption | with_reducible exact AtL.new _ _ _ | (with_reducible refine AtL.drew ?_) | (with_reducible apply AtL.store2) | (with_reducible refine AtL.alloc ?_ _) | (with_reducible refine AtL.far ?_ ?_ _ _) | (with_reducible refine AtL.below ?_ (by with_reducible assumption)) | omega | (simp; done) | (simp; omega))⟩
    case rest =>
      obtain ⟨⟨g2, rfl, at2⟩, rfl, bel2, _, _, _, _, at3⟩ := hcut
      have k0 := at2.cell 0 rfl
      have k1 := at2.cell 1 rfl
      have k2 := at3.cell 0 rfl
      have k3 := at3.cell 1 rfl
      go_wp2_with fail
      refine (eqPt_same _ _ _).mono ?_
      rintro e wE ⟨rfl, hbwE⟩
      have zE := bel2.size
      go_wp2
      go_ret
      exact ⟨rfl, by repeat' (first | with_reducible assumption | with_reducible exact Below.refl _ _ | (with_reducible refine Below.setCell ?_ ?_ _) | (with_reducible refine Below.alloc ?_ ?_ _) | (with_reducible refine Below.drew ?_) | (with_reducible refine below_dr ?_ _) | (with_reducible refine Below.trans ?_ (Below.mono (by with_reducible assumption) ?_)) | omega | (simp; done) | (simp; omega))⟩
end Go.Proofs.Ytjhboedaaeaomaa
