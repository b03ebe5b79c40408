/- The walks of the laws on MoveMap, ScaleMap and SlantMap: they return true. -/
import Derived.Test.YtiljdnfhojpgnabQh
import Derived.Test.YtiljdnfhojpgnabQk
import Derived.Test.YtiljdnfhojpgnabAv
namespace Go.Proofs.Ytiljdnfhojpgnab
open Go.RowKit
set_option maxHeartbeats 4000000 in
theorem walk_MoveMap (n1 d1 n2 d2 : Int) (w_n1 : (Lit.int .i64 n1).wf = true) (w_d1 : (Lit.int .i64 d1).wf = true) (w_n2 : (Lit.int .i64 n2).wf = true) (w_d2 : (Lit.int .i64 d2).wf = true) (w : World) :
    Calls Try.prog 5 #[.agg #[.int .i64 n1, .int .i64 d1], .agg #[.int .i64 n2, .int .i64 d2]] w fun e w' => e = .returned (.bool true) ∧ Below w.heap.size w w' := by
  have i_n1 := i64_bounds w_n1
  have i_d1 := i64_bounds w_d1
  have i_n2 := i64_bounds w_n2
  have i_d2 := i64_bounds w_d2
  have C1 := Lib.hid (fun w => specMoveMap_any n1 d1 n2 d2 w i_n1 i_d1 i_n2 i_d2)
  have C2 := Lib.hid (fun w => implMoveMap_any n1 d1 n2 d2 w i_n1 i_d1 i_n2 i_d2)
  unfold MapRet at C1 C2
  generalize (bif (validB n1 d1 && validB n2 d2) then (1 : Int) else 0) = uone at C1 C2
  generalize (bif (validB n1 d1 && validB n2 d2) then (0 : Int) else 0) = uzero at C1 C2
  generalize (bif (validB n1 d1 && validB n2 d2) then (n1 : Int) else 0) = un1 at C1 C2
  generalize (bif (validB n1 d1 && validB n2 d2) then (d1 : Int) else 0) = ud1 at C1 C2
  generalize (bif (validB n1 d1 && validB n2 d2) then (n2 : Int) else 0) = un2 at C1 C2
  generalize (bif (validB n1 d1 && validB n2 d2) then (d2 : Int) else 0) = ud2 at C1 C2
  generalize (bif (validB n1 d1 && validB n2 d2) then (0 : Int) else 1) = c at C1 C2
  clear i_n1 w_n1 i_d1 w_d1 i_n2 w_n2 i_d2 w_d2
  have e_uone : (uone != uone) = false := by simp
  have e_uzero : (uzero != uzero) = false := by simp
  have e_un1 : (un1 != un1) = false := by simp
  have e_ud1 : (ud1 != ud1) = false := by simp
  have e_un2 : (un2 != un2) = false := by simp
  have e_ud2 : (ud2 != ud2) = false := by simp
  have e_c : (c != c) = false := by simp
  go_enter Try.func5, Try.ntmps5
  go_upto_region 1 with fail
  go_cut [5, 6] (fun sA sB wx => LeftP [.int .i64 uone, .int .i64 uone, .int .i64 uzero, .int .i64 uone, .int .i64 uzero, .int .i64 uone, .int .i64 uone, .int .i64 uone, .int .i64 un1, .int .i64 ud1, .int .i64 un2, .int .i64 ud2] sA wx ∧ sB = .int .i64 c ∧ Below w.heap.size w wx ∧ AtL (w.heap.size) [.int .i64 n1, .int .i64 d1] wx ∧ AtL (w.heap.size + 1) [.int .i64 n2, .int .i64 d2] wx)
  case first =>
    generalize hW : ((w.alloc (.cells #[.int .i64 n1, .int .i64 d1] 23)).alloc (.cells #[.int .i64 n2, .int .i64 d2] 23)) = W0
    have g0 : Below w.heap.size w W0 := by rw [← hW]; repeat' (first | assumption | exact Below.refl _ _ | (refine Below.setCell ?_ ?_ _) | (refine Below.alloc ?_ ?_ _) | (refine below_dr ?_ _) | exact Nat.le_refl _ | (simp; done) | (simp; omega))
    have s1 : W0.cell? ⟨w.heap.size, 0, none⟩ = some (.int .i64 n1) := by rw [← hW]; simp [go_sem]
    have s2 : W0.cell? ⟨w.heap.size, 1, none⟩ = some (.int .i64 d1) := by rw [← hW]; simp [go_sem]
    have s3 : W0.cell? ⟨w.heap.size + 1, 0, none⟩ = some (.int .i64 n2) := by rw [← hW]; simp [go_sem]
    have s4 : W0.cell? ⟨w.heap.size + 1, 1, none⟩ = some (.int .i64 d2) := by rw [← hW]; simp [go_sem]
    have sz : w.heap.size + 1 < W0.heap.size := by rw [← hW]; simp
    clear hW
    have zz0 : w.heap.size < W0.heap.size := by omega
    have bx0 : AtL (w.heap.size) [.int .i64 n1, .int .i64 d1] W0 := ⟨fun i v hv => by
      match i, hv with
      | 0, hv => exact (Option.some.inj hv) ▸ s1
      | 1, hv => exact (Option.some.inj hv) ▸ s2
      , zz0⟩
    have zz1 : w.heap.size + 1 < W0.heap.size := by omega
    have bx1 : AtL (w.heap.size + 1) [.int .i64 n2, .int .i64 d2] W0 := ⟨fun i v hv => by
      match i, hv with
      | 0, hv => exact (Option.some.inj hv) ▸ s3
      | 1, hv => exact (Option.some.inj hv) ▸ s4
      , zz1⟩
    go_region_held3 (fun w' => (∀ b o, b < W0.heap.size → w'.cell? ⟨b, o, none⟩ = W0.cell? ⟨b, o, none⟩) ∧ W0.heap.size ≤ w'.heap.size)
      (first | ((try dsimp only); exact ⟨fun b o h => (by (repeat (first | with_reducible exact rfl | (with_reducible refine (cell_drew_at _ _).trans ?_) | (with_reducible refine (cell_set_at _ _ (by first | omega | (simp; done) | (simp; omega))).trans ?_) | (with_reducible refine (cell_alloc_at _ _ (by first | omega | (simp; done) | (simp; omega))).trans ?_) | (with_reducible refine (hcwC b o (by first | omega | (simp; done) | (simp; omega))).trans ?_)))), (by first | omega | (simp; done) | (simp; omega))⟩) | fail)
      (first
        | (go_at_call 21; (with_reducible refine (toFrac_x n1 d1 _).mono ?_); rintro e wA0 ⟨rfl, rfl⟩)
        | (go_at_call 21; (with_reducible refine (toFrac_x n2 d2 _).mono ?_); rintro e wA1 ⟨rfl, rfl⟩)
        | (go_at_call 20; ((with_reducible refine (C1.out _).mono ?_); rintro e wC ⟨rfl, hbwC⟩; obtain ⟨hcwC, hfwC⟩ := bcell hbwC; have hzwC := hbwC.size; (try simp only [World.size_drew] at hcwC hfwC hzwC); (try simp only [World.size_alloc] at hcwC hfwC hzwC); (try have q0wC : W0.heap.size < wC.heap.size := (by omega)); (try have q1wC : W0.heap.size + 1 + 1 + 1 < wC.heap.size := (by omega)); (try have q2wC : W0.heap.size + 1 + 1 + 1 + 1 + 1 + 1 < wC.heap.size := (by omega)))))
    all_goals
      go_wp2_with fail
      go_meet
    all_goals exact ⟨⟨_, rfl, by repeat' (first | ((with_reducible refine AtL.newAt ?_); (first | rfl | (simp; done))) | with_reducible assumption | with_reducible exact AtL.new _ _ _ | (with_reducible refine AtL.drew ?_) | (with_reducible apply AtL.store12) | (with_reducible refine AtL.alloc ?_ _) | (with_reducible refine AtL.far ?_ ?_ _ _) | (with_reducible refine AtL.below ?_ (by with_reducible assumption)) | omega | (simp; done) | (simp; omega))⟩, rfl, by repeat' (first | with_reducible assumption | with_reducible exact Below.refl _ _ | (with_reducible refine Below.setCell ?_ ?_ _) | (with_reducible refine Below.alloc ?_ ?_ _) | (with_reducible refine Below.drew ?_) | (with_reducible refine below_dr ?_ _) | (with_reducible refine Below.trans ?_ (Below.mono (by with_reducible assumption) ?_)) | omega | (simp; done) | (simp; omega)), by repeat' (first | ((with_reducible refine AtL.newAt ?_); (first | rfl | (simp; done))) | with_reducible assumption | with_reducible exact AtL.new _ _ _ | (with_reducible refine AtL.drew ?_) | (with_reducible apply AtL.store12) | (with_reducible refine AtL.alloc ?_ _) | (with_reducible refine AtL.far ?_ ?_ _ _) | (with_reducible refine AtL.below ?_ (by with_reducible assumption)) | omega | (simp; done) | (simp; omega)), by repeat' (first | ((with_reducible refine AtL.newAt ?_); (first | rfl | (simp; done))) | with_reducible assumption | with_reducible exact AtL.new _ _ _ | (with_reducible refine AtL.drew ?_) | (with_reducible apply AtL.store12) | (with_reducible refine AtL.alloc ?_ _) | (with_reducible refine AtL.far ?_ ?_ _ _) | (with_reducible refine AtL.below ?_ (by with_reducible assumption)) | omega | (simp; done) | (simp; omega))⟩
  case rest =>
    obtain ⟨⟨g1, rfl, at1⟩, rfl, bel1, bx0, bx1⟩ := hcut
    obtain ⟨W0, rfl⟩ : ∃ W : World, W = wc := ⟨_, rfl⟩
    have lt1 := at1.lt
    have s1 := bx0.cell 0 rfl
    have s2 := bx0.cell 1 rfl
    have s3 := bx1.cell 0 rfl
    have s4 := bx1.cell 1 rfl
    have sz := bx1.lt
    have zz0 := bx0.lt
    have zz1 := bx1.lt
    go_upto_region 2 with fail
    go_cut [7, 8] (fun sA sB wx => LeftP [.int .i64 uone, .int .i64 uone, .int .i64 uzero, .int .i64 uone, .int .i64 uzero, .int .i64 uone, .int .i64 uone, .int .i64 uone, .int .i64 un1, .int .i64 ud1, .int .i64 un2, .int .i64 ud2] sA wx ∧ sB = .int .i64 c ∧ Below w.heap.size w wx ∧ AtL (w.heap.size) [.int .i64 n1, .int .i64 d1] wx ∧ AtL (w.heap.size + 1) [.int .i64 n2, .int .i64 d2] wx ∧ AtL g1 [.int .i64 uone, .int .i64 uone, .int .i64 uzero, .int .i64 uone, .int .i64 uzero, .int .i64 uone, .int .i64 uone, .int .i64 uone, .int .i64 un1, .int .i64 ud1, .int .i64 un2, .int .i64 ud2] wx)
    case first =>
      go_region_held3 (fun w' => (∀ b o, b < W0.heap.size → w'.cell? ⟨b, o, none⟩ = W0.cell? ⟨b, o, none⟩) ∧ W0.heap.size ≤ w'.heap.size)
        (first | ((try dsimp only); exact ⟨fun b o h => (by (repeat (first | with_reducible exact rfl | (with_reducible refine (cell_drew_at _ _).trans ?_) | (with_reducible refine (cell_set_at _ _ (by first | omega | (simp; done) | (simp; omega))).trans ?_) | (with_reducible refine (cell_alloc_at _ _ (by first | omega | (simp; done) | (simp; omega))).trans ?_) | (with_reducible refine (hcwC b o (by first | omega | (simp; done) | (simp; omega))).trans ?_)))), (by first | omega | (simp; done) | (simp; omega))⟩) | fail)
        (first
          | (go_at_call 21; (with_reducible refine (toFrac_x n1 d1 _).mono ?_); rintro e wA0 ⟨rfl, rfl⟩)
          | (go_at_call 21; (with_reducible refine (toFrac_x n2 d2 _).mono ?_); rintro e wA1 ⟨rfl, rfl⟩)
          | (go_at_call 22; ((with_reducible refine (C2.out _).mono ?_); rintro e wC ⟨rfl, hbwC⟩; obtain ⟨hcwC, hfwC⟩ := bcell hbwC; have hzwC := hbwC.size; (try simp only [World.size_drew] at hcwC hfwC hzwC); (try simp only [World.size_alloc] at hcwC hfwC hzwC); (try have q0wC : W0.heap.size < wC.heap.size := (by omega)); (try have q1wC : W0.heap.size + 1 + 1 + 1 < wC.heap.size := (by omega)); (try have q2wC : W0.heap.size + 1 + 1 + 1 + 1 + 1 + 1 < wC.heap.size := (by omega)))))
      all_goals
        go_wp2_with fail
        go_meet
      all_goals exact ⟨⟨_, rfl, by repeat' (first | ((with_reducible refine AtL.newAt ?_); (first | rfl | (simp; done))) | with_reducible assumption | with_reducible exact AtL.new _ _ _ | (with_reducible refine AtL.drew ?_) | (with_reducible apply AtL.store12) | (with_reducible refine AtL.alloc ?_ _) | (with_reducible refine AtL.far ?_ ?_ _ _) | (with_reducible refine AtL.below ?_ (by with_reducible assumption)) | omega | (simp; done) | (simp; omega))⟩, rfl, by repeat' (first | with_reducible assumption | with_reducible exact Below.refl _ _ | (with_reducible refine Below.setCell ?_ ?_ _) | (with_reducible refine Below.alloc ?_ ?_ _) | (with_reducible refine Below.drew ?_) | (with_reducible refine below_dr ?_ _) | (with_reducible refine Below.trans ?_ (Below.mono (by with_reducible assumption) ?_)) | omega | (simp; done) | (simp; omega)), by repeat' (first | ((with_reducible refine AtL.newAt ?_); (first | rfl | (simp; done))) | with_reducible assumption | with_reducible exact AtL.new _ _ _ | (with_reducible refine AtL.drew ?_) | (with_reducible apply AtL.store12) | (with_reducible refine AtL.alloc ?_ _) | (with_reducible refine AtL.far ?_ ?_ _ _) | (with_reducible refine AtL.below ?_ (by with_reducible assumption)) | omega | (simp; done) | (simp; omega)), by repeat' (first | ((with_reducible refine AtL.newAt ?_); (first | rfl | (simp; done))) | with_reducible assumption | with_reducible exact AtL.new _ _ _ | (with_reducible refine AtL.drew ?_) | (with_reducible apply AtL.store12) | (with_reducible refine AtL.alloc ?_ _) | (with_reducible refine AtL.far ?_ ?_ _ _) | (with_reducible refine AtL.below ?_ (by with_reducible assumption)) | omega | (simp; done) | (simp; omega)), by repeat' (first | ((with_reducible refine AtL.newAt ?_); (first | rfl | (simp; done))) | with_reducible assumption | with_reducible exact AtL.new _ _ _ | (with_reducible refine AtL.drew ?_) | (with_reducible apply AtL.store12) | (with_reducible refine AtL.alloc ?_ _) | (with_reducible refine AtL.far ?_ ?_ _ _) | (with_reducible refine AtL.below ?_ (by with_reducible assumption)) | omega | (simp; done) | (simp; omega))⟩
    case rest =>
      obtain ⟨⟨g2, rfl, at2⟩, rfl, bel2, _, _, at3⟩ := hcut
      have k0 := at2.cell 0 rfl
      have k1 := at2.cell 1 rfl
      have k2 := at2.cell 2 rfl
      have k3 := at2.cell 3 rfl
      have k4 := at2.cell 4 rfl
      have k5 := at2.cell 5 rfl
      have k6 := at2.cell 6 rfl
      have k7 := at2.cell 7 rfl
      have k8 := at2.cell 8 rfl
      have k9 := at2.cell 9 rfl
      have k10 := at2.cell 10 rfl
      have k11 := at2.cell 11 rfl
      have k12 := at3.cell 0 rfl
      have k13 := at3.cell 1 rfl
      have k14 := at3.cell 2 rfl
      have k15 := at3.cell 3 rfl
      have k16 := at3.cell 4 rfl
      have k17 := at3.cell 5 rfl
      have k18 := at3.cell 6 rfl
      have k19 := at3.cell 7 rfl
      have k20 := at3.cell 8 rfl
      have k21 := at3.cell 9 rfl
      have k22 := at3.cell 10 rfl
      have k23 := at3.cell 11 rfl
      go_wp2_with fail
      refine (eqAffine_same _ _ _ _ _ _ _ _ _ _ _ _ _).mono ?_
      rintro e wE ⟨rfl, hbwE⟩
      have zE := bel2.size
      go_wp2
      go_ret
      exact ⟨rfl, by repeat' (first | with_reducible assumption | with_reducible exact Below.refl _ _ | (with_reducible refine Below.setCell ?_ ?_ _) | (with_reducible refine Below.alloc ?_ ?_ _) | (with_reducible refine Below.drew ?_) | (with_reducible refine below_dr ?_ _) | (with_reducible refine Below.trans ?_ (Below.mono (by with_reducible assumption) ?_)) | omega | (simp; done) | (simp; omega))⟩
set_option maxHeartbeats 4000000 in
theorem walk_ScaleMap (n1 d1 n2 d2 : Int) (w_n1 : (Lit.int .i64 n1).wf = true) (w_d1 : (Lit.int .i64 d1).wf = true) (w_n2 : (Lit.int .i64 n2).wf = true) (w_d2 : (Lit.int .i64 d2).wf = true) (w : World) :
    Calls Try.prog 6 #[.agg #[.int .i64 n1, .int .i64 d1], .agg #[.int .i64 n2, .int .i64 d2]] w fun e w' => e = .returned (.bool true) ∧ Below w.heap.size w w' := by
  have i_n1 := i64_bounds w_n1
  have i_d1 := i64_bounds w_d1
  have i_n2 := i64_bounds w_n2
  have i_d2 := i64_bounds w_d2
  have C1 := Lib.hid (fun w => specScaleMap_any n1 d1 n2 d2 w i_n1 i_d1 i_n2 i_d2)
  have C2 := Lib.hid (fun w => implScaleMap_any n1 d1 n2 d2 w i_n1 i_d1 i_n2 i_d2)
  unfold MapRet at C1 C2
  generalize (bif (validB n1 d1 && validB n2 d2) then (n1 : Int) else 0) = un1 at C1 C2
  generalize (bif (validB n1 d1 && validB n2 d2) then (d1 : Int) else 0) = ud1 at C1 C2
  generalize (bif (validB n1 d1 && validB n2 d2) then (0 : Int) else 0) = uzero at C1 C2
  generalize (bif (validB n1 d1 && validB n2 d2) then (1 : Int) else 0) = uone at C1 C2
  generalize (bif (validB n1 d1 && validB n2 d2) then (n2 : Int) else 0) = un2 at C1 C2
  generalize (bif (validB n1 d1 && validB n2 d2) then (d2 : Int) else 0) = ud2 at C1 C2
  generalize (bif (validB n1 d1 && validB n2 d2) then (0 : Int) else 1) = c at C1 C2
  clear i_n1 w_n1 i_d1 w_d1 i_n2 w_n2 i_d2 w_d2
  have e_un1 : (un1 != un1) = false := by simp
  have e_ud1 : (ud1 != ud1) = false := by simp
  have e_uzero : (uzero != uzero) = false := by simp
  have e_uone : (uone != uone) = false := by simp
  have e_un2 : (un2 != un2) = false := by simp
  have e_ud2 : (ud2 != ud2) = false := by simp
  have e_c : (c != c) = false := by simp
  go_enter Try.func6, Try.ntmps6
  go_upto_region 1 with fail
  go_cut [5, 6] (fun sA sB wx => LeftP [.int .i64 un1, .int .i64 ud1, .int .i64 uzero, .int .i64 uone, .int .i64 uzero, .int .i64 uone, .int .i64 un2, .int .i64 ud2, .int .i64 uzero, .int .i64 uone, .int .i64 uzero, .int .i64 uone] sA wx ∧ sB = .int .i64 c ∧ Below w.heap.size w wx ∧ AtL (w.heap.size) [.int .i64 n1, .int .i64 d1] wx ∧ AtL (w.heap.size + 1) [.int .i64 n2, .int .i64 d2] wx)
  case first =>
    generalize hW : ((w.alloc (.cells #[.int .i64 n1, .int .i64 d1] 23)).alloc (.cells #[.int .i64 n2, .int .i64 d2] 23)) = W0
    have g0 : Below w.heap.size w W0 := by rw [← hW]; repeat' (first | assumption | exact Below.refl _ _ | (refine Below.setCell ?_ ?_ _) | (refine Below.alloc ?_ ?_ _) | (refine below_dr ?_ _) | exact Nat.le_refl _ | (simp; done) | (simp; omega))
    have s1 : W0.cell? ⟨w.heap.size, 0, none⟩ = some (.int .i64 n1) := by rw [← hW]; simp [go_sem]
    have s2 : W0.cell? ⟨w.heap.size, 1, none⟩ = some (.int .i64 d1) := by rw [← hW]; simp [go_sem]
    have s3 : W0.cell? ⟨w.heap.size + 1, 0, none⟩ = some (.int .i64 n2) := by rw [← hW]; simp [go_sem]
    have s4 : W0.cell? ⟨w.heap.size + 1, 1, none⟩ = some (.int .i64 d2) := by rw [← hW]; simp [go_sem]
    have sz : w.heap.size + 1 < W0.heap.size := by rw [← hW]; simp
    clear hW
    have zz0 : w.heap.size < W0.heap.size := by omega
    have bx0 : AtL (w.heap.size) [.int .i64 n1, .int .i64 d1] W0 := ⟨fun i v hv => by
      match i, hv with
      | 0, hv => exact (Option.some.inj hv) ▸ s1
      | 1, hv => exact (Option.some.inj hv) ▸ s2
      , zz0⟩
    have zz1 : w.heap.size + 1 < W0.heap.size := by omega
    have bx1 : AtL (w.heap.size + 1) [.int .i64 n2, .int .i64 d2] W0 := ⟨fun i v hv => by
      match i, hv with
      | 0, hv => exact (Option.some.inj hv) ▸ s3
      | 1, hv => exact (Option.some.inj hv) ▸ s4
      , zz1⟩
    go_region_held3 (fun w' => (∀ b o, b < W0.heap.size → w'.cell? ⟨b, o, none⟩ = W0.cell? ⟨b, o, none⟩) ∧ W0.heap.size ≤ w'.heap.size)
      (first | ((try dsimp only); exact ⟨fun b o h => (by (repeat (first | with_reducible exact rfl | (with_reducible refine (cell_drew_at _ _).trans ?_) | (with_reducible refine (cell_set_at _ _ (by first | omega | (simp; done) | (simp; omega))).trans ?_) | (with_reducible refine (cell_alloc_at _ _ (by first | omega | (simp; done) | (simp; omega))).trans ?_) | (with_reducible refine (hcwC b o (by first | omega | (simp; done) | (simp; omega))).trans ?_)))), (by first | omega | (simp; done) | (simp; omega))⟩) | fail)
      (first
        | (go_at_call 21; (with_reducible refine (toFrac_x n1 d1 _).mono ?_); rintro e wA0 ⟨rfl, rfl⟩)
        | (go_at_call 21; (with_reducible refine (toFrac_x n2 d2 _).mono ?_); rintro e wA1 ⟨rfl, rfl⟩)
        | (go_at_call 23; ((with_reducible refine (C1.out _).mono ?_); rintro e wC ⟨rfl, hbwC⟩; obtain ⟨hcwC, hfwC⟩ := bcell hbwC; have hzwC := hbwC.size; (try simp only [World.size_drew] at hcwC hfwC hzwC); (try simp only [World.size_alloc] at hcwC hfwC hzwC); (try have q0wC : W0.heap.size < wC.heap.size := (by omega)); (try have q1wC : W0.heap.size + 1 + 1 + 1 < wC.heap.size := (by omega)); (try have q2wC : W0.heap.size + 1 + 1 + 1 + 1 + 1 + 1 < wC.heap.size := (by omega)))))
    all_goals
      go_wp2_with fail
      go_meet
    all_goals exact ⟨⟨_, rfl, by repeat' (first | ((with_reducible refine AtL.newAt ?_); (first | rfl | (simp; done))) | with_reducible assumption | with_reducible exact AtL.new _ _ _ | (with_reducible refine AtL.drew ?_) | (with_reducible apply AtL.store12) | (with_reducible refine AtL.alloc ?_ _) | (with_reducible refine AtL.far ?_ ?_ _ _) | (with_reducible refine AtL.below ?_ (by with_reducible assumption)) | omega | (simp; done) | (simp; omega))⟩, rfl, by repeat' (first | with_reducible assumption | with_reducible exact Below.refl _ _ | (with_reducible refine Below.setCell ?_ ?_ _) | (with_reducible refine Below.alloc ?_ ?_ _) | (with_reducible refine Below.drew ?_) | (with_reducible refine below_dr ?_ _) | (with_reducible refine Below.trans ?_ (Below.mono (by with_reducible assumption) ?_)) | omega | (simp; done) | (simp; omega)), by repeat' (first | ((with_reducible refine AtL.newAt ?_); (first | rfl | (simp; done))) | with_reducible assumption | with_reducible exact AtL.new _ _ _ | (with_reducible refine AtL.drew ?_) | (with_reducible apply AtL.store12) | (with_reducible refine AtL.alloc ?_ _) | (with_reducible refine AtL.far ?_ ?_ _ _) | (with_reducible refine AtL.below ?_ (by with_reducible assumption)) | omega | (simp; done) | (simp; omega)), by repeat' (first | ((with_reducible refine AtL.newAt ?_); (first | rfl | (simp; done))) | with_reducible assumption | with_reducible exact AtL.new _ _ _ | (with_reducible refine AtL.drew ?_) | (with_reducible apply AtL.store12) | (with_reducible refine AtL.alloc ?_ _) | (with_reducible refine AtL.far ?_ ?_ _ _) | (with_reducible refine AtL.below ?_ (by with_reducible assumption)) | omega | (simp; done) | (simp; omega))⟩
  case rest =>
    obtain ⟨⟨g1, rfl, at1⟩, rfl, bel1, bx0, bx1⟩ := hcut
    obtain ⟨W0, rfl⟩ : ∃ W : World, W = wc := ⟨_, rfl⟩
    have lt1 := at1.lt
    have s1 := bx0.cell 0 rfl
    have s2 := bx0.cell 1 rfl
    have s3 := bx1.cell 0 rfl
    have s4 := bx1.cell 1 rfl
    have sz := bx1.lt
    have zz0 := bx0.lt
    have zz1 := bx1.lt
    go_upto_region 2 with fail
    go_cut [7, 8] (fun sA sB wx => LeftP [.int .i64 un1, .int .i64 ud1, .int .i64 uzero, .int .i64 uone, .int .i64 uzero, .int .i64 uone, .int .i64 un2, .int .i64 ud2, .int .i64 uzero, .int .i64 uone, .int .i64 uzero, .int .i64 uone] sA wx ∧ sB = .int .i64 c ∧ Below w.heap.size w wx ∧ AtL (w.heap.size) [.int .i64 n1, .int .i64 d1] wx ∧ AtL (w.heap.size + 1) [.int .i64 n2, .int .i64 d2] wx ∧ AtL g1 [.int .i64 un1, .int .i64 ud1, .int .i64 uzero, .int .i64 uone, .int .i64 uzero, .int .i64 uone, .int .i64 un2, .int .i64 ud2, .int .i64 uzero, .int .i64 uone, .int .i64 uzero, .int .i64 uone] wx)
    case first =>
      go_region_held3 (fun w' => (∀ b o, b < W0.heap.size → w'.cell? ⟨b, o, none⟩ = W0.cell? ⟨b, o, none⟩) ∧ W0.heap.size ≤ w'.heap.size)
        (first | ((try dsimp only); exact ⟨fun b o h => (by (repeat (first | with_reducible exact rfl | (with_reducible refine (cell_drew_at _ _).trans ?_) | (with_reducible refine (cell_set_at _ _ (by first | omega | (simp; done) | (simp; omega))).trans ?_) | (with_reducible refine (cell_alloc_at _ _ (by first | omega | (simp; done) | (simp; omega))).trans ?_) | (with_reducible refine (hcwC b o (by first | omega | (simp; done) | (simp; omega))).trans ?_)))), (by first | omega | (simp; done) | (simp; omega))⟩) | fail)
        (first
          | (go_at_call 21; (with_reducible refine (toFrac_x n1 d1 _).mono ?_); rintro e wA0 ⟨rfl, rfl⟩)
          | (go_at_call 21; (with_reducible refine (toFrac_x n2 d2 _).mono ?_); rintro e wA1 ⟨rfl, rfl⟩)
          | (go_at_call 24; ((with_reducible refine (C2.out _).mono ?_); rintro e wC ⟨rfl, hbwC⟩; obtain ⟨hcwC, hfwC⟩ := bcell hbwC; have hzwC := hbwC.size; (try simp only [World.size_drew] at hcwC hfwC hzwC); (try simp only [World.size_alloc] at hcwC hfwC hzwC); (try have q0wC : W0.heap.size < wC.heap.size := (by omega)); (try have q1wC : W0.heap.size + 1 + 1 + 1 < wC.heap.size := (by omega)); (try have q2wC : W0.heap.size + 1 + 1 + 1 + 1 + 1 + 1 < wC.heap.size := (by omega)))))
      all_goals
        go_wp2_with fail
        go_meet
      all_goals exact ⟨⟨_, rfl, by repeat' (first | ((with_reducible refine AtL.newAt ?_); (first | rfl | (simp; done))) | with_reducible assumption | with_reducible exact AtL.new _ _ _ | (with_reducible refine AtL.drew ?_) | (with_reducible apply AtL.store12) | (with_reducible refine AtL.alloc ?_ _) | (with_reducible refine AtL.far ?_ ?_ _ _) | (with_reducible refine AtL.below ?_ (by with_reducible assumption)) | omega | (simp; done) | (simp; omega))⟩, rfl, by repeat' (first | with_reducible assumption | with_reducible exact Below.refl _ _ | (with_reducible refine Below.setCell ?_ ?_ _) | (with_reducible refine Below.alloc ?_ ?_ _) | (with_reducible refine Below.drew ?_) | (with_reducible refine below_dr ?_ _) | (with_reducible refine Below.trans ?_ (Below.mono (by with_reducible assumption) ?_)) | omega | (simp; done) | (simp; omega)), by repeat' (first | ((with_reducible refine AtL.newAt ?_); (first | rfl | (simp; done))) | with_reducible assumption | with_reducible exact AtL.new _ _ _ | (with_reducible refine AtL.drew ?_) | (with_reducible apply AtL.store12) | (with_reducible refine AtL.alloc ?_ _) | (with_reducible refine AtL.far ?_ ?_ _ _) | (with_reducible refine AtL.below ?_ (by with_reducible assumption)) | omega | (simp; done) | (simp; omega)), by repeat' (first | ((with_reducible refine AtL.newAt ?_); (first | rfl | (simp; done))) | with_reducible assumption | with_reducible exact AtL.new _ _ _ | (with_reducible refine AtL.drew ?_) | (with_reducible apply AtL.store12) | (with_reducible refine AtL.alloc ?_ _) | (with_reducible refine AtL.far ?_ ?_ _ _) | (with_reducible refine AtL.below ?_ (by with_reducible assumption)) | omega | (simp; done) | (simp; omega)), by repeat' (first | ((with_reducible refine AtL.newAt ?_); (first | rfl | (simp; done))) | with_reducible assumption | with_reducible exact AtL.new _ _ _ | (with_reducible refine AtL.drew ?_) | (with_reducible apply AtL.store12) | (with_reducible refine AtL.alloc ?_ _) | (with_reducible refine AtL.far ?_ ?_ _ _) | (with_reducible refine AtL.below ?_ (by with_reducible assumption)) | omega | (simp; done) | (simp; omega))⟩
    case rest =>
      obtain ⟨⟨g2, rfl, at2⟩, rfl, bel2, _, _, at3⟩ := hcut
      have k0 := at2.cell 0 rfl
      have k1 := at2.cell 1 rfl
      have k2 := at2.cell 2 rfl
      have k3 := at2.cell 3 rfl
      have k4 := at2.cell 4 rfl
      have k5 := at2.cell 5 rfl
      have k6 := at2.cell 6 rfl
      have k7 := at2.cell 7 rfl
      have k8 := at2.cell 8 rfl
      have k9 := at2.cell 9 rfl
      have k10 := at2.cell 10 rfl
      have k11 := at2.cell 11 rfl
      have k12 := at3.cell 0 rfl
      have k13 := at3.cell 1 rfl
      have k14 := at3.cell 2 rfl
      have k15 := at3.cell 3 rfl
      have k16 := at3.cell 4 rfl
      have k17 := at3.cell 5 rfl
      have k18 := at3.cell 6 rfl
      have k19 := at3.cell 7 rfl
      have k20 := at3.cell 8 rfl
      have k21 := at3.cell 9 rfl
      have k22 := at3.cell 10 rfl
      have k23 := at3.cell 11 rfl
      go_wp2_with fail
      refine (eqAffine_same _ _ _ _ _ _ _ _ _ _ _ _ _).mono ?_
      rintro e wE ⟨rfl, hbwE⟩
      have zE := bel2.size
      go_wp2
      go_ret
      exact ⟨rfl, by repeat' (first | with_reducible assumption | with_reducible exact Below.refl _ _ | (with_reducible refine Below.setCell ?_ ?_ _) | (with_reducible refine Below.alloc ?_ ?_ _) | (with_reducible refine Below.drew ?_) | (with_reducible refine below_dr ?_ _) | (with_reducible refine Below.trans ?_ (Below.mono (by with_reducible assumption) ?_)) | omega | (simp; done) | (simp; omega))⟩
set_option maxHeartbeats 4000000 in
theorem walk_SlantMap (n1 d1 : Int) (w_n1 : (Lit.int .i64 n1).wf = true) (w_d1 : (Lit.int .i64 d1).wf = true) (w : World) :
    Calls Try.prog 7 #[.agg #[.int .i64 n1, .int .i64 d1]] w fun e w' => e = .returned (.bool true) ∧ Below w.heap.size w w' := by
  have i_n1 := i64_bounds w_n1
  have i_d1 := i64_bounds w_d1
  have C1 := Lib.hid (fun w => specSlantMap_any n1 d1 w i_n1 i_d1)
  have C2 := Lib.hid (fun w => implSlantMap_any n1 d1 w i_n1 i_d1)
  unfold MapRet at C1 C2
  generalize (bif (validB n1 d1) then (1 : Int) else 0) = uone at C1 C2
  generalize (bif (validB n1 d1) then (n1 : Int) else 0) = un1 at C1 C2
  generalize (bif (validB n1 d1) then (d1 : Int) else 0) = ud1 at C1 C2
  generalize (bif (validB n1 d1) then (0 : Int) else 0) = uzero at C1 C2
  generalize (bif (validB n1 d1) then (0 : Int) else 1) = c at C1 C2
  clear i_n1 w_n1 i_d1 w_d1
  have e_uone : (uone != uone) = false := by simp
  have e_un1 : (un1 != un1) = false := by simp
  have e_ud1 : (ud1 != ud1) = false := by simp
  have e_uzero : (uzero != uzero) = false := by simp
  have e_c : (c != c) = false := by simp
  go_enter Try.func7, Try.ntmps7
  go_wp2_with fail
  refine (toFrac_any n1 d1 _).mono ?_
  rintro e wA ⟨rfl, hbwA⟩
  have gA : Below w.heap.size w wA := (by repeat' (first | with_reducible assumption | with_reducible exact Below.refl _ _ | (with_reducible refine Below.setCell ?_ ?_ _) | (with_reducible refine Below.alloc ?_ ?_ _) | (with_reducible refine Below.drew ?_) | (with_reducible refine below_dr ?_ _) | (with_reducible refine Below.trans ?_ (Below.mono (by with_reducible assumption) ?_)) | omega | (simp; done) | (simp; omega)))
  obtain ⟨hcwA, hfwA⟩ := bcell hbwA
  have hzwA := hbwA.size
  (try simp only [World.size_alloc] at hcwA hfwA hzwA)
  have sA1 : wA.cell? ⟨w.heap.size, 0, none⟩ = some (.int .i64 n1) := (hcwA _ _ (by omega)).trans (by first | assumption | (simp [go_sem]; done) | (simp [go_sem, *]; done))
  have sA2 : wA.cell? ⟨w.heap.size, 1, none⟩ = some (.int .i64 d1) := (hcwA _ _ (by omega)).trans (by first | assumption | (simp [go_sem]; done) | (simp [go_sem, *]; done))
  have sAz : w.heap.size < wA.heap.size := (by omega)
  clear hcwA hfwA hzwA
  go_wp2_with fail
  refine (C1.out _).mono ?_
  rintro e wC ⟨rfl, hbwC⟩
  have gC : Below w.heap.size w wC := (by repeat' (first | with_reducible assumption | with_reducible exact Below.refl _ _ | (with_reducible refine Below.setCell ?_ ?_ _) | (with_reducible refine Below.alloc ?_ ?_ _) | (with_reducible refine Below.drew ?_) | (with_reducible refine below_dr ?_ _) | (with_reducible refine Below.trans ?_ (Below.mono (by with_reducible assumption) ?_)) | omega | (simp; done) | (simp; omega)))
  obtain ⟨hcwC, hfwC⟩ := bcell hbwC
  have hzwC := hbwC.size
  (try simp only [World.size_alloc] at hcwC hfwC hzwC)
  have sC1 : wC.cell? ⟨w.heap.size, 0, none⟩ = some (.int .i64 n1) := (hcwC _ _ (by omega)).trans (by first | assumption | (simp [go_sem]; done) | (simp [go_sem, *]; done))
  have sC2 : wC.cell? ⟨w.heap.size, 1, none⟩ = some (.int .i64 d1) := (hcwC _ _ (by omega)).trans (by first | assumption | (simp [go_sem]; done) | (simp [go_sem, *]; done))
  have sCz : w.heap.size < wC.heap.size := (by omega)
  clear hcwC hfwC hzwC
  have at1 := AtL.new wC [.int .i64 uone, .int .i64 uone, .int .i64 un1, .int .i64 ud1, .int .i64 uzero, .int .i64 uone, .int .i64 uone, .int .i64 uone, .int .i64 uzero, .int .i64 uone, .int .i64 uzero, .int .i64 uone] 29
  go_wp2_with fail
  refine (toFrac_any n1 d1 _).mono ?_
  rintro e wD ⟨rfl, hbwD⟩
  have qD := hbwD.size
  simp only [World.size_alloc] at qD
  replace at1 := at1.below hbwD
  have gD : Below w.heap.size w wD := (by repeat' (first | with_reducible assumption | with_reducible exact Below.refl _ _ | (with_reducible refine Below.setCell ?_ ?_ _) | (with_reducible refine Below.alloc ?_ ?_ _) | (with_reducible refine Below.drew ?_) | (with_reducible refine below_dr ?_ _) | (with_reducible refine Below.trans ?_ (Below.mono (by with_reducible assumption) ?_)) | omega | (simp; done) | (simp; omega)))
  obtain ⟨hcwD, hfwD⟩ := bcell hbwD
  have hzwD := hbwD.size
  (try simp only [World.size_alloc] at hcwD hfwD hzwD)
  have sD1 : wD.cell? ⟨w.heap.size, 0, none⟩ = some (.int .i64 n1) := (hcwD _ _ (by omega)).trans (by first | assumption | (simp [go_sem]; done) | (simp [go_sem, *]; done))
  have sD2 : wD.cell? ⟨w.heap.size, 1, none⟩ = some (.int .i64 d1) := (hcwD _ _ (by omega)).trans (by first | assumption | (simp [go_sem]; done) | (simp [go_sem, *]; done))
  have sDz : w.heap.size < wD.heap.size := (by omega)
  clear hcwD hfwD hzwD
  go_wp2_with fail
  refine (C2.out _).mono ?_
  rintro e wF ⟨rfl, hbwF⟩
  have qF := hbwF.size
  replace at1 := at1.below hbwF
  have gF : Below w.heap.size w wF := by repeat' (first | with_reducible assumption | with_reducible exact Below.refl _ _ | (with_reducible refine Below.setCell ?_ ?_ _) | (with_reducible refine Below.alloc ?_ ?_ _) | (with_reducible refine Below.drew ?_) | (with_reducible refine below_dr ?_ _) | (with_reducible refine Below.trans ?_ (Below.mono (by with_reducible assumption) ?_)) | omega | (simp; done) | (simp; omega))
  have qG : wC.heap.size < wF.heap.size := by omega
  have k0 := at1.cell 0 rfl
  have k1 := at1.cell 1 rfl
  have k2 := at1.cell 2 rfl
  have k3 := at1.cell 3 rfl
  have k4 := at1.cell 4 rfl
  have k5 := at1.cell 5 rfl
  have k6 := at1.cell 6 rfl
  have k7 := at1.cell 7 rfl
  have k8 := at1.cell 8 rfl
  have k9 := at1.cell 9 rfl
  have k10 := at1.cell 10 rfl
  have k11 := at1.cell 11 rfl
  clear at1
  go_wp2_with fail
  refine (eqAffine_same _ _ _ _ _ _ _ _ _ _ _ _ _).mono ?_
  rintro e wE ⟨rfl, hbwE⟩
  go_wp2
  go_ret
  exact ⟨rfl, by repeat' (first | with_reducible assumption | with_reducible exact Below.refl _ _ | (with_reducible refine Below.setCell ?_ ?_ _) | (with_reducible refine Below.alloc ?_ ?_ _) | (with_reducible refine Below.drew ?_) | (with_reducible refine below_dr ?_ _) | (with_reducible refine Below.trans ?_ (Below.mono (by with_reducible assumption) ?_)) | omega | (simp; done) | (simp; omega))⟩
end Go.Proofs.Ytiljdnfhojpgnab
