/- The walk of the law on ApplyMap: it returns true. -/
import Derived.Test.YtjlmoadnbbeloaaGs
namespace Go.Proofs.Ytjlmoadnbbeloaa
open Go.RowKit

set_option maxHeartbeats 4000000 in
theorem walk_ApplyMap (m0 m1 m2 m3 m4 m5 m6 m7 m8 m9 m10 m11 x y : Int) (w_m0 : (Lit.int .i64 m0).wf = true) (w_m1 : (Lit.int .i64 m1).wf = true) (w_m2 : (Lit.int .i64 m2).wf = true) (w_m3 : (Lit.int .i64 m3).wf = true) (w_m4 : (Lit.int .i64 m4).wf = true) (w_m5 : (Lit.int .i64 m5).wf = true) (w_m6 : (Lit.int .i64 m6).wf = true) (w_m7 : (Lit.int .i64 m7).wf = true) (w_m8 : (Lit.int .i64 m8).wf = true) (w_m9 : (Lit.int .i64 m9).wf = true) (w_m10 : (Lit.int .i64 m10).wf = true) (w_m11 : (Lit.int .i64 m11).wf = true) (w_x : (Lit.int .i64 x).wf = true) (w_y : (Lit.int .i64 y).wf = true) (w : World) :
    Calls Try.prog 5 #[.agg #[.int .i64 m0, .int .i64 m1, .int .i64 m2, .int .i64 m3, .int .i64 m4, .int .i64 m5, .int .i64 m6, .int .i64 m7, .int .i64 m8, .int .i64 m9, .int .i64 m10, .int .i64 m11], .agg #[.int .i64 x, .int .i64 y]] w fun e w' => e = .returned (.bool true) ∧ Below w.heap.size w w' := by
  have i_m0 := i64_bounds w_m0
  have i_m1 := i64_bounds w_m1
  have i_m2 := i64_bounds w_m2
  have i_m3 := i64_bounds w_m3
  have i_m4 := i64_bounds w_m4
  have i_m5 := i64_bounds w_m5
  have i_m6 := i64_bounds w_m6
  have i_m7 := i64_bounds w_m7
  have i_m8 := i64_bounds w_m8
  have i_m9 := i64_bounds w_m9
  have i_m10 := i64_bounds w_m10
  have i_m11 := i64_bounds w_m11
  have i_x := i64_bounds w_x
  have i_y := i64_bounds w_y
  have C1 := Lib.hid (fun w => specApply_any m0 m1 m2 m3 m4 m5 m6 m7 m8 m9 m10 m11 x y w i_m0 i_m1 i_m2 i_m3 i_m4 i_m5 i_m6 i_m7 i_m8 i_m9 i_m10 i_m11)
  have C2 := Lib.hid (fun w => implApply_any m0 m1 m2 m3 m4 m5 m6 m7 m8 m9 m10 m11 x y w i_m0 i_m1 i_m2 i_m3 i_m4 i_m5 i_m6 i_m7 i_m8 i_m9 i_m10 i_m11)
  unfold ARet at C1 C2
  generalize (bif (validA m0 m1 m2 m3 m4 m5 m6 m7 m8 m9 m10 m11 && okB x y) then (bif (appK m0 m1 m2 m3 m4 m5 m6 m7 m8 m9 m10 m11 x y) then rowN (rowF m0 m1 m2 m3 m8 m9 x y) else 0) else 0) = u at C1 C2
  generalize (bif (validA m0 m1 m2 m3 m4 m5 m6 m7 m8 m9 m10 m11 && okB x y) then (bif (appK m0 m1 m2 m3 m4 m5 m6 m7 m8 m9 m10 m11 x y) then rowN (rowF m4 m5 m6 m7 m10 m11 x y) else 0) else 0) = v at C1 C2
  generalize (bif (validA m0 m1 m2 m3 m4 m5 m6 m7 m8 m9 m10 m11 && okB x y) then (bif (appK m0 m1 m2 m3 m4 m5 m6 m7 m8 m9 m10 m11 x y) then 0 else 2) else 1 : Int) = c at C1 C2
  clear i_m0 w_m0 i_m1 w_m1 i_m2 w_m2 i_m3 w_m3 i_m4 w_m4 i_m5 w_m5 i_m6 w_m6 i_m7 w_m7 i_m8 w_m8 i_m9 w_m9 i_m10 w_m10 i_m11 w_m11 i_x w_x i_y w_y
  have e_u : (u != u) = false := by simp
  have e_v : (v != v) = false := by simp
  have e_c : (c != c) = false := by simp
  go_enter Try.func5, Try.ntmps5
  go_upto_region 1 with fail
  go_cut [5, 6] (fun sA sB wx => LeftP [.int .i64 u, .int .i64 v] sA wx ∧ sB = .int .i64 c ∧ Below w.heap.size w wx ∧ AtL (w.heap.size) [.int .i64 m0, .int .i64 m1, .int .i64 m2, .int .i64 m3, .int .i64 m4, .int .i64 m5, .int .i64 m6, .int .i64 m7, .int .i64 m8, .int .i64 m9, .int .i64 m10, .int .i64 m11] wx ∧ AtL (w.heap.size + 1) [.int .i64 x, .int .i64 y] wx)
  case first =>
    generalize hW : ((w.alloc (.cells #[.int .i64 m0, .int .i64 m1, .int .i64 m2, .int .i64 m3, .int .i64 m4, .int .i64 m5, .int .i64 m6, .int .i64 m7, .int .i64 m8, .int .i64 m9, .int .i64 m10, .int .i64 m11] 25)).alloc (.cells #[.int .i64 x, .int .i64 y] 37)) = W0
    have g0 : Below w.heap.size w W0 := by rw [← hW]; repeat' (first | assumption | exact Below.refl _ _ | (refine Below.setCell ?_ ?_ _) | (refine Below.alloc ?_ ?_ _) | (refine below_dr ?_ _) | exact Nat.le_refl _ | (simp; done) | (simp; omega))
    have s1 : W0.cell? ⟨w.heap.size, 0, none⟩ = some (.int .i64 m0) := by rw [← hW]; simp [go_sem]
    have s2 : W0.cell? ⟨w.heap.size, 1, none⟩ = some (.int .i64 m1) := by rw [← hW]; simp [go_sem]
    have s3 : W0.cell? ⟨w.heap.size, 2, none⟩ = some (.int .i64 m2) := by rw [← hW]; simp [go_sem]
    have s4 : W0.cell? ⟨w.heap.size, 3, none⟩ = some (.int .i64 m3) := by rw [← hW]; simp [go_sem]
    have s5 : W0.cell? ⟨w.heap.size, 4, none⟩ = some (.int .i64 m4) := by rw [← hW]; simp [go_sem]
    have s6 : W0.cell? ⟨w.heap.size, 5, none⟩ = some (.int .i64 m5) := by rw [← hW]; simp [go_sem]
    have s7 : W0.cell? ⟨w.heap.size, 6, none⟩ = some (.int .i64 m6) := by rw [← hW]; simp [go_sem]
    have s8 : W0.cell? ⟨w.heap.size, 7, none⟩ = some (.int .i64 m7) := by rw [← hW]; simp [go_sem]
    have s9 : W0.cell? ⟨w.heap.size, 8, none⟩ = some (.int .i64 m8) := by rw [← hW]; simp [go_sem]
    have s10 : W0.cell? ⟨w.heap.size, 9, none⟩ = some (.int .i64 m9) := by rw [← hW]; simp [go_sem]
    have s11 : W0.cell? ⟨w.heap.size, 10, none⟩ = some (.int .i64 m10) := by rw [← hW]; simp [go_sem]
    have s12 : W0.cell? ⟨w.heap.size, 11, none⟩ = some (.int .i64 m11) := by rw [← hW]; simp [go_sem]
    have s13 : W0.cell? ⟨w.heap.size + 1, 0, none⟩ = some (.int .i64 x) := by rw [← hW]; simp [go_sem]
    have s14 : W0.cell? ⟨w.heap.size + 1, 1, none⟩ = some (.int .i64 y) := by rw [← hW]; simp [go_sem]
    have sz : w.heap.size + 1 < W0.heap.size := by rw [← hW]; simp
    clear hW
    have zz0 : w.heap.size < W0.heap.size := by omega
    have bx0 : AtL (w.heap.size) [.int .i64 m0, .int .i64 m1, .int .i64 m2, .int .i64 m3, .int .i64 m4, .int .i64 m5, .int .i64 m6, .int .i64 m7, .int .i64 m8, .int .i64 m9, .int .i64 m10, .int .i64 m11] W0 := ⟨fun i v hv => by
      match i, hv with
      | 0, hv => exact (Option.some.inj hv) ▸ s1
      | 1, hv => exact (Option.some.inj hv) ▸ s2
      | 2, hv => exact (Option.some.inj hv) ▸ s3
      | 3, hv => exact (Option.some.inj hv) ▸ s4
      | 4, hv => exact (Option.some.inj hv) ▸ s5
      | 5, hv => exact (Option.some.inj hv) ▸ s6
      | 6, hv => exact (Option.some.inj hv) ▸ s7
      | 7, hv => exact (Option.some.inj hv) ▸ s8
      | 8, hv => exact (Option.some.inj hv) ▸ s9
      | 9, hv => exact (Option.some.inj hv) ▸ s10
      | 10, hv => exact (Option.some.inj hv) ▸ s11
      | 11, hv => exact (Option.some.inj hv) ▸ s12
      , zz0⟩
    have zz1 : w.heap.size + 1 < W0.heap.size := by omega
    have bx1 : AtL (w.heap.size + 1) [.int .i64 x, .int .i64 y] W0 := ⟨fun i v hv => by
      match i, hv with
      | 0, hv => exact (Option.some.inj hv) ▸ s13
      | 1, hv => exact (Option.some.inj hv) ▸ s14
      , zz1⟩
    go_region_held3 (fun w' => w'.cell? ⟨w.heap.size, 0, none⟩ = some (.int .i64 m0) ∧ w'.cell? ⟨w.heap.size, 1, none⟩ = some (.int .i64 m1) ∧ w'.cell? ⟨w.heap.size, 2, none⟩ = some (.int .i64 m2) ∧ w'.cell? ⟨w.heap.size, 3, none⟩ = some (.int .i64 m3) ∧ w'.cell? ⟨w.heap.size, 4, none⟩ = some (.int .i64 m4) ∧ w'.cell? ⟨w.heap.size, 5, none⟩ = some (.int .i64 m5) ∧ w'.cell? ⟨w.heap.size, 6, none⟩ = some (.int .i64 m6) ∧ w'.cell? ⟨w.heap.size, 7, none⟩ = some (.int .i64 m7) ∧ w'.cell? ⟨w.heap.size, 8, none⟩ = some (.int .i64 m8) ∧ w'.cell? ⟨w.heap.size, 9, none⟩ = some (.int .i64 m9) ∧ w'.cell? ⟨w.heap.size, 10, none⟩ = some (.int .i64 m10) ∧ w'.cell? ⟨w.heap.size, 11, none⟩ = some (.int .i64 m11) ∧ w'.cell? ⟨w.heap.size + 1, 0, none⟩ = some (.int .i64 x) ∧ w'.cell? ⟨w.heap.size + 1, 1, none⟩ = some (.int .i64 y) ∧ w.heap.size + 1 < w'.heap.size)
      (first | ((try dsimp only); (repeat' apply And.intro); all_goals (first | assumption | omega | (simp (disch := first | omega | (simp; omega)) [*]; done) | (simp (disch := first | omega | (simp; omega)) [cell_alloc_at, *]; done) | (rw [cell_set_at _ _ (by first | omega | (simp; omega)), cell_set_at _ _ (by first | omega | (simp; omega))]; first | assumption | (simp (disch := first | omega | (simp; omega)) [*]; done) | (simp (disch := first | omega | (simp; omega)) [cell_alloc_at, *]; done)) | (simp; omega))) | fail)
      (first
        | (go_at_call 8; (with_reducible refine (toAffine_any m0 m1 m2 m3 m4 m5 m6 m7 m8 m9 m10 m11 _).mono ?_); rintro e wA0 ⟨rfl, hbwA0⟩; obtain ⟨hcwA0, hfwA0⟩ := bcell hbwA0; have hzwA0 := hbwA0.size; (try simp only [World.size_drew] at hcwA0 hfwA0 hzwA0); (try simp only [World.size_alloc] at hcwA0 hfwA0 hzwA0); (try have qW0wA0 : W0.heap.size < wA0.heap.size := (by omega)))
        | (go_at_call 14; (with_reducible refine (toPt_any x y _).mono ?_); rintro e wA1 ⟨rfl, hbwA1⟩; obtain ⟨hcwA1, hfwA1⟩ := bcell hbwA1; have hzwA1 := hbwA1.size; (try simp only [World.size_drew] at hcwA1 hfwA1 hzwA1); (try simp only [World.size_alloc] at hcwA1 hfwA1 hzwA1); (try have qW0wA1 : W0.heap.size < wA1.heap.size := (by omega)); (try have qwA0wA1 : wA0.heap.size < wA1.heap.size := (by omega)))
        | (go_at_call 13; ((with_reducible refine (C1.out _).mono ?_); rintro e wC ⟨rfl, hbwC⟩; obtain ⟨hcwC, hfwC⟩ := bcell hbwC; have hzwC := hbwC.size; (try simp only [World.size_drew] at hcwC hfwC hzwC); (try simp only [World.size_alloc] at hcwC hfwC hzwC); (try have qW0wC : W0.heap.size < wC.heap.size := (by omega)); (try have qwA0wC : wA0.heap.size < wC.heap.size := (by omega)); (try have qwA1wC : wA1.heap.size < wC.heap.size := (by omega)))))
    all_goals
      go_wp2_with fail
      go_meet
    all_goals exact ⟨⟨_, rfl, by repeat' (first | with_reducible assumption | with_reducible exact AtL.new _ _ _ | (with_reducible refine AtL.drew ?_) | (with_reducible apply AtL.store2) | (with_reducible refine AtL.alloc ?_ _) | (with_reducible refine AtL.far ?_ ?_ _ _) | (with_reducible refine AtL.below ?_ (by with_reducible assumption)) | omega | (simp; done) | (simp; omega))⟩, rfl, by repeat' (first | with_reducible assumption | with_reducible exact Below.refl _ _ | (with_reducible refine Below.setCell ?_ ?_ _) | (with_reducible refine Below.alloc ?_ ?_ _) | (with_reducible refine Below.drew ?_) | (with_reducible refine below_dr ?_ _) | (with_reducible refine Below.trans ?_ (Below.mono (by with_reducible assumption) ?_)) | omega | (simp; done) | (simp; omega)), by repeat' (first | with_reducible assumption | with_reducible exact AtL.new _ _ _ | (with_reducible refine AtL.drew ?_) | (with_reducible apply AtL.store2) | (with_reducible refine AtL.alloc ?_ _) | (with_reducible refine AtL.far ?_ ?_ _ _) | (with_reducible refine AtL.below ?_ (by with_reducible assumption)) | omega | (simp; done) | (simp; omega)), by repeat' (first | with_reducible assumption | with_reducible exact AtL.new _ _ _ | (with_reducible refine AtL.drew ?_) | (with_reducible apply AtL.store2) | (with_reducible refine AtL.alloc ?_ _) | (with_reducible refine AtL.far ?_ ?_ _ _) | (with_reducible refine AtL.below ?_ (by with_reducible assumption)) | omega | (simp; done) | (simp; omega))⟩
  case rest =>
    obtain ⟨⟨g1, rfl, at1⟩, rfl, bel1, bx0, bx1⟩ := hcut
    obtain ⟨W0, rfl⟩ : ∃ W : World, W = wc := ⟨_, rfl⟩
    have lt1 := at1.lt
    have s1 := bx0.cell 0 rfl
    have s2 := bx0.cell 1 rfl
    have s3 := bx0.cell 2 rfl
    have s4 := bx0.cell 3 rfl
    have s5 := bx0.cell 4 rfl
    have s6 := bx0.cell 5 rfl
    have s7 := bx0.cell 6 rfl
    have s8 := bx0.cell 7 rfl
    have s9 := bx0.cell 8 rfl
    have s10 := bx0.cell 9 rfl
    have s11 := bx0.cell 10 rfl
    have s12 := bx0.cell 11 rfl
    have s13 := bx1.cell 0 rfl
    have s14 := bx1.cell 1 rfl
    have sz := bx1.lt
    have zz0 := bx0.lt
    have zz1 := bx1.lt
    go_upto_region 2 with fail
    go_cut [7, 8] (fun sA sB wx => LeftP [.int .i64 u, .int .i64 v] sA wx ∧ sB = .int .i64 c ∧ Below w.heap.size w wx ∧ AtL (w.heap.size) [.int .i64 m0, .int .i64 m1, .int .i64 m2, .int .i64 m3, .int .i64 m4, .int .i64 m5, .int .i64 m6, .int .i64 m7, .int .i64 m8, .int .i64 m9, .int .i64 m10, .int .i64 m11] wx ∧ AtL (w.heap.size + 1) [.int .i64 x, .int .i64 y] wx ∧ AtL g1 [.int .i64 u, .int .i64 v] wx)
    case first =>
      go_region_held3 (fun w' => w'.cell? ⟨w.heap.size, 0, none⟩ = some (.int .i64 m0) ∧ w'.cell? ⟨w.heap.size, 1, none⟩ = some (.int .i64 m1) ∧ w'.cell? ⟨w.heap.size, 2, none⟩ = some (.int .i64 m2) ∧ w'.cell? ⟨w.heap.size, 3, none⟩ = some (.int .i64 m3) ∧ w'.cell? ⟨w.heap.size, 4, none⟩ = some (.int .i64 m4) ∧ w'.cell? ⟨w.heap.size, 5, none⟩ = some (.int .i64 m5) ∧ w'.cell? ⟨w.heap.size, 6, none⟩ = some (.int .i64 m6) ∧ w'.cell? ⟨w.heap.size, 7, none⟩ = some (.int .i64 m7) ∧ w'.cell? ⟨w.heap.size, 8, none⟩ = some (.int .i64 m8) ∧ w'.cell? ⟨w.heap.size, 9, none⟩ = some (.int .i64 m9) ∧ w'.cell? ⟨w.heap.size, 10, none⟩ = some (.int .i64 m10) ∧ w'.cell? ⟨w.heap.size, 11, none⟩ = some (.int .i64 m11) ∧ w'.cell? ⟨w.heap.size + 1, 0, none⟩ = some (.int .i64 x) ∧ w'.cell? ⟨w.heap.size + 1, 1, none⟩ = some (.int .i64 y) ∧ w.heap.size + 1 < w'.heap.size)
        (first | ((try dsimp only); (repeat' apply And.intro); all_goals (first | assumption | omega | (simp (disch := first | omega | (simp; omega)) [*]; done) | (simp (disch := first | omega | (simp; omega)) [cell_alloc_at, *]; done) | (rw [cell_set_at _ _ (by first | omega | (simp; omega)), cell_set_at _ _ (by first | omega | (simp; omega))]; first | assumption | (simp (disch := first | omega | (simp; omega)) [*]; done) | (simp (disch := first | omega | (simp; omega)) [cell_alloc_at, *]; done)) | (simp; omega))) | fail)
        (first
          | (go_at_call 8; (with_reducible refine (toAffine_any m0 m1 m2 m3 m4 m5 m6 m7 m8 m9 m10 m11 _).mono ?_); rintro e wA0 ⟨rfl, hbwA0⟩; obtain ⟨hcwA0, hfwA0⟩ := bcell hbwA0; have hzwA0 := hbwA0.size; (try simp only [World.size_drew] at hcwA0 hfwA0 hzwA0); (try simp only [World.size_alloc] at hcwA0 hfwA0 hzwA0); (try have qW0wA0 : W0.heap.size < wA0.heap.size := (by omega)))
          | (go_at_call 14; (with_reducible refine (toPt_any x y _).mono ?_); rintro e wA1 ⟨rfl, hbwA1⟩; obtain ⟨hcwA1, hfwA1⟩ := bcell hbwA1; have hzwA1 := hbwA1.size; (try simp only [World.size_drew] at hcwA1 hfwA1 hzwA1); (try simp only [World.size_alloc] at hcwA1 hfwA1 hzwA1); (try have qW0wA1 : W0.heap.size < wA1.heap.size := (by omega)); (try have qwA0wA1 : wA0.heap.size < wA1.heap.size := (by omega)))
          | (go_at_call 15; ((with_reducible refine (C2.out _).mono ?_); rintro e wC ⟨rfl, hbwC⟩; obtain ⟨hcwC, hfwC⟩ := bcell hbwC; have hzwC := hbwC.size; (try simp only [World.size_drew] at hcwC hfwC hzwC); (try simp only [World.size_alloc] at hcwC hfwC hzwC); (try have qW0wC : W0.heap.size < wC.heap.size := (by omega)); (try have qwA0wC : wA0.heap.size < wC.heap.size := (by omega)); (try have qwA1wC : wA1.heap.size < wC.heap.size := (by omega)))))
      all_goals
        go_wp2_with fail
        go_meet
      all_goals exact ⟨⟨_, rfl, by repeat' (first | with_reducible assumption | with_reducible exact AtL.new _ _ _ | (with_reducible refine AtL.drew ?_) | (with_reducible apply AtL.store2) | (with_reducible refine AtL.alloc ?_ _) | (with_reducible refine AtL.far ?_ ?_ _ _) | (with_reducible refine AtL.below ?_ (by with_reducible assumption)) | omega | (simp; done) | (simp; omega))⟩, rfl, by repeat' (first | with_reducible assumption | with_reducible exact Below.refl _ _ | (with_reducible refine Below.setCell ?_ ?_ _) | (with_reducible refine Below.alloc ?_ ?_ _) | (with_reducible refine Below.drew ?_) | (with_reducible refine below_dr ?_ _) | (with_reducible refine Below.trans ?_ (Below.mono (by with_reducible assumption) ?_)) | omega | (simp; done) | (simp; omega)), by repeat' (first | with_reducible assumption | with_reducible exact AtL.new _ _ _ | (with_reducible refine AtL.drew ?_) | (with_reducible apply AtL.store2) | (with_reducible refine AtL.alloc ?_ _) | (with_reducible refine AtL.far ?_ ?_ _ _) | (with_reducible refine AtL.below ?_ (by with_reducible assumption)) | omega | (simp; done) | (simp; omega)), by repeat' (first | with_reducible assumption | with_reducible exact AtL.new _ _ _ | (with_reducible refine AtL.drew ?_) | (with_reducible apply AtL.store2) | (with_reducible refine AtL.alloc ?_ _) | (with_reducible refine AtL.far ?_ ?_ _ _) | (with_reducible refine AtL.below ?_ (by with_reducible assumption)) | omega | (simp; done) | (simp; omega)), by repeat' (first | with_reducible assumption | with_reducible exact AtL.new _ _ _ | (with_reducible refine AtL.drew ?_) | (with_reducible apply AtL.store2) | (with_reducible refine AtL.alloc ?_ _) | (with_reducible refine AtL.far ?_ ?_ _ _) | (with_reducible refine AtL.below ?_ (by with_reducible assumption)) | omega | (simp; done) | (simp; omega))⟩
    case rest =>
      obtain ⟨⟨g2, rfl, at2⟩, rfl, bel2, _, _, at3⟩ := hcut
      have k0 := at2.cell 0 rfl
      have k1 := at2.cell 1 rfl
      have k2 := at3.cell 0 rfl
      have k3 := at3.cell 1 rfl
      go_wp2_with fail
      refine (eqPt_same _ _ _).mono ?_
      rintro e wE ⟨rfl, hbwE⟩
      have zE := bel2.size
      go_wp2
      go_ret
      exact ⟨rfl, by repeat' (first | with_reducible assumption | with_reducible exact Below.refl _ _ | (with_reducible refine Below.setCell ?_ ?_ _) | (with_reducible refine Below.alloc ?_ ?_ _) | (with_reducible refine Below.drew ?_) | (with_reducible refine below_dr ?_ _) | (with_reducible refine Below.trans ?_ (Below.mono (by with_reducible assumption) ?_)) | omega | (simp; done) | (simp; omega))⟩
end Go.Proofs.Ytjlmoadnbbeloaa
