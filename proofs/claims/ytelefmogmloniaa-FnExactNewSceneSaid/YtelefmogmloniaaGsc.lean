/- Walks: the law on NewScene. -/
import Derived.Test.YtelefmogmloniaaGsb
namespace Go.Proofs.Ytelefmogmloniaa
open Go.RowKit
set_option linter.unusedVariables false
set_option maxRecDepth 100000 in
set_option maxHeartbeats 12800000 in
theorem walk_NewScene (x : Int) (w_x : (Lit.int .i64 x).wf = true) (w : World) : Calls Try.prog 6 #[.int .i64 x] w fun e w' => e = .returned (.bool true) ∧ Below w.heap.size w w' := by
  have C1 := Lib.hid (fun w => specNewScene_any x w)
  have C2 := Lib.hid (fun w => implNewScene_any x w)
  generalize scU x = u at C1 C2
  generalize scC x = cd at C1 C2
  have hcd : (cd != cd) = false := by simp
  clear w_x
  go_enter Try.func6, Try.ntmps6
  go_wp2_with fail
  refine (C1.out _).mono ?_
  rintro e wa ⟨⟨RA, rfl⟩, hbwa⟩
  have belwa : Below w.heap.size w wa := by repeat' (first | with_reducible assumption | with_reducible exact Below.refl _ _ | (with_reducible refine Below.setCell ?_ ?_ _) | (with_reducible refine Below.alloc ?_ ?_ _) | (with_reducible refine Below.drew ?_) | (with_reducible refine below_dr ?_ _) | (with_reducible refine Below.trans ?_ (Below.mono (by with_reducible assumption) ?_)) | omega | (simp; done) | (simp; omega))
  obtain ⟨hcwa, hfwa⟩ := bcell hbwa
  have hzwa := hbwa.size
  (try simp only [World.size_setCell] at hcwa hfwa hzwa)
  (try simp only [World.size_alloc] at hcwa hfwa hzwa)
  clear hcwa hfwa hbwa
  go_wp2_with fail
  refine (C2.out _).mono ?_
  rintro e wb ⟨rfl, hbwb⟩
  have belwb : Below w.heap.size w wb := by repeat' (first | with_reducible assumption | with_reducible exact Below.refl _ _ | (with_reducible refine Below.setCell ?_ ?_ _) | (with_reducible refine Below.alloc ?_ ?_ _) | (with_reducible refine Below.drew ?_) | (with_reducible refine below_dr ?_ _) | (with_reducible refine Below.trans ?_ (Below.mono (by with_reducible assumption) ?_)) | omega | (simp; done) | (simp; omega))
  obtain ⟨hcwb, hfwb⟩ := bcell hbwb
  have hzwb := hbwb.size
  (try simp only [World.size_setCell] at hcwb hfwb hzwb)
  (try simp only [World.size_alloc] at hcwb hfwb hzwb)
  have ywb_0_0 : wb.cell? ⟨wa.heap.size, 0, none⟩ = some (.slice RA 0 0) := (hcwb _ _ (by first | assumption | omega | (simp; done) | (simp; omega))).trans (by simp [go_sem])
  have ywb_0_1 : wb.cell? ⟨wa.heap.size, 1, none⟩ = some (.slice none 0 0) := (hcwb _ _ (by first | assumption | omega | (simp; done) | (simp; omega))).trans (by simp [go_sem])
  have ywb_0_2 : wb.cell? ⟨wa.heap.size, 2, none⟩ = some (.slice none 0 0) := (hcwb _ _ (by first | assumption | omega | (simp; done) | (simp; omega))).trans (by simp [go_sem])
  have ywb_0_3 : wb.cell? ⟨wa.heap.size, 3, none⟩ = some (.int .i64 u) := (hcwb _ _ (by first | assumption | omega | (simp; done) | (simp; omega))).trans (by simp [go_sem])
  have ywb_0_4 : wb.cell? ⟨wa.heap.size, 4, none⟩ = some (.slice none 0 0) := (hcwb _ _ (by first | assumption | omega | (simp; done) | (simp; omega))).trans (by simp [go_sem])
  have ywb_0_5 : wb.cell? ⟨wa.heap.size, 5, none⟩ = some (.bool false) := (hcwb _ _ (by first | assumption | omega | (simp; done) | (simp; omega))).trans (by simp [go_sem])
  have ywb_0_6 : wb.cell? ⟨wa.heap.size, 6, none⟩ = some (.string E0) := (hcwb _ _ (by first | assumption | omega | (simp; done) | (simp; omega))).trans (by simp [go_sem])
  have ywb_0_7 : wb.cell? ⟨wa.heap.size, 7, none⟩ = some (.int .i64 0) := (hcwb _ _ (by first | assumption | omega | (simp; done) | (simp; omega))).trans (by simp [go_sem])
  have ywb_0_8 : wb.cell? ⟨wa.heap.size, 8, none⟩ = some (.int .i64 0) := (hcwb _ _ (by first | assumption | omega | (simp; done) | (simp; omega))).trans (by simp [go_sem])
  have ywb_0_9 : wb.cell? ⟨wa.heap.size, 9, none⟩ = some (.slice none 0 0) := (hcwb _ _ (by first | assumption | omega | (simp; done) | (simp; omega))).trans (by simp [go_sem])
  have ywb_0_10 : wb.cell? ⟨wa.heap.size, 10, none⟩ = some (.slice none 0 0) := (hcwb _ _ (by first | assumption | omega | (simp; done) | (simp; omega))).trans (by simp [go_sem])
  have ywb_0_11 : wb.cell? ⟨wa.heap.size, 11, none⟩ = some (.slice none 0 0) := (hcwb _ _ (by first | assumption | omega | (simp; done) | (simp; omega))).trans (by simp [go_sem])
  have ywb_0_12 : wb.cell? ⟨wa.heap.size, 12, none⟩ = some (.string E0) := (hcwb _ _ (by first | assumption | omega | (simp; done) | (simp; omega))).trans (by simp [go_sem])
  have ywb_0_13 : wb.cell? ⟨wa.heap.size, 13, none⟩ = some (.slice none 0 0) := (hcwb _ _ (by first | assumption | omega | (simp; done) | (simp; omega))).trans (by simp [go_sem])
  have qwb_0 : wa.heap.size < wb.heap.size := by omega
  clear hcwb hfwb hbwb
  go_wp2_with fail
  refine (eqScene_ra RA u _).mono ?_
  rintro e wc ⟨rfl, hbwc⟩
  have belwc : Below w.heap.size w wc := by repeat' (first | with_reducible assumption | with_reducible exact Below.refl _ _ | (with_reducible refine Below.setCell ?_ ?_ _) | (with_reducible refine Below.alloc ?_ ?_ _) | (with_reducible refine Below.drew ?_) | (with_reducible refine below_dr ?_ _) | (with_reducible refine Below.trans ?_ (Below.mono (by with_reducible assumption) ?_)) | omega | (simp; done) | (simp; omega))
  obtain ⟨hcwc, hfwc⟩ := bcell hbwc
  have hzwc := hbwc.size
  (try simp only [World.size_setCell] at hcwc hfwc hzwc)
  (try simp only [World.size_alloc] at hcwc hfwc hzwc)
  have ywc_0_0 : wc.cell? ⟨wa.heap.size, 0, none⟩ = some (.slice RA 0 0) := (hcwc _ _ (by first | assumption | omega | (simp; done) | (simp; omega))).trans (by first | exact ywb_0_0 | (simp [go_sem, *]; done))
  have ywc_0_1 : wc.cell? ⟨wa.heap.size, 1, none⟩ = some (.slice none 0 0) := (hcwc _ _ (by first | assumption | omega | (simp; done) | (simp; omega))).trans (by first | exact ywb_0_1 | (simp [go_sem, *]; done))
  have ywc_0_2 : wc.cell? ⟨wa.heap.size, 2, none⟩ = some (.slice none 0 0) := (hcwc _ _ (by first | assumption | omega | (simp; done) | (simp; omega))).trans (by first | exact ywb_0_2 | (simp [go_sem, *]; done))
  have ywc_0_3 : wc.cell? ⟨wa.heap.size, 3, none⟩ = some (.int .i64 u) := (hcwc _ _ (by first | assumption | omega | (simp; done) | (simp; omega))).trans (by first | exact ywb_0_3 | (simp [go_sem, *]; done))
  have ywc_0_4 : wc.cell? ⟨wa.heap.size, 4, none⟩ = some (.slice none 0 0) := (hcwc _ _ (by first | assumption | omega | (simp; done) | (simp; omega))).trans (by first | exact ywb_0_4 | (simp [go_sem, *]; done))
  have ywc_0_5 : wc.cell? ⟨wa.heap.size, 5, none⟩ = some (.bool false) := (hcwc _ _ (by first | assumption | omega | (simp; done) | (simp; omega))).trans (by first | exact ywb_0_5 | (simp [go_sem, *]; done))
  have ywc_0_6 : wc.cell? ⟨wa.heap.size, 6, none⟩ = some (.string E0) := (hcwc _ _ (by first | assumption | omega | (simp; done) | (simp; omega))).trans (by first | exact ywb_0_6 | (simp [go_sem, *]; done))
  have ywc_0_7 : wc.cell? ⟨wa.heap.size, 7, none⟩ = some (.int .i64 0) := (hcwc _ _ (by first | assumption | omega | (simp; done) | (simp; omega))).trans (by first | exact ywb_0_7 | (simp [go_sem, *]; done))
  have ywc_0_8 : wc.cell? ⟨wa.heap.size, 8, none⟩ = some (.int .i64 0) := (hcwc _ _ (by first | assumption | omega | (simp; done) | (simp; omega))).trans (by first | exact ywb_0_8 | (simp [go_sem, *]; done))
  have ywc_0_9 : wc.cell? ⟨wa.heap.size, 9, none⟩ = some (.slice none 0 0) := (hcwc _ _ (by first | assumption | omega | (simp; done) | (simp; omega))).trans (by first | exact ywb_0_9 | (simp [go_sem, *]; done))
  have ywc_0_10 : wc.cell? ⟨wa.heap.size, 10, none⟩ = some (.slice none 0 0) := (hcwc _ _ (by first | assumption | omega | (simp; done) | (simp; omega))).trans (by first | exact ywb_0_10 | (simp [go_sem, *]; done))
  have ywc_0_11 : wc.cell? ⟨wa.heap.size, 11, none⟩ = some (.slice none 0 0) := (hcwc _ _ (by first | assumption | omega | (simp; done) | (simp; omega))).trans (by first | exact ywb_0_11 | (simp [go_sem, *]; done))
  have ywc_0_12 : wc.cell? ⟨wa.heap.size, 12, none⟩ = some (.string E0) := (hcwc _ _ (by first | assumption | omega | (simp; done) | (simp; omega))).trans (by first | exact ywb_0_12 | (simp [go_sem, *]; done))
  have ywc_0_13 : wc.cell? ⟨wa.heap.size, 13, none⟩ = some (.slice none 0 0) := (hcwc _ _ (by first | assumption | omega | (simp; done) | (simp; omega))).trans (by first | exact ywb_0_13 | (simp [go_sem, *]; done))
  have ywc_1_0 : wc.cell? ⟨wb.heap.size, 0, none⟩ = some (.slice none 0 0) := (hcwc _ _ (by first | assumption | omega | (simp; done) | (simp; omega))).trans (by simp [go_sem])
  have ywc_1_1 : wc.cell? ⟨wb.heap.size, 1, none⟩ = some (.slice none 0 0) := (hcwc _ _ (by first | assumption | omega | (simp; done) | (simp; omega))).trans (by simp [go_sem])
  have ywc_1_2 : wc.cell? ⟨wb.heap.size, 2, none⟩ = some (.slice none 0 0) := (hcwc _ _ (by first | assumption | omega | (simp; done) | (simp; omega))).trans (by simp [go_sem])
  have ywc_1_3 : wc.cell? ⟨wb.heap.size, 3, none⟩ = some (.int .i64 u) := (hcwc _ _ (by first | assumption | omega | (simp; done) | (simp; omega))).trans (by simp [go_sem])
  have ywc_1_4 : wc.cell? ⟨wb.heap.size, 4, none⟩ = some (.slice none 0 0) := (hcwc _ _ (by first | assumption | omega | (simp; done) | (simp; omega))).trans (by simp [go_sem])
  have ywc_1_5 : wc.cell? ⟨wb.heap.size, 5, none⟩ = some (.bool false) := (hcwc _ _ (by first | assumption | omega | (simp; done) | (simp; omega))).trans (by simp [go_sem])
  have ywc_1_6 : wc.cell? ⟨wb.heap.size, 6, none⟩ = some (.string E0) := (hcwc _ _ (by first | assumption | omega | (simp; done) | (simp; omega))).trans (by simp [go_sem])
  have ywc_1_7 : wc.cell? ⟨wb.heap.size, 7, none⟩ = some (.int .i64 0) := (hcwc _ _ (by first | assumption | omega | (simp; done) | (simp; omega))).trans (by simp [go_sem])
  have ywc_1_8 : wc.cell? ⟨wb.heap.size, 8, none⟩ = some (.int .i64 0) := (hcwc _ _ (by first | assumption | omega | (simp; done) | (simp; omega))).trans (by simp [go_sem])
  have ywc_1_9 : wc.cell? ⟨wb.heap.size, 9, none⟩ = some (.slice none 0 0) := (hcwc _ _ (by first | assumption | omega | (simp; done) | (simp; omega))).trans (by simp [go_sem])
  have ywc_1_10 : wc.cell? ⟨wb.heap.size, 10, none⟩ = some (.slice none 0 0) := (hcwc _ _ (by first | assumption | omega | (simp; done) | (simp; omega))).trans (by simp [go_sem])
  have ywc_1_11 : wc.cell? ⟨wb.heap.size, 11, none⟩ = some (.slice none 0 0) := (hcwc _ _ (by first | assumption | omega | (simp; done) | (simp; omega))).trans (by simp [go_sem])
  have ywc_1_12 : wc.cell? ⟨wb.heap.size, 12, none⟩ = some (.string E0) := (hcwc _ _ (by first | assumption | omega | (simp; done) | (simp; omega))).trans (by simp [go_sem])
  have ywc_1_13 : wc.cell? ⟨wb.heap.size, 13, none⟩ = some (.slice none 0 0) := (hcwc _ _ (by first | assumption | omega | (simp; done) | (simp; omega))).trans (by simp [go_sem])
  have qwc_0 : wa.heap.size < wc.heap.size := by omega
  have qwc_1 : wb.heap.size < wc.heap.size := by omega
  clear hcwc hfwc hbwc
  clear ywb_0_0 ywb_0_1 ywb_0_2 ywb_0_3 ywb_0_4 ywb_0_5 ywb_0_6 ywb_0_7 ywb_0_8 ywb_0_9 ywb_0_10 ywb_0_11 ywb_0_12 ywb_0_13
  go_wp2_with fail
  refine (markScene_nil u _).mono ?_
  rintro e wd ⟨rfl, hbwd⟩
  have belwd : Below w.heap.size w wd := by repeat' (first | with_reducible assumption | with_reducible exact Below.refl _ _ | (with_reducible refine Below.setCell ?_ ?_ _) | (with_reducible refine Below.alloc ?_ ?_ _) | (with_reducible refine Below.drew ?_) | (with_reducible refine below_dr ?_ _) | (with_reducible refine Below.trans ?_ (Below.mono (by with_reducible assumption) ?_)) | omega | (simp; done) | (simp; omega))
  obtain ⟨hcwd, hfwd⟩ := bcell hbwd
  have hzwd := hbwd.size
  (try simp only [World.size_setCell] at hcwd hfwd hzwd)
  (try simp only [World.size_alloc] at hcwd hfwd hzwd)
  have ywd_0_0 : wd.cell? ⟨wa.heap.size, 0, none⟩ = some (.slice RA 0 0) := (hcwd _ _ (by first | assumption | omega | (simp; done) | (simp; omega))).trans (by first | exact ywc_0_0 | (simp [go_sem, *]; done))
  have ywd_0_1 : wd.cell? ⟨wa.heap.size, 1, none⟩ = some (.slice none 0 0) := (hcwd _ _ (by first | assumption | omega | (simp; done) | (simp; omega))).trans (by first | exact ywc_0_1 | (simp [go_sem, *]; done))
  have ywd_0_2 : wd.cell? ⟨wa.heap.size, 2, none⟩ = some (.slice none 0 0) := (hcwd _ _ (by first | assumption | omega | (simp; done) | (simp; omega))).trans (by first | exact ywc_0_2 | (simp [go_sem, *]; done))
  have ywd_0_3 : wd.cell? ⟨wa.heap.size, 3, none⟩ = some (.int .i64 u) := (hcwd _ _ (by first | assumption | omega | (simp; done) | (simp; omega))).trans (by first | exact ywc_0_3 | (simp [go_sem, *]; done))
  have ywd_0_4 : wd.cell? ⟨wa.heap.size, 4, none⟩ = some (.slice none 0 0) := (hcwd _ _ (by first | assumption | omega | (simp; done) | (simp; omega))).trans (by first | exact ywc_0_4 | (simp [go_sem, *]; done))
  have ywd_0_5 : wd.cell? ⟨wa.heap.size, 5, none⟩ = some (.bool false) := (hcwd _ _ (by first | assumption | omega | (simp; done) | (simp; omega))).trans (by first | exact ywc_0_5 | (simp [go_sem, *]; done))
  have ywd_0_6 : wd.cell? ⟨wa.heap.size, 6, none⟩ = some (.string E0) := (hcwd _ _ (by first | assumption | omega | (simp; done) | (simp; omega))).trans (by first | exact ywc_0_6 | (simp [go_sem, *]; done))
  have ywd_0_7 : wd.cell? ⟨wa.heap.size, 7, none⟩ = some (.int .i64 0) := (hcwd _ _ (by first | assumption | omega | (simp; done) | (simp; omega))).trans (by first | exact ywc_0_7 | (simp [go_sem, *]; done))
  have ywd_0_8 : wd.cell? ⟨wa.heap.size, 8, none⟩ = some (.int .i64 0) := (hcwd _ _ (by first | assumption | omega | (simp; done) | (simp; omega))).trans (by first | exact ywc_0_8 | (simp [go_sem, *]; done))
  have ywd_0_9 : wd.cell? ⟨wa.heap.size, 9, none⟩ = some (.slice none 0 0) := (hcwd _ _ (by first | assumption | omega | (simp; done) | (simp; omega))).trans (by first | exact ywc_0_9 | (simp [go_sem, *]; done))
  have ywd_0_10 : wd.cell? ⟨wa.heap.size, 10, none⟩ = some (.slice none 0 0) := (hcwd _ _ (by first | assumption | omega | (simp; done) | (simp; omega))).trans (by first | exact ywc_0_10 | (simp [go_sem, *]; done))
  have ywd_0_11 : wd.cell? ⟨wa.heap.size, 11, none⟩ = some (.slice none 0 0) := (hcwd _ _ (by first | assumption | omega | (simp; done) | (simp; omega))).trans (by first | exact ywc_0_11 | (simp [go_sem, *]; done))
  have ywd_0_12 : wd.cell? ⟨wa.heap.size, 12, none⟩ = some (.string E0) := (hcwd _ _ (by first | assumption | omega | (simp; done) | (simp; omega))).trans (by first | exact ywc_0_12 | (simp [go_sem, *]; done))
  have ywd_0_13 : wd.cell? ⟨wa.heap.size, 13, none⟩ = some (.slice none 0 0) := (hcwd _ _ (by first | assumption | omega | (simp; done) | (simp; omega))).trans (by first | exact ywc_0_13 | (simp [go_sem, *]; done))
  have ywd_1_0 : wd.cell? ⟨wb.heap.size, 0, none⟩ = some (.slice none 0 0) := (hcwd _ _ (by first | assumption | omega | (simp; done) | (simp; omega))).trans (by first | exact ywc_1_0 | (simp [go_sem, *]; done))
  have ywd_1_1 : wd.cell? ⟨wb.heap.size, 1, none⟩ = some (.slice none 0 0) := (hcwd _ _ (by first | assumption | omega | (simp; done) | (simp; omega))).trans (by first | exact ywc_1_1 | (simp [go_sem, *]; done))
  have ywd_1_2 : wd.cell? ⟨wb.heap.size, 2, none⟩ = some (.slice none 0 0) := (hcwd _ _ (by first | assumption | omega | (simp; done) | (simp; omega))).trans (by first | exact ywc_1_2 | (simp [go_sem, *]; done))
  have ywd_1_3 : wd.cell? ⟨wb.heap.size, 3, none⟩ = some (.int .i64 u) := (hcwd _ _ (by first | assumption | omega | (simp; done) | (simp; omega))).trans (by first | exact ywc_1_3 | (simp [go_sem, *]; done))
  have ywd_1_4 : wd.cell? ⟨wb.heap.size, 4, none⟩ = some (.slice none 0 0) := (hcwd _ _ (by first | assumption | omega | (simp; done) | (simp; omega))).trans (by first | exact ywc_1_4 | (simp [go_sem, *]; done))
  have ywd_1_5 : wd.cell? ⟨wb.heap.size, 5, none⟩ = some (.bool false) := (hcwd _ _ (by first | assumption | omega | (simp; done) | (simp; omega))).trans (by first | exact ywc_1_5 | (simp [go_sem, *]; done))
  have ywd_1_6 : wd.cell? ⟨wb.heap.size, 6, none⟩ = some (.string E0) := (hcwd _ _ (by first | assumption | omega | (simp; done) | (simp; omega))).trans (by first | exact ywc_1_6 | (simp [go_sem, *]; done))
  have ywd_1_7 : wd.cell? ⟨wb.heap.size, 7, none⟩ = some (.int .i64 0) := (hcwd _ _ (by first | assumption | omega | (simp; done) | (simp; omega))).trans (by first | exact ywc_1_7 | (simp [go_sem, *]; done))
  have ywd_1_8 : wd.cell? ⟨wb.heap.size, 8, none⟩ = some (.int .i64 0) := (hcwd _ _ (by first | assumption | omega | (simp; done) | (simp; omega))).trans (by first | exact ywc_1_8 | (simp [go_sem, *]; done))
  have ywd_1_9 : wd.cell? ⟨wb.heap.size, 9, none⟩ = some (.slice none 0 0) := (hcwd _ _ (by first | assumption | omega | (simp; done) | (simp; omega))).trans (by first | exact ywc_1_9 | (simp [go_sem, *]; done))
  have ywd_1_10 : wd.cell? ⟨wb.heap.size, 10, none⟩ = some (.slice none 0 0) := (hcwd _ _ (by first | assumption | omega | (simp; done) | (simp; omega))).trans (by first | exact ywc_1_10 | (simp [go_sem, *]; done))
  have ywd_1_11 : wd.cell? ⟨wb.heap.size, 11, none⟩ = some (.slice none 0 0) := (hcwd _ _ (by first | assumption | omega | (simp; done) | (simp; omega))).trans (by first | exact ywc_1_11 | (simp [go_sem, *]; done))
  have ywd_1_12 : wd.cell? ⟨wb.heap.size, 12, none⟩ = some (.string E0) := (hcwd _ _ (by first | assumption | omega | (simp; done) | (simp; omega))).trans (by first | exact ywc_1_12 | (simp [go_sem, *]; done))
  have ywd_1_13 : wd.cell? ⟨wb.heap.size, 13, none⟩ = some (.slice none 0 0) := (hcwd _ _ (by first | assumption | omega | (simp; done) | (simp; omega))).trans (by first | exact ywc_1_13 | (simp [go_sem, *]; done))
  have qwd_0 : wa.heap.size < wd.heap.size := by omega
  have qwd_1 : wb.heap.size < wd.heap.size := by omega
  clear hcwd hfwd hbwd
  clear ywc_0_0 ywc_0_1 ywc_0_2 ywc_0_3 ywc_0_4 ywc_0_5 ywc_0_6 ywc_0_7 ywc_0_8 ywc_0_9 ywc_0_10 ywc_0_11 ywc_0_12 ywc_0_13 ywc_1_0 ywc_1_1 ywc_1_2 ywc_1_3 ywc_1_4 ywc_1_5 ywc_1_6 ywc_1_7 ywc_1_8 ywc_1_9 ywc_1_10 ywc_1_11 ywc_1_12 ywc_1_13
  go_wp2_with fail
  refine (heldScene_nil u _).mono ?_
  rintro e we ⟨rfl, hbwe⟩
  have belwe : Below w.heap.size w we := by repeat' (first | with_reducible assumption | with_reducible exact Below.refl _ _ | (with_reducible refine Below.setCell ?_ ?_ _) | (with_reducible refine Below.alloc ?_ ?_ _) | (with_reducible refine Below.drew ?_) | (with_reducible refine below_dr ?_ _) | (with_reducible refine Below.trans ?_ (Below.mono (by with_reducible assumption) ?_)) | omega | (simp; done) | (simp; omega))
  obtain ⟨hcwe, hfwe⟩ := bcell hbwe
  have hzwe := hbwe.size
  (try simp only [World.size_setCell] at hcwe hfwe hzwe)
  (try simp only [World.size_alloc] at hcwe hfwe hzwe)
  have ywe_0_0 : we.cell? ⟨wa.heap.size, 0, none⟩ = some (.slice RA 0 0) := (hcwe _ _ (by first | assumption | omega | (simp; done) | (simp; omega))).trans (by first | exact ywd_0_0 | (simp [go_sem, *]; done))
  have ywe_0_1 : we.cell? ⟨wa.heap.size, 1, none⟩ = some (.slice none 0 0) := (hcwe _ _ (by first | assumption | omega | (simp; done) | (simp; omega))).trans (by first | exact ywd_0_1 | (simp [go_sem, *]; done))
  have ywe_0_2 : we.cell? ⟨wa.heap.size, 2, none⟩ = some (.slice none 0 0) := (hcwe _ _ (by first | assumption | omega | (simp; done) | (simp; omega))).trans (by first | exact ywd_0_2 | (simp [go_sem, *]; done))
  have ywe_0_3 : we.cell? ⟨wa.heap.size, 3, none⟩ = some (.int .i64 u) := (hcwe _ _ (by first | assumption | omega | (simp; done) | (simp; omega))).trans (by first | exact ywd_0_3 | (simp [go_sem, *]; done))
  have ywe_0_4 : we.cell? ⟨wa.heap.size, 4, none⟩ = some (.slice none 0 0) := (hcwe _ _ (by first | assumption | omega | (simp; done) | (simp; omega))).trans (by first | exact ywd_0_4 | (simp [go_sem, *]; done))
  have ywe_0_5 : we.cell? ⟨wa.heap.size, 5, none⟩ = some (.bool false) := (hcwe _ _ (by first | assumption | omega | (simp; done) | (simp; omega))).trans (by first | exact ywd_0_5 | (simp [go_sem, *]; done))
  have ywe_0_6 : we.cell? ⟨wa.heap.size, 6, none⟩ = some (.string E0) := (hcwe _ _ (by first | assumption | omega | (simp; done) | (simp; omega))).trans (by first | exact ywd_0_6 | (simp [go_sem, *]; done))
  have ywe_0_7 : we.cell? ⟨wa.heap.size, 7, none⟩ = some (.int .i64 0) := (hcwe _ _ (by first | assumption | omega | (simp; done) | (simp; omega))).trans (by first | exact ywd_0_7 | (simp [go_sem, *]; done))
  have ywe_0_8 : we.cell? ⟨wa.heap.size, 8, none⟩ = some (.int .i64 0) := (hcwe _ _ (by first | assumption | omega | (simp; done) | (simp; omega))).trans (by first | exact ywd_0_8 | (simp [go_sem, *]; done))
  have ywe_0_9 : we.cell? ⟨wa.heap.size, 9, none⟩ = some (.slice none 0 0) := (hcwe _ _ (by first | assumption | omega | (simp; done) | (simp; omega))).trans (by first | exact ywd_0_9 | (simp [go_sem, *]; done))
  have ywe_0_10 : we.cell? ⟨wa.heap.size, 10, none⟩ = some (.slice none 0 0) := (hcwe _ _ (by first | assumption | omega | (simp; done) | (simp; omega))).trans (by first | exact ywd_0_10 | (simp [go_sem, *]; done))
  have ywe_0_11 : we.cell? ⟨wa.heap.size, 11, none⟩ = some (.slice none 0 0) := (hcwe _ _ (by first | assumption | omega | (simp; done) | (simp; omega))).trans (by first | exact ywd_0_11 | (simp [go_sem, *]; done))
  have ywe_0_12 : we.cell? ⟨wa.heap.size, 12, none⟩ = some (.string E0) := (hcwe _ _ (by first | assumption | omega | (simp; done) | (simp; omega))).trans (by first | exact ywd_0_12 | (simp [go_sem, *]; done))
  have ywe_0_13 : we.cell? ⟨wa.heap.size, 13, none⟩ = some (.slice none 0 0) := (hcwe _ _ (by first | assumption | omega | (simp; done) | (simp; omega))).trans (by first | exact ywd_0_13 | (simp [go_sem, *]; done))
  have ywe_1_0 : we.cell? ⟨wb.heap.size, 0, none⟩ = some (.slice none 0 0) := (hcwe _ _ (by first | assumption | omega | (simp; done) | (simp; omega))).trans (by first | exact ywd_1_0 | (simp [go_sem, *]; done))
  have ywe_1_1 : we.cell? ⟨wb.heap.size, 1, none⟩ = some (.slice none 0 0) := (hcwe _ _ (by first | assumption | omega | (simp; done) | (simp; omega))).trans (by first | exact ywd_1_1 | (simp [go_sem, *]; done))
  have ywe_1_2 : we.cell? ⟨wb.heap.size, 2, none⟩ = some (.slice none 0 0) := (hcwe _ _ (by first | assumption | omega | (simp; done) | (simp; omega))).trans (by first | exact ywd_1_2 | (simp [go_sem, *]; done))
  have ywe_1_3 : we.cell? ⟨wb.heap.size, 3, none⟩ = some (.int .i64 u) := (hcwe _ _ (by first | assumption | omega | (simp; done) | (simp; omega))).trans (by first | exact ywd_1_3 | (simp [go_sem, *]; done))
  have ywe_1_4 : we.cell? ⟨wb.heap.size, 4, none⟩ = some (.slice none 0 0) := (hcwe _ _ (by first | assumption | omega | (simp; done) | (simp; omega))).trans (by first | exact ywd_1_4 | (simp [go_sem, *]; done))
  have ywe_1_5 : we.cell? ⟨wb.heap.size, 5, none⟩ = some (.bool false) := (hcwe _ _ (by first | assumption | omega | (simp; done) | (simp; omega))).trans (by first | exact ywd_1_5 | (simp [go_sem, *]; done))
  have ywe_1_6 : we.cell? ⟨wb.heap.size, 6, none⟩ = some (.string E0) := (hcwe _ _ (by first | assumption | omega | (simp; done) | (simp; omega))).trans (by first | exact ywd_1_6 | (simp [go_sem, *]; done))
  have ywe_1_7 : we.cell? ⟨wb.heap.size, 7, none⟩ = some (.int .i64 0) := (hcwe _ _ (by first | assumption | omega | (simp; done) | (simp; omega))).trans (by first | exact ywd_1_7 | (simp [go_sem, *]; done))
  have ywe_1_8 : we.cell? ⟨wb.heap.size, 8, none⟩ = some (.int .i64 0) := (hcwe _ _ (by first | assumption | omega | (simp; done) | (simp; omega))).trans (by first | exact ywd_1_8 | (simp [go_sem, *]; done))
  have ywe_1_9 : we.cell? ⟨wb.heap.size, 9, none⟩ = some (.slice none 0 0) := (hcwe _ _ (by first | assumption | omega | (simp; done) | (simp; omega))).trans (by first | exact ywd_1_9 | (simp [go_sem, *]; done))
  have ywe_1_10 : we.cell? ⟨wb.heap.size, 10, none⟩ = some (.slice none 0 0) := (hcwe _ _ (by first | assumption | omega | (simp; done) | (simp; omega))).trans (by first | exact ywd_1_10 | (simp [go_sem, *]; done))
  have ywe_1_11 : we.cell? ⟨wb.heap.size, 11, none⟩ = some (.slice none 0 0) := (hcwe _ _ (by first | assumption | omega | (simp; done) | (simp; omega))).trans (by first | exact ywd_1_11 | (simp [go_sem, *]; done))
  have ywe_1_12 : we.cell? ⟨wb.heap.size, 12, none⟩ = some (.string E0) := (hcwe _ _ (by first | assumption | omega | (simp; done) | (simp; omega))).trans (by first | exact ywd_1_12 | (simp [go_sem, *]; done))
  have ywe_1_13 : we.cell? ⟨wb.heap.size, 13, none⟩ = some (.slice none 0 0) := (hcwe _ _ (by first | assumption | omega | (simp; done) | (simp; omega))).trans (by first | exact ywd_1_13 | (simp [go_sem, *]; done))
  have qwe_0 : wa.heap.size < we.heap.size := by omega
  have qwe_1 : wb.heap.size < we.heap.size := by omega
  clear hcwe hfwe hbwe
  clear ywd_0_0 ywd_0_1 ywd_0_2 ywd_0_3 ywd_0_4 ywd_0_5 ywd_0_6 ywd_0_7 ywd_0_8 ywd_0_9 ywd_0_10 ywd_0_11 ywd_0_12 ywd_0_13 ywd_1_0 ywd_1_1 ywd_1_2 ywd_1_3 ywd_1_4 ywd_1_5 ywd_1_6 ywd_1_7 ywd_1_8 ywd_1_9 ywd_1_10 ywd_1_11 ywd_1_12 ywd_1_13
  go_wp2_with fail
  refine (C2.out _).mono ?_
  rintro e wf ⟨rfl, hbwf⟩
  have belwf : Below w.heap.size w wf := by repeat' (first | with_reducible assumption | with_reducible exact Below.refl _ _ | (with_reducible refine Below.setCell ?_ ?_ _) | (with_reducible refine Below.alloc ?_ ?_ _) | (with_reducible refine Below.drew ?_) | (with_reducible refine below_dr ?_ _) | (with_reducible refine Below.trans ?_ (Below.mono (by with_reducible assumption) ?_)) | omega | (simp; done) | (simp; omega))
  obtain ⟨hcwf, hfwf⟩ := bcell hbwf
  have hzwf := hbwf.size
  (try simp only [World.size_setCell] at hcwf hfwf hzwf)
  (try simp only [World.size_alloc] at hcwf hfwf hzwf)
  have ywf_0_0 : wf.cell? ⟨wa.heap.size, 0, none⟩ = some (.slice RA 0 0) := (hcwf _ _ (by first | assumption | omega | (simp; done) | (simp; omega))).trans (by first | exact ywe_0_0 | (simp [go_sem, *]; done))
  have ywf_0_1 : wf.cell? ⟨wa.heap.size, 1, none⟩ = some (.slice none 0 0) := (hcwf _ _ (by first | assumption | omega | (simp; done) | (simp; omega))).trans (by first | exact ywe_0_1 | (simp [go_sem, *]; done))
  have ywf_0_2 : wf.cell? ⟨wa.heap.size, 2, none⟩ = some (.slice none 0 0) := (hcwf _ _ (by first | assumption | omega | (simp; done) | (simp; omega))).trans (by first | exact ywe_0_2 | (simp [go_sem, *]; done))
  have ywf_0_3 : wf.cell? ⟨wa.heap.size, 3, none⟩ = some (.int .i64 u) := (hcwf _ _ (by first | assumption | omega | (simp; done) | (simp; omega))).trans (by first | exact ywe_0_3 | (simp [go_sem, *]; done))
  have ywf_0_4 : wf.cell? ⟨wa.heap.size, 4, none⟩ = some (.slice none 0 0) := (hcwf _ _ (by first | assumption | omega | (simp; done) | (simp; omega))).trans (by first | exact ywe_0_4 | (simp [go_sem, *]; done))
  have ywf_0_5 : wf.cell? ⟨wa.heap.size, 5, none⟩ = some (.bool false) := (hcwf _ _ (by first | assumption | omega | (simp; done) | (simp; omega))).trans (by first | exact ywe_0_5 | (simp [go_sem, *]; done))
  have ywf_0_6 : wf.cell? ⟨wa.heap.size, 6, none⟩ = some (.string E0) := (hcwf _ _ (by first | assumption | omega | (simp; done) | (simp; omega))).trans (by first | exact ywe_0_6 | (simp [go_sem, *]; done))
  have ywf_0_7 : wf.cell? ⟨wa.heap.size, 7, none⟩ = some (.int .i64 0) := (hcwf _ _ (by first | assumption | omega | (simp; done) | (simp; omega))).trans (by first | exact ywe_0_7 | (simp [go_sem, *]; done))
  have ywf_0_8 : wf.cell? ⟨wa.heap.size, 8, none⟩ = some (.int .i64 0) := (hcwf _ _ (by first | assumption | omega | (simp; done) | (simp; omega))).trans (by first | exact ywe_0_8 | (simp [go_sem, *]; done))
  have ywf_0_9 : wf.cell? ⟨wa.heap.size, 9, none⟩ = some (.slice none 0 0) := (hcwf _ _ (by first | assumption | omega | (simp; done) | (simp; omega))).trans (by first | exact ywe_0_9 | (simp [go_sem, *]; done))
  have ywf_0_10 : wf.cell? ⟨wa.heap.size, 10, none⟩ = some (.slice none 0 0) := (hcwf _ _ (by first | assumption | omega | (simp; done) | (simp; omega))).trans (by first | exact ywe_0_10 | (simp [go_sem, *]; done))
  have ywf_0_11 : wf.cell? ⟨wa.heap.size, 11, none⟩ = some (.slice none 0 0) := (hcwf _ _ (by first | assumption | omega | (simp; done) | (simp; omega))).trans (by first | exact ywe_0_11 | (simp [go_sem, *]; done))
  have ywf_0_12 : wf.cell? ⟨wa.heap.size, 12, none⟩ = some (.string E0) := (hcwf _ _ (by first | assumption | omega | (simp; done) | (simp; omega))).trans (by first | exact ywe_0_12 | (simp [go_sem, *]; done))
  have ywf_0_13 : wf.cell? ⟨wa.heap.size, 13, none⟩ = some (.slice none 0 0) := (hcwf _ _ (by first | assumption | omega | (simp; done) | (simp; omega))).trans (by first | exact ywe_0_13 | (simp [go_sem, *]; done))
  have ywf_1_0 : wf.cell? ⟨wb.heap.size, 0, none⟩ = some (.slice none 0 0) := (hcwf _ _ (by first | assumption | omega | (simp; done) | (simp; omega))).trans (by first | exact ywe_1_0 | (simp [go_sem, *]; done))
  have ywf_1_1 : wf.cell? ⟨wb.heap.size, 1, none⟩ = some (.slice none 0 0) := (hcwf _ _ (by first | assumption | omega | (simp; done) | (simp; omega))).trans (by first | exact ywe_1_1 | (simp [go_sem, *]; done))
  have ywf_1_2 : wf.cell? ⟨wb.heap.size, 2, none⟩ = some (.slice none 0 0) := (hcwf _ _ (by first | assumption | omega | (simp; done) | (simp; omega))).trans (by first | exact ywe_1_2 | (simp [go_sem, *]; done))
  have ywf_1_3 : wf.cell? ⟨wb.heap.size, 3, none⟩ = some (.int .i64 u) := (hcwf _ _ (by first | assumption | omega | (simp; done) | (simp; omega))).trans (by first | exact ywe_1_3 | (simp [go_sem, *]; done))
  have ywf_1_4 : wf.cell? ⟨wb.heap.size, 4, none⟩ = some (.slice none 0 0) := (hcwf _ _ (by first | assumption | omega | (simp; done) | (simp; omega))).trans (by first | exact ywe_1_4 | (simp [go_sem, *]; done))
  have ywf_1_5 : wf.cell? ⟨wb.heap.size, 5, none⟩ = some (.bool false) := (hcwf _ _ (by first | assumption | omega | (simp; done) | (simp; omega))).trans (by first | exact ywe_1_5 | (simp [go_sem, *]; done))
  have ywf_1_6 : wf.cell? ⟨wb.heap.size, 6, none⟩ = some (.string E0) := (hcwf _ _ (by first | assumption | omega | (simp; done) | (simp; omega))).trans (by first | exact ywe_1_6 | (simp [go_sem, *]; done))
  have ywf_1_7 : wf.cell? ⟨wb.heap.size, 7, none⟩ = some (.int .i64 0) := (hcwf _ _ (by first | assumption | omega | (simp; done) | (simp; omega))).trans (by first | exact ywe_1_7 | (simp [go_sem, *]; done))
  have ywf_1_8 : wf.cell? ⟨wb.heap.size, 8, none⟩ = some (.int .i64 0) := (hcwf _ _ (by first | assumption | omega | (simp; done) | (simp; omega))).trans (by first | exact ywe_1_8 | (simp [go_sem, *]; done))
  have ywf_1_9 : wf.cell? ⟨wb.heap.size, 9, none⟩ = some (.slice none 0 0) := (hcwf _ _ (by first | assumption | omega | (simp; done) | (simp; omega))).trans (by first | exact ywe_1_9 | (simp [go_sem, *]; done))
  have ywf_1_10 : wf.cell? ⟨wb.heap.size, 10, none⟩ = some (.slice none 0 0) := (hcwf _ _ (by first | assumption | omega | (simp; done) | (simp; omega))).trans (by first | exact ywe_1_10 | (simp [go_sem, *]; done))
  have ywf_1_11 : wf.cell? ⟨wb.heap.size, 11, none⟩ = some (.slice none 0 0) := (hcwf _ _ (by first | assumption | omega | (simp; done) | (simp; omega))).trans (by first | exact ywe_1_11 | (simp [go_sem, *]; done))
  have ywf_1_12 : wf.cell? ⟨wb.heap.size, 12, none⟩ = some (.string E0) := (hcwf _ _ (by first | assumption | omega | (simp; done) | (simp; omega))).trans (by first | exact ywe_1_12 | (simp [go_sem, *]; done))
  have ywf_1_13 : wf.cell? ⟨wb.heap.size, 13, none⟩ = some (.slice none 0 0) := (hcwf _ _ (by first | assumption | omega | (simp; done) | (simp; omega))).trans (by first | exact ywe_1_13 | (simp [go_sem, *]; done))
  have qwf_0 : wa.heap.size < wf.heap.size := by omega
  have qwf_1 : wb.heap.size < wf.heap.size := by omega
  clear hcwf hfwf hbwf
  clear ywe_0_0 ywe_0_1 ywe_0_2 ywe_0_3 ywe_0_4 ywe_0_5 ywe_0_6 ywe_0_7 ywe_0_8 ywe_0_9 ywe_0_10 ywe_0_11 ywe_0_12 ywe_0_13 ywe_1_0 ywe_1_1 ywe_1_2 ywe_1_3 ywe_1_4 ywe_1_5 ywe_1_6 ywe_1_7 ywe_1_8 ywe_1_9 ywe_1_10 ywe_1_11 ywe_1_12 ywe_1_13
  go_wp2_with fail
  refine (eqScene_ra RA u _).mono ?_
  rintro e wg ⟨rfl, hbwg⟩
  have belwg : Below w.heap.size w wg := by repeat' (first | with_reducible assumption | with_reducible exact Below.refl _ _ | (with_reducible refine Below.setCell ?_ ?_ _) | (with_reducible refine Below.alloc ?_ ?_ _) | (with_reducible refine Below.drew ?_) | (with_reducible refine below_dr ?_ _) | (with_reducible refine Below.trans ?_ (Below.mono (by with_reducible assumption) ?_)) | omega | (simp; done) | (simp; omega))
  obtain ⟨hcwg, hfwg⟩ := bcell hbwg
  have hzwg := hbwg.size
  (try simp only [World.size_setCell] at hcwg hfwg hzwg)
  (try simp only [World.size_alloc] at hcwg hfwg hzwg)
  have ywg_0_0 : wg.cell? ⟨wa.heap.size, 0, none⟩ = some (.slice RA 0 0) := (hcwg _ _ (by first | assumption | omega | (simp; done) | (simp; omega))).trans (by first | exact ywf_0_0 | (simp [go_sem, *]; done))
  have ywg_0_1 : wg.cell? ⟨wa.heap.size, 1, none⟩ = some (.slice none 0 0) := (hcwg _ _ (by first | assumption | omega | (simp; done) | (simp; omega))).trans (by first | exact ywf_0_1 | (simp [go_sem, *]; done))
  have ywg_0_2 : wg.cell? ⟨wa.heap.size, 2, none⟩ = some (.slice none 0 0) := (hcwg _ _ (by first | assumption | omega | (simp; done) | (simp; omega))).trans (by first | exact ywf_0_2 | (simp [go_sem, *]; done))
  have ywg_0_3 : wg.cell? ⟨wa.heap.size, 3, none⟩ = some (.int .i64 u) := (hcwg _ _ (by first | assumption | omega | (simp; done) | (simp; omega))).trans (by first | exact ywf_0_3 | (simp [go_sem, *]; done))
  have ywg_0_4 : wg.cell? ⟨wa.heap.size, 4, none⟩ = some (.slice none 0 0) := (hcwg _ _ (by first | assumption | omega | (simp; done) | (simp; omega))).trans (by first | exact ywf_0_4 | (simp [go_sem, *]; done))
  have ywg_0_5 : wg.cell? ⟨wa.heap.size, 5, none⟩ = some (.bool false) := (hcwg _ _ (by first | assumption | omega | (simp; done) | (simp; omega))).trans (by first | exact ywf_0_5 | (simp [go_sem, *]; done))
  have ywg_0_6 : wg.cell? ⟨wa.heap.size, 6, none⟩ = some (.string E0) := (hcwg _ _ (by first | assumption | omega | (simp; done) | (simp; omega))).trans (by first | exact ywf_0_6 | (simp [go_sem, *]; done))
  have ywg_0_7 : wg.cell? ⟨wa.heap.size, 7, none⟩ = some (.int .i64 0) := (hcwg _ _ (by first | assumption | omega | (simp; done) | (simp; omega))).trans (by first | exact ywf_0_7 | (simp [go_sem, *]; done))
  have ywg_0_8 : wg.cell? ⟨wa.heap.size, 8, none⟩ = some (.int .i64 0) := (hcwg _ _ (by first | assumption | omega | (simp; done) | (simp; omega))).trans (by first | exact ywf_0_8 | (simp [go_sem, *]; done))
  have ywg_0_9 : wg.cell? ⟨wa.heap.size, 9, none⟩ = some (.slice none 0 0) := (hcwg _ _ (by first | assumption | omega | (simp; done) | (simp; omega))).trans (by first | exact ywf_0_9 | (simp [go_sem, *]; done))
  have ywg_0_10 : wg.cell? ⟨wa.heap.size, 10, none⟩ = some (.slice none 0 0) := (hcwg _ _ (by first | assumption | omega | (simp; done) | (simp; omega))).trans (by first | exact ywf_0_10 | (simp [go_sem, *]; done))
  have ywg_0_11 : wg.cell? ⟨wa.heap.size, 11, none⟩ = some (.slice none 0 0) := (hcwg _ _ (by first | assumption | omega | (simp; done) | (simp; omega))).trans (by first | exact ywf_0_11 | (simp [go_sem, *]; done))
  have ywg_0_12 : wg.cell? ⟨wa.heap.size, 12, none⟩ = some (.string E0) := (hcwg _ _ (by first | assumption | omega | (simp; done) | (simp; omega))).trans (by first | exact ywf_0_12 | (simp [go_sem, *]; done))
  have ywg_0_13 : wg.cell? ⟨wa.heap.size, 13, none⟩ = some (.slice none 0 0) := (hcwg _ _ (by first | assumption | omega | (simp; done) | (simp; omega))).trans (by first | exact ywf_0_13 | (simp [go_sem, *]; done))
  have ywg_1_0 : wg.cell? ⟨wb.heap.size, 0, none⟩ = some (.slice none 0 0) := (hcwg _ _ (by first | assumption | omega | (simp; done) | (simp; omega))).trans (by first | exact ywf_1_0 | (simp [go_sem, *]; done))
  have ywg_1_1 : wg.cell? ⟨wb.heap.size, 1, none⟩ = some (.slice none 0 0) := (hcwg _ _ (by first | assumption | omega | (simp; done) | (simp; omega))).trans (by first | exact ywf_1_1 | (simp [go_sem, *]; done))
  have ywg_1_2 : wg.cell? ⟨wb.heap.size, 2, none⟩ = some (.slice none 0 0) := (hcwg _ _ (by first | assumption | omega | (simp; done) | (simp; omega))).trans (by first | exact ywf_1_2 | (simp [go_sem, *]; done))
  have ywg_1_3 : wg.cell? ⟨wb.heap.size, 3, none⟩ = some (.int .i64 u) := (hcwg _ _ (by first | assumption | omega | (simp; done) | (simp; omega))).trans (by first | exact ywf_1_3 | (simp [go_sem, *]; done))
  have ywg_1_4 : wg.cell? ⟨wb.heap.size, 4, none⟩ = some (.slice none 0 0) := (hcwg _ _ (by first | assumption | omega | (simp; done) | (simp; omega))).trans (by first | exact ywf_1_4 | (simp [go_sem, *]; done))
  have ywg_1_5 : wg.cell? ⟨wb.heap.size, 5, none⟩ = some (.bool false) := (hcwg _ _ (by first | assumption | omega | (simp; done) | (simp; omega))).trans (by first | exact ywf_1_5 | (simp [go_sem, *]; done))
  have ywg_1_6 : wg.cell? ⟨wb.heap.size, 6, none⟩ = some (.string E0) := (hcwg _ _ (by first | assumption | omega | (simp; done) | (simp; omega))).trans (by first | exact ywf_1_6 | (simp [go_sem, *]; done))
  have ywg_1_7 : wg.cell? ⟨wb.heap.size, 7, none⟩ = some (.int .i64 0) := (hcwg _ _ (by first | assumption | omega | (simp; done) | (simp; omega))).trans (by first | exact ywf_1_7 | (simp [go_sem, *]; done))
  have ywg_1_8 : wg.cell? ⟨wb.heap.size, 8, none⟩ = some (.int .i64 0) := (hcwg _ _ (by first | assumption | omega | (simp; done) | (simp; omega))).trans (by first | exact ywf_1_8 | (simp [go_sem, *]; done))
  have ywg_1_9 : wg.cell? ⟨wb.heap.size, 9, none⟩ = some (.slice none 0 0) := (hcwg _ _ (by first | assumption | omega | (simp; done) | (simp; omega))).trans (by first | exact ywf_1_9 | (simp [go_sem, *]; done))
  have ywg_1_10 : wg.cell? ⟨wb.heap.size, 10, none⟩ = some (.slice none 0 0) := (hcwg _ _ (by first | assumption | omega | (simp; done) | (simp; omega))).trans (by first | exact ywf_1_10 | (simp [go_sem, *]; done))
  have ywg_1_11 : wg.cell? ⟨wb.heap.size, 11, none⟩ = some (.slice none 0 0) := (hcwg _ _ (by first | assumption | omega | (simp; done) | (simp; omega))).trans (by first | exact ywf_1_11 | (simp [go_sem, *]; done))
  have ywg_1_12 : wg.cell? ⟨wb.heap.size, 12, none⟩ = some (.string E0) := (hcwg _ _ (by first | assumption | omega | (simp; done) | (simp; omega))).trans (by first | exact ywf_1_12 | (simp [go_sem, *]; done))
  have ywg_1_13 : wg.cell? ⟨wb.heap.size, 13, none⟩ = some (.slice none 0 0) := (hcwg _ _ (by first | assumption | omega | (simp; done) | (simp; omega))).trans (by first | exact ywf_1_13 | (simp [go_sem, *]; done))
  have ywg_2_0 : wg.cell? ⟨wf.heap.size, 0, none⟩ = some (.slice none 0 0) := (hcwg _ _ (by first | assumption | omega | (simp; done) | (simp; omega))).trans (by simp [go_sem])
  have ywg_2_1 : wg.cell? ⟨wf.heap.size, 1, none⟩ = some (.slice none 0 0) := (hcwg _ _ (by first | assumption | omega | (simp; done) | (simp; omega))).trans (by simp [go_sem])
  have ywg_2_2 : wg.cell? ⟨wf.heap.size, 2, none⟩ = some (.slice none 0 0) := (hcwg _ _ (by first | assumption | omega | (simp; done) | (simp; omega))).trans (by simp [go_sem])
  have ywg_2_3 : wg.cell? ⟨wf.heap.size, 3, none⟩ = some (.int .i64 u) := (hcwg _ _ (by first | assumption | omega | (simp; done) | (simp; omega))).trans (by simp [go_sem])
  have ywg_2_4 : wg.cell? ⟨wf.heap.size, 4, none⟩ = some (.slice none 0 0) := (hcwg _ _ (by first | assumption | omega | (simp; done) | (simp; omega))).trans (by simp [go_sem])
  have ywg_2_5 : wg.cell? ⟨wf.heap.size, 5, none⟩ = some (.bool false) := (hcwg _ _ (by first | assumption | omega | (simp; done) | (simp; omega))).trans (by simp [go_sem])
  have ywg_2_6 : wg.cell? ⟨wf.heap.size, 6, none⟩ = some (.string E0) := (hcwg _ _ (by first | assumption | omega | (simp; done) | (simp; omega))).trans (by simp [go_sem])
  have ywg_2_7 : wg.cell? ⟨wf.heap.size, 7, none⟩ = some (.int .i64 0) := (hcwg _ _ (by first | assumption | omega | (simp; done) | (simp; omega))).trans (by simp [go_sem])
  have ywg_2_8 : wg.cell? ⟨wf.heap.size, 8, none⟩ = some (.int .i64 0) := (hcwg _ _ (by first | assumption | omega | (simp; done) | (simp; omega))).trans (by simp [go_sem])
  have ywg_2_9 : wg.cell? ⟨wf.heap.size, 9, none⟩ = some (.slice none 0 0) := (hcwg _ _ (by first | assumption | omega | (simp; done) | (simp; omega))).trans (by simp [go_sem])
  have ywg_2_10 : wg.cell? ⟨wf.heap.size, 10, none⟩ = some (.slice none 0 0) := (hcwg _ _ (by first | assumption | omega | (simp; done) | (simp; omega))).trans (by simp [go_sem])
  have ywg_2_11 : wg.cell? ⟨wf.heap.size, 11, none⟩ = some (.slice none 0 0) := (hcwg _ _ (by first | assumption | omega | (simp; done) | (simp; omega))).trans (by simp [go_sem])
  have ywg_2_12 : wg.cell? ⟨wf.heap.size, 12, none⟩ = some (.string E0) := (hcwg _ _ (by first | assumption | omega | (simp; done) | (simp; omega))).trans (by simp [go_sem])
  have ywg_2_13 : wg.cell? ⟨wf.heap.size, 13, none⟩ = some (.slice none 0 0) := (hcwg _ _ (by first | assumption | omega | (simp; done) | (simp; omega))).trans (by simp [go_sem])
  have qwg_0 : wa.heap.size < wg.heap.size := by omega
  have qwg_1 : wb.heap.size < wg.heap.size := by omega
  have qwg_2 : wf.heap.size < wg.heap.size := by omega
  clear hcwg hfwg hbwg
  clear ywf_0_0 ywf_0_1 ywf_0_2 ywf_0_3 ywf_0_4 ywf_0_5 ywf_0_6 ywf_0_7 ywf_0_8 ywf_0_9 ywf_0_10 ywf_0_11 ywf_0_12 ywf_0_13 ywf_1_0 ywf_1_1 ywf_1_2 ywf_1_3 ywf_1_4 ywf_1_5 ywf_1_6 ywf_1_7 ywf_1_8 ywf_1_9 ywf_1_10 ywf_1_11 ywf_1_12 ywf_1_13
  go_wp2_with fail
  refine (heldScene_nil u _).mono ?_
  rintro e wh ⟨rfl, hbwh⟩
  have belwh : Below w.heap.size w wh := by repeat' (first | with_reducible assumption | with_reducible exact Below.refl _ _ | (with_reducible refine Below.setCell ?_ ?_ _) | (with_reducible refine Below.alloc ?_ ?_ _) | (with_reducible refine Below.drew ?_) | (with_reducible refine below_dr ?_ _) | (with_reducible refine Below.trans ?_ (Below.mono (by with_reducible assumption) ?_)) | omega | (simp; done) | (simp; omega))
  obtain ⟨hcwh, hfwh⟩ := bcell hbwh
  have hzwh := hbwh.size
  (try simp only [World.size_setCell] at hcwh hfwh hzwh)
  (try simp only [World.size_alloc] at hcwh hfwh hzwh)
  have ywh_0_0 : wh.cell? ⟨wa.heap.size, 0, none⟩ = some (.slice RA 0 0) := (hcwh _ _ (by first | assumption | omega | (simp; done) | (simp; omega))).trans (by first | exact ywg_0_0 | (simp [go_sem, *]; done))
  have ywh_0_1 : wh.cell? ⟨wa.heap.size, 1, none⟩ = some (.slice none 0 0) := (hcwh _ _ (by first | assumption | omega | (simp; done) | (simp; omega))).trans (by first | exact ywg_0_1 | (simp [go_sem, *]; done))
  have ywh_0_2 : wh.cell? ⟨wa.heap.size, 2, none⟩ = some (.slice none 0 0) := (hcwh _ _ (by first | assumption | omega | (simp; done) | (simp; omega))).trans (by first | exact ywg_0_2 | (simp [go_sem, *]; done))
  have ywh_0_3 : wh.cell? ⟨wa.heap.size, 3, none⟩ = some (.int .i64 u) := (hcwh _ _ (by first | assumption | omega | (simp; done) | (simp; omega))).trans (by first | exact ywg_0_3 | (simp [go_sem, *]; done))
  have ywh_0_4 : wh.cell? ⟨wa.heap.size, 4, none⟩ = some (.slice none 0 0) := (hcwh _ _ (by first | assumption | omega | (simp; done) | (simp; omega))).trans (by first | exact ywg_0_4 | (simp [go_sem, *]; done))
  have ywh_0_5 : wh.cell? ⟨wa.heap.size, 5, none⟩ = some (.bool false) := (hcwh _ _ (by first | assumption | omega | (simp; done) | (simp; omega))).trans (by first | exact ywg_0_5 | (simp [go_sem, *]; done))
  have ywh_0_6 : wh.cell? ⟨wa.heap.size, 6, none⟩ = some (.string E0) := (hcwh _ _ (by first | assumption | omega | (simp; done) | (simp; omega))).trans (by first | exact ywg_0_6 | (simp [go_sem, *]; done))
  have ywh_0_7 : wh.cell? ⟨wa.heap.size, 7, none⟩ = some (.int .i64 0) := (hcwh _ _ (by first | assumption | omega | (simp; done) | (simp; omega))).trans (by first | exact ywg_0_7 | (simp [go_sem, *]; done))
  have ywh_0_8 : wh.cell? ⟨wa.heap.size, 8, none⟩ = some (.int .i64 0) := (hcwh _ _ (by first | assumption | omega | (simp; done) | (simp; omega))).trans (by first | exact ywg_0_8 | (simp [go_sem, *]; done))
  have ywh_0_9 : wh.cell? ⟨wa.heap.size, 9, none⟩ = some (.slice none 0 0) := (hcwh _ _ (by first | assumption | omega | (simp; done) | (simp; omega))).trans (by first | exact ywg_0_9 | (simp [go_sem, *]; done))
  have ywh_0_10 : wh.cell? ⟨wa.heap.size, 10, none⟩ = some (.slice none 0 0) := (hcwh _ _ (by first | assumption | omega | (simp; done) | (simp; omega))).trans (by first | exact ywg_0_10 | (simp [go_sem, *]; done))
  have ywh_0_11 : wh.cell? ⟨wa.heap.size, 11, none⟩ = some (.slice none 0 0) := (hcwh _ _ (by first | assumption | omega | (simp; done) | (simp; omega))).trans (by first | exact ywg_0_11 | (simp [go_sem, *]; done))
  have ywh_0_12 : wh.cell? ⟨wa.heap.size, 12, none⟩ = some (.string E0) := (hcwh _ _ (by first | assumption | omega | (simp; done) | (simp; omega))).trans (by first | exact ywg_0_12 | (simp [go_sem, *]; done))
  have ywh_0_13 : wh.cell? ⟨wa.heap.size, 13, none⟩ = some (.slice none 0 0) := (hcwh _ _ (by first | assumption | omega | (simp; done) | (simp; omega))).trans (by first | exact ywg_0_13 | (simp [go_sem, *]; done))
  have ywh_1_0 : wh.cell? ⟨wb.heap.size, 0, none⟩ = some (.slice none 0 0) := (hcwh _ _ (by first | assumption | omega | (simp; done) | (simp; omega))).trans (by first | exact ywg_1_0 | (simp [go_sem, *]; done))
  have ywh_1_1 : wh.cell? ⟨wb.heap.size, 1, none⟩ = some (.slice none 0 0) := (hcwh _ _ (by first | assumption | omega | (simp; done) | (simp; omega))).trans (by first | exact ywg_1_1 | (simp [go_sem, *]; done))
  have ywh_1_2 : wh.cell? ⟨wb.heap.size, 2, none⟩ = some (.slice none 0 0) := (hcwh _ _ (by first | assumption | omega | (simp; done) | (simp; omega))).trans (by first | exact ywg_1_2 | (simp [go_sem, *]; done))
  have ywh_1_3 : wh.cell? ⟨wb.heap.size, 3, none⟩ = some (.int .i64 u) := (hcwh _ _ (by first | assumption | omega | (simp; done) | (simp; omega))).trans (by first | exact ywg_1_3 | (simp [go_sem, *]; done))
  have ywh_1_4 : wh.cell? ⟨wb.heap.size, 4, none⟩ = some (.slice none 0 0) := (hcwh _ _ (by first | assumption | omega | (simp; done) | (simp; omega))).trans (by first | exact ywg_1_4 | (simp [go_sem, *]; done))
  have ywh_1_5 : wh.cell? ⟨wb.heap.size, 5, none⟩ = some (.bool false) := (hcwh _ _ (by first | assumption | omega | (simp; done) | (simp; omega))).trans (by first | exact ywg_1_5 | (simp [go_sem, *]; done))
  have ywh_1_6 : wh.cell? ⟨wb.heap.size, 6, none⟩ = some (.string E0) := (hcwh _ _ (by first | assumption | omega | (simp; done) | (simp; omega))).trans (by first | exact ywg_1_6 | (simp [go_sem, *]; done))
  have ywh_1_7 : wh.cell? ⟨wb.heap.size, 7, none⟩ = some (.int .i64 0) := (hcwh _ _ (by first | assumption | omega | (simp; done) | (simp; omega))).trans (by first | exact ywg_1_7 | (simp [go_sem, *]; done))
  have ywh_1_8 : wh.cell? ⟨wb.heap.size, 8, none⟩ = some (.int .i64 0) := (hcwh _ _ (by first | assumption | omega | (simp; done) | (simp; omega))).trans (by first | exact ywg_1_8 | (simp [go_sem, *]; done))
  have ywh_1_9 : wh.cell? ⟨wb.heap.size, 9, none⟩ = some (.slice none 0 0) := (hcwh _ _ (by first | assumption | omega | (simp; done) | (simp; omega))).trans (by first | exact ywg_1_9 | (simp [go_sem, *]; done))
  have ywh_1_10 : wh.cell? ⟨wb.heap.size, 10, none⟩ = some (.slice none 0 0) := (hcwh _ _ (by first | assumption | omega | (simp; done) | (simp; omega))).trans (by first | exact ywg_1_10 | (simp [go_sem, *]; done))
  have ywh_1_11 : wh.cell? ⟨wb.heap.size, 11, none⟩ = some (.slice none 0 0) := (hcwh _ _ (by first | assumption | omega | (simp; done) | (simp; omega))).trans (by first | exact ywg_1_11 | (simp [go_sem, *]; done))
  have ywh_1_12 : wh.cell? ⟨wb.heap.size, 12, none⟩ = some (.string E0) := (hcwh _ _ (by first | assumption | omega | (simp; done) | (simp; omega))).trans (by first | exact ywg_1_12 | (simp [go_sem, *]; done))
  have ywh_1_13 : wh.cell? ⟨wb.heap.size, 13, none⟩ = some (.slice none 0 0) := (hcwh _ _ (by first | assumption | omega | (simp; done) | (simp; omega))).trans (by first | exact ywg_1_13 | (simp [go_sem, *]; done))
  have ywh_2_0 : wh.cell? ⟨wf.heap.size, 0, none⟩ = some (.slice none 0 0) := (hcwh _ _ (by first | assumption | omega | (simp; done) | (simp; omega))).trans (by first | exact ywg_2_0 | (simp [go_sem, *]; done))
  have ywh_2_1 : wh.cell? ⟨wf.heap.size, 1, none⟩ = some (.slice none 0 0) := (hcwh _ _ (by first | assumption | omega | (simp; done) | (simp; omega))).trans (by first | exact ywg_2_1 | (simp [go_sem, *]; done))
  have ywh_2_2 : wh.cell? ⟨wf.heap.size, 2, none⟩ = some (.slice none 0 0) := (hcwh _ _ (by first | assumption | omega | (simp; done) | (simp; omega))).trans (by first | exact ywg_2_2 | (simp [go_sem, *]; done))
  have ywh_2_3 : wh.cell? ⟨wf.heap.size, 3, none⟩ = some (.int .i64 u) := (hcwh _ _ (by first | assumption | omega | (simp; done) | (simp; omega))).trans (by first | exact ywg_2_3 | (simp [go_sem, *]; done))
  have ywh_2_4 : wh.cell? ⟨wf.heap.size, 4, none⟩ = some (.slice none 0 0) := (hcwh _ _ (by first | assumption | omega | (simp; done) | (simp; omega))).trans (by first | exact ywg_2_4 | (simp [go_sem, *]; done))
  have ywh_2_5 : wh.cell? ⟨wf.heap.size, 5, none⟩ = some (.bool false) := (hcwh _ _ (by first | assumption | omega | (simp; done) | (simp; omega))).trans (by first | exact ywg_2_5 | (simp [go_sem, *]; done))
  have ywh_2_6 : wh.cell? ⟨wf.heap.size, 6, none⟩ = some (.string E0) := (hcwh _ _ (by first | assumption | omega | (simp; done) | (simp; omega))).trans (by first | exact ywg_2_6 | (simp [go_sem, *]; done))
  have ywh_2_7 : wh.cell? ⟨wf.heap.size, 7, none⟩ = some (.int .i64 0) := (hcwh _ _ (by first | assumption | omega | (simp; done) | (simp; omega))).trans (by first | exact ywg_2_7 | (simp [go_sem, *]; done))
  have ywh_2_8 : wh.cell? ⟨wf.heap.size, 8, none⟩ = some (.int .i64 0) := (hcwh _ _ (by first | assumption | omega | (simp; done) | (simp; omega))).trans (by first | exact ywg_2_8 | (simp [go_sem, *]; done))
  have ywh_2_9 : wh.cell? ⟨wf.heap.size, 9, none⟩ = some (.slice none 0 0) := (hcwh _ _ (by first | assumption | omega | (simp; done) | (simp; omega))).trans (by first | exact ywg_2_9 | (simp [go_sem, *]; done))
  have ywh_2_10 : wh.cell? ⟨wf.heap.size, 10, none⟩ = some (.slice none 0 0) := (hcwh _ _ (by first | assumption | omega | (simp; done) | (simp; omega))).trans (by first | exact ywg_2_10 | (simp [go_sem, *]; done))
  have ywh_2_11 : wh.cell? ⟨wf.heap.size, 11, none⟩ = some (.slice none 0 0) := (hcwh _ _ (by first | assumption | omega | (simp; done) | (simp; omega))).trans (by first | exact ywg_2_11 | (simp [go_sem, *]; done))
  have ywh_2_12 : wh.cell? ⟨wf.heap.size, 12, none⟩ = some (.string E0) := (hcwh _ _ (by first | assumption | omega | (simp; done) | (simp; omega))).trans (by first | exact ywg_2_12 | (simp [go_sem, *]; done))
  have ywh_2_13 : wh.cell? ⟨wf.heap.size, 13, none⟩ = some (.slice none 0 0) := (hcwh _ _ (by first | assumption | omega | (simp; done) | (simp; omega))).trans (by first | exact ywg_2_13 | (simp [go_sem, *]; done))
  have qwh_0 : wa.heap.size < wh.heap.size := by omega
  have qwh_1 : wb.heap.size < wh.heap.size := by omega
  have qwh_2 : wf.heap.size < wh.heap.size := by omega
  clear hcwh hfwh hbwh
  clear ywg_0_0 ywg_0_1 ywg_0_2 ywg_0_3 ywg_0_4 ywg_0_5 ywg_0_6 ywg_0_7 ywg_0_8 ywg_0_9 ywg_0_10 ywg_0_11 ywg_0_12 ywg_0_13 ywg_1_0 ywg_1_1 ywg_1_2 ywg_1_3 ywg_1_4 ywg_1_5 ywg_1_6 ywg_1_7 ywg_1_8 ywg_1_9 ywg_1_10 ywg_1_11 ywg_1_12 ywg_1_13 ywg_2_0 ywg_2_1 ywg_2_2 ywg_2_3 ywg_2_4 ywg_2_5 ywg_2_6 ywg_2_7 ywg_2_8 ywg_2_9 ywg_2_10 ywg_2_11 ywg_2_12 ywg_2_13
  go_wp2_with fail
  go_ret
  exact ⟨rfl, by repeat' (first | with_reducible assumption | with_reducible exact Below.refl _ _ | (with_reducible refine Below.setCell ?_ ?_ _) | (with_reducible refine Below.alloc ?_ ?_ _) | (with_reducible refine Below.drew ?_) | (with_reducible refine below_dr ?_ _) | (with_reducible refine Below.trans ?_ (Below.mono (by with_reducible assumption) ?_)) | omega | (simp; done) | (simp; omega))⟩
end Go.Proofs.Ytelefmogmloniaa
