/- Walks: sums of two products of fractions, determinants: the reference's side. -/
import Derived.Test.YtjlmoadnbbeloaaCm
import Derived.Test.YtjlmoadnbbeloaaQe2
namespace Go.Proofs.Ytjlmoadnbbeloaa
open Go.RowKit

set_option maxHeartbeats 6400000 in
theorem l04Two_any (a b c d e f g h : Int) (w : World) (v1 : validB a b = true) (v2 : validB c d = true) (v3 : validB e f = true) (v4 : validB g h = true) :
    Calls Try.prog 33 #[.agg #[.int .i64 a, .int .i64 b], .agg #[.int .i64 c, .int .i64 d], .agg #[.int .i64 e, .int .i64 f], .agg #[.int .i64 g, .int .i64 h]] w (BRet (twoF a b c d e f g h) w) := by
  rcases hx : mulF a b c d with _ | ⟨p, q⟩
  · have HN := Lib.hid (show twoF a b c d e f g h = none by unfold twoF; rw [hx]; rfl)
    have C1 := Lib.hid (fun w => specMul_none v1 v2 hx w)
    have C2 := Lib.hid (fun w => specMul_f v3 v4 w)
    unfold FRet at C2
    generalize oN (mulF e f g h) = yn at C2
    generalize oD (mulF e f g h) = yd at C2
    generalize oC (mulF e f g h) = yc at C2
    clear hx v1 v2 v3 v4
    go_enter Try.func33, Try.ntmps33
    go_wp2_with fail
    refine (C1.out _).mono ?_
    rintro e1 w1 ⟨rfl, hbw1⟩
    have g1 : Below w.heap.size w w1 := by repeat' (first | with_reducible assumption | with_reducible exact Below.refl _ _ | (with_reducible refine Below.setCell ?_ ?_ _) | (with_reducible refine Below.alloc ?_ ?_ _) | (with_reducible refine Below.drew ?_) | (with_reducible refine below_dr ?_ _) | (with_reducible refine Below.trans ?_ (Below.mono (by with_reducible assumption) ?_)) | omega | (simp; done) | (simp; omega))
    obtain ⟨hcw1, hfw1⟩ := bcell hbw1
    have hzw1 := hbw1.size
    simp only [World.size_alloc] at hcw1 hfw1 hzw1
    have s20 : w1.cell? ⟨w.heap.size + 1 + 1, 0, none⟩ = some (.int .i64 e) := (hcw1 _ _ (by omega)).trans (by simp [go_sem])
    have s21 : w1.cell? ⟨w.heap.size + 1 + 1, 1, none⟩ = some (.int .i64 f) := (hcw1 _ _ (by omega)).trans (by simp [go_sem])
    have s30 : w1.cell? ⟨w.heap.size + 1 + 1 + 1, 0, none⟩ = some (.int .i64 g) := (hcw1 _ _ (by omega)).trans (by simp [go_sem])
    have s31 : w1.cell? ⟨w.heap.size + 1 + 1 + 1, 1, none⟩ = some (.int .i64 h) := (hcw1 _ _ (by omega)).trans (by simp [go_sem])
    have s40 : w1.cell? ⟨w.heap.size + 1 + 1 + 1 + 1, 0, none⟩ = some (.int .i64 0) := (hcw1 _ _ (by omega)).trans (by simp [go_sem])
    have s41 : w1.cell? ⟨w.heap.size + 1 + 1 + 1 + 1, 1, none⟩ = some (.int .i64 0) := (hcw1 _ _ (by omega)).trans (by simp [go_sem])
    have f40 : w1.frozen? ⟨w.heap.size + 1 + 1 + 1 + 1, 0, none⟩ = false := (hfw1 _ _ (by omega)).trans (by simp [go_sem])
    have f41 : w1.frozen? ⟨w.heap.size + 1 + 1 + 1 + 1, 1, none⟩ = false := (hfw1 _ _ (by omega)).trans (by simp [go_sem])
    have z1 : w.heap.size + 1 + 1 + 1 + 1 < w1.heap.size := by omega
    have zb2 : w.heap.size + 1 + 1 < w1.heap.size := by omega
    have zb3 : w.heap.size + 1 + 1 + 1 < w1.heap.size := by omega
    clear hcw1 hfw1 hzw1 hbw1
    go_wp2_with fail
    refine (C2.out _).mono ?_
    rintro e2 w2 ⟨rfl, hbw2⟩
    have g2 : Below w.heap.size w w2 := by repeat' (first | with_reducible assumption | with_reducible exact Below.refl _ _ | (with_reducible refine Below.setCell ?_ ?_ _) | (with_reducible refine Below.alloc ?_ ?_ _) | (with_reducible refine Below.drew ?_) | (with_reducible refine below_dr ?_ _) | (with_reducible refine Below.trans ?_ (Below.mono (by with_reducible assumption) ?_)) | omega | (simp; done) | (simp; omega))
    obtain ⟨hcw2, hfw2⟩ := bcell hbw2
    have hzw2 := hbw2.size
    simp only [World.size_alloc] at hcw2 hfw2 hzw2
    have yw20 : w2.cell? ⟨w.heap.size + 1 + 1 + 1 + 1, 0, none⟩ = some (.int .i64 0) := (by (repeat (first | with_reducible assumption | (with_reducible refine (cell_drew_at _ _).trans ?_) | (with_reducible refine (cell_set_at _ _ (by first | omega | (simp; done) | (simp; omega))).trans ?_) | (with_reducible refine (cell_alloc_at _ _ (by first | omega | (simp; done) | (simp; omega))).trans ?_) | (with_reducible refine (hcw2 _ _ (by first | omega | (simp; done) | (simp; omega))).trans ?_))))
    have yw21 : w2.cell? ⟨w.heap.size + 1 + 1 + 1 + 1, 1, none⟩ = some (.int .i64 0) := (by (repeat (first | with_reducible assumption | (with_reducible refine (cell_drew_at _ _).trans ?_) | (with_reducible refine (cell_set_at _ _ (by first | omega | (simp; done) | (simp; omega))).trans ?_) | (with_reducible refine (cell_alloc_at _ _ (by first | omega | (simp; done) | (simp; omega))).trans ?_) | (with_reducible refine (hcw2 _ _ (by first | omega | (simp; done) | (simp; omega))).trans ?_))))
    have yfw20 : w2.frozen? ⟨w.heap.size + 1 + 1 + 1 + 1, 0, none⟩ = false := (by (repeat (first | with_reducible assumption | (with_reducible refine (frozen_drew_at _ _).trans ?_) | (with_reducible refine (World.frozen?_setCell _ _ _ _).trans ?_) | (with_reducible refine (frozen_alloc_at _ _ (by first | omega | (simp; done) | (simp; omega))).trans ?_) | (with_reducible refine (hfw2 _ _ (by first | omega | (simp; done) | (simp; omega))).trans ?_))))
    have yfw21 : w2.frozen? ⟨w.heap.size + 1 + 1 + 1 + 1, 1, none⟩ = false := (by (repeat (first | with_reducible assumption | (with_reducible refine (frozen_drew_at _ _).trans ?_) | (with_reducible refine (World.frozen?_setCell _ _ _ _).trans ?_) | (with_reducible refine (frozen_alloc_at _ _ (by first | omega | (simp; done) | (simp; omega))).trans ?_) | (with_reducible refine (hfw2 _ _ (by first | omega | (simp; done) | (simp; omega))).trans ?_))))
    have z2 : w.heap.size + 1 + 1 + 1 + 1 < w2.heap.size := by omega
    go_wp2
    have ra := AtL.of2 yw20 yw21 z2
    have rb := (ra.store2 (a := .int .i64 0) (b := .int .i64 0)).alloc (.cells #[.int .i64 yn, .int .i64 yd] 26)
    have r0 := rb.cell 0 rfl
    have r1 := rb.cell 1 rfl
    refine bodyPost_ret (v := .tuple #[.agg #[.int .i64 0, .int .i64 0], .bool false]) (by simp [results, Try.results33, go_sem, r0, r1]) rfl (BRet.none HN.out ?_)
    repeat' (first | with_reducible assumption | with_reducible exact Below.refl _ _ | (with_reducible refine Below.setCell ?_ ?_ _) | (with_reducible refine Below.alloc ?_ ?_ _) | (with_reducible refine Below.drew ?_) | (with_reducible refine below_dr ?_ _) | (with_reducible refine Below.trans ?_ (Below.mono (by with_reducible assumption) ?_)) | omega | (simp; done) | (simp; omega))
  have vp := mulF_ok _ _ hx
  rcases hy : mulF e f g h with _ | ⟨r, s⟩
  · have HN := Lib.hid (show twoF a b c d e f g h = none by unfold twoF; rw [hx, hy]; rfl)
    have C1 := Lib.hid (fun w => specMul_some v1 v2 hx w)
    have C2 := Lib.hid (fun w => specMul_none v3 v4 hy w)
    clear hx hy v1 v2 v3 v4 vp
    go_enter Try.func33, Try.ntmps33
    go_wp2_with fail
    refine (C1.out _).mono ?_
    rintro e1 w1 ⟨rfl, hbw1⟩
    have g1 : Below w.heap.size w w1 := by repeat' (first | with_reducible assumption | with_reducible exact Below.refl _ _ | (with_reducible refine Below.setCell ?_ ?_ _) | (with_reducible refine Below.alloc ?_ ?_ _) | (with_reducible refine Below.drew ?_) | (with_reducible refine below_dr ?_ _) | (with_reducible refine Below.trans ?_ (Below.mono (by with_reducible assumption) ?_)) | omega | (simp; done) | (simp; omega))
    obtain ⟨hcw1, hfw1⟩ := bcell hbw1
    have hzw1 := hbw1.size
    simp only [World.size_alloc] at hcw1 hfw1 hzw1
    have s20 : w1.cell? ⟨w.heap.size + 1 + 1, 0, none⟩ = some (.int .i64 e) := (hcw1 _ _ (by omega)).trans (by simp [go_sem])
    have s21 : w1.cell? ⟨w.heap.size + 1 + 1, 1, none⟩ = some (.int .i64 f) := (hcw1 _ _ (by omega)).trans (by simp [go_sem])
    have s30 : w1.cell? ⟨w.heap.size + 1 + 1 + 1, 0, none⟩ = some (.int .i64 g) := (hcw1 _ _ (by omega)).trans (by simp [go_sem])
    have s31 : w1.cell? ⟨w.heap.size + 1 + 1 + 1, 1, none⟩ = some (.int .i64 h) := (hcw1 _ _ (by omega)).trans (by simp [go_sem])
    have s40 : w1.cell? ⟨w.heap.size + 1 + 1 + 1 + 1, 0, none⟩ = some (.int .i64 0) := (hcw1 _ _ (by omega)).trans (by simp [go_sem])
    have s41 : w1.cell? ⟨w.heap.size + 1 + 1 + 1 + 1, 1, none⟩ = some (.int .i64 0) := (hcw1 _ _ (by omega)).trans (by simp [go_sem])
    have f40 : w1.frozen? ⟨w.heap.size + 1 + 1 + 1 + 1, 0, none⟩ = false := (hfw1 _ _ (by omega)).trans (by simp [go_sem])
    have f41 : w1.frozen? ⟨w.heap.size + 1 + 1 + 1 + 1, 1, none⟩ = false := (hfw1 _ _ (by omega)).trans (by simp [go_sem])
    have z1 : w.heap.size + 1 + 1 + 1 + 1 < w1.heap.size := by omega
    have zb2 : w.heap.size + 1 + 1 < w1.heap.size := by omega
    have zb3 : w.heap.size + 1 + 1 + 1 < w1.heap.size := by omega
    clear hcw1 hfw1 hzw1 hbw1
    go_wp2_with fail
    refine (C2.out _).mono ?_
    rintro e2 w2 ⟨rfl, hbw2⟩
    have g2 : Below w.heap.size w w2 := by repeat' (first | with_reducible assumption | with_reducible exact Below.refl _ _ | (with_reducible refine Below.setCell ?_ ?_ _) | (with_reducible refine Below.alloc ?_ ?_ _) | (with_reducible refine Below.drew ?_) | (with_reducible refine below_dr ?_ _) | (with_reducible refine Below.trans ?_ (Below.mono (by with_reducible assumption) ?_)) | omega | (simp; done) | (simp; omega))
    obtain ⟨hcw2, hfw2⟩ := bcell hbw2
    have hzw2 := hbw2.size
    simp only [World.size_alloc] at hcw2 hfw2 hzw2
    have yw20 : w2.cell? ⟨w.heap.size + 1 + 1 + 1 + 1, 0, none⟩ = some (.int .i64 0) := (by (repeat (first | with_reducible assumption | (with_reducible refine (cell_drew_at _ _).trans ?_) | (with_reducible refine (cell_set_at _ _ (by first | omega | (simp; done) | (simp; omega))).trans ?_) | (with_reducible refine (cell_alloc_at _ _ (by first | omega | (simp; done) | (simp; omega))).trans ?_) | (with_reducible refine (hcw2 _ _ (by first | omega | (simp; done) | (simp; omega))).trans ?_))))
    have yw21 : w2.cell? ⟨w.heap.size + 1 + 1 + 1 + 1, 1, none⟩ = some (.int .i64 0) := (by (repeat (first | with_reducible assumption | (with_reducible refine (cell_drew_at _ _).trans ?_) | (with_reducible refine (cell_set_at _ _ (by first | omega | (simp; done) | (simp; omega))).trans ?_) | (with_reducible refine (cell_alloc_at _ _ (by first | omega | (simp; done) | (simp; omega))).trans ?_) | (with_reducible refine (hcw2 _ _ (by first | omega | (simp; done) | (simp; omega))).trans ?_))))
    have yfw20 : w2.frozen? ⟨w.heap.size + 1 + 1 + 1 + 1, 0, none⟩ = false := (by (repeat (first | with_reducible assumption | (with_reducible refine (frozen_drew_at _ _).trans ?_) | (with_reducible refine (World.frozen?_setCell _ _ _ _).trans ?_) | (with_reducible refine (frozen_alloc_at _ _ (by first | omega | (simp; done) | (simp; omega))).trans ?_) | (with_reducible refine (hfw2 _ _ (by first | omega | (simp; done) | (simp; omega))).trans ?_))))
    have yfw21 : w2.frozen? ⟨w.heap.size + 1 + 1 + 1 + 1, 1, none⟩ = false := (by (repeat (first | with_reducible assumption | (with_reducible refine (frozen_drew_at _ _).trans ?_) | (with_reducible refine (World.frozen?_setCell _ _ _ _).trans ?_) | (with_reducible refine (frozen_alloc_at _ _ (by first | omega | (simp; done) | (simp; omega))).trans ?_) | (with_reducible refine (hfw2 _ _ (by first | omega | (simp; done) | (simp; omega))).trans ?_))))
    have z2 : w.heap.size + 1 + 1 + 1 + 1 < w2.heap.size := by omega
    go_wp2
    have ra := AtL.of2 yw20 yw21 z2
    have rb := (ra.store2 (a := .int .i64 0) (b := .int .i64 0)).alloc (.cells #[.int .i64 0, .int .i64 0] 26)
    have r0 := rb.cell 0 rfl
    have r1 := rb.cell 1 rfl
    refine bodyPost_ret (v := .tuple #[.agg #[.int .i64 0, .int .i64 0], .bool false]) (by simp [results, Try.results33, go_sem, r0, r1]) rfl (BRet.none HN.out ?_)
    repeat' (first | with_reducible assumption | with_reducible exact Below.refl _ _ | (with_reducible refine Below.setCell ?_ ?_ _) | (with_reducible refine Below.alloc ?_ ?_ _) | (with_reducible refine Below.drew ?_) | (with_reducible refine below_dr ?_ _) | (with_reducible refine Below.trans ?_ (Below.mono (by with_reducible assumption) ?_)) | omega | (simp; done) | (simp; omega))
  have vr := mulF_ok _ _ hy
  have hs : twoF a b c d e f g h = addF p q r s := by unfold twoF; rw [hx, hy]; rfl
  have HS := Lib.hid hs
  have C1 := Lib.hid (fun w => specMul_some v1 v2 hx w)
  have C2 := Lib.hid (fun w => specMul_some v3 v4 hy w)
  have C3 := Lib.hid (fun w => specAdd_f vp vr w)
  unfold FRet at C3
  generalize addF p q r s = o at *
  clear hs hx hy v1 v2 v3 v4 vp vr
  go_enter Try.func33, Try.ntmps33
  go_wp2_with fail
  refine (C1.out _).mono ?_
  rintro e1 w1 ⟨rfl, hbw1⟩
  have g1 : Below w.heap.size w w1 := by repeat' (first | with_reducible assumption | with_reducible exact Below.refl _ _ | (with_reducible refine Below.setCell ?_ ?_ _) | (with_reducible refine Below.alloc ?_ ?_ _) | (with_reducible refine Below.drew ?_) | (with_reducible refine below_dr ?_ _) | (with_reducible refine Below.trans ?_ (Below.mono (by with_reducible assumption) ?_)) | omega | (simp; done) | (simp; omega))
  obtain ⟨hcw1, hfw1⟩ := bcell hbw1
  have hzw1 := hbw1.size
  simp only [World.size_alloc] at hcw1 hfw1 hzw1
  have s20 : w1.cell? ⟨w.heap.size + 1 + 1, 0, none⟩ = some (.int .i64 e) := (hcw1 _ _ (by omega)).trans (by simp [go_sem])
  have s21 : w1.cell? ⟨w.heap.size + 1 + 1, 1, none⟩ = some (.int .i64 f) := (hcw1 _ _ (by omega)).trans (by simp [go_sem])
  have s30 : w1.cell? ⟨w.heap.size + 1 + 1 + 1, 0, none⟩ = some (.int .i64 g) := (hcw1 _ _ (by omega)).trans (by simp [go_sem])
  have s31 : w1.cell? ⟨w.heap.size + 1 + 1 + 1, 1, none⟩ = some (.int .i64 h) := (hcw1 _ _ (by omega)).trans (by simp [go_sem])
  have s40 : w1.cell? ⟨w.heap.size + 1 + 1 + 1 + 1, 0, none⟩ = some (.int .i64 0) := (hcw1 _ _ (by omega)).trans (by simp [go_sem])
  have s41 : w1.cell? ⟨w.heap.size + 1 + 1 + 1 + 1, 1, none⟩ = some (.int .i64 0) := (hcw1 _ _ (by omega)).trans (by simp [go_sem])
  have f40 : w1.frozen? ⟨w.heap.size + 1 + 1 + 1 + 1, 0, none⟩ = false := (hfw1 _ _ (by omega)).trans (by simp [go_sem])
  have f41 : w1.frozen? ⟨w.heap.size + 1 + 1 + 1 + 1, 1, none⟩ = false := (hfw1 _ _ (by omega)).trans (by simp [go_sem])
  have at1 := AtL.new w1 [.int .i64 p, .int .i64 q] 26
  have z1 : w.heap.size + 1 + 1 + 1 + 1 < w1.heap.size := by omega
  have zb2 : w.heap.size + 1 + 1 < w1.heap.size := by omega
  have zb3 : w.heap.size + 1 + 1 + 1 < w1.heap.size := by omega
  clear hcw1 hfw1 hzw1 hbw1
  go_wp2_with fail
  refine (C2.out _).mono ?_
  rintro e2 w2 ⟨rfl, hbw2⟩
  have g2 : Below w.heap.size w w2 := by repeat' (first | with_reducible assumption | with_reducible exact Below.refl _ _ | (with_reducible refine Below.setCell ?_ ?_ _) | (with_reducible refine Below.alloc ?_ ?_ _) | (with_reducible refine Below.drew ?_) | (with_reducible refine below_dr ?_ _) | (with_reducible refine Below.trans ?_ (Below.mono (by with_reducible assumption) ?_)) | omega | (simp; done) | (simp; omega))
  obtain ⟨hcw2, hfw2⟩ := bcell hbw2
  have hzw2 := hbw2.size
  simp only [World.size_alloc] at hcw2 hfw2 hzw2
  have yw20 : w2.cell? ⟨w.heap.size + 1 + 1 + 1 + 1, 0, none⟩ = some (.int .i64 0) := (by (repeat (first | with_reducible assumption | (with_reducible refine (cell_drew_at _ _).trans ?_) | (with_reducible refine (cell_set_at _ _ (by first | omega | (simp; done) | (simp; omega))).trans ?_) | (with_reducible refine (cell_alloc_at _ _ (by first | omega | (simp; done) | (simp; omega))).trans ?_) | (with_reducible refine (hcw2 _ _ (by first | omega | (simp; done) | (simp; omega))).trans ?_))))
  have yw21 : w2.cell? ⟨w.heap.size + 1 + 1 + 1 + 1, 1, none⟩ = some (.int .i64 0) := (by (repeat (first | with_reducible assumption | (with_reducible refine (cell_drew_at _ _).trans ?_) | (with_reducible refine (cell_set_at _ _ (by first | omega | (simp; done) | (simp; omega))).trans ?_) | (with_reducible refine (cell_alloc_at _ _ (by first | omega | (simp; done) | (simp; omega))).trans ?_) | (with_reducible refine (hcw2 _ _ (by first | omega | (simp; done) | (simp; omega))).trans ?_))))
  have yfw20 : w2.frozen? ⟨w.heap.size + 1 + 1 + 1 + 1, 0, none⟩ = false := (by (repeat (first | with_reducible assumption | (with_reducible refine (frozen_drew_at _ _).trans ?_) | (with_reducible refine (World.frozen?_setCell _ _ _ _).trans ?_) | (with_reducible refine (frozen_alloc_at _ _ (by first | omega | (simp; done) | (simp; omega))).trans ?_) | (with_reducible refine (hfw2 _ _ (by first | omega | (simp; done) | (simp; omega))).trans ?_))))
  have yfw21 : w2.frozen? ⟨w.heap.size + 1 + 1 + 1 + 1, 1, none⟩ = false := (by (repeat (first | with_reducible assumption | (with_reducible refine (frozen_drew_at _ _).trans ?_) | (with_reducible refine (World.frozen?_setCell _ _ _ _).trans ?_) | (with_reducible refine (frozen_alloc_at _ _ (by first | omega | (simp; done) | (simp; omega))).trans ?_) | (with_reducible refine (hfw2 _ _ (by first | omega | (simp; done) | (simp; omega))).trans ?_))))
  have z2 : w.heap.size + 1 + 1 + 1 + 1 < w2.heap.size := by omega
  replace at1 := at1.below hbw2
  have k0 := at1.cell 0 rfl
  have k1 := at1.cell 1 rfl
  have kz := at1.lt
  clear hcw2 hfw2 hzw2 at1
  go_wp2_with fail
  refine (C3.out _).mono ?_
  rintro e3 w3 ⟨rfl, hbw3⟩
  have g3 : Below w.heap.size w w3 := by repeat' (first | with_reducible assumption | with_reducible exact Below.refl _ _ | (with_reducible refine Below.setCell ?_ ?_ _) | (with_reducible refine Below.alloc ?_ ?_ _) | (with_reducible refine Below.drew ?_) | (with_reducible refine below_dr ?_ _) | (with_reducible refine Below.trans ?_ (Below.mono (by with_reducible assumption) ?_)) | omega | (simp; done) | (simp; omega))
  obtain ⟨hcw3, hfw3⟩ := bcell hbw3
  have hzw3 := hbw3.size
  simp only [World.size_alloc] at hcw3 hfw3 hzw3
  have yw30 : w3.cell? ⟨w.heap.size + 1 + 1 + 1 + 1, 0, none⟩ = some (.int .i64 0) := (by (repeat (first | with_reducible assumption | (with_reducible refine (cell_drew_at _ _).trans ?_) | (with_reducible refine (cell_set_at _ _ (by first | omega | (simp; done) | (simp; omega))).trans ?_) | (with_reducible refine (cell_alloc_at _ _ (by first | omega | (simp; done) | (simp; omega))).trans ?_) | (with_reducible refine (hcw3 _ _ (by first | omega | (simp; done) | (simp; omega))).trans ?_))))
  have yw31 : w3.cell? ⟨w.heap.size + 1 + 1 + 1 + 1, 1, none⟩ = some (.int .i64 0) := (by (repeat (first | with_reducible assumption | (with_reducible refine (cell_drew_at _ _).trans ?_) | (with_reducible refine (cell_set_at _ _ (by first | omega | (simp; done) | (simp; omega))).trans ?_) | (with_reducible refine (cell_alloc_at _ _ (by first | omega | (simp; done) | (simp; omega))).trans ?_) | (with_reducible refine (hcw3 _ _ (by first | omega | (simp; done) | (simp; omega))).trans ?_))))
  have yfw30 : w3.frozen? ⟨w.heap.size + 1 + 1 + 1 + 1, 0, none⟩ = false := (by (repeat (first | with_reducible assumption | (with_reducible refine (frozen_drew_at _ _).trans ?_) | (with_reducible refine (World.frozen?_setCell _ _ _ _).trans ?_) | (with_reducible refine (frozen_alloc_at _ _ (by first | omega | (simp; done) | (simp; omega))).trans ?_) | (with_reducible refine (hfw3 _ _ (by first | omega | (simp; done) | (simp; omega))).trans ?_))))
  have yfw31 : w3.frozen? ⟨w.heap.size + 1 + 1 + 1 + 1, 1, none⟩ = false := (by (repeat (first | with_reducible assumption | (with_reducible refine (frozen_drew_at _ _).trans ?_) | (with_reducible refine (World.frozen?_setCell _ _ _ _).trans ?_) | (with_reducible refine (frozen_alloc_at _ _ (by first | omega | (simp; done) | (simp; omega))).trans ?_) | (with_reducible refine (hfw3 _ _ (by first | omega | (simp; done) | (simp; omega))).trans ?_))))
  have z3 : w.heap.size + 1 + 1 + 1 + 1 < w3.heap.size := by omega
  clear hcw3 hfw3
  go_wp2
  have ra := AtL.of2 yw30 yw31 z3
  have rb := (ra.store2 (a := .int .i64 (oN o)) (b := .int .i64 (oD o))).alloc (.cells #[.int .i64 (oN o), .int .i64 (oD o)] 26)
  have r0 := rb.cell 0 rfl
  have r1 := rb.cell 1 rfl
  refine bodyPost_ret (v := .tuple #[.agg #[.int .i64 (oN o), .int .i64 (oD o)], .bool (oC o == 0)]) (by simp [results, Try.results33, go_sem, r0, r1]) rfl ?_
  rw [HS.out]
  exact ⟨rfl, by repeat' (first | with_reducible assumption | with_reducible exact Below.refl _ _ | (with_reducible refine Below.setCell ?_ ?_ _) | (with_reducible refine Below.alloc ?_ ?_ _) | (with_reducible refine Below.drew ?_) | (with_reducible refine below_dr ?_ _) | (with_reducible refine Below.trans ?_ (Below.mono (by with_reducible assumption) ?_)) | omega | (simp; done) | (simp; omega))⟩
end Go.Proofs.Ytjlmoadnbbeloaa
