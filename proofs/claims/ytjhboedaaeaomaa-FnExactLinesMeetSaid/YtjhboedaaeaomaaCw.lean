/- Walks: the common point of two segments, the program's side whole; the law on CrossingOf: it returns true. -/
import Derived.Test.YtjhboedaaeaomaaCv
namespace Go.Proofs.Ytjhboedaaeaomaa
open Go.RowKit
set_option maxHeartbeats 800000 in
theorem toPt_x (x y : Int) (w : World) :
    Calls Try.prog 13 #[.agg #[.int .i64 x, .int .i64 y]] w fun e w' => e = .returned (.agg #[.int .i64 x, .int .i64 y]) ∧ w' = ((w.alloc (.cells #[.int .i64 x, .int .i64 y] 23)).alloc (.cells #[.int .i64 x, .int .i64 y] 25)).alloc (.cells #[.int .i64 x, .int .i64 y] 25) := by
  go_enter Try.func13, Try.ntmps13
  go_wp2
  exact bodyPost_ret (v := .agg #[.int .i64 x, .int .i64 y]) (by simp [results, Try.results13, go_sem]) rfl ⟨rfl, rfl⟩
set_option maxHeartbeats 6400000 in
theorem implCrossingOf_any (ax ay bx ey cx cy dx dy : Int) (w : World) :
    Calls Try.prog 26 #[.agg #[.int .i64 ax, .int .i64 ay], .agg #[.int .i64 bx, .int .i64 ey], .agg #[.int .i64 cx, .int .i64 cy], .agg #[.int .i64 dx, .int .i64 dy]] w (CrRet (crP ax ay bx ey cx cy dx dy) (crC (meetV ax ay bx ey cx cy dx dy)) w) := by
  have CM := Lib.hid (fun w => implMeetingOf_any ax ay bx ey cx cy dx dy w)
  have HP : ∀ k, meetV ax ay bx ey cx cy dx dy = k → crP ax ay bx ey cx cy dx dy = if k = 1 then (endsF (bothB ax ay bx ey cx cy dx dy) [(ax, ay), (bx, ey), (cx, cy), (dx, dy)]).headD (0, 0)
      else if k = 2 then (crI ax bx (turnI cx cy dx dy ax ay) (turnI cx cy dx dy ax ay - turnI cx cy dx dy bx ey), crI ay ey (turnI cx cy dx dy ax ay) (turnI cx cy dx dy ax ay - turnI cx cy dx dy bx ey)) else (0, 0) := by
    intro k hk; unfold crP; rw [hk]
  by_cases k1 : meetV ax ay bx ey cx cy dx dy = -1
  · have X := Lib.hid (HP _ k1)
    have Y := Lib.hid (show crC (meetV ax ay bx ey cx cy dx dy) = 1 by rw [k1]; rfl)
    rw [k1] at CM
    clear k1 HP
    go_enter Try.func26, Try.ntmps26
    go_wp2_with fail
    refine (CM.out _).mono ?_
    rintro e w1 ⟨rfl, hbw1⟩
    have g1 : Below w.heap.size w w1 := (by repeat' (first | with_reducible assumption | with_reducible exact Below.refl _ _ | (with_reducible refine Below.setCell ?_ ?_ _) | (with_reducible refine Below.alloc ?_ ?_ _) | (with_reducible refine Below.drew ?_) | (with_reducible refine below_dr ?_ _) | (with_reducible refine Below.trans ?_ (Below.mono (by with_reducible assumption) ?_)) | omega | (simp; done) | (simp; omega)))
    obtain ⟨hcw1, hfw1⟩ := bcell hbw1
    have hzw1 := hbw1.size
    (try simp only [World.size_alloc] at hcw1 hfw1 hzw1)
    have s1 : w1.cell? ⟨w.heap.size, 0, none⟩ = some (.int .i64 ax) := (hcw1 _ _ (by omega)).trans (by first | assumption | (refine (cell_alloc_at _ _ ?_).trans ?_; omega; assumption) | (simp [go_sem]; done) | (simp [go_sem, *]; done))
    have s2 : w1.cell? ⟨w.heap.size, 1, none⟩ = some (.int .i64 ay) := (hcw1 _ _ (by omega)).trans (by first | assumption | (refine (cell_alloc_at _ _ ?_).trans ?_; omega; assumption) | (simp [go_sem]; done) | (simp [go_sem, *]; done))
    have s3 : w1.cell? ⟨w.heap.size + 1, 0, none⟩ = some (.int .i64 bx) := (hcw1 _ _ (by omega)).trans (by first | assumption | (refine (cell_alloc_at _ _ ?_).trans ?_; omega; assumption) | (simp [go_sem]; done) | (simp [go_sem, *]; done))
    have s4 : w1.cell? ⟨w.heap.size + 1, 1, none⟩ = some (.int .i64 ey) := (hcw1 _ _ (by omega)).trans (by first | assumption | (refine (cell_alloc_at _ _ ?_).trans ?_; omega; assumption) | (simp [go_sem]; done) | (simp [go_sem, *]; done))
    have s5 : w1.cell? ⟨w.heap.size + 1 + 1, 0, none⟩ = some (.int .i64 cx) := (hcw1 _ _ (by omega)).trans (by first | assumption | (refine (cell_alloc_at _ _ ?_).trans ?_; omega; assumption) | (simp [go_sem]; done) | (simp [go_sem, *]; done))
    have s6 : w1.cell? ⟨w.heap.size + 1 + 1, 1, none⟩ = some (.int .i64 cy) := (hcw1 _ _ (by omega)).trans (by first | assumption | (refine (cell_alloc_at _ _ ?_).trans ?_; omega; assumption) | (simp [go_sem]; done) | (simp [go_sem, *]; done))
    have s7 : w1.cell? ⟨w.heap.size + 1 + 1 + 1, 0, none⟩ = some (.int .i64 dx) := (hcw1 _ _ (by omega)).trans (by first | assumption | (refine (cell_alloc_at _ _ ?_).trans ?_; omega; assumption) | (simp [go_sem]; done) | (simp [go_sem, *]; done))
    have s8 : w1.cell? ⟨w.heap.size + 1 + 1 + 1, 1, none⟩ = some (.int .i64 dy) := (hcw1 _ _ (by omega)).trans (by first | assumption | (refine (cell_alloc_at _ _ ?_).trans ?_; omega; assumption) | (simp [go_sem]; done) | (simp [go_sem, *]; done))
    have s9 : w1.cell? ⟨w.heap.size + 1 + 1 + 1 + 1, 0, none⟩ = some (.int .i64 0) := (hcw1 _ _ (by omega)).trans (by first | assumption | (refine (cell_alloc_at _ _ ?_).trans ?_; omega; assumption) | (simp [go_sem]; done) | (simp [go_sem, *]; done))
    have s10 : w1.cell? ⟨w.heap.size + 1 + 1 + 1 + 1, 1, none⟩ = some (.int .i64 0) := (hcw1 _ _ (by omega)).trans (by first | assumption | (refine (cell_alloc_at _ _ ?_).trans ?_; omega; assumption) | (simp [go_sem]; done) | (simp [go_sem, *]; done))
    have szq0 : w.heap.size < w1.heap.size := (by omega)
    have szq1 : w.heap.size + 1 < w1.heap.size := (by omega)
    have szq2 : w.heap.size + 1 + 1 < w1.heap.size := (by omega)
    have szq3 : w.heap.size + 1 + 1 + 1 < w1.heap.size := (by omega)
    have sz : w.heap.size + 1 + 1 + 1 + 1 < w1.heap.size := (by omega)
    have fs40 : w1.frozen? ⟨w.heap.size + 1 + 1 + 1 + 1, 0, none⟩ = false := (hfw1 _ _ (by omega)).trans (by first | assumption | (refine (World.frozen?_alloc_old _ _ _ ?_).trans ?_; (simp; omega); assumption) | (simp [go_sem]; done) | (simp [go_sem, *]; done))
    have fs41 : w1.frozen? ⟨w.heap.size + 1 + 1 + 1 + 1, 1, none⟩ = false := (hfw1 _ _ (by omega)).trans (by first | assumption | (refine (World.frozen?_alloc_old _ _ _ ?_).trans ?_; (simp; omega); assumption) | (simp [go_sem]; done) | (simp [go_sem, *]; done))
    clear hcw1 hfw1 hzw1
    go_wp2
    have ra := AtL.of2 s9 s10 sz
    have rb := ra.store2 (a := .int .i64 0) (b := .int .i64 0)
    have r0 := rb.cell 0 rfl
    have r1 := rb.cell 1 rfl
    refine bodyPost_ret (v := .tuple #[.agg #[.int .i64 0, .int .i64 0], .int .i64 1]) (by simp [results, Try.results26, go_sem, r0, r1]) rfl (CrRet.mk X.out Y.out ?_)
    repeat' (first | with_reducible assumption | with_reducible exact Below.refl _ _ | (with_reducible refine Below.setCell ?_ ?_ _) | (with_reducible refine Below.alloc ?_ ?_ _) | (with_reducible refine Below.drew ?_) | (with_reducible refine below_dr ?_ _) | (with_reducible refine Below.trans ?_ (Below.mono (by with_reducible assumption) ?_)) | omega | (simp; done) | (simp; omega))
  obtain ⟨va, vb, vc, vd, hI⟩ := meetV_val k1
  by_cases k2 : meetV ax ay bx ey cx cy dx dy = 1
  · obtain ⟨px, py, he⟩ := meetI_one (hI.symm.trans k2)
    have X := Lib.hid (show crP ax ay bx ey cx cy dx dy = (px, py) by rw [HP _ k2, he]; rfl)
    have Y := Lib.hid (show crC (meetV ax ay bx ey cx cy dx dy) = 0 by rw [k2]; rfl)
    have CT := Lib.hid (fun w => touchedEnd_any ax ay bx ey cx cy dx dy w va vb vc vd he)
    rw [k2] at CM
    clear k1 k2 HP he hI va vb vc vd
    go_enter Try.func26, Try.ntmps26
    go_wp2_with fail
    refine (CM.out _).mono ?_
    rintro e w1 ⟨rfl, hbw1⟩
    have g1 : Below w.heap.size w w1 := (by repeat' (first | with_reducible assumption | with_reducible exact Below.refl _ _ | (with_reducible refine Below.setCell ?_ ?_ _) | (with_reducible refine Below.alloc ?_ ?_ _) | (with_reducible refine Below.drew ?_) | (with_reducible refine below_dr ?_ _) | (with_reducible refine Below.trans ?_ (Below.mono (by with_reducible assumption) ?_)) | omega | (simp; done) | (simp; omega)))
    obtain ⟨hcw1, hfw1⟩ := bcell hbw1
    have hzw1 := hbw1.size
    (try simp only [World.size_alloc] at hcw1 hfw1 hzw1)
    have s1 : w1.cell? ⟨w.heap.size, 0, none⟩ = some (.int .i64 ax) := (hcw1 _ _ (by omega)).trans (by first | assumption | (refine (cell_alloc_at _ _ ?_).trans ?_; omega; assumption) | (simp [go_sem]; done) | (simp [go_sem, *]; done))
    have s2 : w1.cell? ⟨w.heap.size, 1, none⟩ = some (.int .i64 ay) := (hcw1 _ _ (by omega)).trans (by first | assumption | (refine (cell_alloc_at _ _ ?_).trans ?_; omega; assumption) | (simp [go_sem]; done) | (simp [go_sem, *]; done))
    have s3 : w1.cell? ⟨w.heap.size + 1, 0, none⟩ = some (.int .i64 bx) := (hcw1 _ _ (by omega)).trans (by first | assumption | (refine (cell_alloc_at _ _ ?_).trans ?_; omega; assumption) | (simp [go_sem]; done) | (simp [go_sem, *]; done))
    have s4 : w1.cell? ⟨w.heap.size + 1, 1, none⟩ = some (.int .i64 ey) := (hcw1 _ _ (by omega)).trans (by first | assumption | (refine (cell_alloc_at _ _ ?_).trans ?_; omega; assumption) | (simp [go_sem]; done) | (simp [go_sem, *]; done))
    have s5 : w1.cell? ⟨w.heap.size + 1 + 1, 0, none⟩ = some (.int .i64 cx) := (hcw1 _ _ (by omega)).trans (by first | assumption | (refine (cell_alloc_at _ _ ?_).trans ?_; omega; assumption) | (simp [go_sem]; done) | (simp [go_sem, *]; done))
    have s6 : w1.cell? ⟨w.heap.size + 1 + 1, 1, none⟩ = some (.int .i64 cy) := (hcw1 _ _ (by omega)).trans (by first | assumption | (refine (cell_alloc_at _ _ ?_).trans ?_; omega; assumption) | (simp [go_sem]; done) | (simp [go_sem, *]; done))
    have s7 : w1.cell? ⟨w.heap.size + 1 + 1 + 1, 0, none⟩ = some (.int .i64 dx) := (hcw1 _ _ (by omega)).trans (by first | assumption | (refine (cell_alloc_at _ _ ?_).trans ?_; omega; assumption) | (simp [go_sem]; done) | (simp [go_sem, *]; done))
    have s8 : w1.cell? ⟨w.heap.size + 1 + 1 + 1, 1, none⟩ = some (.int .i64 dy) := (hcw1 _ _ (by omega)).trans (by first | assumption | (refine (cell_alloc_at _ _ ?_).trans ?_; omega; assumption) | (simp [go_sem]; done) | (simp [go_sem, *]; done))
    have s9 : w1.cell? ⟨w.heap.size + 1 + 1 + 1 + 1, 0, none⟩ = some (.int .i64 0) := (hcw1 _ _ (by omega)).trans (by first | assumption | (refine (cell_alloc_at _ _ ?_).trans ?_; omega; assumption) | (simp [go_sem]; done) | (simp [go_sem, *]; done))
    have s10 : w1.cell? ⟨w.heap.size + 1 + 1 + 1 + 1, 1, none⟩ = some (.int .i64 0) := (hcw1 _ _ (by omega)).trans (by first | assumption | (refine (cell_alloc_at _ _ ?_).trans ?_; omega; assumption) | (simp [go_sem]; done) | (simp [go_sem, *]; done))
    have szq0 : w.heap.size < w1.heap.size := (by omega)
    have szq1 : w.heap.size + 1 < w1.heap.size := (by omega)
    have szq2 : w.heap.size + 1 + 1 < w1.heap.size := (by omega)
    have szq3 : w.heap.size + 1 + 1 + 1 < w1.heap.size := (by omega)
    have sz : w.heap.size + 1 + 1 + 1 + 1 < w1.heap.size := (by omega)
    have fs40 : w1.frozen? ⟨w.heap.size + 1 + 1 + 1 + 1, 0, none⟩ = false := (hfw1 _ _ (by omega)).trans (by first | assumption | (refine (World.frozen?_alloc_old _ _ _ ?_).trans ?_; (simp; omega); assumption) | (simp [go_sem]; done) | (simp [go_sem, *]; done))
    have fs41 : w1.frozen? ⟨w.heap.size + 1 + 1 + 1 + 1, 1, none⟩ = false := (hfw1 _ _ (by omega)).trans (by first | assumption | (refine (World.frozen?_alloc_old _ _ _ ?_).trans ?_; (simp; omega); assumption) | (simp [go_sem]; done) | (simp [go_sem, *]; done))
    clear hcw1 hfw1 hzw1
    go_wp2_with fail
    refine (CT.out _).mono ?_
    rintro e w2 ⟨rfl, hbw2⟩
    have g2 : Below w.heap.size w w2 := by repeat' (first | with_reducible assumption | with_reducible exact Below.refl _ _ | (with_reducible refine Below.setCell ?_ ?_ _) | (with_reducible refine Below.alloc ?_ ?_ _) | (with_reducible refine Below.drew ?_) | (with_reducible refine below_dr ?_ _) | (with_reducible refine Below.trans ?_ (Below.mono (by with_reducible assumption) ?_)) | omega | (simp; done) | (simp; omega))
    obtain ⟨hcw2, hfw2⟩ := bcell hbw2
    have hzw2 := hbw2.size
    have yw20 : w2.cell? ⟨w.heap.size + 1 + 1 + 1 + 1, 0, none⟩ = some (.int .i64 0) := (by (repeat (first | with_reducible assumption | (with_reducible refine (cell_drew_at _ _).trans ?_) | (with_reducible refine (cell_set_at _ _ (by first | omega | (simp; done) | (simp; omega))).trans ?_) | (with_reducible refine (cell_alloc_at _ _ (by first | omega | (simp; done) | (simp; omega))).trans ?_) | (with_reducible refine (hcw2 _ _ (by first | omega | (simp; done) | (simp; omega))).trans ?_))))
    have yw21 : w2.cell? ⟨w.heap.size + 1 + 1 + 1 + 1, 1, none⟩ = some (.int .i64 0) := (by (repeat (first | with_reducible assumption | (with_reducible refine (cell_drew_at _ _).trans ?_) | (with_reducible refine (cell_set_at _ _ (by first | omega | (simp; done) | (simp; omega))).trans ?_) | (with_reducible refine (cell_alloc_at _ _ (by first | omega | (simp; done) | (simp; omega))).trans ?_) | (with_reducible refine (hcw2 _ _ (by first | omega | (simp; done) | (simp; omega))).trans ?_))))
    have yfw20 : w2.frozen? ⟨w.heap.size + 1 + 1 + 1 + 1, 0, none⟩ = false := (by (repeat (first | with_reducible assumption | (with_reducible refine (frozen_drew_at _ _).trans ?_) | (with_reducible refine (World.frozen?_setCell _ _ _ _).trans ?_) | (with_reducible refine (frozen_alloc_at _ _ (by first | omega | (simp; done) | (simp; omega))).trans ?_) | (with_reducible refine (hfw2 _ _ (by first | omega | (simp; done) | (simp; omega))).trans ?_))))
    have yfw21 : w2.frozen? ⟨w.heap.size + 1 + 1 + 1 + 1, 1, none⟩ = false := (by (repeat (first | with_reducible assumption | (with_reducible refine (frozen_drew_at _ _).trans ?_) | (with_reducible refine (World.frozen?_setCell _ _ _ _).trans ?_) | (with_reducible refine (frozen_alloc_at _ _ (by first | omega | (simp; done) | (simp; omega))).trans ?_) | (with_reducible refine (hfw2 _ _ (by first | omega | (simp; done) | (simp; omega))).trans ?_))))
    have z2 : w.heap.size + 1 + 1 + 1 + 1 < w2.heap.size := by omega
    clear hcw2 hfw2
    go_wp2
    have ra := AtL.of2 yw20 yw21 z2
    have rb := ra.store2 (a := .int .i64 px) (b := .int .i64 py)
    have r0 := rb.cell 0 rfl
    have r1 := rb.cell 1 rfl
    refine bodyPost_ret (v := .tuple #[.agg #[.int .i64 px, .int .i64 py], .int .i64 0]) (by simp [results, Try.results26, go_sem, r0, r1]) rfl (CrRet.mk X.out Y.out ?_)
    repeat' (first | with_reducible assumption | with_reducible exact Below.refl _ _ | (with_reducible refine Below.setCell ?_ ?_ _) | (with_reducible refine Below.alloc ?_ ?_ _) | (with_reducible refine Below.drew ?_) | (with_reducible refine below_dr ?_ _) | (with_reducible refine Below.trans ?_ (Below.mono (by with_reducible assumption) ?_)) | omega | (simp; done) | (simp; omega))
  by_cases k3 : meetV ax ay bx ey cx cy dx dy = 2
  · obtain ⟨he, ht⟩ := meetI_two (hI.symm.trans k3)
    have X := Lib.hid (HP _ k3)
    have Y := Lib.hid (show crC (meetV ax ay bx ey cx cy dx dy) = 0 by rw [k3]; rfl)
    have CI := Lib.hid (fun w => lineCrossing_any ax ay bx ey cx cy dx dy w va vb vc vd (by rcases ht with h | h <;> omega))
    rw [k3] at CM
    clear k1 k2 k3 HP he ht hI va vb vc vd
    generalize crI ax bx (turnI cx cy dx dy ax ay) (turnI cx cy dx dy ax ay - turnI cx cy dx dy bx ey) = X0 at *
    generalize crI ay ey (turnI cx cy dx dy ax ay) (turnI cx cy dx dy ax ay - turnI cx cy dx dy bx ey) = Y0 at *
    go_enter Try.func26, Try.ntmps26
    go_wp2_with fail
    refine (CM.out _).mono ?_
    rintro e w1 ⟨rfl, hbw1⟩
    have g1 : Below w.heap.size w w1 := (by repeat' (first | with_reducible assumption | with_reducible exact Below.refl _ _ | (with_reducible refine Below.setCell ?_ ?_ _) | (with_reducible refine Below.alloc ?_ ?_ _) | (with_reducible refine Below.drew ?_) | (with_reducible refine below_dr ?_ _) | (with_reducible refine Below.trans ?_ (Below.mono (by with_reducible assumption) ?_)) | omega | (simp; done) | (simp; omega)))
    obtain ⟨hcw1, hfw1⟩ := bcell hbw1
    have hzw1 := hbw1.size
    (try simp only [World.size_alloc] at hcw1 hfw1 hzw1)
    have s1 : w1.cell? ⟨w.heap.size, 0, none⟩ = some (.int .i64 ax) := (hcw1 _ _ (by omega)).trans (by first | assumption | (refine (cell_alloc_at _ _ ?_).trans ?_; omega; assumption) | (simp [go_sem]; done) | (simp [go_sem, *]; done))
    have s2 : w1.cell? ⟨w.heap.size, 1, none⟩ = some (.int .i64 ay) := (hcw1 _ _ (by omega)).trans (by first | assumption | (refine (cell_alloc_at _ _ ?_).trans ?_; omega; assumption) | (simp [go_sem]; done) | (simp [go_sem, *]; done))
    have s3 : w1.cell? ⟨w.heap.size + 1, 0, none⟩ = some (.int .i64 bx) := (hcw1 _ _ (by omega)).trans (by first | assumption | (refine (cell_alloc_at _ _ ?_).trans ?_; omega; assumption) | (simp [go_sem]; done) | (simp [go_sem, *]; done))
    have s4 : w1.cell? ⟨w.heap.size + 1, 1, none⟩ = some (.int .i64 ey) := (hcw1 _ _ (by omega)).trans (by first | assumption | (refine (cell_alloc_at _ _ ?_).trans ?_; omega; assumption) | (simp [go_sem]; done) | (simp [go_sem, *]; done))
    have s5 : w1.cell? ⟨w.heap.size + 1 + 1, 0, none⟩ = some (.int .i64 cx) := (hcw1 _ _ (by omega)).trans (by first | assumption | (refine (cell_alloc_at _ _ ?_).trans ?_; omega; assumption) | (simp [go_sem]; done) | (simp [go_sem, *]; done))
    have s6 : w1.cell? ⟨w.heap.size + 1 + 1, 1, none⟩ = some (.int .i64 cy) := (hcw1 _ _ (by omega)).trans (by first | assumption | (refine (cell_alloc_at _ _ ?_).trans ?_; omega; assumption) | (simp [go_sem]; done) | (simp [go_sem, *]; done))
    have s7 : w1.cell? ⟨w.heap.size + 1 + 1 + 1, 0, none⟩ = some (.int .i64 dx) := (hcw1 _ _ (by omega)).trans (by first | assumption | (refine (cell_alloc_at _ _ ?_).trans ?_; omega; assumption) | (simp [go_sem]; done) | (simp [go_sem, *]; done))
    have s8 : w1.cell? ⟨w.heap.size + 1 + 1 + 1, 1, none⟩ = some (.int .i64 dy) := (hcw1 _ _ (by omega)).trans (by first | assumption | (refine (cell_alloc_at _ _ ?_).trans ?_; omega; assumption) | (simp [go_sem]; done) | (simp [go_sem, *]; done))
    have s9 : w1.cell? ⟨w.heap.size + 1 + 1 + 1 + 1, 0, none⟩ = some (.int .i64 0) := (hcw1 _ _ (by omega)).trans (by first | assumption | (refine (cell_alloc_at _ _ ?_).trans ?_; omega; assumption) | (simp [go_sem]; done) | (simp [go_sem, *]; done))
    have s10 : w1.cell? ⟨w.heap.size + 1 + 1 + 1 + 1, 1, none⟩ = some (.int .i64 0) := (hcw1 _ _ (by omega)).trans (by first | assumption | (refine (cell_alloc_at _ _ ?_).trans ?_; omega; assumption) | (simp [go_sem]; done) | (simp [go_sem, *]; done))
    have szq0 : w.heap.size < w1.heap.size := (by omega)
    have szq1 : w.heap.size + 1 < w1.heap.size := (by omega)
    have szq2 : w.heap.size + 1 + 1 < w1.heap.size := (by omega)
    have szq3 : w.heap.size + 1 + 1 + 1 < w1.heap.size := (by omega)
    have sz : w.heap.size + 1 + 1 + 1 + 1 < w1.heap.size := (by omega)
    have fs40 : w1.frozen? ⟨w.heap.size + 1 + 1 + 1 + 1, 0, none⟩ = false := (hfw1 _ _ (by omega)).trans (by first | assumption | (refine (World.frozen?_alloc_old _ _ _ ?_).trans ?_; (simp; omega); assumption) | (simp [go_sem]; done) | (simp [go_sem, *]; done))
    have fs41 : w1.frozen? ⟨w.heap.size + 1 + 1 + 1 + 1, 1, none⟩ = false := (hfw1 _ _ (by omega)).trans (by first | assumption | (refine (World.frozen?_alloc_old _ _ _ ?_).trans ?_; (simp; omega); assumption) | (simp [go_sem]; done) | (simp [go_sem, *]; done))
    clear hcw1 hfw1 hzw1
    go_wp2_with fail
    refine (CI.out _).mono ?_
    rintro e w2 ⟨rfl, hbw2⟩
    have g2 : Below w.heap.size w w2 := by repeat' (first | with_reducible assumption | with_reducible exact Below.refl _ _ | (with_reducible refine Below.setCell ?_ ?_ _) | (with_reducible refine Below.alloc ?_ ?_ _) | (with_reducible refine Below.drew ?_) | (with_reducible refine below_dr ?_ _) | (with_reducible refine Below.trans ?_ (Below.mono (by with_reducible assumption) ?_)) | omega | (simp; done) | (simp; omega))
    obtain ⟨hcw2, hfw2⟩ := bcell hbw2
    have hzw2 := hbw2.size
    have yw20 : w2.cell? ⟨w.heap.size + 1 + 1 + 1 + 1, 0, none⟩ = some (.int .i64 0) := (by (repeat (first | with_reducible assumption | (with_reducible refine (cell_drew_at _ _).trans ?_) | (with_reducible refine (cell_set_at _ _ (by first | omega | (simp; done) | (simp; omega))).trans ?_) | (with_reducible refine (cell_alloc_at _ _ (by first | omega | (simp; done) | (simp; omega))).trans ?_) | (with_reducible refine (hcw2 _ _ (by first | omega | (simp; done) | (simp; omega))).trans ?_))))
    have yw21 : w2.cell? ⟨w.heap.size + 1 + 1 + 1 + 1, 1, none⟩ = some (.int .i64 0) := (by (repeat (first | with_reducible assumption | (with_reducible refine (cell_drew_at _ _).trans ?_) | (with_reducible refine (cell_set_at _ _ (by first | omega | (simp; done) | (simp; omega))).trans ?_) | (with_reducible refine (cell_alloc_at _ _ (by first | omega | (simp; done) | (simp; omega))).trans ?_) | (with_reducible refine (hcw2 _ _ (by first | omega | (simp; done) | (simp; omega))).trans ?_))))
    have yfw20 : w2.frozen? ⟨w.heap.size + 1 + 1 + 1 + 1, 0, none⟩ = false := (by (repeat (first | with_reducible assumption | (with_reducible refine (frozen_drew_at _ _).trans ?_) | (with_reducible refine (World.frozen?_setCell _ _ _ _).trans ?_) | (with_reducible refine (frozen_alloc_at _ _ (by first | omega | (simp; done) | (simp; omega))).trans ?_) | (with_reducible refine (hfw2 _ _ (by first | omega | (simp; done) | (simp; omega))).trans ?_))))
    have yfw21 : w2.frozen? ⟨w.heap.size + 1 + 1 + 1 + 1, 1, none⟩ = false := (by (repeat (first | with_reducible assumption | (with_reducible refine (frozen_drew_at _ _).trans ?_) | (with_reducible refine (World.frozen?_setCell _ _ _ _).trans ?_) | (with_reducible refine (frozen_alloc_at _ _ (by first | omega | (simp; done) | (simp; omega))).trans ?_) | (with_reducible refine (hfw2 _ _ (by first | omega | (simp; done) | (simp; omega))).trans ?_))))
    have z2 : w.heap.size + 1 + 1 + 1 + 1 < w2.heap.size := by omega
    clear hcw2 hfw2
    go_wp2
    have ra := AtL.of2 yw20 yw21 z2
    have rb := ra.store2 (a := .int .i64 X0) (b := .int .i64 Y0)
    have r0 := rb.cell 0 rfl
    have r1 := rb.cell 1 rfl
    refine bodyPost_ret (v := .tuple #[.agg #[.int .i64 X0, .int .i64 Y0], .int .i64 0]) (by simp [results, Try.results26, go_sem, r0, r1]) rfl (CrRet.mk X.out Y.out ?_)
    repeat' (first | with_reducible assumption | with_reducible exact Below.refl _ _ | (with_reducible refine Below.setCell ?_ ?_ _) | (with_reducible refine Below.alloc ?_ ?_ _) | (with_reducible refine Below.drew ?_) | (with_reducible refine below_dr ?_ _) | (with_reducible refine Below.trans ?_ (Below.mono (by with_reducible assumption) ?_)) | omega | (simp; done) | (simp; omega))
  have X := Lib.hid (show crP ax ay bx ey cx cy dx dy = (0, 0) by rw [HP _ rfl, if_neg k2, if_neg k3])
  have Y := Lib.hid (show crC (meetV ax ay bx ey cx cy dx dy) = 6 by unfold crC; rw [if_neg k1, if_neg (by omega)])
  generalize meetV ax ay bx ey cx cy dx dy = k at *
  have e1 : (k == -1) = false := by simpa using k1
  have e2 : (k == 1) = false := by simpa using k2
  have e3 : (k == 2) = false := by simpa using k3
  clear k1 k2 k3 HP hI va vb vc vd
  go_enter Try.func26, Try.ntmps26
  go_wp2_with fail
  refine (CM.out _).mono ?_
  rintro e w1 ⟨rfl, hbw1⟩
  have g1 : Below w.heap.size w w1 := (by repeat' (first | with_reducible assumption | with_reducible exact Below.refl _ _ | (with_reducible refine Below.setCell ?_ ?_ _) | (with_reducible refine Below.alloc ?_ ?_ _) | (with_reducible refine Below.drew ?_) | (with_reducible refine below_dr ?_ _) | (with_reducible refine Below.trans ?_ (Below.mono (by with_reducible assumption) ?_)) | omega | (simp; done) | (simp; omega)))
  obtain ⟨hcw1, hfw1⟩ := bcell hbw1
  have hzw1 := hbw1.size
  (try simp only [World.size_alloc] at hcw1 hfw1 hzw1)
  have s1 : w1.cell? ⟨w.heap.size, 0, none⟩ = some (.int .i64 ax) := (hcw1 _ _ (by omega)).trans (by first | assumption | (refine (cell_alloc_at _ _ ?_).trans ?_; omega; assumption) | (simp [go_sem]; done) | (simp [go_sem, *]; done))
  have s2 : w1.cell? ⟨w.heap.size, 1, none⟩ = some (.int .i64 ay) := (hcw1 _ _ (by omega)).trans (by first | assumption | (refine (cell_alloc_at _ _ ?_).trans ?_; omega; assumption) | (simp [go_sem]; done) | (simp [go_sem, *]; done))
  have s3 : w1.cell? ⟨w.heap.size + 1, 0, none⟩ = some (.int .i64 bx) := (hcw1 _ _ (by omega)).trans (by first | assumption | (refine (cell_alloc_at _ _ ?_).trans ?_; omega; assumption) | (simp [go_sem]; done) | (simp [go_sem, *]; done))
  have s4 : w1.cell? ⟨w.heap.size + 1, 1, none⟩ = some (.int .i64 ey) := (hcw1 _ _ (by omega)).trans (by first | assumption | (refine (cell_alloc_at _ _ ?_).trans ?_; omega; assumption) | (simp [go_sem]; done) | (simp [go_sem, *]; done))
  have s5 : w1.cell? ⟨w.heap.size + 1 + 1, 0, none⟩ = some (.int .i64 cx) := (hcw1 _ _ (by omega)).trans (by first | assumption | (refine (cell_alloc_at _ _ ?_).trans ?_; omega; assumption) | (simp [go_sem]; done) | (simp [go_sem, *]; done))
  have s6 : w1.cell? ⟨w.heap.size + 1 + 1, 1, none⟩ = some (.int .i64 cy) := (hcw1 _ _ (by omega)).trans (by first | assumption | (refine (cell_alloc_at _ _ ?_).trans ?_; omega; assumption) | (simp [go_sem]; done) | (simp [go_sem, *]; done))
  have s7 : w1.cell? ⟨w.heap.size + 1 + 1 + 1, 0, none⟩ = some (.int .i64 dx) := (hcw1 _ _ (by omega)).trans (by first | assumption | (refine (cell_alloc_at _ _ ?_).trans ?_; omega; assumption) | (simp [go_sem]; done) | (simp [go_sem, *]; done))
  have s8 : w1.cell? ⟨w.heap.size + 1 + 1 + 1, 1, none⟩ = some (.int .i64 dy) := (hcw1 _ _ (by omega)).trans (by first | assumption | (refine (cell_alloc_at _ _ ?_).trans ?_; omega; assumption) | (simp [go_sem]; done) | (simp [go_sem, *]; done))
  have s9 : w1.cell? ⟨w.heap.size + 1 + 1 + 1 + 1, 0, none⟩ = some (.int .i64 0) := (hcw1 _ _ (by omega)).trans (by first | assumption | (refine (cell_alloc_at _ _ ?_).trans ?_; omega; assumption) | (simp [go_sem]; done) | (simp [go_sem, *]; done))
  have s10 : w1.cell? ⟨w.heap.size + 1 + 1 + 1 + 1, 1, none⟩ = some (.int .i64 0) := (hcw1 _ _ (by omega)).trans (by first | assumption | (refine (cell_alloc_at _ _ ?_).trans ?_; omega; assumption) | (simp [go_sem]; done) | (simp [go_sem, *]; done))
  have szq0 : w.heap.size < w1.heap.size := (by omega)
  have szq1 : w.heap.size + 1 < w1.heap.size := (by omega)
  have szq2 : w.heap.size + 1 + 1 < w1.heap.size := (by omega)
  have szq3 : w.heap.size + 1 + 1 + 1 < w1.heap.size := (by omega)
  have sz : w.heap.size + 1 + 1 + 1 + 1 < w1.heap.size := (by omega)
  have fs40 : w1.frozen? ⟨w.heap.size + 1 + 1 + 1 + 1, 0, none⟩ = false := (hfw1 _ _ (by omega)).trans (by first | assumption | (refine (World.frozen?_alloc_old _ _ _ ?_).trans ?_; (simp; omega); assumption) | (simp [go_sem]; done) | (simp [go_sem, *]; done))
  have fs41 : w1.frozen? ⟨w.heap.size + 1 + 1 + 1 + 1, 1, none⟩ = false := (hfw1 _ _ (by omega)).trans (by first | assumption | (refine (World.frozen?_alloc_old _ _ _ ?_).trans ?_; (simp; omega); assumption) | (simp [go_sem]; done) | (simp [go_sem, *]; done))
  clear hcw1 hfw1 hzw1
  go_wp2
  have ra := AtL.of2 s9 s10 sz
  have rb := ra.store2 (a := .int .i64 0) (b := .int .i64 0)
  have r0 := rb.cell 0 rfl
  have r1 := rb.cell 1 rfl
  refine bodyPost_ret (v := .tuple #[.agg #[.int .i64 0, .int .i64 0], .int .i64 6]) (by simp [results, Try.results26, go_sem, r0, r1]) rfl (CrRet.mk X.out Y.out ?_)
  repeat' (first | with_reducible assumption | with_reducible exact Below.refl _ _ | (with_reducible refine Below.setCell ?_ ?_ _) | (with_reducible refine Below.alloc ?_ ?_ _) | (with_reducible refine Below.drew ?_) | (with_reducible refine below_dr ?_ _) | (with_reducible refine Below.trans ?_ (Below.mono (by with_reducible assumption) ?_)) | omega | (simp; done) | (simp; omega))
set_option maxHeartbeats 4000000 in
theorem walk_CrossingOf (ax ay bx ey cx cy dx dy : Int) (w_ax : (Lit.int .i64 ax).wf = true) (w_ay : (Lit.int .i64 ay).wf = true) (w_bx : (Lit.int .i64 bx).wf = true) (w_ey : (Lit.int .i64 ey).wf = true) (w_cx : (Lit.int .i64 cx).wf = true) (w_cy : (Lit.int .i64 cy).wf = true) (w_dx : (Lit.int .i64 dx).wf = true) (w_dy : (Lit.int .i64 dy).wf = true) (w : World) :
    Calls Try.prog 7 #[.agg #[.int .i64 ax, .int .i64 ay], .agg #[.int .i64 bx, .int .i64 ey], .agg #[.int .i64 cx, .int .i64 cy], .agg #[.int .i64 dx, .int .i64 dy]] w fun e w' => e = .returned (.bool true) ∧ Below w.heap.size w w' := by
  have i_ax := i64_bounds w_ax
  have i_ay := i64_bounds w_ay
  have i_bx := i64_bounds w_bx
  have i_ey := i64_bounds w_ey
  have i_cx := i64_bounds w_cx
  have i_cy := i64_bounds w_cy
  have i_dx := i64_bounds w_dx
  have i_dy := i64_bounds w_dy
  have C1 := Lib.hid (fun w => specCrossingOf_any ax ay bx ey cx cy dx dy w)
  have C2 := Lib.hid (fun w => implCrossingOf_any ax ay bx ey cx cy dx dy w)
  unfold CrRet at C1 C2
  generalize (crP ax ay bx ey cx cy dx dy).1 = cu at C1 C2
  generalize (crP ax ay bx ey cx cy dx dy).2 = cv at C1 C2
  generalize crC (meetV ax ay bx ey cx cy dx dy) = cc at C1 C2
  clear i_ax w_ax i_ay w_ay i_bx w_bx i_ey w_ey i_cx w_cx i_cy w_cy i_dx w_dx i_dy w_dy
  have e_cu : (cu != cu) = false := by simp
  have e_cv : (cv != cv) = false := by simp
  have e_cc : (cc != cc) = false := by simp
  go_enter Try.func7, Try.ntmps7
  go_upto_region 1 with fail
  go_cut [9, 10] (fun sA sB wx => LeftP [.int .i64 cu, .int .i64 cv] sA wx ∧ sB = .int .i64 cc ∧ Below w.heap.size w wx ∧ AtL (w.heap.size) [.int .i64 ax, .int .i64 ay] wx ∧ AtL (w.heap.size + 1) [.int .i64 bx, .int .i64 ey] wx ∧ AtL (w.heap.size + 1 + 1) [.int .i64 cx, .int .i64 cy] wx ∧ AtL (w.heap.size + 1 + 1 + 1) [.int .i64 dx, .int .i64 dy] wx)
  case first =>
    generalize hW : ((((w.alloc (.cells #[.int .i64 ax, .int .i64 ay] 23)).alloc (.cells #[.int .i64 bx, .int .i64 ey] 23)).alloc (.cells #[.int .i64 cx, .int .i64 cy] 23)).alloc (.cells #[.int .i64 dx, .int .i64 dy] 23)) = W0
    have g0 : Below w.heap.size w W0 := by rw [← hW]; repeat' (first | assumption | exact Below.refl _ _ | (refine Below.setCell ?_ ?_ _) | (refine Below.alloc ?_ ?_ _) | (refine below_dr ?_ _) | exact Nat.le_refl _ | (simp; done) | (simp; omega))
    have s1 : W0.cell? ⟨w.heap.size, 0, none⟩ = some (.int .i64 ax) := by rw [← hW]; simp [go_sem]
    have s2 : W0.cell? ⟨w.heap.size, 1, none⟩ = some (.int .i64 ay) := by rw [← hW]; simp [go_sem]
    have s3 : W0.cell? ⟨w.heap.size + 1, 0, none⟩ = some (.int .i64 bx) := by rw [← hW]; simp [go_sem]
    have s4 : W0.cell? ⟨w.heap.size + 1, 1, none⟩ = some (.int .i64 ey) := by rw [← hW]; simp [go_sem]
    have s5 : W0.cell? ⟨w.heap.size + 1 + 1, 0, none⟩ = some (.int .i64 cx) := by rw [← hW]; simp [go_sem]
    have s6 : W0.cell? ⟨w.heap.size + 1 + 1, 1, none⟩ = some (.int .i64 cy) := by rw [← hW]; simp [go_sem]
    have s7 : W0.cell? ⟨w.heap.size + 1 + 1 + 1, 0, none⟩ = some (.int .i64 dx) := by rw [← hW]; simp [go_sem]
    have s8 : W0.cell? ⟨w.heap.size + 1 + 1 + 1, 1, none⟩ = some (.int .i64 dy) := by rw [← hW]; simp [go_sem]
    have sz : w.heap.size + 1 + 1 + 1 < W0.heap.size := by rw [← hW]; simp
    clear hW
    have zz0 : w.heap.size < W0.heap.size := by omega
    have bx0 : AtL (w.heap.size) [.int .i64 ax, .int .i64 ay] W0 := ⟨fun i v hv => by
      match i, hv with
      | 0, hv => exact (Option.some.inj hv) ▸ s1
      | 1, hv => exact (Option.some.inj hv) ▸ s2
      , zz0⟩
    have zz1 : w.heap.size + 1 < W0.heap.size := by omega
    have bx1 : AtL (w.heap.size + 1) [.int .i64 bx, .int .i64 ey] W0 := ⟨fun i v hv => by
      match i, hv with
      | 0, hv => exact (Option.some.inj hv) ▸ s3
      | 1, hv => exact (Option.some.inj hv) ▸ s4
      , zz1⟩
    have zz2 : w.heap.size + 1 + 1 < W0.heap.size := by omega
    have bx2 : AtL (w.heap.size + 1 + 1) [.int .i64 cx, .int .i64 cy] W0 := ⟨fun i v hv => by
      match i, hv with
      | 0, hv => exact (Option.some.inj hv) ▸ s5
      | 1, hv => exact (Option.some.inj hv) ▸ s6
      , zz2⟩
    have zz3 : w.heap.size + 1 + 1 + 1 < W0.heap.size := by omega
    have bx3 : AtL (w.heap.size + 1 + 1 + 1) [.int .i64 dx, .int .i64 dy] W0 := ⟨fun i v hv => by
      match i, hv with
      | 0, hv => exact (Option.some.inj hv) ▸ s7
      | 1, hv => exact (Option.some.inj hv) ▸ s8
      , zz3⟩
    go_region_held3 (fun w' => (∀ b o, b < W0.heap.size → w'.cell? ⟨b, o, none⟩ = W0.cell? ⟨b, o, none⟩) ∧ W0.heap.size ≤ w'.heap.size)
      (first | ((try dsimp only); exact ⟨fun b o h => (by (repeat (first | with_reducible exact rfl | (with_reducible refine (cell_drew_at _ _).trans ?_) | (with_reducible refine (cell_set_at _ _ (by first | omega | (simp; done) | (simp; omega))).trans ?_) | (with_reducible refine (cell_alloc_at _ _ (by first | omega | (simp; done) | (simp; omega))).trans ?_) | (with_reducible refine (hcwC b o (by first | omega | (simp; done) | (simp; omega))).trans ?_)))), (by first | omega | (simp; done) | (simp; omega))⟩) | fail)
      (first
        | (go_at_call 13; (with_reducible refine (toPt_x ax ay _).mono ?_); rintro e wA0 ⟨rfl, rfl⟩)
        | (go_at_call 13; (with_reducible refine (toPt_x bx ey _).mono ?_); rintro e wA1 ⟨rfl, rfl⟩)
        | (go_at_call 13; (with_reducible refine (toPt_x cx cy _).mono ?_); rintro e wA2 ⟨rfl, rfl⟩)
        | (go_at_call 13; (with_reducible refine (toPt_x dx dy _).mono ?_); rintro e wA3 ⟨rfl, rfl⟩)
        | (go_at_call 25; ((with_reducible refine (C1.out _).mono ?_); rintro e wC ⟨rfl, hbwC⟩; obtain ⟨hcwC, hfwC⟩ := bcell hbwC; have hzwC := hbwC.size; (try simp only [World.size_drew] at hcwC hfwC hzwC); (try simp only [World.size_alloc] at hcwC hfwC hzwC); (try have q0wC : W0.heap.size < wC.heap.size := (by omega)); (try have q1wC : W0.heap.size + 1 + 1 + 1 < wC.heap.size := (by omega)); (try have q2wC : W0.heap.size + 1 + 1 + 1 + 1 + 1 + 1 < wC.heap.size := (by omega)); (try have q3wC : W0.heap.size + 1 + 1 + 1 + 1 + 1 + 1 + 1 + 1 + 1 < wC.heap.size := (by omega)); (try have q4wC : W0.heap.size + 1 + 1 + 1 + 1 + 1 + 1 + 1 + 1 + 1 + 1 + 1 + 1 < wC.heap.size := (by omega)))))
    all_goals
      go_wp2_with fail
      go_meet
    all_goals exact ⟨⟨_, rfl, by repeat' (first | ((with_reducible refine AtL.newAt ?_); (first | rfl | (simp; done))) | with_reducible assumption | with_reducible exact AtL.new _ _ _ | (with_reducible refine AtL.drew ?_) | (with_reducible apply AtL.store2) | (with_reducible refine AtL.alloc ?_ _) | (with_reducible refine AtL.far ?_ ?_ _ _) | (with_reducible refine AtL.below ?_ (by with_reducible assumption)) | omega | (simp; done) | (simp; omega))⟩, rfl, by repeat' (first | with_reducible assumption | with_reducible exact Below.refl _ _ | (with_reducible refine Below.setCell ?_ ?_ _) | (with_reducible refine Below.alloc ?_ ?_ _) | (with_reducible refine Below.drew ?_) | (with_reducible refine below_dr ?_ _) | (with_reducible refine Below.trans ?_ (Below.mono (by with_reducible assumption) ?_)) | omega | (simp; done) | (simp; omega)), by repeat' (first | ((with_reducible refine AtL.newAt ?_); (first | rfl | (simp; done))) | with_reducible assumption | with_reducible exact AtL.new _ _ _ | (with_reducible refine AtL.drew ?_) | (with_reducible apply AtL.store2) | (with_reducible refine AtL.alloc ?_ _) | (with_reducible refine AtL.far ?_ ?_ _ _) | (with_reducible refine AtL.below ?_ (by with_reducible assumption)) | omega | (simp; done) | (simp; omega)), by repeat' (first | ((with_reducible refine AtL.newAt ?_); (first | rfl | (simp; done))) | with_reducible assumption | with_reducible exact AtL.new _ _ _ | (with_reducible refine AtL.drew ?_) | (with_reducible apply AtL.store2) | (with_reducible refine AtL.alloc ?_ _) | (with_reducible refine AtL.far ?_ ?_ _ _) | (with_reducible refine AtL.below ?_ (by with_reducible assumption)) | omega | (simp; done) | (simp; omega)), by repeat' (first | ((with_reducible refine AtL.newAt ?_); (first | rfl | (simp; done))) | with_reducible assumption | with_reducible exact AtL.new _ _ _ | (with_reducible refine AtL.drew ?_) | (with_reducible apply AtL.store2) | (with_reducible refine AtL.alloc ?_ _) | (with_reducible refine AtL.far ?_ ?_ _ _) | (with_reducible refine AtL.below ?_ (by with_reducible assumption)) | omega | (simp; done) | (simp; omega)), by repeat' (first | ((with_reducible refine AtL.newAt ?_); (first | rfl | (simp; done))) | with_reducible assumption | with_reducible exact AtL.new _ _ _ | (with_reducible refine AtL.drew ?_) | (with_reducible apply AtL.store2) | (with_reducible refine AtL.alloc ?_ _) | (with_reducible refine AtL.far ?_ ?_ _ _) | (with_reducible refine AtL.below ?_ (by with_reducible assumption)) | omega | (simp; done) | (simp; omega))⟩
  case rest =>
    obtain ⟨⟨g1, rfl, at1⟩, rfl, bel1, bx0, bx1, bx2, bx3⟩ := hcut
    obtain ⟨W0, rfl⟩ : ∃ W : World, W = wc := ⟨_, rfl⟩
    have lt1 := at1.lt
    have s1 := bx0.cell 0 rfl
    have s2 := bx0.cell 1 rfl
    have s3 := bx1.cell 0 rfl
    have s4 := bx1.cell 1 rfl
    have s5 := bx2.cell 0 rfl
    have s6 := bx2.cell 1 rfl
    have s7 := bx3.cell 0 rfl
    have s8 := bx3.cell 1 rfl
    have sz := bx3.lt
    have zz0 := bx0.lt
    have zz1 := bx1.lt
    have zz2 := bx2.lt
    have zz3 := bx3.lt
    go_upto_region 2 with fail
    go_cut [11, 12] (fun sA sB wx => LeftP [.int .i64 cu, .int .i64 cv] sA wx ∧ sB = .int .i64 cc ∧ Below w.heap.size w wx ∧ AtL (w.heap.size) [.int .i64 ax, .int .i64 ay] wx ∧ AtL (w.heap.size + 1) [.int .i64 bx, .int .i64 ey] wx ∧ AtL (w.heap.size + 1 + 1) [.int .i64 cx, .int .i64 cy] wx ∧ AtL (w.heap.size + 1 + 1 + 1) [.int .i64 dx, .int .i64 dy] wx ∧ AtL g1 [.int .i64 cu, .int .i64 cv] wx)
    case first =>
      go_region_held3 (fun w' => (∀ b o, b < W0.heap.size → w'.cell? ⟨b, o, none⟩ = W0.cell? ⟨b, o, none⟩) ∧ W0.heap.size ≤ w'.heap.size)
        (first | ((try dsimp only); exact ⟨fun b o h => (by (repeat (first | with_reducible exact rfl | (with_reducible refine (cell_drew_at _ _).trans ?_) | (with_reducible refine (cell_set_at _ _ (by first | omega | (simp; done) | (simp; omega))).trans ?_) | (with_reducible refine (cell_alloc_at _ _ (by first | omega | (simp; done) | (simp; omega))).trans ?_) | (with_reducible refine (hcwC b o (by first | omega | (simp; done) | (simp; omega))).trans ?_)))), (by first | omega | (simp; done) | (simp; omega))⟩) | fail)
        (first
          | (go_at_call 13; (with_reducible refine (toPt_x ax ay _).mono ?_); rintro e wA0 ⟨rfl, rfl⟩)
          | (go_at_call 13; (with_reducible refine (toPt_x bx ey _).mono ?_); rintro e wA1 ⟨rfl, rfl⟩)
          | (go_at_call 13; (with_reducible refine (toPt_x cx cy _).mono ?_); rintro e wA2 ⟨rfl, rfl⟩)
          | (go_at_call 13; (with_reducible refine (toPt_x dx dy _).mono ?_); rintro e wA3 ⟨rfl, rfl⟩)
          | (go_at_call 26; ((with_reducible refine (C2.out _).mono ?_); rintro e wC ⟨rfl, hbwC⟩; obtain ⟨hcwC, hfwC⟩ := bcell hbwC; have hzwC := hbwC.size; (try simp only [World.size_drew] at hcwC hfwC hzwC); (try simp only [World.size_alloc] at hcwC hfwC hzwC); (try have q0wC : W0.heap.size < wC.heap.size := (by omega)); (try have q1wC : W0.heap.size + 1 + 1 + 1 < wC.heap.size := (by omega)); (try have q2wC : W0.heap.size + 1 + 1 + 1 + 1 + 1 + 1 < wC.heap.size := (by omega)); (try have q3wC : W0.heap.size + 1 + 1 + 1 + 1 + 1 + 1 + 1 + 1 + 1 < wC.heap.size := (by omega)); (try have q4wC : W0.heap.size + 1 + 1 + 1 + 1 + 1 + 1 + 1 + 1 + 1 + 1 + 1 + 1 < wC.heap.size := (by omega)))))
      all_goals
        go_wp2_with fail
        go_meet
      all_goals exact ⟨⟨_, rfl, by repeat' (first | ((with_reducible refine AtL.newAt ?_); (first | rfl | (simp; done))) | with_reducible assumption | with_reducible exact AtL.new _ _ _ | (with_reducible refine AtL.drew ?_) | (with_reducible apply AtL.store2) | (with_reducible refine AtL.alloc ?_ _) | (with_reducible refine AtL.far ?_ ?_ _ _) | (with_reducible refine AtL.below ?_ (by with_reducible assumption)) | omega | (simp; done) | (simp; omega))⟩, rfl, by repeat' (first | with_reducible assumption | with_reducible exact Below.refl _ _ | (with_reducible refine Below.setCell ?_ ?_ _) | (with_reducible refine Below.alloc ?_ ?_ _) | (with_reducible refine Below.drew ?_) | (with_reducible refine below_dr ?_ _) | (with_reducible refine Below.trans ?_ (Below.mono (by with_reducible assumption) ?_)) | omega | (simp; done) | (simp; omega)), by repeat' (first | ((with_reducible refine AtL.newAt ?_); (first | rfl | (simp; done))) | with_reducible assumption | with_reducible exact AtL.new _ _ _ | (with_reducible refine AtL.drew ?_) | (with_reducible apply AtL.store2) | (with_reducible refine AtL.alloc ?_ _) | (with_reducible refine AtL.far ?_ ?_ _ _) | (with_reducible refine AtL.below ?_ (by with_reducible assumption)) | omega | (simp; done) | (simp; omega)), by repeat' (first | ((with_reducible refine AtL.newAt ?_); (first | rfl | (simp; done))) | with_reducible assumption | with_reducible exact AtL.new _ _ _ | (with_reducible refine AtL.drew ?_) | (with_reducible apply AtL.store2) | (with_reducible refine AtL.alloc ?_ _) | (with_reducible refine AtL.far ?_ ?_ _ _) | (with_reducible refine AtL.below ?_ (by with_reducible assumption)) | omega | (simp; done) | (simp; omega)), by repeat' (first | ((with_reducible refine AtL.newAt ?_); (first | rfl | (simp; done))) | with_reducible assumption | with_reducible exact AtL.new _ _ _ | (with_reducible refine AtL.drew ?_) | (with_reducible apply AtL.store2) | (with_reducible refine AtL.alloc ?_ _) | (with_reducible refine AtL.far ?_ ?_ _ _) | (with_reducible refine AtL.below ?_ (by with_reducible assumption)) | omega | (simp; done) | (simp; omega)), by repeat' (first | ((with_reducible refine AtL.newAt ?_); (first | rfl | (simp; done))) | with_reducible assumption | with_reducible exact AtL.new _ _ _ | (with_reducible refine AtL.drew ?_) | (with_reducible apply AtL.store2) | (with_reducible refine AtL.alloc ?_ _) | (with_reducible refine AtL.far ?_ ?_ _ _) | (with_reducible refine AtL.below ?_ (by with_reducible assumption)) | omega | (simp; done) | (simp; omega)), by repeat' (first | ((with_reducible refine AtL.newAt ?_); (first | rfl | (simp; done))) | with_reducible assumption | with_reducible exact AtL.new _ _ _ | (with_reducible refine AtL.drew ?_) | (with_reducible apply AtL.store2) | (with_reducible refine AtL.alloc ?_ _) | (with_reducible refine AtL.far ?_ ?_ _ _) | (with_reducible refine AtL.below ?_ (by with_reducible assumption)) | omega | (simp; done) | (simp; omega))⟩
    case rest =>
      obtain ⟨⟨g2, rfl, at2⟩, rfl, bel2, _, _, _, _, at3⟩ := hcut
      have k0 := at2.cell 0 rfl
      have k1 := at2.cell 1 rfl
      have k2 := at3.cell 0 rfl
      have k3 := at3.cell 1 rfl
      go_wp2_with fail
      refine (eqPt_same _ _ _).mono ?_
      rintro e wE ⟨rfl, hbwE⟩
      have zE := bel2.size
      go_wp2
      go_ret
      exact ⟨rfl, by repeat' (first | with_reducible assumption | with_reducible exact Below.refl _ _ | (with_reducible refine Below.setCell ?_ ?_ _) | (with_reducible refine Below.alloc ?_ ?_ _) | (with_reducible refine Below.drew ?_) | (with_reducible refine below_dr ?_ _) | (with_reducible refine Below.trans ?_ (Below.mono (by with_reducible assumption) ?_)) | omega | (simp; done) | (simp; omega))⟩
end Go.Proofs.Ytjhboedaaeaomaa
