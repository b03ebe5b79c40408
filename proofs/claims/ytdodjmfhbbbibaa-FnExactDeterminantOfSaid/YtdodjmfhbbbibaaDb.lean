/- Walks: determinants, the reference's side; the law on DeterminantOf: it returns true. -/
import Derived.Test.YtdodjmfhbbbibaaDa
import Derived.Test.YtdodjmfhbbbibaaQa2
import Derived.Test.YtdodjmfhbbbibaaQb
namespace Go.Proofs.Ytdodjmfhbbbibaa
open Go.RowKit

set_option maxHeartbeats 3200000 in
theorem l04Det_any (m0 m1 m2 m3 m4 m5 m6 m7 : Int) (b : Nat) (w : World) (p0 : validB m0 m1 = true) (p1 : validB m2 m3 = true) (p2 : validB m4 m5 = true) (p3 : validB m6 m7 = true) (hb : b < w.heap.size) (c0 : w.cell? ⟨b, 0, none⟩ = some (.int .i64 m0)) (c1 : w.cell? ⟨b, 1, none⟩ = some (.int .i64 m1)) (c2 : w.cell? ⟨b, 2, none⟩ = some (.int .i64 m2)) (c3 : w.cell? ⟨b, 3, none⟩ = some (.int .i64 m3)) (c4 : w.cell? ⟨b, 4, none⟩ = some (.int .i64 m4)) (c5 : w.cell? ⟨b, 5, none⟩ = some (.int .i64 m5)) (c6 : w.cell? ⟨b, 6, none⟩ = some (.int .i64 m6)) (c7 : w.cell? ⟨b, 7, none⟩ = some (.int .i64 m7)) :
    Calls Try.prog 33 #[.pointer (some ⟨b, 0, none⟩)] w (BRet (detF m0 m1 m2 m3 m4 m5 m6 m7) w) := by
  have CN := Lib.hid (fun w => l04Neg_x m2 m3 w p1)
  have CT := Lib.hid (fun w => l04Two_any m0 m1 m6 m7 (-m2) m3 m4 m5 w p0 p3 (neg_valid p1) p2)
  unfold BRet at *
  unfold detF
  generalize oN (twoF m0 m1 m6 m7 (-m2) m3 m4 m5) = an at *
  generalize oD (twoF m0 m1 m6 m7 (-m2) m3 m4 m5) = ad at *
  generalize decide (oC (twoF m0 m1 m6 m7 (-m2) m3 m4 m5) = 0) = ac at *
  clear p0 p1 p2 p3
  go_enter Try.func33, Try.ntmps33
  go_wp2_with fail
  generalize hW : w.alloc (.cells #[.int .i64 0, .int .i64 0] 26) = W0
  have g0 : Below w.heap.size w W0 := by rw [← hW]; repeat' (first | with_reducible assumption | with_reducible exact Below.refl _ _ | (with_reducible refine Below.setCell ?_ ?_ _) | (with_reducible refine Below.alloc ?_ ?_ _) | (with_reducible refine Below.drew ?_) | (with_reducible refine below_dr ?_ _) | (with_reducible refine Below.trans ?_ (Below.mono (by with_reducible assumption) ?_)) | omega | (simp; done) | (simp; omega))
  have s0 : W0.cell? ⟨b, 0, none⟩ = some (.int .i64 m0) := by rw [← hW]; exact (cell_alloc_at _ _ hb).trans c0
  have s1 : W0.cell? ⟨b, 1, none⟩ = some (.int .i64 m1) := by rw [← hW]; exact (cell_alloc_at _ _ hb).trans c1
  have s2 : W0.cell? ⟨b, 2, none⟩ = some (.int .i64 m2) := by rw [← hW]; exact (cell_alloc_at _ _ hb).trans c2
  have s3 : W0.cell? ⟨b, 3, none⟩ = some (.int .i64 m3) := by rw [← hW]; exact (cell_alloc_at _ _ hb).trans c3
  have s4 : W0.cell? ⟨b, 4, none⟩ = some (.int .i64 m4) := by rw [← hW]; exact (cell_alloc_at _ _ hb).trans c4
  have s5 : W0.cell? ⟨b, 5, none⟩ = some (.int .i64 m5) := by rw [← hW]; exact (cell_alloc_at _ _ hb).trans c5
  have s6 : W0.cell? ⟨b, 6, none⟩ = some (.int .i64 m6) := by rw [← hW]; exact (cell_alloc_at _ _ hb).trans c6
  have s7 : W0.cell? ⟨b, 7, none⟩ = some (.int .i64 m7) := by rw [← hW]; exact (cell_alloc_at _ _ hb).trans c7
  have e0 : W0.cell? ⟨w.heap.size, 0, none⟩ = some (.int .i64 0) := by rw [← hW]; simp [go_sem]
  have e1 : W0.cell? ⟨w.heap.size, 1, none⟩ = some (.int .i64 0) := by rw [← hW]; simp [go_sem]
  have f0 : W0.frozen? ⟨w.heap.size, 0, none⟩ = false := by rw [← hW]; simp [go_sem]
  have f1 : W0.frozen? ⟨w.heap.size, 1, none⟩ = false := by rw [← hW]; simp [go_sem]
  have sz : w.heap.size < W0.heap.size := by rw [← hW]; simp
  clear hW c0 c1 c2 c3 c4 c5 c6 c7
  go_region_held3 (fun w' => (∀ b o, b < w.heap.size → w'.cell? ⟨b, o, none⟩ = W0.cell? ⟨b, o, none⟩) ∧ (∀ b o, b < W0.heap.size → w'.frozen? ⟨b, o, none⟩ = W0.frozen? ⟨b, o, none⟩) ∧ W0.heap.size ≤ w'.heap.size)
    (first | ((try dsimp only); exact ⟨fun b o h => (by (repeat (first | with_reducible exact rfl | (with_reducible refine (cell_drew_at _ _).trans ?_) | (with_reducible refine (cell_set_at _ _ (by first | omega | (simp; done) | (simp; omega))).trans ?_) | (with_reducible refine (cell_alloc_at _ _ (by first | omega | (simp; done) | (simp; omega))).trans ?_) | (with_reducible refine (hcwF b o (by first | omega | (simp; done) | (simp; omega))).trans ?_)))), fun b o h => (by (repeat (first | with_reducible exact rfl | (with_reducible refine (frozen_drew_at _ _).trans ?_) | (with_reducible refine (World.frozen?_setCell _ _ _ _).trans ?_) | (with_reducible refine (frozen_alloc_at _ _ (by first | omega | (simp; done) | (simp; omega))).trans ?_) | (with_reducible refine (hfwF b o (by first | omega | (simp; done) | (simp; omega))).trans ?_)))), (by first | omega | (simp; done) | (simp; omega))⟩) | fail)
    (first
      | (go_at_call 37; (with_reducible refine (CN.out _).mono ?_); rintro e wN ⟨rfl, rfl⟩)
      | (go_at_call 39; (with_reducible refine (CT.out _).mono ?_); rintro e wF ⟨rfl, hbwF⟩; obtain ⟨hcwF, hfwF⟩ := bcell hbwF; have hzwF := hbwF.size; (try simp only [World.size_drew] at hcwF hfwF hzwF); (try simp only [World.size_alloc] at hcwF hfwF hzwF); have ywF0 : wF.cell? ⟨w.heap.size, 0, none⟩ = some (.int .i64 0) := (by (repeat (first | with_reducible assumption | (with_reducible refine (cell_drew_at _ _).trans ?_) | (with_reducible refine (cell_set_at _ _ (by first | omega | (simp; done) | (simp; omega))).trans ?_) | (with_reducible refine (cell_alloc_at _ _ (by first | omega | (simp; done) | (simp; omega))).trans ?_) | (with_reducible refine (hcwF _ _ (by first | omega | (simp; done) | (simp; omega))).trans ?_)))); have ywF1 : wF.cell? ⟨w.heap.size, 1, none⟩ = some (.int .i64 0) := (by (repeat (first | with_reducible assumption | (with_reducible refine (cell_drew_at _ _).trans ?_) | (with_reducible refine (cell_set_at _ _ (by first | omega | (simp; done) | (simp; omega))).trans ?_) | (with_reducible refine (cell_alloc_at _ _ (by first | omega | (simp; done) | (simp; omega))).trans ?_) | (with_reducible refine (hcwF _ _ (by first | omega | (simp; done) | (simp; omega))).trans ?_)))); have yfwF0 : wF.frozen? ⟨w.heap.size, 0, none⟩ = false := (by (repeat (first | with_reducible assumption | (with_reducible refine (frozen_drew_at _ _).trans ?_) | (with_reducible refine (World.frozen?_setCell _ _ _ _).trans ?_) | (with_reducible refine (frozen_alloc_at _ _ (by first | omega | (simp; done) | (simp; omega))).trans ?_) | (with_reducible refine (hfwF _ _ (by first | omega | (simp; done) | (simp; omega))).trans ?_)))); have yfwF1 : wF.frozen? ⟨w.heap.size, 1, none⟩ = false := (by (repeat (first | with_reducible assumption | (with_reducible refine (frozen_drew_at _ _).trans ?_) | (with_reducible refine (World.frozen?_setCell _ _ _ _).trans ?_) | (with_reducible refine (frozen_alloc_at _ _ (by first | omega | (simp; done) | (simp; omega))).trans ?_) | (with_reducible refine (hfwF _ _ (by first | omega | (simp; done) | (simp; omega))).trans ?_))))))
  all_goals
    have ra := AtL.of2 ywF0 ywF1 (by omega)
    have rb := ra.store2 (a := .int .i64 an) (b := .int .i64 ad)
    have r0 := rb.cell 0 rfl
    have r1 := rb.cell 1 rfl
    go_wp2
  all_goals refine bodyPost_ret (v := .tuple #[.agg #[.int .i64 an, .int .i64 ad], .bool ac]) (by simp [results, Try.results33, go_sem, r0, r1]) rfl ⟨rfl, ?_⟩
  all_goals repeat' (first | with_reducible assumption | with_reducible exact Below.refl _ _ | (with_reducible refine Below.setCell ?_ ?_ _) | (with_reducible refine Below.alloc ?_ ?_ _) | (with_reducible refine Below.drew ?_) | (with_reducible refine below_dr ?_ _) | (with_reducible refine Below.trans ?_ (Below.mono (by with_reducible assumption) ?_)) | omega | (simp; done) | (simp; omega))
set_option maxHeartbeats 3200000 in
theorem specDet_any (m0 m1 m2 m3 m4 m5 m6 m7 m8 m9 m10 m11 : Int) (w : World) (h0 : -9223372036854775808 ≤ m0 ∧ m0 ≤ 9223372036854775807) (h1 : -9223372036854775808 ≤ m1 ∧ m1 ≤ 9223372036854775807) (h2 : -9223372036854775808 ≤ m2 ∧ m2 ≤ 9223372036854775807) (h3 : -9223372036854775808 ≤ m3 ∧ m3 ≤ 9223372036854775807) (h4 : -9223372036854775808 ≤ m4 ∧ m4 ≤ 9223372036854775807) (h5 : -9223372036854775808 ≤ m5 ∧ m5 ≤ 9223372036854775807) (h6 : -9223372036854775808 ≤ m6 ∧ m6 ≤ 9223372036854775807) (h7 : -9223372036854775808 ≤ m7 ∧ m7 ≤ 9223372036854775807) (h8 : -9223372036854775808 ≤ m8 ∧ m8 ≤ 9223372036854775807) (h9 : -9223372036854775808 ≤ m9 ∧ m9 ≤ 9223372036854775807) (h10 : -9223372036854775808 ≤ m10 ∧ m10 ≤ 9223372036854775807) (h11 : -9223372036854775808 ≤ m11 ∧ m11 ≤ 9223372036854775807) :
    Calls Try.prog 13 #[.agg #[.int .i64 m0, .int .i64 m1, .int .i64 m2, .int .i64 m3, .int .i64 m4, .int .i64 m5, .int .i64 m6, .int .i64 m7, .int .i64 m8, .int .i64 m9, .int .i64 m10, .int .i64 m11]] w (GRet (validA m0 m1 m2 m3 m4 m5 m6 m7 m8 m9 m10 m11) (detF m0 m1 m2 m3 m4 m5 m6 m7) w) := by
  have C := Lib.hid (fun b w c0 c1 c2 c3 c4 c5 c6 c7 c8 c9 c10 c11 => l04Ok_any m0 m1 m2 m3 m4 m5 m6 m7 m8 m9 m10 m11 b w c0 c1 c2 c3 c4 c5 c6 c7 c8 c9 c10 c11 h0 h1 h2 h3 h4 h5 h6 h7 h8 h9 h10 h11)
  clear h0 h1 h2 h3 h4 h5 h6 h7 h8 h9 h10 h11
  rcases hv : validA m0 m1 m2 m3 m4 m5 m6 m7 m8 m9 m10 m11 with _ | _
  · rw [hv] at C
    clear hv
    go_enter Try.func13, Try.ntmps13
    go_wp2_with fail
    refine (C.out _ _ (by simp [go_sem]) (by simp [go_sem]) (by simp [go_sem]) (by simp [go_sem]) (by simp [go_sem]) (by simp [go_sem]) (by simp [go_sem]) (by simp [go_sem]) (by simp [go_sem]) (by simp [go_sem]) (by simp [go_sem]) (by simp [go_sem])).mono ?_
    rintro e w1 ⟨rfl, hbw1⟩
    have g1 : Below w.heap.size w w1 := (by repeat' (first | with_reducible assumption | with_reducible exact Below.refl _ _ | (with_reducible refine Below.setCell ?_ ?_ _) | (with_reducible refine Below.alloc ?_ ?_ _) | (with_reducible refine Below.drew ?_) | (with_reducible refine below_dr ?_ _) | (with_reducible refine Below.trans ?_ (Below.mono (by with_reducible assumption) ?_)) | omega | (simp; done) | (simp; omega)))
    obtain ⟨hcw1, hfw1⟩ := bcell hbw1
    have hzw1 := hbw1.size
    (try simp only [World.size_alloc] at hcw1 hfw1 hzw1)
    have s1 : w1.cell? ⟨w.heap.size, 0, none⟩ = some (.int .i64 m0) := (hcw1 _ _ (by omega)).trans (by first | assumption | (refine (cell_alloc_at _ _ ?_).trans ?_; omega; assumption) | (simp [go_sem]; done) | (simp [go_sem, *]; done))
    have s2 : w1.cell? ⟨w.heap.size, 1, none⟩ = some (.int .i64 m1) := (hcw1 _ _ (by omega)).trans (by first | assumption | (refine (cell_alloc_at _ _ ?_).trans ?_; omega; assumption) | (simp [go_sem]; done) | (simp [go_sem, *]; done))
    have s3 : w1.cell? ⟨w.heap.size, 2, none⟩ = some (.int .i64 m2) := (hcw1 _ _ (by omega)).trans (by first | assumption | (refine (cell_alloc_at _ _ ?_).trans ?_; omega; assumption) | (simp [go_sem]; done) | (simp [go_sem, *]; done))
    have s4 : w1.cell? ⟨w.heap.size, 3, none⟩ = some (.int .i64 m3) := (hcw1 _ _ (by omega)).trans (by first | assumption | (refine (cell_alloc_at _ _ ?_).trans ?_; omega; assumption) | (simp [go_sem]; done) | (simp [go_sem, *]; done))
    have s5 : w1.cell? ⟨w.heap.size, 4, none⟩ = some (.int .i64 m4) := (hcw1 _ _ (by omega)).trans (by first | assumption | (refine (cell_alloc_at _ _ ?_).trans ?_; omega; assumption) | (simp [go_sem]; done) | (simp [go_sem, *]; done))
    have s6 : w1.cell? ⟨w.heap.size, 5, none⟩ = some (.int .i64 m5) := (hcw1 _ _ (by omega)).trans (by first | assumption | (refine (cell_alloc_at _ _ ?_).trans ?_; omega; assumption) | (simp [go_sem]; done) | (simp [go_sem, *]; done))
    have s7 : w1.cell? ⟨w.heap.size, 6, none⟩ = some (.int .i64 m6) := (hcw1 _ _ (by omega)).trans (by first | assumption | (refine (cell_alloc_at _ _ ?_).trans ?_; omega; assumption) | (simp [go_sem]; done) | (simp [go_sem, *]; done))
    have s8 : w1.cell? ⟨w.heap.size, 7, none⟩ = some (.int .i64 m7) := (hcw1 _ _ (by omega)).trans (by first | assumption | (refine (cell_alloc_at _ _ ?_).trans ?_; omega; assumption) | (simp [go_sem]; done) | (simp [go_sem, *]; done))
    have s9 : w1.cell? ⟨w.heap.size, 8, none⟩ = some (.int .i64 m8) := (hcw1 _ _ (by omega)).trans (by first | assumption | (refine (cell_alloc_at _ _ ?_).trans ?_; omega; assumption) | (simp [go_sem]; done) | (simp [go_sem, *]; done))
    have s10 : w1.cell? ⟨w.heap.size, 9, none⟩ = some (.int .i64 m9) := (hcw1 _ _ (by omega)).trans (by first | assumption | (refine (cell_alloc_at _ _ ?_).trans ?_; omega; assumption) | (simp [go_sem]; done) | (simp [go_sem, *]; done))
    have s11 : w1.cell? ⟨w.heap.size, 10, none⟩ = some (.int .i64 m10) := (hcw1 _ _ (by omega)).trans (by first | assumption | (refine (cell_alloc_at _ _ ?_).trans ?_; omega; assumption) | (simp [go_sem]; done) | (simp [go_sem, *]; done))
    have s12 : w1.cell? ⟨w.heap.size, 11, none⟩ = some (.int .i64 m11) := (hcw1 _ _ (by omega)).trans (by first | assumption | (refine (cell_alloc_at _ _ ?_).trans ?_; omega; assumption) | (simp [go_sem]; done) | (simp [go_sem, *]; done))
    have s13 : w1.cell? ⟨w.heap.size + 1, 0, none⟩ = some (.int .i64 0) := (hcw1 _ _ (by omega)).trans (by first | assumption | (refine (cell_alloc_at _ _ ?_).trans ?_; omega; assumption) | (simp [go_sem]; done) | (simp [go_sem, *]; done))
    have s14 : w1.cell? ⟨w.heap.size + 1, 1, none⟩ = some (.int .i64 0) := (hcw1 _ _ (by omega)).trans (by first | assumption | (refine (cell_alloc_at _ _ ?_).trans ?_; omega; assumption) | (simp [go_sem]; done) | (simp [go_sem, *]; done))
    have szq0 : w.heap.size < w1.heap.size := (by omega)
    have sz : w.heap.size + 1 < w1.heap.size := (by omega)
    have fs10 : w1.frozen? ⟨w.heap.size + 1, 0, none⟩ = false := (hfw1 _ _ (by omega)).trans (by first | assumption | (refine (World.frozen?_alloc_old _ _ _ ?_).trans ?_; (simp; omega); assumption) | (simp [go_sem]; done) | (simp [go_sem, *]; done))
    have fs11 : w1.frozen? ⟨w.heap.size + 1, 1, none⟩ = false := (hfw1 _ _ (by omega)).trans (by first | assumption | (refine (World.frozen?_alloc_old _ _ _ ?_).trans ?_; (simp; omega); assumption) | (simp [go_sem]; done) | (simp [go_sem, *]; done))
    clear hcw1 hfw1 hzw1
    have s15 : w.heap.size < w1.heap.size := by omega
    go_wp2
    have ra := AtL.of2 s13 s14 sz
    have rb := (ra.store2 (a := .int .i64 0) (b := .int .i64 0))
    have r0 := rb.cell 0 rfl
    have r1 := rb.cell 1 rfl
    refine bodyPost_ret (v := .tuple #[.agg #[.int .i64 0, .int .i64 0], .int .i64 1]) (by simp [results, Try.results13, go_sem, r0, r1]) rfl (GRet.no rfl ?_)
    repeat' (first | with_reducible assumption | with_reducible exact Below.refl _ _ | (with_reducible refine Below.setCell ?_ ?_ _) | (with_reducible refine Below.alloc ?_ ?_ _) | (with_reducible refine Below.drew ?_) | (with_reducible refine below_dr ?_ _) | (with_reducible refine Below.trans ?_ (Below.mono (by with_reducible assumption) ?_)) | omega | (simp; done) | (simp; omega))
  obtain ⟨p0, p1, p2, p3, p4, p5⟩ := validA_parts hv
  have CD := Lib.hid (fun b w hb c0 c1 c2 c3 c4 c5 c6 c7 => l04Det_any m0 m1 m2 m3 m4 m5 m6 m7 b w p0 p1 p2 p3 hb c0 c1 c2 c3 c4 c5 c6 c7)
  clear p0 p1 p2 p3 p4 p5
  unfold BRet at CD
  rcases hd : detF m0 m1 m2 m3 m4 m5 m6 m7 with _ | ⟨u, v⟩
  · rw [hd] at CD
    clear hd
    rw [hv] at C
    clear hv
    go_enter Try.func13, Try.ntmps13
    go_wp2_with fail
    refine (C.out _ _ (by simp [go_sem]) (by simp [go_sem]) (by simp [go_sem]) (by simp [go_sem]) (by simp [go_sem]) (by simp [go_sem]) (by simp [go_sem]) (by simp [go_sem]) (by simp [go_sem]) (by simp [go_sem]) (by simp [go_sem]) (by simp [go_sem])).mono ?_
    rintro e w1 ⟨rfl, hbw1⟩
    have g1 : Below w.heap.size w w1 := (by repeat' (first | with_reducible assumption | with_reducible exact Below.refl _ _ | (with_reducible refine Below.setCell ?_ ?_ _) | (with_reducible refine Below.alloc ?_ ?_ _) | (with_reducible refine Below.drew ?_) | (with_reducible refine below_dr ?_ _) | (with_reducible refine Below.trans ?_ (Below.mono (by with_reducible assumption) ?_)) | omega | (simp; done) | (simp; omega)))
    obtain ⟨hcw1, hfw1⟩ := bcell hbw1
    have hzw1 := hbw1.size
    (try simp only [World.size_alloc] at hcw1 hfw1 hzw1)
    have s1 : w1.cell? ⟨w.heap.size, 0, none⟩ = some (.int .i64 m0) := (hcw1 _ _ (by omega)).trans (by first | assumption | (refine (cell_alloc_at _ _ ?_).trans ?_; omega; assumption) | (simp [go_sem]; done) | (simp [go_sem, *]; done))
    have s2 : w1.cell? ⟨w.heap.size, 1, none⟩ = some (.int .i64 m1) := (hcw1 _ _ (by omega)).trans (by first | assumption | (refine (cell_alloc_at _ _ ?_).trans ?_; omega; assumption) | (simp [go_sem]; done) | (simp [go_sem, *]; done))
    have s3 : w1.cell? ⟨w.heap.size, 2, none⟩ = some (.int .i64 m2) := (hcw1 _ _ (by omega)).trans (by first | assumption | (refine (cell_alloc_at _ _ ?_).trans ?_; omega; assumption) | (simp [go_sem]; done) | (simp [go_sem, *]; done))
    have s4 : w1.cell? ⟨w.heap.size, 3, none⟩ = some (.int .i64 m3) := (hcw1 _ _ (by omega)).trans (by first | assumption | (refine (cell_alloc_at _ _ ?_).trans ?_; omega; assumption) | (simp [go_sem]; done) | (simp [go_sem, *]; done))
    have s5 : w1.cell? ⟨w.heap.size, 4, none⟩ = some (.int .i64 m4) := (hcw1 _ _ (by omega)).trans (by first | assumption | (refine (cell_alloc_at _ _ ?_).trans ?_; omega; assumption) | (simp [go_sem]; done) | (simp [go_sem, *]; done))
    have s6 : w1.cell? ⟨w.heap.size, 5, none⟩ = some (.int .i64 m5) := (hcw1 _ _ (by omega)).trans (by first | assumption | (refine (cell_alloc_at _ _ ?_).trans ?_; omega; assumption) | (simp [go_sem]; done) | (simp [go_sem, *]; done))
    have s7 : w1.cell? ⟨w.heap.size, 6, none⟩ = some (.int .i64 m6) := (hcw1 _ _ (by omega)).trans (by first | assumption | (refine (cell_alloc_at _ _ ?_).trans ?_; omega; assumption) | (simp [go_sem]; done) | (simp [go_sem, *]; done))
    have s8 : w1.cell? ⟨w.heap.size, 7, none⟩ = some (.int .i64 m7) := (hcw1 _ _ (by omega)).trans (by first | assumption | (refine (cell_alloc_at _ _ ?_).trans ?_; omega; assumption) | (simp [go_sem]; done) | (simp [go_sem, *]; done))
    have s9 : w1.cell? ⟨w.heap.size, 8, none⟩ = some (.int .i64 m8) := (hcw1 _ _ (by omega)).trans (by first | assumption | (refine (cell_alloc_at _ _ ?_).trans ?_; omega; assumption) | (simp [go_sem]; done) | (simp [go_sem, *]; done))
    have s10 : w1.cell? ⟨w.heap.size, 9, none⟩ = some (.int .i64 m9) := (hcw1 _ _ (by omega)).trans (by first | assumption | (refine (cell_alloc_at _ _ ?_).trans ?_; omega; assumption) | (simp [go_sem]; done) | (simp [go_sem, *]; done))
    have s11 : w1.cell? ⟨w.heap.size, 10, none⟩ = some (.int .i64 m10) := (hcw1 _ _ (by omega)).trans (by first | assumption | (refine (cell_alloc_at _ _ ?_).trans ?_; omega; assumption) | (simp [go_sem]; done) | (simp [go_sem, *]; done))
    have s12 : w1.cell? ⟨w.heap.size, 11, none⟩ = some (.int .i64 m11) := (hcw1 _ _ (by omega)).trans (by first | assumption | (refine (cell_alloc_at _ _ ?_).trans ?_; omega; assumption) | (simp [go_sem]; done) | (simp [go_sem, *]; done))
    have s13 : w1.cell? ⟨w.heap.size + 1, 0, none⟩ = some (.int .i64 0) := (hcw1 _ _ (by omega)).trans (by first | assumption | (refine (cell_alloc_at _ _ ?_).trans ?_; omega; assumption) | (simp [go_sem]; done) | (simp [go_sem, *]; done))
    have s14 : w1.cell? ⟨w.heap.size + 1, 1, none⟩ = some (.int .i64 0) := (hcw1 _ _ (by omega)).trans (by first | assumption | (refine (cell_alloc_at _ _ ?_).trans ?_; omega; assumption) | (simp [go_sem]; done) | (simp [go_sem, *]; done))
    have szq0 : w.heap.size < w1.heap.size := (by omega)
    have sz : w.heap.size + 1 < w1.heap.size := (by omega)
    have fs10 : w1.frozen? ⟨w.heap.size + 1, 0, none⟩ = false := (hfw1 _ _ (by omega)).trans (by first | assumption | (refine (World.frozen?_alloc_old _ _ _ ?_).trans ?_; (simp; omega); assumption) | (simp [go_sem]; done) | (simp [go_sem, *]; done))
    have fs11 : w1.frozen? ⟨w.heap.size + 1, 1, none⟩ = false := (hfw1 _ _ (by omega)).trans (by first | assumption | (refine (World.frozen?_alloc_old _ _ _ ?_).trans ?_; (simp; omega); assumption) | (simp [go_sem]; done) | (simp [go_sem, *]; done))
    clear hcw1 hfw1 hzw1
    have s15 : w.heap.size < w1.heap.size := by omega
    go_wp2_with fail
    refine (CD.out _ _ s15 s1 s2 s3 s4 s5 s6 s7 s8).mono ?_
    rintro e w2 ⟨rfl, hbw2⟩
    have g2 : Below w.heap.size w w2 := by repeat' (first | with_reducible assumption | with_reducible exact Below.refl _ _ | (with_reducible refine Below.setCell ?_ ?_ _) | (with_reducible refine Below.alloc ?_ ?_ _) | (with_reducible refine Below.drew ?_) | (with_reducible refine below_dr ?_ _) | (with_reducible refine Below.trans ?_ (Below.mono (by with_reducible assumption) ?_)) | omega | (simp; done) | (simp; omega))
    obtain ⟨hcw2, hfw2⟩ := bcell hbw2
    have hzw2 := hbw2.size
    have yw20 : w2.cell? ⟨w.heap.size + 1, 0, none⟩ = some (.int .i64 0) := (by (repeat (first | with_reducible assumption | (with_reducible refine (cell_drew_at _ _).trans ?_) | (with_reducible refine (cell_set_at _ _ (by first | omega | (simp; done) | (simp; omega))).trans ?_) | (with_reducible refine (cell_alloc_at _ _ (by first | omega | (simp; done) | (simp; omega))).trans ?_) | (with_reducible refine (hcw2 _ _ (by first | omega | (simp; done) | (simp; omega))).trans ?_))))
    have yw21 : w2.cell? ⟨w.heap.size + 1, 1, none⟩ = some (.int .i64 0) := (by (repeat (first | with_reducible assumption | (with_reducible refine (cell_drew_at _ _).trans ?_) | (with_reducible refine (cell_set_at _ _ (by first | omega | (simp; done) | (simp; omega))).trans ?_) | (with_reducible refine (cell_alloc_at _ _ (by first | omega | (simp; done) | (simp; omega))).trans ?_) | (with_reducible refine (hcw2 _ _ (by first | omega | (simp; done) | (simp; omega))).trans ?_))))
    have yfw20 : w2.frozen? ⟨w.heap.size + 1, 0, none⟩ = false := (by (repeat (first | with_reducible assumption | (with_reducible refine (frozen_drew_at _ _).trans ?_) | (with_reducible refine (World.frozen?_setCell _ _ _ _).trans ?_) | (with_reducible refine (frozen_alloc_at _ _ (by first | omega | (simp; done) | (simp; omega))).trans ?_) | (with_reducible refine (hfw2 _ _ (by first | omega | (simp; done) | (simp; omega))).trans ?_))))
    have yfw21 : w2.frozen? ⟨w.heap.size + 1, 1, none⟩ = false := (by (repeat (first | with_reducible assumption | (with_reducible refine (frozen_drew_at _ _).trans ?_) | (with_reducible refine (World.frozen?_setCell _ _ _ _).trans ?_) | (with_reducible refine (frozen_alloc_at _ _ (by first | omega | (simp; done) | (simp; omega))).trans ?_) | (with_reducible refine (hfw2 _ _ (by first | omega | (simp; done) | (simp; omega))).trans ?_))))
    have z2 : w.heap.size + 1 < w2.heap.size := by omega
    clear hcw2 hfw2 s1 s2 s3 s4 s5 s6 s7 s8 s9 s10 s11 s12
    simp only [oC, oN, oD]
    go_wp2
    have ra := AtL.of2 yw20 yw21 z2
    have rb := (ra.store2 (a := .int .i64 0) (b := .int .i64 0)).alloc (.cells #[.int .i64 0, .int .i64 0] 26)
    have r0 := rb.cell 0 rfl
    have r1 := rb.cell 1 rfl
    refine bodyPost_ret (v := .tuple #[.agg #[.int .i64 0, .int .i64 0], .int .i64 2]) (by simp [results, Try.results13, go_sem, r0, r1]) rfl (GRet.yes rfl rfl rfl rfl ?_)
    repeat' (first | with_reducible assumption | with_reducible exact Below.refl _ _ | (with_reducible refine Below.setCell ?_ ?_ _) | (with_reducible refine Below.alloc ?_ ?_ _) | (with_reducible refine Below.drew ?_) | (with_reducible refine below_dr ?_ _) | (with_reducible refine Below.trans ?_ (Below.mono (by with_reducible assumption) ?_)) | omega | (simp; done) | (simp; omega))
  · rw [hd] at CD
    clear hd
    rw [hv] at C
    clear hv
    go_enter Try.func13, Try.ntmps13
    go_wp2_with fail
    refine (C.out _ _ (by simp [go_sem]) (by simp [go_sem]) (by simp [go_sem]) (by simp [go_sem]) (by simp [go_sem]) (by simp [go_sem]) (by simp [go_sem]) (by simp [go_sem]) (by simp [go_sem]) (by simp [go_sem]) (by simp [go_sem]) (by simp [go_sem])).mono ?_
    rintro e w1 ⟨rfl, hbw1⟩
    have g1 : Below w.heap.size w w1 := (by repeat' (first | with_reducible assumption | with_reducible exact Below.refl _ _ | (with_reducible refine Below.setCell ?_ ?_ _) | (with_reducible refine Below.alloc ?_ ?_ _) | (with_reducible refine Below.drew ?_) | (with_reducible refine below_dr ?_ _) | (with_reducible refine Below.trans ?_ (Below.mono (by with_reducible assumption) ?_)) | omega | (simp; done) | (simp; omega)))
    obtain ⟨hcw1, hfw1⟩ := bcell hbw1
    have hzw1 := hbw1.size
    (try simp only [World.size_alloc] at hcw1 hfw1 hzw1)
    have s1 : w1.cell? ⟨w.heap.size, 0, none⟩ = some (.int .i64 m0) := (hcw1 _ _ (by omega)).trans (by first | assumption | (refine (cell_alloc_at _ _ ?_).trans ?_; omega; assumption) | (simp [go_sem]; done) | (simp [go_sem, *]; done))
    have s2 : w1.cell? ⟨w.heap.size, 1, none⟩ = some (.int .i64 m1) := (hcw1 _ _ (by omega)).trans (by first | assumption | (refine (cell_alloc_at _ _ ?_).trans ?_; omega; assumption) | (simp [go_sem]; done) | (simp [go_sem, *]; done))
    have s3 : w1.cell? ⟨w.heap.size, 2, none⟩ = some (.int .i64 m2) := (hcw1 _ _ (by omega)).trans (by first | assumption | (refine (cell_alloc_at _ _ ?_).trans ?_; omega; assumption) | (simp [go_sem]; done) | (simp [go_sem, *]; done))
    have s4 : w1.cell? ⟨w.heap.size, 3, none⟩ = some (.int .i64 m3) := (hcw1 _ _ (by omega)).trans (by first | assumption | (refine (cell_alloc_at _ _ ?_).trans ?_; omega; assumption) | (simp [go_sem]; done) | (simp [go_sem, *]; done))
    have s5 : w1.cell? ⟨w.heap.size, 4, none⟩ = some (.int .i64 m4) := (hcw1 _ _ (by omega)).trans (by first | assumption | (refine (cell_alloc_at _ _ ?_).trans ?_; omega; assumption) | (simp [go_sem]; done) | (simp [go_sem, *]; done))
    have s6 : w1.cell? ⟨w.heap.size, 5, none⟩ = some (.int .i64 m5) := (hcw1 _ _ (by omega)).trans (by first | assumption | (refine (cell_alloc_at _ _ ?_).trans ?_; omega; assumption) | (simp [go_sem]; done) | (simp [go_sem, *]; done))
    have s7 : w1.cell? ⟨w.heap.size, 6, none⟩ = some (.int .i64 m6) := (hcw1 _ _ (by omega)).trans (by first | assumption | (refine (cell_alloc_at _ _ ?_).trans ?_; omega; assumption) | (simp [go_sem]; done) | (simp [go_sem, *]; done))
    have s8 : w1.cell? ⟨w.heap.size, 7, none⟩ = some (.int .i64 m7) := (hcw1 _ _ (by omega)).trans (by first | assumption | (refine (cell_alloc_at _ _ ?_).trans ?_; omega; assumption) | (simp [go_sem]; done) | (simp [go_sem, *]; done))
    have s9 : w1.cell? ⟨w.heap.size, 8, none⟩ = some (.int .i64 m8) := (hcw1 _ _ (by omega)).trans (by first | assumption | (refine (cell_alloc_at _ _ ?_).trans ?_; omega; assumption) | (simp [go_sem]; done) | (simp [go_sem, *]; done))
    have s10 : w1.cell? ⟨w.heap.size, 9, none⟩ = some (.int .i64 m9) := (hcw1 _ _ (by omega)).trans (by first | assumption | (refine (cell_alloc_at _ _ ?_).trans ?_; omega; assumption) | (simp [go_sem]; done) | (simp [go_sem, *]; done))
    have s11 : w1.cell? ⟨w.heap.size, 10, none⟩ = some (.int .i64 m10) := (hcw1 _ _ (by omega)).trans (by first | assumption | (refine (cell_alloc_at _ _ ?_).trans ?_; omega; assumption) | (simp [go_sem]; done) | (simp [go_sem, *]; done))
    have s12 : w1.cell? ⟨w.heap.size, 11, none⟩ = some (.int .i64 m11) := (hcw1 _ _ (by omega)).trans (by first | assumption | (refine (cell_alloc_at _ _ ?_).trans ?_; omega; assumption) | (simp [go_sem]; done) | (simp [go_sem, *]; done))
    have s13 : w1.cell? ⟨w.heap.size + 1, 0, none⟩ = some (.int .i64 0) := (hcw1 _ _ (by omega)).trans (by first | assumption | (refine (cell_alloc_at _ _ ?_).trans ?_; omega; assumption) | (simp [go_sem]; done) | (simp [go_sem, *]; done))
    have s14 : w1.cell? ⟨w.heap.size + 1, 1, none⟩ = some (.int .i64 0) := (hcw1 _ _ (by omega)).trans (by first | assumption | (refine (cell_alloc_at _ _ ?_).trans ?_; omega; assumption) | (simp [go_sem]; done) | (simp [go_sem, *]; done))
    have szq0 : w.heap.size < w1.heap.size := (by omega)
    have sz : w.heap.size + 1 < w1.heap.size := (by omega)
    have fs10 : w1.frozen? ⟨w.heap.size + 1, 0, none⟩ = false := (hfw1 _ _ (by omega)).trans (by first | assumption | (refine (World.frozen?_alloc_old _ _ _ ?_).trans ?_; (simp; omega); assumption) | (simp [go_sem]; done) | (simp [go_sem, *]; done))
    have fs11 : w1.frozen? ⟨w.heap.size + 1, 1, none⟩ = false := (hfw1 _ _ (by omega)).trans (by first | assumption | (refine (World.frozen?_alloc_old _ _ _ ?_).trans ?_; (simp; omega); assumption) | (simp [go_sem]; done) | (simp [go_sem, *]; done))
    clear hcw1 hfw1 hzw1
    have s15 : w.heap.size < w1.heap.size := by omega
    go_wp2_with fail
    refine (CD.out _ _ s15 s1 s2 s3 s4 s5 s6 s7 s8).mono ?_
    rintro e w2 ⟨rfl, hbw2⟩
    have g2 : Below w.heap.size w w2 := by repeat' (first | with_reducible assumption | with_reducible exact Below.refl _ _ | (with_reducible refine Below.setCell ?_ ?_ _) | (with_reducible refine Below.alloc ?_ ?_ _) | (with_reducible refine Below.drew ?_) | (with_reducible refine below_dr ?_ _) | (with_reducible refine Below.trans ?_ (Below.mono (by with_reducible assumption) ?_)) | omega | (simp; done) | (simp; omega))
    obtain ⟨hcw2, hfw2⟩ := bcell hbw2
    have hzw2 := hbw2.size
    have yw20 : w2.cell? ⟨w.heap.size + 1, 0, none⟩ = some (.int .i64 0) := (by (repeat (first | with_reducible assumption | (with_reducible refine (cell_drew_at _ _).trans ?_) | (with_reducible refine (cell_set_at _ _ (by first | omega | (simp; done) | (simp; omega))).trans ?_) | (with_reducible refine (cell_alloc_at _ _ (by first | omega | (simp; done) | (simp; omega))).trans ?_) | (with_reducible refine (hcw2 _ _ (by first | omega | (simp; done) | (simp; omega))).trans ?_))))
    have yw21 : w2.cell? ⟨w.heap.size + 1, 1, none⟩ = some (.int .i64 0) := (by (repeat (first | with_reducible assumption | (with_reducible refine (cell_drew_at _ _).trans ?_) | (with_reducible refine (cell_set_at _ _ (by first | omega | (simp; done) | (simp; omega))).trans ?_) | (with_reducible refine (cell_alloc_at _ _ (by first | omega | (simp; done) | (simp; omega))).trans ?_) | (with_reducible refine (hcw2 _ _ (by first | omega | (simp; done) | (simp; omega))).trans ?_))))
    have yfw20 : w2.frozen? ⟨w.heap.size + 1, 0, none⟩ = false := (by (repeat (first | with_reducible assumption | (with_reducible refine (frozen_drew_at _ _).trans ?_) | (with_reducible refine (World.frozen?_setCell _ _ _ _).trans ?_) | (with_reducible refine (frozen_alloc_at _ _ (by first | omega | (simp; done) | (simp; omega))).trans ?_) | (with_reducible refine (hfw2 _ _ (by first | omega | (simp; done) | (simp; omega))).trans ?_))))
    have yfw21 : w2.frozen? ⟨w.heap.size + 1, 1, none⟩ = false := (by (repeat (first | with_reducible assumption | (with_reducible refine (frozen_drew_at _ _).trans ?_) | (with_reducible refine (World.frozen?_setCell _ _ _ _).trans ?_) | (with_reducible refine (frozen_alloc_at _ _ (by first | omega | (simp; done) | (simp; omega))).trans ?_) | (with_reducible refine (hfw2 _ _ (by first | omega | (simp; done) | (simp; omega))).trans ?_))))
    have z2 : w.heap.size + 1 < w2.heap.size := by omega
    clear hcw2 hfw2 s1 s2 s3 s4 s5 s6 s7 s8 s9 s10 s11 s12
    simp only [oC, oN, oD]
    go_wp2
    have ra := AtL.of2 yw20 yw21 z2
    have rb := (ra.store2 (a := .int .i64 u) (b := .int .i64 v)).alloc (.cells #[.int .i64 u, .int .i64 v] 26)
    have r0 := rb.cell 0 rfl
    have r1 := rb.cell 1 rfl
    refine bodyPost_ret (v := .tuple #[.agg #[.int .i64 u, .int .i64 v], .int .i64 0]) (by simp [results, Try.results13, go_sem, r0, r1]) rfl (GRet.yes rfl rfl rfl rfl ?_)
    repeat' (first | with_reducible assumption | with_reducible exact Below.refl _ _ | (with_reducible refine Below.setCell ?_ ?_ _) | (with_reducible refine Below.alloc ?_ ?_ _) | (with_reducible refine Below.drew ?_) | (with_reducible refine below_dr ?_ _) | (with_reducible refine Below.trans ?_ (Below.mono (by with_reducible assumption) ?_)) | omega | (simp; done) | (simp; omega))
set_option maxHeartbeats 4000000 in
theorem walk_DeterminantOf (m0 m1 m2 m3 m4 m5 m6 m7 m8 m9 m10 m11 : Int) (w_m0 : (Lit.int .i64 m0).wf = true) (w_m1 : (Lit.int .i64 m1).wf = true) (w_m2 : (Lit.int .i64 m2).wf = true) (w_m3 : (Lit.int .i64 m3).wf = true) (w_m4 : (Lit.int .i64 m4).wf = true) (w_m5 : (Lit.int .i64 m5).wf = true) (w_m6 : (Lit.int .i64 m6).wf = true) (w_m7 : (Lit.int .i64 m7).wf = true) (w_m8 : (Lit.int .i64 m8).wf = true) (w_m9 : (Lit.int .i64 m9).wf = true) (w_m10 : (Lit.int .i64 m10).wf = true) (w_m11 : (Lit.int .i64 m11).wf = true) (w : World) :
    Calls Try.prog 4 #[.agg #[.int .i64 m0, .int .i64 m1, .int .i64 m2, .int .i64 m3, .int .i64 m4, .int .i64 m5, .int .i64 m6, .int .i64 m7, .int .i64 m8, .int .i64 m9, .int .i64 m10, .int .i64 m11]] w fun e w' => e = .returned (.bool true) ∧ Below w.heap.size w w' := by
  have i_m0 := i64_bounds w_m0
  have i_m1 := i64_bounds w_m1
  have i_m2 := i64_bounds w_m2
  have i_m3 := i64_bounds w_m3
  have i_m4 := i64_bounds w_m4
  have i_m5 := i64_bounds w_m5
  have i_m6 := i64_bounds w_m6
  have i_m7 := i64_bounds w_m7
  have i_m8 := i64_bounds w_m8
  have i_m9 := i64_bounds w_m9
  have i_m10 := i64_bounds w_m10
  have i_m11 := i64_bounds w_m11
  have C1 := Lib.hid (fun w => specDet_any m0 m1 m2 m3 m4 m5 m6 m7 m8 m9 m10 m11 w i_m0 i_m1 i_m2 i_m3 i_m4 i_m5 i_m6 i_m7 i_m8 i_m9 i_m10 i_m11)
  have C2 := Lib.hid (fun w => implDet_any m0 m1 m2 m3 m4 m5 m6 m7 m8 m9 m10 m11 w i_m0 i_m1 i_m2 i_m3 i_m4 i_m5 i_m6 i_m7 i_m8 i_m9 i_m10 i_m11)
  unfold GRet at C1 C2
  generalize (bif (validA m0 m1 m2 m3 m4 m5 m6 m7 m8 m9 m10 m11) then oN (detF m0 m1 m2 m3 m4 m5 m6 m7) else 0) = dn at C1 C2
  generalize (bif (validA m0 m1 m2 m3 m4 m5 m6 m7 m8 m9 m10 m11) then oD (detF m0 m1 m2 m3 m4 m5 m6 m7) else 0) = dd at C1 C2
  generalize (bif (validA m0 m1 m2 m3 m4 m5 m6 m7 m8 m9 m10 m11) then oC (detF m0 m1 m2 m3 m4 m5 m6 m7) else 1) = dc at C1 C2
  clear i_m0 w_m0 i_m1 w_m1 i_m2 w_m2 i_m3 w_m3 i_m4 w_m4 i_m5 w_m5 i_m6 w_m6 i_m7 w_m7 i_m8 w_m8 i_m9 w_m9 i_m10 w_m10 i_m11 w_m11
  have e_dn : (dn != dn) = false := by simp
  have e_dd : (dd != dd) = false := by simp
  have e_dc : (dc != dc) = false := by simp
  go_enter Try.func4, Try.ntmps4
  go_wp2_with fail
  refine (toAffine_any m0 m1 m2 m3 m4 m5 m6 m7 m8 m9 m10 m11 _).mono ?_
  rintro e wA ⟨rfl, hbwA⟩
  have gA : Below w.heap.size w wA := (by repeat' (first | with_reducible assumption | with_reducible exact Below.refl _ _ | (with_reducible refine Below.setCell ?_ ?_ _) | (with_reducible refine Below.alloc ?_ ?_ _) | (with_reducible refine Below.drew ?_) | (with_reducible refine below_dr ?_ _) | (with_reducible refine Below.trans ?_ (Below.mono (by with_reducible assumption) ?_)) | omega | (simp; done) | (simp; omega)))
  obtain ⟨hcwA, hfwA⟩ := bcell hbwA
  have hzwA := hbwA.size
  (try simp only [World.size_alloc] at hcwA hfwA hzwA)
  have sA1 : wA.cell? ⟨w.heap.size, 0, none⟩ = some (.int .i64 m0) := (hcwA _ _ (by omega)).trans (by first | assumption | (refine (cell_alloc_at _ _ ?_).trans ?_; omega; assumption) | (simp [go_sem]; done) | (simp [go_sem, *]; done))
  have sA2 : wA.cell? ⟨w.heap.size, 1, none⟩ = some (.int .i64 m1) := (hcwA _ _ (by omega)).trans (by first | assumption | (refine (cell_alloc_at _ _ ?_).trans ?_; omega; assumption) | (simp [go_sem]; done) | (simp [go_sem, *]; done))
  have sA3 : wA.cell? ⟨w.heap.size, 2, none⟩ = some (.int .i64 m2) := (hcwA _ _ (by omega)).trans (by first | assumption | (refine (cell_alloc_at _ _ ?_).trans ?_; omega; assumption) | (simp [go_sem]; done) | (simp [go_sem, *]; done))
  have sA4 : wA.cell? ⟨w.heap.size, 3, none⟩ = some (.int .i64 m3) := (hcwA _ _ (by omega)).trans (by first | assumption | (refine (cell_alloc_at _ _ ?_).trans ?_; omega; assumption) | (simp [go_sem]; done) | (simp [go_sem, *]; done))
  have sA5 : wA.cell? ⟨w.heap.size, 4, none⟩ = some (.int .i64 m4) := (hcwA _ _ (by omega)).trans (by first | assumption | (refine (cell_alloc_at _ _ ?_).trans ?_; omega; assumption) | (simp [go_sem]; done) | (simp [go_sem, *]; done))
  have sA6 : wA.cell? ⟨w.heap.size, 5, none⟩ = some (.int .i64 m5) := (hcwA _ _ (by omega)).trans (by first | assumption | (refine (cell_alloc_at _ _ ?_).trans ?_; omega; assumption) | (simp [go_sem]; done) | (simp [go_sem, *]; done))
  have sA7 : wA.cell? ⟨w.heap.size, 6, none⟩ = some (.int .i64 m6) := (hcwA _ _ (by omega)).trans (by first | assumption | (refine (cell_alloc_at _ _ ?_).trans ?_; omega; assumption) | (simp [go_sem]; done) | (simp [go_sem, *]; done))
  have sA8 : wA.cell? ⟨w.heap.size, 7, none⟩ = some (.int .i64 m7) := (hcwA _ _ (by omega)).trans (by first | assumption | (refine (cell_alloc_at _ _ ?_).trans ?_; omega; assumption) | (simp [go_sem]; done) | (simp [go_sem, *]; done))
  have sA9 : wA.cell? ⟨w.heap.size, 8, none⟩ = some (.int .i64 m8) := (hcwA _ _ (by omega)).trans (by first | assumption | (refine (cell_alloc_at _ _ ?_).trans ?_; omega; assumption) | (simp [go_sem]; done) | (simp [go_sem, *]; done))
  have sA10 : wA.cell? ⟨w.heap.size, 9, none⟩ = some (.int .i64 m9) := (hcwA _ _ (by omega)).trans (by first | assumption | (refine (cell_alloc_at _ _ ?_).trans ?_; omega; assumption) | (simp [go_sem]; done) | (simp [go_sem, *]; done))
  have sA11 : wA.cell? ⟨w.heap.size, 10, none⟩ = some (.int .i64 m10) := (hcwA _ _ (by omega)).trans (by first | assumption | (refine (cell_alloc_at _ _ ?_).trans ?_; omega; assumption) | (simp [go_sem]; done) | (simp [go_sem, *]; done))
  have sA12 : wA.cell? ⟨w.heap.size, 11, none⟩ = some (.int .i64 m11) := (hcwA _ _ (by omega)).trans (by first | assumption | (refine (cell_alloc_at _ _ ?_).trans ?_; omega; assumption) | (simp [go_sem]; done) | (simp [go_sem, *]; done))
  have sAz : w.heap.size < wA.heap.size := (by omega)
  clear hcwA hfwA hzwA
  go_wp2_with fail
  refine (C1.out _).mono ?_
  rintro e wC ⟨rfl, hbwC⟩
  have gC : Below w.heap.size w wC := (by repeat' (first | with_reducible assumption | with_reducible exact Below.refl _ _ | (with_reducible refine Below.setCell ?_ ?_ _) | (with_reducible refine Below.alloc ?_ ?_ _) | (with_reducible refine Below.drew ?_) | (with_reducible refine below_dr ?_ _) | (with_reducible refine Below.trans ?_ (Below.mono (by with_reducible assumption) ?_)) | omega | (simp; done) | (simp; omega)))
  obtain ⟨hcwC, hfwC⟩ := bcell hbwC
  have hzwC := hbwC.size
  (try simp only [World.size_alloc] at hcwC hfwC hzwC)
  have sC1 : wC.cell? ⟨w.heap.size, 0, none⟩ = some (.int .i64 m0) := (hcwC _ _ (by omega)).trans (by first | assumption | (refine (cell_alloc_at _ _ ?_).trans ?_; omega; assumption) | (simp [go_sem]; done) | (simp [go_sem, *]; done))
  have sC2 : wC.cell? ⟨w.heap.size, 1, none⟩ = some (.int .i64 m1) := (hcwC _ _ (by omega)).trans (by first | assumption | (refine (cell_alloc_at _ _ ?_).trans ?_; omega; assumption) | (simp [go_sem]; done) | (simp [go_sem, *]; done))
  have sC3 : wC.cell? ⟨w.heap.size, 2, none⟩ = some (.int .i64 m2) := (hcwC _ _ (by omega)).trans (by first | assumption | (refine (cell_alloc_at _ _ ?_).trans ?_; omega; assumption) | (simp [go_sem]; done) | (simp [go_sem, *]; done))
  have sC4 : wC.cell? ⟨w.heap.size, 3, none⟩ = some (.int .i64 m3) := (hcwC _ _ (by omega)).trans (by first | assumption | (refine (cell_alloc_at _ _ ?_).trans ?_; omega; assumption) | (simp [go_sem]; done) | (simp [go_sem, *]; done))
  have sC5 : wC.cell? ⟨w.heap.size, 4, none⟩ = some (.int .i64 m4) := (hcwC _ _ (by omega)).trans (by first | assumption | (refine (cell_alloc_at _ _ ?_).trans ?_; omega; assumption) | (simp [go_sem]; done) | (simp [go_sem, *]; done))
  have sC6 : wC.cell? ⟨w.heap.size, 5, none⟩ = some (.int .i64 m5) := (hcwC _ _ (by omega)).trans (by first | assumption | (refine (cell_alloc_at _ _ ?_).trans ?_; omega; assumption) | (simp [go_sem]; done) | (simp [go_sem, *]; done))
  have sC7 : wC.cell? ⟨w.heap.size, 6, none⟩ = some (.int .i64 m6) := (hcwC _ _ (by omega)).trans (by first | assumption | (refine (cell_alloc_at _ _ ?_).trans ?_; omega; assumption) | (simp [go_sem]; done) | (simp [go_sem, *]; done))
  have sC8 : wC.cell? ⟨w.heap.size, 7, none⟩ = some (.int .i64 m7) := (hcwC _ _ (by omega)).trans (by first | assumption | (refine (cell_alloc_at _ _ ?_).trans ?_; omega; assumption) | (simp [go_sem]; done) | (simp [go_sem, *]; done))
  have sC9 : wC.cell? ⟨w.heap.size, 8, none⟩ = some (.int .i64 m8) := (hcwC _ _ (by omega)).trans (by first | assumption | (refine (cell_alloc_at _ _ ?_).trans ?_; omega; assumption) | (simp [go_sem]; done) | (simp [go_sem, *]; done))
  have sC10 : wC.cell? ⟨w.heap.size, 9, none⟩ = some (.int .i64 m9) := (hcwC _ _ (by omega)).trans (by first | assumption | (refine (cell_alloc_at _ _ ?_).trans ?_; omega; assumption) | (simp [go_sem]; done) | (simp [go_sem, *]; done))
  have sC11 : wC.cell? ⟨w.heap.size, 10, none⟩ = some (.int .i64 m10) := (hcwC _ _ (by omega)).trans (by first | assumption | (refine (cell_alloc_at _ _ ?_).trans ?_; omega; assumption) | (simp [go_sem]; done) | (simp [go_sem, *]; done))
  have sC12 : wC.cell? ⟨w.heap.size, 11, none⟩ = some (.int .i64 m11) := (hcwC _ _ (by omega)).trans (by first | assumption | (refine (cell_alloc_at _ _ ?_).trans ?_; omega; assumption) | (simp [go_sem]; done) | (simp [go_sem, *]; done))
  have sCz : w.heap.size < wC.heap.size := (by omega)
  clear hcwC hfwC hzwC
  have at1 := AtL.new wC [.int .i64 dn, .int .i64 dd] 26
  go_wp2_with fail
  refine (toAffine_any m0 m1 m2 m3 m4 m5 m6 m7 m8 m9 m10 m11 _).mono ?_
  rintro e wD ⟨rfl, hbwD⟩
  have qD := hbwD.size
  simp only [World.size_alloc] at qD
  replace at1 := at1.below hbwD
  have gD : Below w.heap.size w wD := (by repeat' (first | with_reducible assumption | with_reducible exact Below.refl _ _ | (with_reducible refine Below.setCell ?_ ?_ _) | (with_reducible refine Below.alloc ?_ ?_ _) | (with_reducible refine Below.drew ?_) | (with_reducible refine below_dr ?_ _) | (with_reducible refine Below.trans ?_ (Below.mono (by with_reducible assumption) ?_)) | omega | (simp; done) | (simp; omega)))
  obtain ⟨hcwD, hfwD⟩ := bcell hbwD
  have hzwD := hbwD.size
  (try simp only [World.size_alloc] at hcwD hfwD hzwD)
  have sD1 : wD.cell? ⟨w.heap.size, 0, none⟩ = some (.int .i64 m0) := (hcwD _ _ (by omega)).trans (by first | assumption | (refine (cell_alloc_at _ _ ?_).trans ?_; omega; assumption) | (simp [go_sem]; done) | (simp [go_sem, *]; done))
  have sD2 : wD.cell? ⟨w.heap.size, 1, none⟩ = some (.int .i64 m1) := (hcwD _ _ (by omega)).trans (by first | assumption | (refine (cell_alloc_at _ _ ?_).trans ?_; omega; assumption) | (simp [go_sem]; done) | (simp [go_sem, *]; done))
  have sD3 : wD.cell? ⟨w.heap.size, 2, none⟩ = some (.int .i64 m2) := (hcwD _ _ (by omega)).trans (by first | assumption | (refine (cell_alloc_at _ _ ?_).trans ?_; omega; assumption) | (simp [go_sem]; done) | (simp [go_sem, *]; done))
  have sD4 : wD.cell? ⟨w.heap.size, 3, none⟩ = some (.int .i64 m3) := (hcwD _ _ (by omega)).trans (by first | assumption | (refine (cell_alloc_at _ _ ?_).trans ?_; omega; assumption) | (simp [go_sem]; done) | (simp [go_sem, *]; done))
  have sD5 : wD.cell? ⟨w.heap.size, 4, none⟩ = some (.int .i64 m4) := (hcwD _ _ (by omega)).trans (by first | assumption | (refine (cell_alloc_at _ _ ?_).trans ?_; omega; assumption) | (simp [go_sem]; done) | (simp [go_sem, *]; done))
  have sD6 : wD.cell? ⟨w.heap.size, 5, none⟩ = some (.int .i64 m5) := (hcwD _ _ (by omega)).trans (by first | assumption | (refine (cell_alloc_at _ _ ?_).trans ?_; omega; assumption) | (simp [go_sem]; done) | (simp [go_sem, *]; done))
  have sD7 : wD.cell? ⟨w.heap.size, 6, none⟩ = some (.int .i64 m6) := (hcwD _ _ (by omega)).trans (by first | assumption | (refine (cell_alloc_at _ _ ?_).trans ?_; omega; assumption) | (simp [go_sem]; done) | (simp [go_sem, *]; done))
  have sD8 : wD.cell? ⟨w.heap.size, 7, none⟩ = some (.int .i64 m7) := (hcwD _ _ (by omega)).trans (by first | assumption | (refine (cell_alloc_at _ _ ?_).trans ?_; omega; assumption) | (simp [go_sem]; done) | (simp [go_sem, *]; done))
  have sD9 : wD.cell? ⟨w.heap.size, 8, none⟩ = some (.int .i64 m8) := (hcwD _ _ (by omega)).trans (by first | assumption | (refine (cell_alloc_at _ _ ?_).trans ?_; omega; assumption) | (simp [go_sem]; done) | (simp [go_sem, *]; done))
  have sD10 : wD.cell? ⟨w.heap.size, 9, none⟩ = some (.int .i64 m9) := (hcwD _ _ (by omega)).trans (by first | assumption | (refine (cell_alloc_at _ _ ?_).trans ?_; omega; assumption) | (simp [go_sem]; done) | (simp [go_sem, *]; done))
  have sD11 : wD.cell? ⟨w.heap.size, 10, none⟩ = some (.int .i64 m10) := (hcwD _ _ (by omega)).trans (by first | assumption | (refine (cell_alloc_at _ _ ?_).trans ?_; omega; assumption) | (simp [go_sem]; done) | (simp [go_sem, *]; done))
  have sD12 : wD.cell? ⟨w.heap.size, 11, none⟩ = some (.int .i64 m11) := (hcwD _ _ (by omega)).trans (by first | assumption | (refine (cell_alloc_at _ _ ?_).trans ?_; omega; assumption) | (simp [go_sem]; done) | (simp [go_sem, *]; done))
  have sDz : w.heap.size < wD.heap.size := (by omega)
  clear hcwD hfwD hzwD
  go_wp2_with fail
  refine (C2.out _).mono ?_
  rintro e wF ⟨rfl, hbwF⟩
  have qF := hbwF.size
  replace at1 := at1.below hbwF
  have gF : Below w.heap.size w wF := by repeat' (first | with_reducible assumption | with_reducible exact Below.refl _ _ | (with_reducible refine Below.setCell ?_ ?_ _) | (with_reducible refine Below.alloc ?_ ?_ _) | (with_reducible refine Below.drew ?_) | (with_reducible refine below_dr ?_ _) | (with_reducible refine Below.trans ?_ (Below.mono (by with_reducible assumption) ?_)) | omega | (simp; done) | (simp; omega))
  have qG : wC.heap.size < wF.heap.size := by omega
  have k0 := at1.cell 0 rfl
  have k1 := at1.cell 1 rfl
  clear at1
  go_wp2_with fail
  refine (eqFrac_same _ _ _).mono ?_
  rintro e wE ⟨rfl, hbwE⟩
  go_wp2
  go_ret
  exact ⟨rfl, by repeat' (first | with_reducible assumption | with_reducible exact Below.refl _ _ | (with_reducible refine Below.setCell ?_ ?_ _) | (with_reducible refine Below.alloc ?_ ?_ _) | (with_reducible refine Below.drew ?_) | (with_reducible refine below_dr ?_ _) | (with_reducible refine Below.trans ?_ (Below.mono (by with_reducible assumption) ?_)) | omega | (simp; done) | (simp; omega))⟩
end Go.Proofs.Ytdodjmfhbbbibaa
