/- Walks: which cubics and quadratics are valid, on both sides; the laws' conversions of them. -/
import Derived.Test.YticgomikfleabaaCz
namespace Go.Proofs.Yticgomikfleabaa
open Go.RowKit
set_option maxHeartbeats 1600000 in
theorem toCubic_any (x0 : Int) (x1 : Int) (x2 : Int) (x3 : Int) (x4 : Int) (x5 : Int) (x6 : Int) (x7 : Int) (w : World) :
    Calls Try.prog 14 #[.agg #[.int .i64 x0, .int .i64 x1, .int .i64 x2, .int .i64 x3, .int .i64 x4, .int .i64 x5, .int .i64 x6, .int .i64 x7]] w fun e w' => e = .returned (.agg #[.int .i64 x0, .int .i64 x1, .int .i64 x2, .int .i64 x3, .int .i64 x4, .int .i64 x5, .int .i64 x6, .int .i64 x7]) ∧ Below w.heap.size w w' := by
  go_enter Try.func14, Try.ntmps14
  go_wp2_with fail
  refine (toPt_any x0 x1 _).mono ?_
  rintro e wZ0 ⟨rfl, hbwZ0⟩
  obtain ⟨hcwZ0, hfwZ0⟩ := bcell hbwZ0
  have hzwZ0 := hbwZ0.size
  (try simp only [World.size_setCell] at hcwZ0 hfwZ0 hzwZ0)
  (try simp only [World.size_drew] at hcwZ0 hfwZ0 hzwZ0)
  (try simp only [World.size_alloc] at hcwZ0 hfwZ0 hzwZ0)
  have qwZ00 : w.heap.size < wZ0.heap.size := by omega
  have qwZ01 : w.heap.size + 1 < wZ0.heap.size := by omega
  have qwZ02 : w.heap.size + 1 + 1 < wZ0.heap.size := by omega
  go_wp2_with fail
  refine (toPt_any x2 x3 _).mono ?_
  rintro e wZ1 ⟨rfl, hbwZ1⟩
  obtain ⟨hcwZ1, hfwZ1⟩ := bcell hbwZ1
  have hzwZ1 := hbwZ1.size
  (try simp only [World.size_setCell] at hcwZ1 hfwZ1 hzwZ1)
  (try simp only [World.size_drew] at hcwZ1 hfwZ1 hzwZ1)
  (try simp only [World.size_alloc] at hcwZ1 hfwZ1 hzwZ1)
  have qwZ10 : w.heap.size < wZ1.heap.size := by omega
  have qwZ11 : w.heap.size + 1 < wZ1.heap.size := by omega
  have qwZ12 : w.heap.size + 1 + 1 < wZ1.heap.size := by omega
  go_wp2_with fail
  refine (toPt_any x4 x5 _).mono ?_
  rintro e wZ2 ⟨rfl, hbwZ2⟩
  obtain ⟨hcwZ2, hfwZ2⟩ := bcell hbwZ2
  have hzwZ2 := hbwZ2.size
  (try simp only [World.size_setCell] at hcwZ2 hfwZ2 hzwZ2)
  (try simp only [World.size_drew] at hcwZ2 hfwZ2 hzwZ2)
  (try simp only [World.size_alloc] at hcwZ2 hfwZ2 hzwZ2)
  have qwZ20 : w.heap.size < wZ2.heap.size := by omega
  have qwZ21 : w.heap.size + 1 < wZ2.heap.size := by omega
  have qwZ22 : w.heap.size + 1 + 1 < wZ2.heap.size := by omega
  go_wp2_with fail
  refine (toPt_any x6 x7 _).mono ?_
  rintro e wZ3 ⟨rfl, hbwZ3⟩
  obtain ⟨hcwZ3, hfwZ3⟩ := bcell hbwZ3
  have hzwZ3 := hbwZ3.size
  (try simp only [World.size_setCell] at hcwZ3 hfwZ3 hzwZ3)
  (try simp only [World.size_drew] at hcwZ3 hfwZ3 hzwZ3)
  (try simp only [World.size_alloc] at hcwZ3 hfwZ3 hzwZ3)
  have qwZ30 : w.heap.size < wZ3.heap.size := by omega
  have qwZ31 : w.heap.size + 1 < wZ3.heap.size := by omega
  have qwZ32 : w.heap.size + 1 + 1 < wZ3.heap.size := by omega
  go_wp2_with fail
  refine bodyPost_ret (v := .agg #[.int .i64 x0, .int .i64 x1, .int .i64 x2, .int .i64 x3, .int .i64 x4, .int .i64 x5, .int .i64 x6, .int .i64 x7]) (by simp [results, Try.results14, go_sem, *]) rfl ⟨rfl, ?_⟩
  repeat' (first | with_reducible assumption | with_reducible exact Below.refl _ _ | (with_reducible refine Below.setCell ?_ ?_ _) | (with_reducible refine Below.alloc ?_ ?_ _) | (with_reducible refine Below.drew ?_) | (with_reducible refine below_dr ?_ _) | (with_reducible refine Below.trans ?_ (Below.mono (by with_reducible assumption) ?_)) | omega | (simp; done) | (simp; omega))
set_option maxHeartbeats 1600000 in
theorem toQuad_any (x0 : Int) (x1 : Int) (x2 : Int) (x3 : Int) (x4 : Int) (x5 : Int) (w : World) :
    Calls Try.prog 8 #[.agg #[.int .i64 x0, .int .i64 x1, .int .i64 x2, .int .i64 x3, .int .i64 x4, .int .i64 x5]] w fun e w' => e = .returned (.agg #[.int .i64 x0, .int .i64 x1, .int .i64 x2, .int .i64 x3, .int .i64 x4, .int .i64 x5]) ∧ Below w.heap.size w w' := by
  go_enter Try.func8, Try.ntmps8
  go_wp2_with fail
  refine (toPt_any x0 x1 _).mono ?_
  rintro e wZ0 ⟨rfl, hbwZ0⟩
  obtain ⟨hcwZ0, hfwZ0⟩ := bcell hbwZ0
  have hzwZ0 := hbwZ0.size
  (try simp only [World.size_setCell] at hcwZ0 hfwZ0 hzwZ0)
  (try simp only [World.size_drew] at hcwZ0 hfwZ0 hzwZ0)
  (try simp only [World.size_alloc] at hcwZ0 hfwZ0 hzwZ0)
  have qwZ00 : w.heap.size < wZ0.heap.size := by omega
  have qwZ01 : w.heap.size + 1 < wZ0.heap.size := by omega
  have qwZ02 : w.heap.size + 1 + 1 < wZ0.heap.size := by omega
  go_wp2_with fail
  refine (toPt_any x2 x3 _).mono ?_
  rintro e wZ1 ⟨rfl, hbwZ1⟩
  obtain ⟨hcwZ1, hfwZ1⟩ := bcell hbwZ1
  have hzwZ1 := hbwZ1.size
  (try simp only [World.size_setCell] at hcwZ1 hfwZ1 hzwZ1)
  (try simp only [World.size_drew] at hcwZ1 hfwZ1 hzwZ1)
  (try simp only [World.size_alloc] at hcwZ1 hfwZ1 hzwZ1)
  have qwZ10 : w.heap.size < wZ1.heap.size := by omega
  have qwZ11 : w.heap.size + 1 < wZ1.heap.size := by omega
  have qwZ12 : w.heap.size + 1 + 1 < wZ1.heap.size := by omega
  go_wp2_with fail
  refine (toPt_any x4 x5 _).mono ?_
  rintro e wZ2 ⟨rfl, hbwZ2⟩
  obtain ⟨hcwZ2, hfwZ2⟩ := bcell hbwZ2
  have hzwZ2 := hbwZ2.size
  (try simp only [World.size_setCell] at hcwZ2 hfwZ2 hzwZ2)
  (try simp only [World.size_drew] at hcwZ2 hfwZ2 hzwZ2)
  (try simp only [World.size_alloc] at hcwZ2 hfwZ2 hzwZ2)
  have qwZ20 : w.heap.size < wZ2.heap.size := by omega
  have qwZ21 : w.heap.size + 1 < wZ2.heap.size := by omega
  have qwZ22 : w.heap.size + 1 + 1 < wZ2.heap.size := by omega
  go_wp2_with fail
  refine bodyPost_ret (v := .agg #[.int .i64 x0, .int .i64 x1, .int .i64 x2, .int .i64 x3, .int .i64 x4, .int .i64 x5]) (by simp [results, Try.results8, go_sem, *]) rfl ⟨rfl, ?_⟩
  repeat' (first | with_reducible assumption | with_reducible exact Below.refl _ _ | (with_reducible refine Below.setCell ?_ ?_ _) | (with_reducible refine Below.alloc ?_ ?_ _) | (with_reducible refine Below.drew ?_) | (with_reducible refine below_dr ?_ _) | (with_reducible refine Below.trans ?_ (Below.mono (by with_reducible assumption) ?_)) | omega | (simp; done) | (simp; omega))
def okC (m0 m1 m2 m3 m4 m5 m6 m7 : Int) : Bool := okB m0 m1 && okB m2 m3 && okB m4 m5 && okB m6 m7
theorem okC_f0 {m0 m1 m2 m3 m4 m5 m6 m7 : Int} (h : okB m0 m1 = false) : false = okC m0 m1 m2 m3 m4 m5 m6 m7 := by simp [okC, h]
theorem okC_f1 {m0 m1 m2 m3 m4 m5 m6 m7 : Int} (h : okB m2 m3 = false) : false = okC m0 m1 m2 m3 m4 m5 m6 m7 := by simp [okC, h]
theorem okC_f2 {m0 m1 m2 m3 m4 m5 m6 m7 : Int} (h : okB m4 m5 = false) : false = okC m0 m1 m2 m3 m4 m5 m6 m7 := by simp [okC, h]
theorem okC_f3 {m0 m1 m2 m3 m4 m5 m6 m7 : Int} (h : okB m6 m7 = false) : false = okC m0 m1 m2 m3 m4 m5 m6 m7 := by simp [okC, h]
theorem okC_t {m0 m1 m2 m3 m4 m5 m6 m7 : Int} (h0 : okB m0 m1 = true) (h1 : okB m2 m3 = true) (h2 : okB m4 m5 = true) (h3 : okB m6 m7 = true) : true = okC m0 m1 m2 m3 m4 m5 m6 m7 := by simp [okC, *]
set_option maxHeartbeats 1600000 in
theorem l09Ok_any (m0 m1 m2 m3 m4 m5 m6 m7 : Int) (b : Nat) (w : World) (hb : b < w.heap.size) (c0 : w.cell? ⟨b, 0, none⟩ = some (.int .i64 m0)) (c1 : w.cell? ⟨b, 1, none⟩ = some (.int .i64 m1)) (c2 : w.cell? ⟨b, 2, none⟩ = some (.int .i64 m2)) (c3 : w.cell? ⟨b, 3, none⟩ = some (.int .i64 m3)) (c4 : w.cell? ⟨b, 4, none⟩ = some (.int .i64 m4)) (c5 : w.cell? ⟨b, 5, none⟩ = some (.int .i64 m5)) (c6 : w.cell? ⟨b, 6, none⟩ = some (.int .i64 m6)) (c7 : w.cell? ⟨b, 7, none⟩ = some (.int .i64 m7)) :
    Calls Try.prog 72 #[.pointer (some ⟨b, 0, none⟩)] w fun e w' => e = .returned (.bool (okC m0 m1 m2 m3 m4 m5 m6 m7)) ∧ Below w.heap.size w w' := by
  rcases h0 : okB m0 m1 with _ | _
  · have H0 := Lib.hid h0
    clear h0
    go_enter Try.func72, Try.ntmps72
    go_wp2_with (first | (go_at_call 61; (with_reducible refine (l03Ok_f H0.out _).mono ?_); rintro e wq0 ⟨rfl, hbwq0⟩; obtain ⟨hcwq0, hfwq0⟩ := bcell hbwq0; have hzwq0 := hbwq0.size; have hzbwq0 : b < wq0.heap.size := (by omega); have s00 : wq0.cell? ⟨b, 0, none⟩ = some (.int .i64 m0) := (hcwq0 _ _ (by omega)).trans (by assumption); have s01 : wq0.cell? ⟨b, 1, none⟩ = some (.int .i64 m1) := (hcwq0 _ _ (by omega)).trans (by assumption); have s02 : wq0.cell? ⟨b, 2, none⟩ = some (.int .i64 m2) := (hcwq0 _ _ (by omega)).trans (by assumption); have s03 : wq0.cell? ⟨b, 3, none⟩ = some (.int .i64 m3) := (hcwq0 _ _ (by omega)).trans (by assumption); have s04 : wq0.cell? ⟨b, 4, none⟩ = some (.int .i64 m4) := (hcwq0 _ _ (by omega)).trans (by assumption); have s05 : wq0.cell? ⟨b, 5, none⟩ = some (.int .i64 m5) := (hcwq0 _ _ (by omega)).trans (by assumption); have s06 : wq0.cell? ⟨b, 6, none⟩ = some (.int .i64 m6) := (hcwq0 _ _ (by omega)).trans (by assumption); have s07 : wq0.cell? ⟨b, 7, none⟩ = some (.int .i64 m7) := (hcwq0 _ _ (by omega)).trans (by assumption); clear hcwq0 hfwq0))
    go_ret
    exact ⟨ret_bool (okC_f0 H0.out), by repeat' (first | with_reducible assumption | with_reducible exact Below.refl _ _ | (with_reducible refine Below.setCell ?_ ?_ _) | (with_reducible refine Below.alloc ?_ ?_ _) | (with_reducible refine Below.drew ?_) | (with_reducible refine below_dr ?_ _) | (with_reducible refine Below.trans ?_ (Below.mono (by with_reducible assumption) ?_)) | omega | (simp; done) | (simp; omega))⟩
  have H0 := Lib.hid h0
  clear h0
  rcases h1 : okB m2 m3 with _ | _
  · have H1 := Lib.hid h1
    clear h1
    go_enter Try.func72, Try.ntmps72
    go_wp2_with (first | (go_at_call 61; (with_reducible refine (l03Ok_t H0.out _).mono ?_); rintro e wq0 ⟨rfl, hbwq0⟩; obtain ⟨hcwq0, hfwq0⟩ := bcell hbwq0; have hzwq0 := hbwq0.size; have hzbwq0 : b < wq0.heap.size := (by omega); have s00 : wq0.cell? ⟨b, 0, none⟩ = some (.int .i64 m0) := (hcwq0 _ _ (by omega)).trans (by assumption); have s01 : wq0.cell? ⟨b, 1, none⟩ = some (.int .i64 m1) := (hcwq0 _ _ (by omega)).trans (by assumption); have s02 : wq0.cell? ⟨b, 2, none⟩ = some (.int .i64 m2) := (hcwq0 _ _ (by omega)).trans (by assumption); have s03 : wq0.cell? ⟨b, 3, none⟩ = some (.int .i64 m3) := (hcwq0 _ _ (by omega)).trans (by assumption); have s04 : wq0.cell? ⟨b, 4, none⟩ = some (.int .i64 m4) := (hcwq0 _ _ (by omega)).trans (by assumption); have s05 : wq0.cell? ⟨b, 5, none⟩ = some (.int .i64 m5) := (hcwq0 _ _ (by omega)).trans (by assumption); have s06 : wq0.cell? ⟨b, 6, none⟩ = some (.int .i64 m6) := (hcwq0 _ _ (by omega)).trans (by assumption); have s07 : wq0.cell? ⟨b, 7, none⟩ = some (.int .i64 m7) := (hcwq0 _ _ (by omega)).trans (by assumption); clear hcwq0 hfwq0) | (go_at_call 61; (with_reducible refine (l03Ok_f H1.out _).mono ?_); rintro e wq1 ⟨rfl, hbwq1⟩; obtain ⟨hcwq1, hfwq1⟩ := bcell hbwq1; have hzwq1 := hbwq1.size; have hzbwq1 : b < wq1.heap.size := (by omega); have s10 : wq1.cell? ⟨b, 0, none⟩ = some (.int .i64 m0) := (hcwq1 _ _ (by omega)).trans (by assumption); have s11 : wq1.cell? ⟨b, 1, none⟩ = some (.int .i64 m1) := (hcwq1 _ _ (by omega)).trans (by assumption); have s12 : wq1.cell? ⟨b, 2, none⟩ = some (.int .i64 m2) := (hcwq1 _ _ (by omega)).trans (by assumption); have s13 : wq1.cell? ⟨b, 3, none⟩ = some (.int .i64 m3) := (hcwq1 _ _ (by omega)).trans (by assumption); have s14 : wq1.cell? ⟨b, 4, none⟩ = some (.int .i64 m4) := (hcwq1 _ _ (by omega)).trans (by assumption); have s15 : wq1.cell? ⟨b, 5, none⟩ = some (.int .i64 m5) := (hcwq1 _ _ (by omega)).trans (by assumption); have s16 : wq1.cell? ⟨b, 6, none⟩ = some (.int .i64 m6) := (hcwq1 _ _ (by omega)).trans (by assumption); have s17 : wq1.cell? ⟨b, 7, none⟩ = some (.int .i64 m7) := (hcwq1 _ _ (by omega)).trans (by assumption); clear hcwq1 hfwq1))
    go_ret
    exact ⟨ret_bool (okC_f1 H1.out), by repeat' (first | with_reducible assumption | with_reducible exact Below.refl _ _ | (with_reducible refine Below.setCell ?_ ?_ _) | (with_reducible refine Below.alloc ?_ ?_ _) | (with_reducible refine Below.drew ?_) | (with_reducible refine below_dr ?_ _) | (with_reducible refine Below.trans ?_ (Below.mono (by with_reducible assumption) ?_)) | omega | (simp; done) | (simp; omega))⟩
  have H1 := Lib.hid h1
  clear h1
  rcases h2 : okB m4 m5 with _ | _
  · have H2 := Lib.hid h2
    clear h2
    go_enter Try.func72, Try.ntmps72
    go_wp2_with (first | (go_at_call 61; (with_reducible refine (l03Ok_t H0.out _).mono ?_); rintro e wq0 ⟨rfl, hbwq0⟩; obtain ⟨hcwq0, hfwq0⟩ := bcell hbwq0; have hzwq0 := hbwq0.size; have hzbwq0 : b < wq0.heap.size := (by omega); have s00 : wq0.cell? ⟨b, 0, none⟩ = some (.int .i64 m0) := (hcwq0 _ _ (by omega)).trans (by assumption); have s01 : wq0.cell? ⟨b, 1, none⟩ = some (.int .i64 m1) := (hcwq0 _ _ (by omega)).trans (by assumption); have s02 : wq0.cell? ⟨b, 2, none⟩ = some (.int .i64 m2) := (hcwq0 _ _ (by omega)).trans (by assumption); have s03 : wq0.cell? ⟨b, 3, none⟩ = some (.int .i64 m3) := (hcwq0 _ _ (by omega)).trans (by assumption); have s04 : wq0.cell? ⟨b, 4, none⟩ = some (.int .i64 m4) := (hcwq0 _ _ (by omega)).trans (by assumption); have s05 : wq0.cell? ⟨b, 5, none⟩ = some (.int .i64 m5) := (hcwq0 _ _ (by omega)).trans (by assumption); have s06 : wq0.cell? ⟨b, 6, none⟩ = some (.int .i64 m6) := (hcwq0 _ _ (by omega)).trans (by assumption); have s07 : wq0.cell? ⟨b, 7, none⟩ = some (.int .i64 m7) := (hcwq0 _ _ (by omega)).trans (by assumption); clear hcwq0 hfwq0) | (go_at_call 61; (with_reducible refine (l03Ok_t H1.out _).mono ?_); rintro e wq1 ⟨rfl, hbwq1⟩; obtain ⟨hcwq1, hfwq1⟩ := bcell hbwq1; have hzwq1 := hbwq1.size; have hzbwq1 : b < wq1.heap.size := (by omega); have s10 : wq1.cell? ⟨b, 0, none⟩ = some (.int .i64 m0) := (hcwq1 _ _ (by omega)).trans (by assumption); have s11 : wq1.cell? ⟨b, 1, none⟩ = some (.int .i64 m1) := (hcwq1 _ _ (by omega)).trans (by assumption); have s12 : wq1.cell? ⟨b, 2, none⟩ = some (.int .i64 m2) := (hcwq1 _ _ (by omega)).trans (by assumption); have s13 : wq1.cell? ⟨b, 3, none⟩ = some (.int .i64 m3) := (hcwq1 _ _ (by omega)).trans (by assumption); have s14 : wq1.cell? ⟨b, 4, none⟩ = some (.int .i64 m4) := (hcwq1 _ _ (by omega)).trans (by assumption); have s15 : wq1.cell? ⟨b, 5, none⟩ = some (.int .i64 m5) := (hcwq1 _ _ (by omega)).trans (by assumption); have s16 : wq1.cell? ⟨b, 6, none⟩ = some (.int .i64 m6) := (hcwq1 _ _ (by omega)).trans (by assumption); have s17 : wq1.cell? ⟨b, 7, none⟩ = some (.int .i64 m7) := (hcwq1 _ _ (by omega)).trans (by assumption); clear hcwq1 hfwq1) | (go_at_call 61; (with_reducible refine (l03Ok_f H2.out _).mono ?_); rintro e wq2 ⟨rfl, hbwq2⟩; obtain ⟨hcwq2, hfwq2⟩ := bcell hbwq2; have hzwq2 := hbwq2.size; have hzbwq2 : b < wq2.heap.size := (by omega); have s20 : wq2.cell? ⟨b, 0, none⟩ = some (.int .i64 m0) := (hcwq2 _ _ (by omega)).trans (by assumption); have s21 : wq2.cell? ⟨b, 1, none⟩ = some (.int .i64 m1) := (hcwq2 _ _ (by omega)).trans (by assumption); have s22 : wq2.cell? ⟨b, 2, none⟩ = some (.int .i64 m2) := (hcwq2 _ _ (by omega)).trans (by assumption); have s23 : wq2.cell? ⟨b, 3, none⟩ = some (.int .i64 m3) := (hcwq2 _ _ (by omega)).trans (by assumption); have s24 : wq2.cell? ⟨b, 4, none⟩ = some (.int .i64 m4) := (hcwq2 _ _ (by omega)).trans (by assumption); have s25 : wq2.cell? ⟨b, 5, none⟩ = some (.int .i64 m5) := (hcwq2 _ _ (by omega)).trans (by assumption); have s26 : wq2.cell? ⟨b, 6, none⟩ = some (.int .i64 m6) := (hcwq2 _ _ (by omega)).trans (by assumption); have s27 : wq2.cell? ⟨b, 7, none⟩ = some (.int .i64 m7) := (hcwq2 _ _ (by omega)).trans (by assumption); clear hcwq2 hfwq2))
    go_ret
    exact ⟨ret_bool (okC_f2 H2.out), by repeat' (first | with_reducible assumption | with_reducible exact Below.refl _ _ | (with_reducible refine Below.setCell ?_ ?_ _) | (with_reducible refine Below.alloc ?_ ?_ _) | (with_reducible refine Below.drew ?_) | (with_reducible refine below_dr ?_ _) | (with_reducible refine Below.trans ?_ (Below.mono (by with_reducible assumption) ?_)) | omega | (simp; done) | (simp; omega))⟩
  have H2 := Lib.hid h2
  clear h2
  rcases h3 : okB m6 m7 with _ | _
  · have H3 := Lib.hid h3
    clear h3
    go_enter Try.func72, Try.ntmps72
    go_wp2_with (first | (go_at_call 61; (with_reducible refine (l03Ok_t H0.out _).mono ?_); rintro e wq0 ⟨rfl, hbwq0⟩; obtain ⟨hcwq0, hfwq0⟩ := bcell hbwq0; have hzwq0 := hbwq0.size; have hzbwq0 : b < wq0.heap.size := (by omega); have s00 : wq0.cell? ⟨b, 0, none⟩ = some (.int .i64 m0) := (hcwq0 _ _ (by omega)).trans (by assumption); have s01 : wq0.cell? ⟨b, 1, none⟩ = some (.int .i64 m1) := (hcwq0 _ _ (by omega)).trans (by assumption); have s02 : wq0.cell? ⟨b, 2, none⟩ = some (.int .i64 m2) := (hcwq0 _ _ (by omega)).trans (by assumption); have s03 : wq0.cell? ⟨b, 3, none⟩ = some (.int .i64 m3) := (hcwq0 _ _ (by omega)).trans (by assumption); have s04 : wq0.cell? ⟨b, 4, none⟩ = some (.int .i64 m4) := (hcwq0 _ _ (by omega)).trans (by assumption); have s05 : wq0.cell? ⟨b, 5, none⟩ = some (.int .i64 m5) := (hcwq0 _ _ (by omega)).trans (by assumption); have s06 : wq0.cell? ⟨b, 6, none⟩ = some (.int .i64 m6) := (hcwq0 _ _ (by omega)).trans (by assumption); have s07 : wq0.cell? ⟨b, 7, none⟩ = some (.int .i64 m7) := (hcwq0 _ _ (by omega)).trans (by assumption); clear hcwq0 hfwq0) | (go_at_call 61; (with_reducible refine (l03Ok_t H1.out _).mono ?_); rintro e wq1 ⟨rfl, hbwq1⟩; obtain ⟨hcwq1, hfwq1⟩ := bcell hbwq1; have hzwq1 := hbwq1.size; have hzbwq1 : b < wq1.heap.size := (by omega); have s10 : wq1.cell? ⟨b, 0, none⟩ = some (.int .i64 m0) := (hcwq1 _ _ (by omega)).trans (by assumption); have s11 : wq1.cell? ⟨b, 1, none⟩ = some (.int .i64 m1) := (hcwq1 _ _ (by omega)).trans (by assumption); have s12 : wq1.cell? ⟨b, 2, none⟩ = some (.int .i64 m2) := (hcwq1 _ _ (by omega)).trans (by assumption); have s13 : wq1.cell? ⟨b, 3, none⟩ = some (.int .i64 m3) := (hcwq1 _ _ (by omega)).trans (by assumption); have s14 : wq1.cell? ⟨b, 4, none⟩ = some (.int .i64 m4) := (hcwq1 _ _ (by omega)).trans (by assumption); have s15 : wq1.cell? ⟨b, 5, none⟩ = some (.int .i64 m5) := (hcwq1 _ _ (by omega)).trans (by assumption); have s16 : wq1.cell? ⟨b, 6, none⟩ = some (.int .i64 m6) := (hcwq1 _ _ (by omega)).trans (by assumption); have s17 : wq1.cell? ⟨b, 7, none⟩ = some (.int .i64 m7) := (hcwq1 _ _ (by omega)).trans (by assumption); clear hcwq1 hfwq1) | (go_at_call 61; (with_reducible refine (l03Ok_t H2.out _).mono ?_); rintro e wq2 ⟨rfl, hbwq2⟩; obtain ⟨hcwq2, hfwq2⟩ := bcell hbwq2; have hzwq2 := hbwq2.size; have hzbwq2 : b < wq2.heap.size := (by omega); have s20 : wq2.cell? ⟨b, 0, none⟩ = some (.int .i64 m0) := (hcwq2 _ _ (by omega)).trans (by assumption); have s21 : wq2.cell? ⟨b, 1, none⟩ = some (.int .i64 m1) := (hcwq2 _ _ (by omega)).trans (by assumption); have s22 : wq2.cell? ⟨b, 2, none⟩ = some (.int .i64 m2) := (hcwq2 _ _ (by omega)).trans (by assumption); have s23 : wq2.cell? ⟨b, 3, none⟩ = some (.int .i64 m3) := (hcwq2 _ _ (by omega)).trans (by assumption); have s24 : wq2.cell? ⟨b, 4, none⟩ = some (.int .i64 m4) := (hcwq2 _ _ (by omega)).trans (by assumption); have s25 : wq2.cell? ⟨b, 5, none⟩ = some (.int .i64 m5) := (hcwq2 _ _ (by omega)).trans (by assumption); have s26 : wq2.cell? ⟨b, 6, none⟩ = some (.int .i64 m6) := (hcwq2 _ _ (by omega)).trans (by assumption); have s27 : wq2.cell? ⟨b, 7, none⟩ = some (.int .i64 m7) := (hcwq2 _ _ (by omega)).trans (by assumption); clear hcwq2 hfwq2) | (go_at_call 61; (with_reducible refine (l03Ok_f H3.out _).mono ?_); rintro e wq3 ⟨rfl, hbwq3⟩; obtain ⟨hcwq3, hfwq3⟩ := bcell hbwq3; have hzwq3 := hbwq3.size; have hzbwq3 : b < wq3.heap.size := (by omega); have s30 : wq3.cell? ⟨b, 0, none⟩ = some (.int .i64 m0) := (hcwq3 _ _ (by omega)).trans (by assumption); have s31 : wq3.cell? ⟨b, 1, none⟩ = some (.int .i64 m1) := (hcwq3 _ _ (by omega)).trans (by assumption); have s32 : wq3.cell? ⟨b, 2, none⟩ = some (.int .i64 m2) := (hcwq3 _ _ (by omega)).trans (by assumption); have s33 : wq3.cell? ⟨b, 3, none⟩ = some (.int .i64 m3) := (hcwq3 _ _ (by omega)).trans (by assumption); have s34 : wq3.cell? ⟨b, 4, none⟩ = some (.int .i64 m4) := (hcwq3 _ _ (by omega)).trans (by assumption); have s35 : wq3.cell? ⟨b, 5, none⟩ = some (.int .i64 m5) := (hcwq3 _ _ (by omega)).trans (by assumption); have s36 : wq3.cell? ⟨b, 6, none⟩ = some (.int .i64 m6) := (hcwq3 _ _ (by omega)).trans (by assumption); have s37 : wq3.cell? ⟨b, 7, none⟩ = some (.int .i64 m7) := (hcwq3 _ _ (by omega)).trans (by assumption); clear hcwq3 hfwq3))
    go_ret
    exact ⟨ret_bool (okC_f3 H3.out), by repeat' (first | with_reducible assumption | with_reducible exact Below.refl _ _ | (with_reducible refine Below.setCell ?_ ?_ _) | (with_reducible refine Below.alloc ?_ ?_ _) | (with_reducible refine Below.drew ?_) | (with_reducible refine below_dr ?_ _) | (with_reducible refine Below.trans ?_ (Below.mono (by with_reducible assumption) ?_)) | omega | (simp; done) | (simp; omega))⟩
  have H3 := Lib.hid h3
  clear h3
  go_enter Try.func72, Try.ntmps72
  go_wp2_with (first | (go_at_call 61; (with_reducible refine (l03Ok_t H0.out _).mono ?_); rintro e wq0 ⟨rfl, hbwq0⟩; obtain ⟨hcwq0, hfwq0⟩ := bcell hbwq0; have hzwq0 := hbwq0.size; have hzbwq0 : b < wq0.heap.size := (by omega); have s00 : wq0.cell? ⟨b, 0, none⟩ = some (.int .i64 m0) := (hcwq0 _ _ (by omega)).trans (by assumption); have s01 : wq0.cell? ⟨b, 1, none⟩ = some (.int .i64 m1) := (hcwq0 _ _ (by omega)).trans (by assumption); have s02 : wq0.cell? ⟨b, 2, none⟩ = some (.int .i64 m2) := (hcwq0 _ _ (by omega)).trans (by assumption); have s03 : wq0.cell? ⟨b, 3, none⟩ = some (.int .i64 m3) := (hcwq0 _ _ (by omega)).trans (by assumption); have s04 : wq0.cell? ⟨b, 4, none⟩ = some (.int .i64 m4) := (hcwq0 _ _ (by omega)).trans (by assumption); have s05 : wq0.cell? ⟨b, 5, none⟩ = some (.int .i64 m5) := (hcwq0 _ _ (by omega)).trans (by assumption); have s06 : wq0.cell? ⟨b, 6, none⟩ = some (.int .i64 m6) := (hcwq0 _ _ (by omega)).trans (by assumption); have s07 : wq0.cell? ⟨b, 7, none⟩ = some (.int .i64 m7) := (hcwq0 _ _ (by omega)).trans (by assumption); clear hcwq0 hfwq0) | (go_at_call 61; (with_reducible refine (l03Ok_t H1.out _).mono ?_); rintro e wq1 ⟨rfl, hbwq1⟩; obtain ⟨hcwq1, hfwq1⟩ := bcell hbwq1; have hzwq1 := hbwq1.size; have hzbwq1 : b < wq1.heap.size := (by omega); have s10 : wq1.cell? ⟨b, 0, none⟩ = some (.int .i64 m0) := (hcwq1 _ _ (by omega)).trans (by assumption); have s11 : wq1.cell? ⟨b, 1, none⟩ = some (.int .i64 m1) := (hcwq1 _ _ (by omega)).trans (by assumption); have s12 : wq1.cell? ⟨b, 2, none⟩ = some (.int .i64 m2) := (hcwq1 _ _ (by omega)).trans (by assumption); have s13 : wq1.cell? ⟨b, 3, none⟩ = some (.int .i64 m3) := (hcwq1 _ _ (by omega)).trans (by assumption); have s14 : wq1.cell? ⟨b, 4, none⟩ = some (.int .i64 m4) := (hcwq1 _ _ (by omega)).trans (by assumption); have s15 : wq1.cell? ⟨b, 5, none⟩ = some (.int .i64 m5) := (hcwq1 _ _ (by omega)).trans (by assumption); have s16 : wq1.cell? ⟨b, 6, none⟩ = some (.int .i64 m6) := (hcwq1 _ _ (by omega)).trans (by assumption); have s17 : wq1.cell? ⟨b, 7, none⟩ = some (.int .i64 m7) := (hcwq1 _ _ (by omega)).trans (by assumption); clear hcwq1 hfwq1) | (go_at_call 61; (with_reducible refine (l03Ok_t H2.out _).mono ?_); rintro e wq2 ⟨rfl, hbwq2⟩; obtain ⟨hcwq2, hfwq2⟩ := bcell hbwq2; have hzwq2 := hbwq2.size; have hzbwq2 : b < wq2.heap.size := (by omega); have s20 : wq2.cell? ⟨b, 0, none⟩ = some (.int .i64 m0) := (hcwq2 _ _ (by omega)).trans (by assumption); have s21 : wq2.cell? ⟨b, 1, none⟩ = some (.int .i64 m1) := (hcwq2 _ _ (by omega)).trans (by assumption); have s22 : wq2.cell? ⟨b, 2, none⟩ = some (.int .i64 m2) := (hcwq2 _ _ (by omega)).trans (by assumption); have s23 : wq2.cell? ⟨b, 3, none⟩ = some (.int .i64 m3) := (hcwq2 _ _ (by omega)).trans (by assumption); have s24 : wq2.cell? ⟨b, 4, none⟩ = some (.int .i64 m4) := (hcwq2 _ _ (by omega)).trans (by assumption); have s25 : wq2.cell? ⟨b, 5, none⟩ = some (.int .i64 m5) := (hcwq2 _ _ (by omega)).trans (by assumption); have s26 : wq2.cell? ⟨b, 6, none⟩ = some (.int .i64 m6) := (hcwq2 _ _ (by omega)).trans (by assumption); have s27 : wq2.cell? ⟨b, 7, none⟩ = some (.int .i64 m7) := (hcwq2 _ _ (by omega)).trans (by assumption); clear hcwq2 hfwq2) | (go_at_call 61; (with_reducible refine (l03Ok_t H3.out _).mono ?_); rintro e wq3 ⟨rfl, hbwq3⟩; obtain ⟨hcwq3, hfwq3⟩ := bcell hbwq3; have hzwq3 := hbwq3.size; have hzbwq3 : b < wq3.heap.size := (by omega); have s30 : wq3.cell? ⟨b, 0, none⟩ = some (.int .i64 m0) := (hcwq3 _ _ (by omega)).trans (by assumption); have s31 : wq3.cell? ⟨b, 1, none⟩ = some (.int .i64 m1) := (hcwq3 _ _ (by omega)).trans (by assumption); have s32 : wq3.cell? ⟨b, 2, none⟩ = some (.int .i64 m2) := (hcwq3 _ _ (by omega)).trans (by assumption); have s33 : wq3.cell? ⟨b, 3, none⟩ = some (.int .i64 m3) := (hcwq3 _ _ (by omega)).trans (by assumption); have s34 : wq3.cell? ⟨b, 4, none⟩ = some (.int .i64 m4) := (hcwq3 _ _ (by omega)).trans (by assumption); have s35 : wq3.cell? ⟨b, 5, none⟩ = some (.int .i64 m5) := (hcwq3 _ _ (by omega)).trans (by assumption); have s36 : wq3.cell? ⟨b, 6, none⟩ = some (.int .i64 m6) := (hcwq3 _ _ (by omega)).trans (by assumption); have s37 : wq3.cell? ⟨b, 7, none⟩ = some (.int .i64 m7) := (hcwq3 _ _ (by omega)).trans (by assumption); clear hcwq3 hfwq3))
  go_ret
  exact ⟨ret_bool (okC_t H0.out H1.out H2.out H3.out), by repeat' (first | with_reducible assumption | with_reducible exact Below.refl _ _ | (with_reducible refine Below.setCell ?_ ?_ _) | (with_reducible refine Below.alloc ?_ ?_ _) | (with_reducible refine Below.drew ?_) | (with_reducible refine below_dr ?_ _) | (with_reducible refine Below.trans ?_ (Below.mono (by with_reducible assumption) ?_)) | omega | (simp; done) | (simp; omega))⟩
set_option maxHeartbeats 800000 in
theorem implCubic_any (m0 m1 m2 m3 m4 m5 m6 m7 : Int) (w : World) :
    Calls Try.prog 101 #[.agg #[.int .i64 m0, .int .i64 m1, .int .i64 m2, .int .i64 m3, .int .i64 m4, .int .i64 m5, .int .i64 m6, .int .i64 m7]] w fun e w' => e = .returned (.bool (okC m0 m1 m2 m3 m4 m5 m6 m7)) ∧ Below w.heap.size w w' := by
  go_enter Try.func101, Try.ntmps101
  go_wp2_with fail
  refine (valid4 m0 m1 m2 m3 m4 m5 m6 m7 _ _ (by simp) (by simp [go_sem]) (by simp [go_sem]) (by simp [go_sem]) (by simp [go_sem]) (by simp [go_sem]) (by simp [go_sem]) (by simp [go_sem]) (by simp [go_sem])).mono ?_
  rintro e w1 ⟨rfl, hb1⟩
  go_wp2
  go_ret
  exact ⟨rfl, by repeat' (first | with_reducible assumption | with_reducible exact Below.refl _ _ | (with_reducible refine Below.setCell ?_ ?_ _) | (with_reducible refine Below.alloc ?_ ?_ _) | (with_reducible refine Below.drew ?_) | (with_reducible refine below_dr ?_ _) | (with_reducible refine Below.trans ?_ (Below.mono (by with_reducible assumption) ?_)) | omega | (simp; done) | (simp; omega))⟩
def okQ (m0 m1 m2 m3 m4 m5 : Int) : Bool := okB m0 m1 && okB m2 m3 && okB m4 m5
theorem okQ_f0 {m0 m1 m2 m3 m4 m5 : Int} (h : okB m0 m1 = false) : false = okQ m0 m1 m2 m3 m4 m5 := by simp [okQ, h]
theorem okQ_f1 {m0 m1 m2 m3 m4 m5 : Int} (h : okB m2 m3 = false) : false = okQ m0 m1 m2 m3 m4 m5 := by simp [okQ, h]
theorem okQ_f2 {m0 m1 m2 m3 m4 m5 : Int} (h : okB m4 m5 = false) : false = okQ m0 m1 m2 m3 m4 m5 := by simp [okQ, h]
theorem okQ_t {m0 m1 m2 m3 m4 m5 : Int} (h0 : okB m0 m1 = true) (h1 : okB m2 m3 = true) (h2 : okB m4 m5 = true) : true = okQ m0 m1 m2 m3 m4 m5 := by simp [okQ, *]
set_option maxHeartbeats 1600000 in
theorem l10Quad_any (m0 m1 m2 m3 m4 m5 : Int) (b : Nat) (w : World) (hb : b < w.heap.size) (c0 : w.cell? ⟨b, 0, none⟩ = some (.int .i64 m0)) (c1 : w.cell? ⟨b, 1, none⟩ = some (.int .i64 m1)) (c2 : w.cell? ⟨b, 2, none⟩ = some (.int .i64 m2)) (c3 : w.cell? ⟨b, 3, none⟩ = some (.int .i64 m3)) (c4 : w.cell? ⟨b, 4, none⟩ = some (.int .i64 m4)) (c5 : w.cell? ⟨b, 5, none⟩ = some (.int .i64 m5)) :
    Calls Try.prog 30 #[.pointer (some ⟨b, 0, none⟩)] w fun e w' => e = .returned (.bool (okQ m0 m1 m2 m3 m4 m5)) ∧ Below w.heap.size w w' := by
  rcases h0 : okB m0 m1 with _ | _
  · have H0 := Lib.hid h0
    clear h0
    go_enter Try.func30, Try.ntmps30
    go_wp2_with (first | (go_at_call 61; (with_reducible refine (l03Ok_f H0.out _).mono ?_); rintro e wq0 ⟨rfl, hbwq0⟩; obtain ⟨hcwq0, hfwq0⟩ := bcell hbwq0; have hzwq0 := hbwq0.size; have hzbwq0 : b < wq0.heap.size := (by omega); have s00 : wq0.cell? ⟨b, 0, none⟩ = some (.int .i64 m0) := (hcwq0 _ _ (by omega)).trans (by assumption); have s01 : wq0.cell? ⟨b, 1, none⟩ = some (.int .i64 m1) := (hcwq0 _ _ (by omega)).trans (by assumption); have s02 : wq0.cell? ⟨b, 2, none⟩ = some (.int .i64 m2) := (hcwq0 _ _ (by omega)).trans (by assumption); have s03 : wq0.cell? ⟨b, 3, none⟩ = some (.int .i64 m3) := (hcwq0 _ _ (by omega)).trans (by assumption); have s04 : wq0.cell? ⟨b, 4, none⟩ = some (.int .i64 m4) := (hcwq0 _ _ (by omega)).trans (by assumption); have s05 : wq0.cell? ⟨b, 5, none⟩ = some (.int .i64 m5) := (hcwq0 _ _ (by omega)).trans (by assumption); clear hcwq0 hfwq0))
    go_ret
    exact ⟨ret_bool (okQ_f0 H0.out), by repeat' (first | with_reducible assumption | with_reducible exact Below.refl _ _ | (with_reducible refine Below.setCell ?_ ?_ _) | (with_reducible refine Below.alloc ?_ ?_ _) | (with_reducible refine Below.drew ?_) | (with_reducible refine below_dr ?_ _) | (with_reducible refine Below.trans ?_ (Below.mono (by with_reducible assumption) ?_)) | omega | (simp; done) | (simp; omega))⟩
  have H0 := Lib.hid h0
  clear h0
  rcases h1 : okB m2 m3 with _ | _
  · have H1 := Lib.hid h1
    clear h1
    go_enter Try.func30, Try.ntmps30
    go_wp2_with (first | (go_at_call 61; (with_reducible refine (l03Ok_t H0.out _).mono ?_); rintro e wq0 ⟨rfl, hbwq0⟩; obtain ⟨hcwq0, hfwq0⟩ := bcell hbwq0; have hzwq0 := hbwq0.size; have hzbwq0 : b < wq0.heap.size := (by omega); have s00 : wq0.cell? ⟨b, 0, none⟩ = some (.int .i64 m0) := (hcwq0 _ _ (by omega)).trans (by assumption); have s01 : wq0.cell? ⟨b, 1, none⟩ = some (.int .i64 m1) := (hcwq0 _ _ (by omega)).trans (by assumption); have s02 : wq0.cell? ⟨b, 2, none⟩ = some (.int .i64 m2) := (hcwq0 _ _ (by omega)).trans (by assumption); have s03 : wq0.cell? ⟨b, 3, none⟩ = some (.int .i64 m3) := (hcwq0 _ _ (by omega)).trans (by assumption); have s04 : wq0.cell? ⟨b, 4, none⟩ = some (.int .i64 m4) := (hcwq0 _ _ (by omega)).trans (by assumption); have s05 : wq0.cell? ⟨b, 5, none⟩ = some (.int .i64 m5) := (hcwq0 _ _ (by omega)).trans (by assumption); clear hcwq0 hfwq0) | (go_at_call 61; (with_reducible refine (l03Ok_f H1.out _).mono ?_); rintro e wq1 ⟨rfl, hbwq1⟩; obtain ⟨hcwq1, hfwq1⟩ := bcell hbwq1; have hzwq1 := hbwq1.size; have hzbwq1 : b < wq1.heap.size := (by omega); have s10 : wq1.cell? ⟨b, 0, none⟩ = some (.int .i64 m0) := (hcwq1 _ _ (by omega)).trans (by assumption); have s11 : wq1.cell? ⟨b, 1, none⟩ = some (.int .i64 m1) := (hcwq1 _ _ (by omega)).trans (by assumption); have s12 : wq1.cell? ⟨b, 2, none⟩ = some (.int .i64 m2) := (hcwq1 _ _ (by omega)).trans (by assumption); have s13 : wq1.cell? ⟨b, 3, none⟩ = some (.int .i64 m3) := (hcwq1 _ _ (by omega)).trans (by assumption); have s14 : wq1.cell? ⟨b, 4, none⟩ = some (.int .i64 m4) := (hcwq1 _ _ (by omega)).trans (by assumption); have s15 : wq1.cell? ⟨b, 5, none⟩ = some (.int .i64 m5) := (hcwq1 _ _ (by omega)).trans (by assumption); clear hcwq1 hfwq1))
    go_ret
    exact ⟨ret_bool (okQ_f1 H1.out), by repeat' (first | with_reducible assumption | with_reducible exact Below.refl _ _ | (with_reducible refine Below.setCell ?_ ?_ _) | (with_reducible refine Below.alloc ?_ ?_ _) | (with_reducible refine Below.drew ?_) | (with_reducible refine below_dr ?_ _) | (with_reducible refine Below.trans ?_ (Below.mono (by with_reducible assumption) ?_)) | omega | (simp; done) | (simp; omega))⟩
  have H1 := Lib.hid h1
  clear h1
  rcases h2 : okB m4 m5 with _ | _
  · have H2 := Lib.hid h2
    clear h2
    go_enter Try.func30, Try.ntmps30
    go_wp2_with (first | (go_at_call 61; (with_reducible refine (l03Ok_t H0.out _).mono ?_); rintro e wq0 ⟨rfl, hbwq0⟩; obtain ⟨hcwq0, hfwq0⟩ := bcell hbwq0; have hzwq0 := hbwq0.size; have hzbwq0 : b < wq0.heap.size := (by omega); have s00 : wq0.cell? ⟨b, 0, none⟩ = some (.int .i64 m0) := (hcwq0 _ _ (by omega)).trans (by assumption); have s01 : wq0.cell? ⟨b, 1, none⟩ = some (.int .i64 m1) := (hcwq0 _ _ (by omega)).trans (by assumption); have s02 : wq0.cell? ⟨b, 2, none⟩ = some (.int .i64 m2) := (hcwq0 _ _ (by omega)).trans (by assumption); have s03 : wq0.cell? ⟨b, 3, none⟩ = some (.int .i64 m3) := (hcwq0 _ _ (by omega)).trans (by assumption); have s04 : wq0.cell? ⟨b, 4, none⟩ = some (.int .i64 m4) := (hcwq0 _ _ (by omega)).trans (by assumption); have s05 : wq0.cell? ⟨b, 5, none⟩ = some (.int .i64 m5) := (hcwq0 _ _ (by omega)).trans (by assumption); clear hcwq0 hfwq0) | (go_at_call 61; (with_reducible refine (l03Ok_t H1.out _).mono ?_); rintro e wq1 ⟨rfl, hbwq1⟩; obtain ⟨hcwq1, hfwq1⟩ := bcell hbwq1; have hzwq1 := hbwq1.size; have hzbwq1 : b < wq1.heap.size := (by omega); have s10 : wq1.cell? ⟨b, 0, none⟩ = some (.int .i64 m0) := (hcwq1 _ _ (by omega)).trans (by assumption); have s11 : wq1.cell? ⟨b, 1, none⟩ = some (.int .i64 m1) := (hcwq1 _ _ (by omega)).trans (by assumption); have s12 : wq1.cell? ⟨b, 2, none⟩ = some (.int .i64 m2) := (hcwq1 _ _ (by omega)).trans (by assumption); have s13 : wq1.cell? ⟨b, 3, none⟩ = some (.int .i64 m3) := (hcwq1 _ _ (by omega)).trans (by assumption); have s14 : wq1.cell? ⟨b, 4, none⟩ = some (.int .i64 m4) := (hcwq1 _ _ (by omega)).trans (by assumption); have s15 : wq1.cell? ⟨b, 5, none⟩ = some (.int .i64 m5) := (hcwq1 _ _ (by omega)).trans (by assumption); clear hcwq1 hfwq1) | (go_at_call 61; (with_reducible refine (l03Ok_f H2.out _).mono ?_); rintro e wq2 ⟨rfl, hbwq2⟩; obtain ⟨hcwq2, hfwq2⟩ := bcell hbwq2; have hzwq2 := hbwq2.size; have hzbwq2 : b < wq2.heap.size := (by omega); have s20 : wq2.cell? ⟨b, 0, none⟩ = some (.int .i64 m0) := (hcwq2 _ _ (by omega)).trans (by assumption); have s21 : wq2.cell? ⟨b, 1, none⟩ = some (.int .i64 m1) := (hcwq2 _ _ (by omega)).trans (by assumption); have s22 : wq2.cell? ⟨b, 2, none⟩ = some (.int .i64 m2) := (hcwq2 _ _ (by omega)).trans (by assumption); have s23 : wq2.cell? ⟨b, 3, none⟩ = some (.int .i64 m3) := (hcwq2 _ _ (by omega)).trans (by assumption); have s24 : wq2.cell? ⟨b, 4, none⟩ = some (.int .i64 m4) := (hcwq2 _ _ (by omega)).trans (by assumption); have s25 : wq2.cell? ⟨b, 5, none⟩ = some (.int .i64 m5) := (hcwq2 _ _ (by omega)).trans (by assumption); clear hcwq2 hfwq2))
    go_ret
    exact ⟨ret_bool (okQ_f2 H2.out), by repeat' (first | with_reducible assumption | with_reducible exact Below.refl _ _ | (with_reducible refine Below.setCell ?_ ?_ _) | (with_reducible refine Below.alloc ?_ ?_ _) | (with_reducible refine Below.drew ?_) | (with_reducible refine below_dr ?_ _) | (with_reducible refine Below.trans ?_ (Below.mono (by with_reducible assumption) ?_)) | omega | (simp; done) | (simp; omega))⟩
  have H2 := Lib.hid h2
  clear h2
  go_enter Try.func30, Try.ntmps30
  go_wp2_with (first | (go_at_call 61; (with_reducible refine (l03Ok_t H0.out _).mono ?_); rintro e wq0 ⟨rfl, hbwq0⟩; obtain ⟨hcwq0, hfwq0⟩ := bcell hbwq0; have hzwq0 := hbwq0.size; have hzbwq0 : b < wq0.heap.size := (by omega); have s00 : wq0.cell? ⟨b, 0, none⟩ = some (.int .i64 m0) := (hcwq0 _ _ (by omega)).trans (by assumption); have s01 : wq0.cell? ⟨b, 1, none⟩ = some (.int .i64 m1) := (hcwq0 _ _ (by omega)).trans (by assumption); have s02 : wq0.cell? ⟨b, 2, none⟩ = some (.int .i64 m2) := (hcwq0 _ _ (by omega)).trans (by assumption); have s03 : wq0.cell? ⟨b, 3, none⟩ = some (.int .i64 m3) := (hcwq0 _ _ (by omega)).trans (by assumption); have s04 : wq0.cell? ⟨b, 4, none⟩ = some (.int .i64 m4) := (hcwq0 _ _ (by omega)).trans (by assumption); have s05 : wq0.cell? ⟨b, 5, none⟩ = some (.int .i64 m5) := (hcwq0 _ _ (by omega)).trans (by assumption); clear hcwq0 hfwq0) | (go_at_call 61; (with_reducible refine (l03Ok_t H1.out _).mono ?_); rintro e wq1 ⟨rfl, hbwq1⟩; obtain ⟨hcwq1, hfwq1⟩ := bcell hbwq1; have hzwq1 := hbwq1.size; have hzbwq1 : b < wq1.heap.size := (by omega); have s10 : wq1.cell? ⟨b, 0, none⟩ = some (.int .i64 m0) := (hcwq1 _ _ (by omega)).trans (by assumption); have s11 : wq1.cell? ⟨b, 1, none⟩ = some (.int .i64 m1) := (hcwq1 _ _ (by omega)).trans (by assumption); have s12 : wq1.cell? ⟨b, 2, none⟩ = some (.int .i64 m2) := (hcwq1 _ _ (by omega)).trans (by assumption); have s13 : wq1.cell? ⟨b, 3, none⟩ = some (.int .i64 m3) := (hcwq1 _ _ (by omega)).trans (by assumption); have s14 : wq1.cell? ⟨b, 4, none⟩ = some (.int .i64 m4) := (hcwq1 _ _ (by omega)).trans (by assumption); have s15 : wq1.cell? ⟨b, 5, none⟩ = some (.int .i64 m5) := (hcwq1 _ _ (by omega)).trans (by assumption); clear hcwq1 hfwq1) | (go_at_call 61; (with_reducible refine (l03Ok_t H2.out _).mono ?_); rintro e wq2 ⟨rfl, hbwq2⟩; obtain ⟨hcwq2, hfwq2⟩ := bcell hbwq2; have hzwq2 := hbwq2.size; have hzbwq2 : b < wq2.heap.size := (by omega); have s20 : wq2.cell? ⟨b, 0, none⟩ = some (.int .i64 m0) := (hcwq2 _ _ (by omega)).trans (by assumption); have s21 : wq2.cell? ⟨b, 1, none⟩ = some (.int .i64 m1) := (hcwq2 _ _ (by omega)).trans (by assumption); have s22 : wq2.cell? ⟨b, 2, none⟩ = some (.int .i64 m2) := (hcwq2 _ _ (by omega)).trans (by assumption); have s23 : wq2.cell? ⟨b, 3, none⟩ = some (.int .i64 m3) := (hcwq2 _ _ (by omega)).trans (by assumption); have s24 : wq2.cell? ⟨b, 4, none⟩ = some (.int .i64 m4) := (hcwq2 _ _ (by omega)).trans (by assumption); have s25 : wq2.cell? ⟨b, 5, none⟩ = some (.int .i64 m5) := (hcwq2 _ _ (by omega)).trans (by assumption); clear hcwq2 hfwq2))
  go_ret
  exact ⟨ret_bool (okQ_t H0.out H1.out H2.out), by repeat' (first | with_reducible assumption | with_reducible exact Below.refl _ _ | (with_reducible refine Below.setCell ?_ ?_ _) | (with_reducible refine Below.alloc ?_ ?_ _) | (with_reducible refine Below.drew ?_) | (with_reducible refine below_dr ?_ _) | (with_reducible refine Below.trans ?_ (Below.mono (by with_reducible assumption) ?_)) | omega | (simp; done) | (simp; omega))⟩
set_option maxHeartbeats 800000 in
theorem implQuad_any (m0 m1 m2 m3 m4 m5 : Int) (w : World) :
    Calls Try.prog 34 #[.agg #[.int .i64 m0, .int .i64 m1, .int .i64 m2, .int .i64 m3, .int .i64 m4, .int .i64 m5]] w fun e w' => e = .returned (.bool (okQ m0 m1 m2 m3 m4 m5)) ∧ Below w.heap.size w w' := by
  go_enter Try.func34, Try.ntmps34
  go_wp2_with fail
  refine (valid3 m0 m1 m2 m3 m4 m5 _ _ (by simp) (by simp [go_sem]) (by simp [go_sem]) (by simp [go_sem]) (by simp [go_sem]) (by simp [go_sem]) (by simp [go_sem])).mono ?_
  rintro e w1 ⟨rfl, hb1⟩
  go_wp2
  go_ret
  exact ⟨rfl, by repeat' (first | with_reducible assumption | with_reducible exact Below.refl _ _ | (with_reducible refine Below.setCell ?_ ?_ _) | (with_reducible refine Below.alloc ?_ ?_ _) | (with_reducible refine Below.drew ?_) | (with_reducible refine below_dr ?_ _) | (with_reducible refine Below.trans ?_ (Below.mono (by with_reducible assumption) ?_)) | omega | (simp; done) | (simp; omega))⟩
end Go.Proofs.Yticgomikfleabaa
