/- Walks: BendOf, both sides, and the law: it returns true. -/
import Derived.Test.YtpfbgpefaegipaaCe
namespace Go.Proofs.Ytpfbgpefaegipaa
open Go.RowKit
def bendV (m0 m1 m2 m3 m4 m5 m6 m7 : Int) : Int := bif okC m0 m1 m2 m3 m4 m5 m6 m7 then bendI m0 m1 m2 m3 m4 m5 m6 m7 else 0
def bendC (m0 m1 m2 m3 m4 m5 m6 m7 : Int) : Int := bif okC m0 m1 m2 m3 m4 m5 m6 m7 then 0 else 1
def BendRet (m0 m1 m2 m3 m4 m5 m6 m7 : Int) (w : World) (e : Ending) (w' : World) : Prop := e = .returned (.tuple #[.int .i64 (bendV m0 m1 m2 m3 m4 m5 m6 m7), .int .i64 (bendC m0 m1 m2 m3 m4 m5 m6 m7)]) ∧ Below w.heap.size w w'
theorem BendRet.mk {m0 m1 m2 m3 m4 m5 m6 m7 a c : Int} {w w' : World} (h1 : a = bendV m0 m1 m2 m3 m4 m5 m6 m7) (h2 : c = bendC m0 m1 m2 m3 m4 m5 m6 m7) (hb : Below w.heap.size w w') : BendRet m0 m1 m2 m3 m4 m5 m6 m7 w (.returned (.tuple #[.int .i64 a, .int .i64 c])) w' := by subst h1 h2; exact ⟨rfl, hb⟩
theorem bend_f {m0 m1 m2 m3 m4 m5 m6 m7 : Int} (h : okC m0 m1 m2 m3 m4 m5 m6 m7 = false) : 0 = bendV m0 m1 m2 m3 m4 m5 m6 m7 ∧ 1 = bendC m0 m1 m2 m3 m4 m5 m6 m7 := by simp [bendV, bendC, h]
theorem bend_t {m0 m1 m2 m3 m4 m5 m6 m7 : Int} (h : okC m0 m1 m2 m3 m4 m5 m6 m7 = true) : bendI m0 m1 m2 m3 m4 m5 m6 m7 = bendV m0 m1 m2 m3 m4 m5 m6 m7 ∧ 0 = bendC m0 m1 m2 m3 m4 m5 m6 m7 := by simp [bendV, bendC, h]
theorem okC_parts {m0 m1 m2 m3 m4 m5 m6 m7 : Int} (h : okC m0 m1 m2 m3 m4 m5 m6 m7 = true) : okB m0 m1 = true ∧ okB m2 m3 = true ∧ okB m4 m5 = true ∧ okB m6 m7 = true := by
  unfold okC at h
  revert h
  cases okB m0 m1 <;> cases okB m2 m3 <;> cases okB m4 m5 <;> cases okB m6 m7 <;> simp
set_option maxHeartbeats 1600000 in
theorem specBendOf_any (m0 m1 m2 m3 m4 m5 m6 m7 : Int) (w : World) :
    Calls Try.prog 24 #[.agg #[.int .i64 m0, .int .i64 m1, .int .i64 m2, .int .i64 m3, .int .i64 m4, .int .i64 m5, .int .i64 m6, .int .i64 m7]] w (BendRet m0 m1 m2 m3 m4 m5 m6 m7 w) := by
  rcases hv : okC m0 m1 m2 m3 m4 m5 m6 m7 with _ | _
  · have HV := Lib.hid hv
    clear hv
    go_enter Try.func24, Try.ntmps24
    go_wp2_with fail
    refine (l09Ok_any m0 m1 m2 m3 m4 m5 m6 m7 _ _ (by simp) (by simp [go_sem]) (by simp [go_sem]) (by simp [go_sem]) (by simp [go_sem]) (by simp [go_sem]) (by simp [go_sem]) (by simp [go_sem]) (by simp [go_sem])).mono ?_
    rw [HV.out]; rintro e w1 ⟨rfl, hb1⟩
    go_wp2
    refine bodyPost_ret (v := .tuple #[.int .i64 0, .int .i64 1]) (by simp [results, Try.results24, go_sem]) rfl (BendRet.mk (bend_f HV.out).1 (bend_f HV.out).2 (by repeat' (first | with_reducible assumption | with_reducible exact Below.refl _ _ | (with_reducible refine Below.setCell ?_ ?_ _) | (with_reducible refine Below.alloc ?_ ?_ _) | (with_reducible refine Below.drew ?_) | (with_reducible refine below_dr ?_ _) | (with_reducible refine Below.trans ?_ (Below.mono (by with_reducible assumption) ?_)) | omega | (simp; done) | (simp; omega))))
  · have HV := Lib.hid hv
    clear hv
    obtain ⟨h0, h1, h2, h3⟩ := okC_parts HV.out
    have H0 := Lib.hid h0
    have H1 := Lib.hid h1
    have H2 := Lib.hid h2
    have H3 := Lib.hid h3
    clear h0 h1 h2 h3
    go_enter Try.func24, Try.ntmps24
    go_wp2_with fail
    refine (l09Ok_any m0 m1 m2 m3 m4 m5 m6 m7 _ _ (by simp) (by simp [go_sem]) (by simp [go_sem]) (by simp [go_sem]) (by simp [go_sem]) (by simp [go_sem]) (by simp [go_sem]) (by simp [go_sem]) (by simp [go_sem])).mono ?_
    rw [HV.out]; rintro e w1 ⟨rfl, hbw1⟩
    have g1 : Below w.heap.size w w1 := (by repeat' (first | with_reducible assumption | with_reducible exact Below.refl _ _ | (with_reducible refine Below.setCell ?_ ?_ _) | (with_reducible refine Below.alloc ?_ ?_ _) | (with_reducible refine Below.drew ?_) | (with_reducible refine below_dr ?_ _) | (with_reducible refine Below.trans ?_ (Below.mono (by with_reducible assumption) ?_)) | omega | (simp; done) | (simp; omega)))
    obtain ⟨hcw1, hfw1⟩ := bcell hbw1
    have hzw1 := hbw1.size
    (try simp only [World.size_alloc] at hcw1 hfw1 hzw1)
    have s1 : w1.cell? ⟨w.heap.size, 0, none⟩ = some (.int .i64 m0) := (hcw1 _ _ (by omega)).trans (by first | assumption | (refine (cell_alloc_at _ _ ?_).trans ?_; omega; assumption) | (simp [go_sem]; done) | (simp [go_sem, *]; done))
    have s2 : w1.cell? ⟨w.heap.size, 1, none⟩ = some (.int .i64 m1) := (hcw1 _ _ (by omega)).trans (by first | assumption | (refine (cell_alloc_at _ _ ?_).trans ?_; omega; assumption) | (simp [go_sem]; done) | (simp [go_sem, *]; done))
    have s3 : w1.cell? ⟨w.heap.size, 2, none⟩ = some (.int .i64 m2) := (hcw1 _ _ (by omega)).trans (by first | assumption | (refine (cell_alloc_at _ _ ?_).trans ?_; omega; assumption) | (simp [go_sem]; done) | (simp [go_sem, *]; done))
    have s4 : w1.cell? ⟨w.heap.size, 3, none⟩ = some (.int .i64 m3) := (hcw1 _ _ (by omega)).trans (by first | assumption | (refine (cell_alloc_at _ _ ?_).trans ?_; omega; assumption) | (simp [go_sem]; done) | (simp [go_sem, *]; done))
    have s5 : w1.cell? ⟨w.heap.size, 4, none⟩ = some (.int .i64 m4) := (hcw1 _ _ (by omega)).trans (by first | assumption | (refine (cell_alloc_at _ _ ?_).trans ?_; omega; assumption) | (simp [go_sem]; done) | (simp [go_sem, *]; done))
    have s6 : w1.cell? ⟨w.heap.size, 5, none⟩ = some (.int .i64 m5) := (hcw1 _ _ (by omega)).trans (by first | assumption | (refine (cell_alloc_at _ _ ?_).trans ?_; omega; assumption) | (simp [go_sem]; done) | (simp [go_sem, *]; done))
    have s7 : w1.cell? ⟨w.heap.size, 6, none⟩ = some (.int .i64 m6) := (hcw1 _ _ (by omega)).trans (by first | assumption | (refine (cell_alloc_at _ _ ?_).trans ?_; omega; assumption) | (simp [go_sem]; done) | (simp [go_sem, *]; done))
    have s8 : w1.cell? ⟨w.heap.size, 7, none⟩ = some (.int .i64 m7) := (hcw1 _ _ (by omega)).trans (by first | assumption | (refine (cell_alloc_at _ _ ?_).trans ?_; omega; assumption) | (simp [go_sem]; done) | (simp [go_sem, *]; done))
    have sz : w.heap.size < w1.heap.size := (by omega)
    clear hcw1 hfw1 hzw1
    go_wp2_with fail
    refine (l09Bend_any m0 m1 m2 m3 m4 m5 m6 m7 _ _ sz s1 s2 s3 s4 s5 s6 s7 s8 H0.out H1.out H2.out H3.out).mono ?_
    rintro e w2 ⟨rfl, hb2⟩
    go_wp2
    refine bodyPost_ret (v := .tuple #[.int .i64 (bendI m0 m1 m2 m3 m4 m5 m6 m7), .int .i64 0]) (by simp [results, Try.results24, go_sem]) rfl (BendRet.mk (bend_t HV.out).1 (bend_t HV.out).2 (by repeat' (first | with_reducible assumption | with_reducible exact Below.refl _ _ | (with_reducible refine Below.setCell ?_ ?_ _) | (with_reducible refine Below.alloc ?_ ?_ _) | (with_reducible refine Below.drew ?_) | (with_reducible refine below_dr ?_ _) | (with_reducible refine Below.trans ?_ (Below.mono (by with_reducible assumption) ?_)) | omega | (simp; done) | (simp; omega))))
set_option maxHeartbeats 3200000 in
theorem implBendOf_any (m0 m1 m2 m3 m4 m5 m6 m7 : Int) (w : World) :
    Calls Try.prog 25 #[.agg #[.int .i64 m0, .int .i64 m1, .int .i64 m2, .int .i64 m3, .int .i64 m4, .int .i64 m5, .int .i64 m6, .int .i64 m7]] w (BendRet m0 m1 m2 m3 m4 m5 m6 m7 w) := by
  rcases hv : okC m0 m1 m2 m3 m4 m5 m6 m7 with _ | _
  · have HV := Lib.hid hv
    clear hv
    go_enter Try.func25, Try.ntmps25
    go_wp2_with fail
    refine (implCubic_any m0 m1 m2 m3 m4 m5 m6 m7 _).mono ?_
    rw [HV.out]; rintro e w1 ⟨rfl, hb1⟩
    go_wp2
    refine bodyPost_ret (v := .tuple #[.int .i64 0, .int .i64 1]) (by simp [results, Try.results25, go_sem]) rfl (BendRet.mk (bend_f HV.out).1 (bend_f HV.out).2 (by repeat' (first | with_reducible assumption | with_reducible exact Below.refl _ _ | (with_reducible refine Below.setCell ?_ ?_ _) | (with_reducible refine Below.alloc ?_ ?_ _) | (with_reducible refine Below.drew ?_) | (with_reducible refine below_dr ?_ _) | (with_reducible refine Below.trans ?_ (Below.mono (by with_reducible assumption) ?_)) | omega | (simp; done) | (simp; omega))))
  · have HV := Lib.hid hv
    clear hv
    obtain ⟨h0, h1, h2, h3⟩ := okC_parts HV.out
    have H0 := Lib.hid h0
    have H1 := Lib.hid h1
    have H2 := Lib.hid h2
    have H3 := Lib.hid h3
    clear h0 h1 h2 h3
    go_enter Try.func25, Try.ntmps25
    go_wp2_with fail
    refine (implCubic_any m0 m1 m2 m3 m4 m5 m6 m7 _).mono ?_
    rw [HV.out]; rintro e w1 ⟨rfl, hbw1⟩
    have g1 : Below w.heap.size w w1 := (by repeat' (first | with_reducible assumption | with_reducible exact Below.refl _ _ | (with_reducible refine Below.setCell ?_ ?_ _) | (with_reducible refine Below.alloc ?_ ?_ _) | (with_reducible refine Below.drew ?_) | (with_reducible refine below_dr ?_ _) | (with_reducible refine Below.trans ?_ (Below.mono (by with_reducible assumption) ?_)) | omega | (simp; done) | (simp; omega)))
    obtain ⟨hcw1, hfw1⟩ := bcell hbw1
    have hzw1 := hbw1.size
    (try simp only [World.size_alloc] at hcw1 hfw1 hzw1)
    have s1 : w1.cell? ⟨w.heap.size, 0, none⟩ = some (.int .i64 m0) := (hcw1 _ _ (by omega)).trans (by first | assumption | (refine (cell_alloc_at _ _ ?_).trans ?_; omega; assumption) | (simp [go_sem]; done) | (simp [go_sem, *]; done))
    have s2 : w1.cell? ⟨w.heap.size, 1, none⟩ = some (.int .i64 m1) := (hcw1 _ _ (by omega)).trans (by first | assumption | (refine (cell_alloc_at _ _ ?_).trans ?_; omega; assumption) | (simp [go_sem]; done) | (simp [go_sem, *]; done))
    have s3 : w1.cell? ⟨w.heap.size, 2, none⟩ = some (.int .i64 m2) := (hcw1 _ _ (by omega)).trans (by first | assumption | (refine (cell_alloc_at _ _ ?_).trans ?_; omega; assumption) | (simp [go_sem]; done) | (simp [go_sem, *]; done))
    have s4 : w1.cell? ⟨w.heap.size, 3, none⟩ = some (.int .i64 m3) := (hcw1 _ _ (by omega)).trans (by first | assumption | (refine (cell_alloc_at _ _ ?_).trans ?_; omega; assumption) | (simp [go_sem]; done) | (simp [go_sem, *]; done))
    have s5 : w1.cell? ⟨w.heap.size, 4, none⟩ = some (.int .i64 m4) := (hcw1 _ _ (by omega)).trans (by first | assumption | (refine (cell_alloc_at _ _ ?_).trans ?_; omega; assumption) | (simp [go_sem]; done) | (simp [go_sem, *]; done))
    have s6 : w1.cell? ⟨w.heap.size, 5, none⟩ = some (.int .i64 m5) := (hcw1 _ _ (by omega)).trans (by first | assumption | (refine (cell_alloc_at _ _ ?_).trans ?_; omega; assumption) | (simp [go_sem]; done) | (simp [go_sem, *]; done))
    have s7 : w1.cell? ⟨w.heap.size, 6, none⟩ = some (.int .i64 m6) := (hcw1 _ _ (by omega)).trans (by first | assumption | (refine (cell_alloc_at _ _ ?_).trans ?_; omega; assumption) | (simp [go_sem]; done) | (simp [go_sem, *]; done))
    have s8 : w1.cell? ⟨w.heap.size, 7, none⟩ = some (.int .i64 m7) := (hcw1 _ _ (by omega)).trans (by first | assumption | (refine (cell_alloc_at _ _ ?_).trans ?_; omega; assumption) | (simp [go_sem]; done) | (simp [go_sem, *]; done))
    have sz : w.heap.size < w1.heap.size := (by omega)
    clear hcw1 hfw1 hzw1
    obtain ⟨z01, z02, z03, z04⟩ := okB_bounds H0.out
    obtain ⟨z11, z12, z13, z14⟩ := okB_bounds H1.out
    obtain ⟨z21, z22, z23, z24⟩ := okB_bounds H2.out
    obtain ⟨z31, z32, z33, z34⟩ := okB_bounds H3.out
    go_wp2_with fail
    go_region_held3 (fun w' => w'.cell? ⟨w.heap.size, 0, none⟩ = some (.int .i64 m0) ∧ w'.cell? ⟨w.heap.size, 1, none⟩ = some (.int .i64 m1) ∧ w'.cell? ⟨w.heap.size, 2, none⟩ = some (.int .i64 m2) ∧ w'.cell? ⟨w.heap.size, 3, none⟩ = some (.int .i64 m3) ∧ w'.cell? ⟨w.heap.size, 4, none⟩ = some (.int .i64 m4) ∧ w'.cell? ⟨w.heap.size, 5, none⟩ = some (.int .i64 m5) ∧ w'.cell? ⟨w.heap.size, 6, none⟩ = some (.int .i64 m6) ∧ w'.cell? ⟨w.heap.size, 7, none⟩ = some (.int .i64 m7) ∧ w.heap.size < w'.heap.size)
      (first | ((try dsimp only); (repeat' apply And.intro); all_goals (first | assumption | omega | (simp (disch := omega) [*]; done) | (simp; omega))) | fail)
      (first
        | (go_at_call 56; (with_reducible refine (secDiff_any _ _ _ _ _ _ _ H0.out H1.out H2.out).mono ?_); rintro e wA ⟨rfl, hbwA⟩; obtain ⟨hcwA, hfwA⟩ := bcell hbwA; have hzwA := hbwA.size; (try simp only [World.size_drew] at hcwA hfwA hzwA); (try simp only [World.size_alloc] at hcwA hfwA hzwA))
        | (go_at_call 56; (with_reducible refine (secDiff_any _ _ _ _ _ _ _ H1.out H2.out H3.out).mono ?_); rintro e wB ⟨rfl, hbwB⟩; obtain ⟨hcwB, hfwB⟩ := bcell hbwB; have hzwB := hbwB.size; (try simp only [World.size_drew] at hcwB hfwB hzwB); (try simp only [World.size_alloc] at hcwB hfwB hzwB))
        | (go_at_call 57; (with_reducible refine (implSize_any _ _ _ (by omega) (by omega)).mono ?_); rintro e wC ⟨rfl, hbwC⟩; obtain ⟨hcwC, hfwC⟩ := bcell hbwC; have hzwC := hbwC.size; (try simp only [World.size_drew] at hcwC hfwC hzwC); (try simp only [World.size_alloc] at hcwC hfwC hzwC)))
    go_wp2
    refine bodyPost_ret (v := .tuple #[.int .i64 (max (szI (m0 - 2 * m2 + m4) (m1 - 2 * m3 + m5)) (szI (m2 - 2 * m4 + m6) (m3 - 2 * m5 + m7))), .int .i64 0]) (by simp [results, Try.results25, go_sem]) rfl (BendRet.mk ((bend_is m0 m1 m2 m3 m4 m5 m6 m7).trans (bend_t HV.out).1) (bend_t HV.out).2 (by repeat' (first | with_reducible assumption | with_reducible exact Below.refl _ _ | (with_reducible refine Below.setCell ?_ ?_ _) | (with_reducible refine Below.alloc ?_ ?_ _) | (with_reducible refine Below.drew ?_) | (with_reducible refine below_dr ?_ _) | (with_reducible refine Below.trans ?_ (Below.mono (by with_reducible assumption) ?_)) | omega | (simp; done) | (simp; omega))))
set_option maxHeartbeats 4000000 in
theorem walk_BendOf (m0 m1 m2 m3 m4 m5 m6 m7 : Int) (w_m0 : (Lit.int .i64 m0).wf = true) (w_m1 : (Lit.int .i64 m1).wf = true) (w_m2 : (Lit.int .i64 m2).wf = true) (w_m3 : (Lit.int .i64 m3).wf = true) (w_m4 : (Lit.int .i64 m4).wf = true) (w_m5 : (Lit.int .i64 m5).wf = true) (w_m6 : (Lit.int .i64 m6).wf = true) (w_m7 : (Lit.int .i64 m7).wf = true) (w : World) :
    Calls Try.prog 6 #[.agg #[.int .i64 m0, .int .i64 m1, .int .i64 m2, .int .i64 m3, .int .i64 m4, .int .i64 m5, .int .i64 m6, .int .i64 m7]] w fun e w' => e = .returned (.bool true) ∧ Below w.heap.size w w' := by
  have i_m0 := i64_bounds w_m0
  have i_m1 := i64_bounds w_m1
  have i_m2 := i64_bounds w_m2
  have i_m3 := i64_bounds w_m3
  have i_m4 := i64_bounds w_m4
  have i_m5 := i64_bounds w_m5
  have i_m6 := i64_bounds w_m6
  have i_m7 := i64_bounds w_m7
  have C1 := Lib.hid (fun w => specBendOf_any m0 m1 m2 m3 m4 m5 m6 m7 w)
  have C2 := Lib.hid (fun w => implBendOf_any m0 m1 m2 m3 m4 m5 m6 m7 w)
  unfold BendRet at C1 C2
  generalize bendV m0 m1 m2 m3 m4 m5 m6 m7 = v at C1 C2
  generalize bendC m0 m1 m2 m3 m4 m5 m6 m7 = c at C1 C2
  clear i_m0 w_m0 i_m1 w_m1 i_m2 w_m2 i_m3 w_m3 i_m4 w_m4 i_m5 w_m5 i_m6 w_m6 i_m7 w_m7
  have e_v : (v != v) = false := by simp
  have e_c : (c != c) = false := by simp
  go_enter Try.func6, Try.ntmps6
  go_wp2_with fail
  refine (toCubic_any m0 m1 m2 m3 m4 m5 m6 m7 _).mono ?_
  rintro e wA ⟨rfl, hbwA⟩
  have gA : Below w.heap.size w wA := (by repeat' (first | with_reducible assumption | with_reducible exact Below.refl _ _ | (with_reducible refine Below.setCell ?_ ?_ _) | (with_reducible refine Below.alloc ?_ ?_ _) | (with_reducible refine Below.drew ?_) | (with_reducible refine below_dr ?_ _) | (with_reducible refine Below.trans ?_ (Below.mono (by with_reducible assumption) ?_)) | omega | (simp; done) | (simp; omega)))
  obtain ⟨hcwA, hfwA⟩ := bcell hbwA
  have hzwA := hbwA.size
  (try simp only [World.size_alloc] at hcwA hfwA hzwA)
  have sA1 : wA.cell? ⟨w.heap.size, 0, none⟩ = some (.int .i64 m0) := (hcwA _ _ (by omega)).trans (by first | assumption | (refine (cell_alloc_at _ _ ?_).trans ?_; omega; assumption) | (simp [go_sem]; done) | (simp [go_sem, *]; done))
  have sA2 : wA.cell? ⟨w.heap.size, 1, none⟩ = some (.int .i64 m1) := (hcwA _ _ (by omega)).trans (by first | assumption | (refine (cell_alloc_at _ _ ?_).trans ?_; omega; assumption) | (simp [go_sem]; done) | (simp [go_sem, *]; done))
  have sA3 : wA.cell? ⟨w.heap.size, 2, none⟩ = some (.int .i64 m2) := (hcwA _ _ (by omega)).trans (by first | assumption | (refine (cell_alloc_at _ _ ?_).trans ?_; omega; assumption) | (simp [go_sem]; done) | (simp [go_sem, *]; done))
  have sA4 : wA.cell? ⟨w.heap.size, 3, none⟩ = some (.int .i64 m3) := (hcwA _ _ (by omega)).trans (by first | assumption | (refine (cell_alloc_at _ _ ?_).trans ?_; omega; assumption) | (simp [go_sem]; done) | (simp [go_sem, *]; done))
  have sA5 : wA.cell? ⟨w.heap.size, 4, none⟩ = some (.int .i64 m4) := (hcwA _ _ (by omega)).trans (by first | assumption | (refine (cell_alloc_at _ _ ?_).trans ?_; omega; assumption) | (simp [go_sem]; done) | (simp [go_sem, *]; done))
  have sA6 : wA.cell? ⟨w.heap.size, 5, none⟩ = some (.int .i64 m5) := (hcwA _ _ (by omega)).trans (by first | assumption | (refine (cell_alloc_at _ _ ?_).trans ?_; omega; assumption) | (simp [go_sem]; done) | (simp [go_sem, *]; done))
  have sA7 : wA.cell? ⟨w.heap.size, 6, none⟩ = some (.int .i64 m6) := (hcwA _ _ (by omega)).trans (by first | assumption | (refine (cell_alloc_at _ _ ?_).trans ?_; omega; assumption) | (simp [go_sem]; done) | (simp [go_sem, *]; done))
  have sA8 : wA.cell? ⟨w.heap.size, 7, none⟩ = some (.int .i64 m7) := (hcwA _ _ (by omega)).trans (by first | assumption | (refine (cell_alloc_at _ _ ?_).trans ?_; omega; assumption) | (simp [go_sem]; done) | (simp [go_sem, *]; done))
  have sAz : w.heap.size < wA.heap.size := (by omega)
  clear hcwA hfwA hzwA
  go_wp2_with fail
  refine (C1.out _).mono ?_
  rintro e wC ⟨rfl, hbwC⟩
  have gC : Below w.heap.size w wC := (by repeat' (first | with_reducible assumption | with_reducible exact Below.refl _ _ | (with_reducible refine Below.setCell ?_ ?_ _) | (with_reducible refine Below.alloc ?_ ?_ _) | (with_reducible refine Below.drew ?_) | (with_reducible refine below_dr ?_ _) | (with_reducible refine Below.trans ?_ (Below.mono (by with_reducible assumption) ?_)) | omega | (simp; done) | (simp; omega)))
  obtain ⟨hcwC, hfwC⟩ := bcell hbwC
  have hzwC := hbwC.size
  (try simp only [World.size_alloc] at hcwC hfwC hzwC)
  have sC1 : wC.cell? ⟨w.heap.size, 0, none⟩ = some (.int .i64 m0) := (hcwC _ _ (by omega)).trans (by first | assumption | (refine (cell_alloc_at _ _ ?_).trans ?_; omega; assumption) | (simp [go_sem]; done) | (simp [go_sem, *]; done))
  have sC2 : wC.cell? ⟨w.heap.size, 1, none⟩ = some (.int .i64 m1) := (hcwC _ _ (by omega)).trans (by first | assumption | (refine (cell_alloc_at _ _ ?_).trans ?_; omega; assumption) | (simp [go_sem]; done) | (simp [go_sem, *]; done))
  have sC3 : wC.cell? ⟨w.heap.size, 2, none⟩ = some (.int .i64 m2) := (hcwC _ _ (by omega)).trans (by first | assumption | (refine (cell_alloc_at _ _ ?_).trans ?_; omega; assumption) | (simp [go_sem]; done) | (simp [go_sem, *]; done))
  have sC4 : wC.cell? ⟨w.heap.size, 3, none⟩ = some (.int .i64 m3) := (hcwC _ _ (by omega)).trans (by first | assumption | (refine (cell_alloc_at _ _ ?_).trans ?_; omega; assumption) | (simp [go_sem]; done) | (simp [go_sem, *]; done))
  have sC5 : wC.cell? ⟨w.heap.size, 4, none⟩ = some (.int .i64 m4) := (hcwC _ _ (by omega)).trans (by first | assumption | (refine (cell_alloc_at _ _ ?_).trans ?_; omega; assumption) | (simp [go_sem]; done) | (simp [go_sem, *]; done))
  have sC6 : wC.cell? ⟨w.heap.size, 5, none⟩ = some (.int .i64 m5) := (hcwC _ _ (by omega)).trans (by first | assumption | (refine (cell_alloc_at _ _ ?_).trans ?_; omega; assumption) | (simp [go_sem]; done) | (simp [go_sem, *]; done))
  have sC7 : wC.cell? ⟨w.heap.size, 6, none⟩ = some (.int .i64 m6) := (hcwC _ _ (by omega)).trans (by first | assumption | (refine (cell_alloc_at _ _ ?_).trans ?_; omega; assumption) | (simp [go_sem]; done) | (simp [go_sem, *]; done))
  have sC8 : wC.cell? ⟨w.heap.size, 7, none⟩ = some (.int .i64 m7) := (hcwC _ _ (by omega)).trans (by first | assumption | (refine (cell_alloc_at _ _ ?_).trans ?_; omega; assumption) | (simp [go_sem]; done) | (simp [go_sem, *]; done))
  have sCz : w.heap.size < wC.heap.size := (by omega)
  clear hcwC hfwC hzwC
  go_wp2_with fail
  refine (toCubic_any m0 m1 m2 m3 m4 m5 m6 m7 _).mono ?_
  rintro e wD ⟨rfl, hbwD⟩
  have gD : Below w.heap.size w wD := (by repeat' (first | with_reducible assumption | with_reducible exact Below.refl _ _ | (with_reducible refine Below.setCell ?_ ?_ _) | (with_reducible refine Below.alloc ?_ ?_ _) | (with_reducible refine Below.drew ?_) | (with_reducible refine below_dr ?_ _) | (with_reducible refine Below.trans ?_ (Below.mono (by with_reducible assumption) ?_)) | omega | (simp; done) | (simp; omega)))
  obtain ⟨hcwD, hfwD⟩ := bcell hbwD
  have hzwD := hbwD.size
  (try simp only [World.size_alloc] at hcwD hfwD hzwD)
  have sD1 : wD.cell? ⟨w.heap.size, 0, none⟩ = some (.int .i64 m0) := (hcwD _ _ (by omega)).trans (by first | assumption | (refine (cell_alloc_at _ _ ?_).trans ?_; omega; assumption) | (simp [go_sem]; done) | (simp [go_sem, *]; done))
  have sD2 : wD.cell? ⟨w.heap.size, 1, none⟩ = some (.int .i64 m1) := (hcwD _ _ (by omega)).trans (by first | assumption | (refine (cell_alloc_at _ _ ?_).trans ?_; omega; assumption) | (simp [go_sem]; done) | (simp [go_sem, *]; done))
  have sD3 : wD.cell? ⟨w.heap.size, 2, none⟩ = some (.int .i64 m2) := (hcwD _ _ (by omega)).trans (by first | assumption | (refine (cell_alloc_at _ _ ?_).trans ?_; omega; assumption) | (simp [go_sem]; done) | (simp [go_sem, *]; done))
  have sD4 : wD.cell? ⟨w.heap.size, 3, none⟩ = some (.int .i64 m3) := (hcwD _ _ (by omega)).trans (by first | assumption | (refine (cell_alloc_at _ _ ?_).trans ?_; omega; assumption) | (simp [go_sem]; done) | (simp [go_sem, *]; done))
  have sD5 : wD.cell? ⟨w.heap.size, 4, none⟩ = some (.int .i64 m4) := (hcwD _ _ (by omega)).trans (by first | assumption | (refine (cell_alloc_at _ _ ?_).trans ?_; omega; assumption) | (simp [go_sem]; done) | (simp [go_sem, *]; done))
  have sD6 : wD.cell? ⟨w.heap.size, 5, none⟩ = some (.int .i64 m5) := (hcwD _ _ (by omega)).trans (by first | assumption | (refine (cell_alloc_at _ _ ?_).trans ?_; omega; assumption) | (simp [go_sem]; done) | (simp [go_sem, *]; done))
  have sD7 : wD.cell? ⟨w.heap.size, 6, none⟩ = some (.int .i64 m6) := (hcwD _ _ (by omega)).trans (by first | assumption | (refine (cell_alloc_at _ _ ?_).trans ?_; omega; assumption) | (simp [go_sem]; done) | (simp [go_sem, *]; done))
  have sD8 : wD.cell? ⟨w.heap.size, 7, none⟩ = some (.int .i64 m7) := (hcwD _ _ (by omega)).trans (by first | assumption | (refine (cell_alloc_at _ _ ?_).trans ?_; omega; assumption) | (simp [go_sem]; done) | (simp [go_sem, *]; done))
  have sDz : w.heap.size < wD.heap.size := (by omega)
  clear hcwD hfwD hzwD
  go_wp2_with fail
  refine (C2.out _).mono ?_
  rintro e wF ⟨rfl, hbwF⟩
  go_wp2
  go_ret
  exact ⟨rfl, by repeat' (first | with_reducible assumption | with_reducible exact Below.refl _ _ | (with_reducible refine Below.setCell ?_ ?_ _) | (with_reducible refine Below.alloc ?_ ?_ _) | (with_reducible refine Below.drew ?_) | (with_reducible refine below_dr ?_ _) | (with_reducible refine Below.trans ?_ (Below.mono (by with_reducible assumption) ?_)) | omega | (simp; done) | (simp; omega))⟩
end Go.Proofs.Ytpfbgpefaegipaa
