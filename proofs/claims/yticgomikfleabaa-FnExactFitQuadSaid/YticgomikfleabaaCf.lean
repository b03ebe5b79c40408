/- Walks: BendOf, both sides, and the law: it returns true. -/
import Derived.Test.YticgomikfleabaaCe
namespace Go.Proofs.Yticgomikfleabaa
open Go.RowKit
def bendV (m0 m1 m2 m3 m4 m5 m6 m7 : Int) : Int := bif okC m0 m1 m2 m3 m4 m5 m6 m7 then bendI m0 m1 m2 m3 m4 m5 m6 m7 else 0
def bendC (m0 m1 m2 m3 m4 m5 m6 m7 : Int) : Int := bif okC m0 m1 m2 m3 m4 m5 m6 m7 then 0 else 1
def BendRet (m0 m1 m2 m3 m4 m5 m6 m7 : Int) (w : World) (e : Ending) (w' : World) : Prop := e = .returned (.tuple #[.int .i64 (bendV m0 m1 m2 m3 m4 m5 m6 m7), .int .i64 (bendC m0 m1 m2 m3 m4 m5 m6 m7)]) ∧ Below w.heap.size w w'
theorem BendRet.mk {m0 m1 m2 m3 m4 m5 m6 m7 a c : Int} {w w' : World} (h1 : a = bendV m0 m1 m2 m3 m4 m5 m6 m7) (h2 : c = bendC m0 m1 m2 m3 m4 m5 m6 m7) (hb : Below w.heap.size w w') : BendRet m0 m1 m2 m3 m4 m5 m6 m7 w (.returned (.tuple #[.int .i64 a, .int .i64 c])) w' := by subst h1 h2; exact ⟨rfl, hb⟩
theorem bend_f {m0 m1 m2 m3 m4 m5 m6 m7 : Int} (h : okC m0 m1 m2 m3 m4 m5 m6 m7 = false) : 0 = bendV m0 m1 m2 m3 m4 m5 m6 m7 ∧ 1 = bendC m0 m1 m2 m3 m4 m5 m6 m7 := by simp [bendV, bendC, h]
theorem bend_t {m0 m1 m2 m3 m4 m5 m6 m7 : Int} (h : okC m0 m1 m2 m3 m4 m5 m6 m7 = true) : bendI m0 m1 m2 m3 m4 m5 m6 m7 = bendV m0 m1 m2 m3 m4 m5 m6 m7 ∧ 0 = bendC m0 m1 m2 m3 m4 m5 m6 m7 := by simp [bendV, bendC, h]
theorem okC_parts {m0 m1 m2 m3 m4 m5 m6 m7 : Int} (h : okC m0 m1 m2 m3 m4 m5 m6 m7 = true) : okB m0 m1 = true ∧ okB m2 m3 = true ∧ okB m4 m5 = true ∧ okB m6 m7 = true := by
  unfold okC at h
  revert h
  cases okB m0 m1 <;> cases okB m2 m3 <;> cases okB m4 m5 <;> cases okB m6 m7 <;> simp
set_option maxHeartbeats 3200000 in
theorem implBendOf_any (m0 m1 m2 m3 m4 m5 m6 m7 : Int) (w : World) :
    Calls Try.prog 75 #[.agg #[.int .i64 m0, .int .i64 m1, .int .i64 m2, .int .i64 m3, .int .i64 m4, .int .i64 m5, .int .i64 m6, .int .i64 m7]] w (BendRet m0 m1 m2 m3 m4 m5 m6 m7 w) := by
  rcases hv : okC m0 m1 m2 m3 m4 m5 m6 m7 with _ | _
  · have HV := Lib.hid hv
    clear hv
    go_enter Try.func75, Try.ntmps75
    go_wp2_with fail
    refine (implCubic_any m0 m1 m2 m3 m4 m5 m6 m7 _).mono ?_
    rw [HV.out]; rintro e w1 ⟨rfl, hb1⟩
    go_wp2
    refine bodyPost_ret (v := .tuple #[.int .i64 0, .int .i64 1]) (by simp [results, Try.results75, go_sem]) rfl (BendRet.mk (bend_f HV.out).1 (bend_f HV.out).2 (by repeat' (first | with_reducible assumption | with_reducible exact Below.refl _ _ | (with_reducible refine Below.setCell ?_ ?_ _) | (with_reducible refine Below.alloc ?_ ?_ _) | (with_reducible refine Below.drew ?_) | (with_reducible refine below_dr ?_ _) | (with_reducible refine Below.trans ?_ (Below.mono (by with_reducible assumption) ?_)) | omega | (simp; done) | (simp; omega))))
  · have HV := Lib.hid hv
    clear hv
    obtain ⟨h0, h1, h2, h3⟩ := okC_parts HV.out
    have H0 := Lib.hid h0
    have H1 := Lib.hid h1
    have H2 := Lib.hid h2
    have H3 := Lib.hid h3
    clear h0 h1 h2 h3
    go_enter Try.func75, Try.ntmps75
    go_wp2_with fail
    refine (implCubic_any m0 m1 m2 m3 m4 m5 m6 m7 _).mono ?_
    rw [HV.out]; rintro e w1 ⟨rfl, hbw1⟩
    have g1 : Below w.heap.size w w1 := (by repeat' (first | with_reducible assumption | with_reducible exact Below.refl _ _ | (with_reducible refine Below.setCell ?_ ?_ _) | (with_reducible refine Below.alloc ?_ ?_ _) | (with_reducible refine Below.drew ?_) | (with_reducible refine below_dr ?_ _) | (with_reducible refine Below.trans ?_ (Below.mono (by with_reducible assumption) ?_)) | omega | (simp; done) | (simp; omega)))
    obtain ⟨hcw1, hfw1⟩ := bcell hbw1
    have hzw1 := hbw1.size
    (try simp only [World.size_alloc] at hcw1 hfw1 hzw1)
    have s1 : w1.cell? ⟨w.heap.size, 0, none⟩ = some (.int .i64 m0) := (hcw1 _ _ (by omega)).trans (by first | assumption | (refine (cell_alloc_at _ _ ?_).trans ?_; omega; assumption) | (simp [go_sem]; done) | (simp [go_sem, *]; done))
    have s2 : w1.cell? ⟨w.heap.size, 1, none⟩ = some (.int .i64 m1) := (hcw1 _ _ (by omega)).trans (by first | assumption | (refine (cell_alloc_at _ _ ?_).trans ?_; omega; assumption) | (simp [go_sem]; done) | (simp [go_sem, *]; done))
    have s3 : w1.cell? ⟨w.heap.size, 2, none⟩ = some (.int .i64 m2) := (hcw1 _ _ (by omega)).trans (by first | assumption | (refine (cell_alloc_at _ _ ?_).trans ?_; omega; assumption) | (simp [go_sem]; done) | (simp [go_sem, *]; done))
    have s4 : w1.cell? ⟨w.heap.size, 3, none⟩ = some (.int .i64 m3) := (hcw1 _ _ (by omega)).trans (by first | assumption | (refine (cell_alloc_at _ _ ?_).trans ?_; omega; assumption) | (simp [go_sem]; done) | (simp [go_sem, *]; done))
    have s5 : w1.cell? ⟨w.heap.size, 4, none⟩ = some (.int .i64 m4) := (hcw1 _ _ (by omega)).trans (by first | assumption | (refine (cell_alloc_at _ _ ?_).trans ?_; omega; assumption) | (simp [go_sem]; done) | (simp [go_sem, *]; done))
    have s6 : w1.cell? ⟨w.heap.size, 5, none⟩ = some (.int .i64 m5) := (hcw1 _ _ (by omega)).trans (by first | assumption | (refine (cell_alloc_at _ _ ?_).trans ?_; omega; assumption) | (simp [go_sem]; done) | (simp [go_sem, *]; done))
    have s7 : w1.cell? ⟨w.heap.size, 6, none⟩ = some (.int .i64 m6) := (hcw1 _ _ (by omega)).trans (by first | assumption | (refine (cell_alloc_at _ _ ?_).trans ?_; omega; assumption) | (simp [go_sem]; done) | (simp [go_sem, *]; done))
    have s8 : w1.cell? ⟨w.heap.size, 7, none⟩ = some (.int .i64 m7) := (hcw1 _ _ (by omega)).trans (by first | assumption | (refine (cell_alloc_at _ _ ?_).trans ?_; omega; assumption) | (simp [go_sem]; done) | (simp [go_sem, *]; done))
    have sz : w.heap.size < w1.heap.size := (by omega)
    clear hcw1 hfw1 hzw1
    obtain ⟨z01, z02, z03, z04⟩ := okB_bounds H0.out
    obtain ⟨z11, z12, z13, z14⟩ := okB_bounds H1.out
    obtain ⟨z21, z22, z23, z24⟩ := okB_bounds H2.out
    obtain ⟨z31, z32, z33, z34⟩ := okB_bounds H3.out
    go_wp2_with fail
    go_region_held3 (fun w' => w'.cell? ⟨w.heap.size, 0, none⟩ = some (.int .i64 m0) ∧ w'.cell? ⟨w.heap.size, 1, none⟩ = some (.int .i64 m1) ∧ w'.cell? ⟨w.heap.size, 2, none⟩ = some (.int .i64 m2) ∧ w'.cell? ⟨w.heap.size, 3, none⟩ = some (.int .i64 m3) ∧ w'.cell? ⟨w.heap.size, 4, none⟩ = some (.int .i64 m4) ∧ w'.cell? ⟨w.heap.size, 5, none⟩ = some (.int .i64 m5) ∧ w'.cell? ⟨w.heap.size, 6, none⟩ = some (.int .i64 m6) ∧ w'.cell? ⟨w.heap.size, 7, none⟩ = some (.int .i64 m7) ∧ w.heap.size < w'.heap.size)
      (first | ((try dsimp only); (repeat' apply And.intro); all_goals (first | assumption | omega | (simp (disch := omega) [*]; done) | (simp; omega))) | fail)
      (first
        | (go_at_call 36; (with_reducible refine (secDiff_any _ _ _ _ _ _ _ H0.out H1.out H2.out).mono ?_); rintro e wA ⟨rfl, hbwA⟩; obtain ⟨hcwA, hfwA⟩ := bcell hbwA; have hzwA := hbwA.size; (try simp only [World.size_drew] at hcwA hfwA hzwA); (try simp only [World.size_alloc] at hcwA hfwA hzwA))
        | (go_at_call 36; (with_reducible refine (secDiff_any _ _ _ _ _ _ _ H1.out H2.out H3.out).mono ?_); rintro e wB ⟨rfl, hbwB⟩; obtain ⟨hcwB, hfwB⟩ := bcell hbwB; have hzwB := hbwB.size; (try simp only [World.size_drew] at hcwB hfwB hzwB); (try simp only [World.size_alloc] at hcwB hfwB hzwB))
        | (go_at_call 37; (with_reducible refine (implSize_any _ _ _ (by omega) (by omega)).mono ?_); rintro e wC ⟨rfl, hbwC⟩; obtain ⟨hcwC, hfwC⟩ := bcell hbwC; have hzwC := hbwC.size; (try simp only [World.size_drew] at hcwC hfwC hzwC); (try simp only [World.size_alloc] at hcwC hfwC hzwC)))
    go_wp2
    refine bodyPost_ret (v := .tuple #[.int .i64 (max (szI (m0 - 2 * m2 + m4) (m1 - 2 * m3 + m5)) (szI (m2 - 2 * m4 + m6) (m3 - 2 * m5 + m7))), .int .i64 0]) (by simp [results, Try.results75, go_sem]) rfl (BendRet.mk ((bend_is m0 m1 m2 m3 m4 m5 m6 m7).trans (bend_t HV.out).1) (bend_t HV.out).2 (by repeat' (first | with_reducible assumption | with_reducible exact Below.refl _ _ | (with_reducible refine Below.setCell ?_ ?_ _) | (with_reducible refine Below.alloc ?_ ?_ _) | (with_reducible refine Below.drew ?_) | (with_reducible refine below_dr ?_ _) | (with_reducible refine Below.trans ?_ (Below.mono (by with_reducible assumption) ?_)) | omega | (simp; done) | (simp; omega))))
end Go.Proofs.Yticgomikfleabaa
