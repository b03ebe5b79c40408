/- ReverseCubic: both sides and the walk of the law: it returns true. -/
import Derived.Test.YtpfbgpefaegipaaCa
namespace Go.Proofs.Ytpfbgpefaegipaa
open Go.RowKit
set_option maxHeartbeats 800000 in
theorem specRev_any (m0 m1 m2 m3 m4 m5 m6 m7 : Int) (w : World) :
    Calls Try.prog 18 #[.agg #[.int .i64 m0, .int .i64 m1, .int .i64 m2, .int .i64 m3, .int .i64 m4, .int .i64 m5, .int .i64 m6, .int .i64 m7]] w fun e w' => e = .returned (.agg #[.int .i64 m6, .int .i64 m7, .int .i64 m4, .int .i64 m5, .int .i64 m2, .int .i64 m3, .int .i64 m0, .int .i64 m1]) ∧ Below w.heap.size w w' := by
  go_enter Try.func18, Try.ntmps18
  go_wp2
  refine bodyPost_ret (v := .agg #[.int .i64 m6, .int .i64 m7, .int .i64 m4, .int .i64 m5, .int .i64 m2, .int .i64 m3, .int .i64 m0, .int .i64 m1]) (by simp [results, Try.results18, go_sem]) rfl ⟨rfl, ?_⟩
  repeat' (first | with_reducible assumption | with_reducible exact Below.refl _ _ | (with_reducible refine Below.setCell ?_ ?_ _) | (with_reducible refine Below.alloc ?_ ?_ _) | (with_reducible refine Below.drew ?_) | (with_reducible refine below_dr ?_ _) | (with_reducible refine Below.trans ?_ (Below.mono (by with_reducible assumption) ?_)) | omega | (simp; done) | (simp; omega))
set_option maxHeartbeats 800000 in
theorem implRev_any (m0 m1 m2 m3 m4 m5 m6 m7 : Int) (w : World) :
    Calls Try.prog 19 #[.agg #[.int .i64 m0, .int .i64 m1, .int .i64 m2, .int .i64 m3, .int .i64 m4, .int .i64 m5, .int .i64 m6, .int .i64 m7]] w fun e w' => e = .returned (.agg #[.int .i64 m6, .int .i64 m7, .int .i64 m4, .int .i64 m5, .int .i64 m2, .int .i64 m3, .int .i64 m0, .int .i64 m1]) ∧ Below w.heap.size w w' := by
  go_enter Try.func19, Try.ntmps19
  go_wp2
  refine bodyPost_ret (v := .agg #[.int .i64 m6, .int .i64 m7, .int .i64 m4, .int .i64 m5, .int .i64 m2, .int .i64 m3, .int .i64 m0, .int .i64 m1]) (by simp [results, Try.results19, go_sem]) rfl ⟨rfl, ?_⟩
  repeat' (first | with_reducible assumption | with_reducible exact Below.refl _ _ | (with_reducible refine Below.setCell ?_ ?_ _) | (with_reducible refine Below.alloc ?_ ?_ _) | (with_reducible refine Below.drew ?_) | (with_reducible refine below_dr ?_ _) | (with_reducible refine Below.trans ?_ (Below.mono (by with_reducible assumption) ?_)) | omega | (simp; done) | (simp; omega))
set_option maxHeartbeats 1600000 in
theorem walk_ReverseCubic (m0 m1 m2 m3 m4 m5 m6 m7 : Int) (_w_m0 : (Lit.int .i64 m0).wf = true) (_w_m1 : (Lit.int .i64 m1).wf = true) (_w_m2 : (Lit.int .i64 m2).wf = true) (_w_m3 : (Lit.int .i64 m3).wf = true) (_w_m4 : (Lit.int .i64 m4).wf = true) (_w_m5 : (Lit.int .i64 m5).wf = true) (_w_m6 : (Lit.int .i64 m6).wf = true) (_w_m7 : (Lit.int .i64 m7).wf = true) (w : World) :
    Calls Try.prog 4 #[.agg #[.int .i64 m0, .int .i64 m1, .int .i64 m2, .int .i64 m3, .int .i64 m4, .int .i64 m5, .int .i64 m6, .int .i64 m7]] w fun e w' => e = .returned (.bool true) ∧ Below w.heap.size w w' := by
  go_enter Try.func4, Try.ntmps4
  go_wp2_with fail
  refine (toCubic_any m0 m1 m2 m3 m4 m5 m6 m7 _).mono ?_
  rintro e wA ⟨rfl, hbwA⟩
  have gA : Below w.heap.size w wA := (by repeat' (first | with_reducible assumption | with_reducible exact Below.refl _ _ | (with_reducible refine Below.setCell ?_ ?_ _) | (with_reducible refine Below.alloc ?_ ?_ _) | (with_reducible refine Below.drew ?_) | (with_reducible refine below_dr ?_ _) | (with_reducible refine Below.trans ?_ (Below.mono (by with_reducible assumption) ?_)) | omega | (simp; done) | (simp; omega)))
  obtain ⟨hcwA, hfwA⟩ := bcell hbwA
  have hzwA := hbwA.size
  (try simp only [World.size_alloc] at hcwA hfwA hzwA)
  have sA1 : wA.cell? ⟨w.heap.size, 0, none⟩ = some (.int .i64 m0) := (hcwA _ _ (by omega)).trans (by first | assumption | (refine (cell_alloc_at _ _ ?_).trans ?_; omega; assumption) | (simp [go_sem]; done) | (simp [go_sem, *]; done))
  have sA2 : wA.cell? ⟨w.heap.size, 1, none⟩ = some (.int .i64 m1) := (hcwA _ _ (by omega)).trans (by first | assumption | (refine (cell_alloc_at _ _ ?_).trans ?_; omega; assumption) | (simp [go_sem]; done) | (simp [go_sem, *]; done))
  have sA3 : wA.cell? ⟨w.heap.size, 2, none⟩ = some (.int .i64 m2) := (hcwA _ _ (by omega)).trans (by first | assumption | (refine (cell_alloc_at _ _ ?_).trans ?_; omega; assumption) | (simp [go_sem]; done) | (simp [go_sem, *]; done))
  have sA4 : wA.cell? ⟨w.heap.size, 3, none⟩ = some (.int .i64 m3) := (hcwA _ _ (by omega)).trans (by first | assumption | (refine (cell_alloc_at _ _ ?_).trans ?_; omega; assumption) | (simp [go_sem]; done) | (simp [go_sem, *]; done))
  have sA5 : wA.cell? ⟨w.heap.size, 4, none⟩ = some (.int .i64 m4) := (hcwA _ _ (by omega)).trans (by first | assumption | (refine (cell_alloc_at _ _ ?_).trans ?_; omega; assumption) | (simp [go_sem]; done) | (simp [go_sem, *]; done))
  have sA6 : wA.cell? ⟨w.heap.size, 5, none⟩ = some (.int .i64 m5) := (hcwA _ _ (by omega)).trans (by first | assumption | (refine (cell_alloc_at _ _ ?_).trans ?_; omega; assumption) | (simp [go_sem]; done) | (simp [go_sem, *]; done))
  have sA7 : wA.cell? ⟨w.heap.size, 6, none⟩ = some (.int .i64 m6) := (hcwA _ _ (by omega)).trans (by first | assumption | (refine (cell_alloc_at _ _ ?_).trans ?_; omega; assumption) | (simp [go_sem]; done) | (simp [go_sem, *]; done))
  have sA8 : wA.cell? ⟨w.heap.size, 7, none⟩ = some (.int .i64 m7) := (hcwA _ _ (by omega)).trans (by first | assumption | (refine (cell_alloc_at _ _ ?_).trans ?_; omega; assumption) | (simp [go_sem]; done) | (simp [go_sem, *]; done))
  have sAz : w.heap.size < wA.heap.size := (by omega)
  clear hcwA hfwA hzwA
  go_wp2_with fail
  refine (specRev_any m0 m1 m2 m3 m4 m5 m6 m7 _).mono ?_
  rintro e wC ⟨rfl, hbwC⟩
  have gC : Below w.heap.size w wC := (by repeat' (first | with_reducible assumption | with_reducible exact Below.refl _ _ | (with_reducible refine Below.setCell ?_ ?_ _) | (with_reducible refine Below.alloc ?_ ?_ _) | (with_reducible refine Below.drew ?_) | (with_reducible refine below_dr ?_ _) | (with_reducible refine Below.trans ?_ (Below.mono (by with_reducible assumption) ?_)) | omega | (simp; done) | (simp; omega)))
  obtain ⟨hcwC, hfwC⟩ := bcell hbwC
  have hzwC := hbwC.size
  (try simp only [World.size_alloc] at hcwC hfwC hzwC)
  have sC1 : wC.cell? ⟨w.heap.size, 0, none⟩ = some (.int .i64 m0) := (hcwC _ _ (by omega)).trans (by first | assumption | (refine (cell_alloc_at _ _ ?_).trans ?_; omega; assumption) | (simp [go_sem]; done) | (simp [go_sem, *]; done))
  have sC2 : wC.cell? ⟨w.heap.size, 1, none⟩ = some (.int .i64 m1) := (hcwC _ _ (by omega)).trans (by first | assumption | (refine (cell_alloc_at _ _ ?_).trans ?_; omega; assumption) | (simp [go_sem]; done) | (simp [go_sem, *]; done))
  have sC3 : wC.cell? ⟨w.heap.size, 2, none⟩ = some (.int .i64 m2) := (hcwC _ _ (by omega)).trans (by first | assumption | (refine (cell_alloc_at _ _ ?_).trans ?_; omega; assumption) | (simp [go_sem]; done) | (simp [go_sem, *]; done))
  have sC4 : wC.cell? ⟨w.heap.size, 3, none⟩ = some (.int .i64 m3) := (hcwC _ _ (by omega)).trans (by first | assumption | (refine (cell_alloc_at _ _ ?_).trans ?_; omega; assumption) | (simp [go_sem]; done) | (simp [go_sem, *]; done))
  have sC5 : wC.cell? ⟨w.heap.size, 4, none⟩ = some (.int .i64 m4) := (hcwC _ _ (by omega)).trans (by first | assumption | (refine (cell_alloc_at _ _ ?_).trans ?_; omega; assumption) | (simp [go_sem]; done) | (simp [go_sem, *]; done))
  have sC6 : wC.cell? ⟨w.heap.size, 5, none⟩ = some (.int .i64 m5) := (hcwC _ _ (by omega)).trans (by first | assumption | (refine (cell_alloc_at _ _ ?_).trans ?_; omega; assumption) | (simp [go_sem]; done) | (simp [go_sem, *]; done))
  have sC7 : wC.cell? ⟨w.heap.size, 6, none⟩ = some (.int .i64 m6) := (hcwC _ _ (by omega)).trans (by first | assumption | (refine (cell_alloc_at _ _ ?_).trans ?_; omega; assumption) | (simp [go_sem]; done) | (simp [go_sem, *]; done))
  have sC8 : wC.cell? ⟨w.heap.size, 7, none⟩ = some (.int .i64 m7) := (hcwC _ _ (by omega)).trans (by first | assumption | (refine (cell_alloc_at _ _ ?_).trans ?_; omega; assumption) | (simp [go_sem]; done) | (simp [go_sem, *]; done))
  have sCz : w.heap.size < wC.heap.size := (by omega)
  clear hcwC hfwC hzwC
  have at1 := AtL.new wC [.int .i64 m6, .int .i64 m7, .int .i64 m4, .int .i64 m5, .int .i64 m2, .int .i64 m3, .int .i64 m0, .int .i64 m1] 29
  go_wp2_with fail
  refine (toCubic_any m0 m1 m2 m3 m4 m5 m6 m7 _).mono ?_
  rintro e wD ⟨rfl, hbwD⟩
  have qD := hbwD.size
  simp only [World.size_alloc] at qD
  replace at1 := at1.below hbwD
  have gD : Below w.heap.size w wD := (by repeat' (first | with_reducible assumption | with_reducible exact Below.refl _ _ | (with_reducible refine Below.setCell ?_ ?_ _) | (with_reducible refine Below.alloc ?_ ?_ _) | (with_reducible refine Below.drew ?_) | (with_reducible refine below_dr ?_ _) | (with_reducible refine Below.trans ?_ (Below.mono (by with_reducible assumption) ?_)) | omega | (simp; done) | (simp; omega)))
  obtain ⟨hcwD, hfwD⟩ := bcell hbwD
  have hzwD := hbwD.size
  (try simp only [World.size_alloc] at hcwD hfwD hzwD)
  have sD1 : wD.cell? ⟨w.heap.size, 0, none⟩ = some (.int .i64 m0) := (hcwD _ _ (by omega)).trans (by first | assumption | (refine (cell_alloc_at _ _ ?_).trans ?_; omega; assumption) | (simp [go_sem]; done) | (simp [go_sem, *]; done))
  have sD2 : wD.cell? ⟨w.heap.size, 1, none⟩ = some (.int .i64 m1) := (hcwD _ _ (by omega)).trans (by first | assumption | (refine (cell_alloc_at _ _ ?_).trans ?_; omega; assumption) | (simp [go_sem]; done) | (simp [go_sem, *]; done))
  have sD3 : wD.cell? ⟨w.heap.size, 2, none⟩ = some (.int .i64 m2) := (hcwD _ _ (by omega)).trans (by first | assumption | (refine (cell_alloc_at _ _ ?_).trans ?_; omega; assumption) | (simp [go_sem]; done) | (simp [go_sem, *]; done))
  have sD4 : wD.cell? ⟨w.heap.size, 3, none⟩ = some (.int .i64 m3) := (hcwD _ _ (by omega)).trans (by first | assumption | (refine (cell_alloc_at _ _ ?_).trans ?_; omega; assumption) | (simp [go_sem]; done) | (simp [go_sem, *]; done))
  have sD5 : wD.cell? ⟨w.heap.size, 4, none⟩ = some (.int .i64 m4) := (hcwD _ _ (by omega)).trans (by first | assumption | (refine (cell_alloc_at _ _ ?_).trans ?_; omega; assumption) | (simp [go_sem]; done) | (simp [go_sem, *]; done))
  have sD6 : wD.cell? ⟨w.heap.size, 5, none⟩ = some (.int .i64 m5) := (hcwD _ _ (by omega)).trans (by first | assumption | (refine (cell_alloc_at _ _ ?_).trans ?_; omega; assumption) | (simp [go_sem]; done) | (simp [go_sem, *]; done))
  have sD7 : wD.cell? ⟨w.heap.size, 6, none⟩ = some (.int .i64 m6) := (hcwD _ _ (by omega)).trans (by first | assumption | (refine (cell_alloc_at _ _ ?_).trans ?_; omega; assumption) | (simp [go_sem]; done) | (simp [go_sem, *]; done))
  have sD8 : wD.cell? ⟨w.heap.size, 7, none⟩ = some (.int .i64 m7) := (hcwD _ _ (by omega)).trans (by first | assumption | (refine (cell_alloc_at _ _ ?_).trans ?_; omega; assumption) | (simp [go_sem]; done) | (simp [go_sem, *]; done))
  have sDz : w.heap.size < wD.heap.size := (by omega)
  clear hcwD hfwD hzwD
  go_wp2_with fail
  refine (implRev_any m0 m1 m2 m3 m4 m5 m6 m7 _).mono ?_
  rintro e wF ⟨rfl, hbwF⟩
  have qF := hbwF.size
  replace at1 := at1.below hbwF
  have gF : Below w.heap.size w wF := by repeat' (first | with_reducible assumption | with_reducible exact Below.refl _ _ | (with_reducible refine Below.setCell ?_ ?_ _) | (with_reducible refine Below.alloc ?_ ?_ _) | (with_reducible refine Below.drew ?_) | (with_reducible refine below_dr ?_ _) | (with_reducible refine Below.trans ?_ (Below.mono (by with_reducible assumption) ?_)) | omega | (simp; done) | (simp; omega))
  have qG : wC.heap.size < wF.heap.size := by omega
  have k0 := at1.cell 0 rfl
  have k1 := at1.cell 1 rfl
  have k2 := at1.cell 2 rfl
  have k3 := at1.cell 3 rfl
  have k4 := at1.cell 4 rfl
  have k5 := at1.cell 5 rfl
  have k6 := at1.cell 6 rfl
  have k7 := at1.cell 7 rfl
  clear at1
  go_wp2_with fail
  refine (eqCubic_same m6 m7 m4 m5 m2 m3 m0 m1 _).mono ?_
  rintro e wE ⟨rfl, hbwE⟩
  go_wp2
  go_ret
  exact ⟨rfl, by repeat' (first | with_reducible assumption | with_reducible exact Below.refl _ _ | (with_reducible refine Below.setCell ?_ ?_ _) | (with_reducible refine Below.alloc ?_ ?_ _) | (with_reducible refine Below.drew ?_) | (with_reducible refine below_dr ?_ _) | (with_reducible refine Below.trans ?_ (Below.mono (by with_reducible assumption) ?_)) | omega | (simp; done) | (simp; omega))⟩
end Go.Proofs.Ytpfbgpefaegipaa
