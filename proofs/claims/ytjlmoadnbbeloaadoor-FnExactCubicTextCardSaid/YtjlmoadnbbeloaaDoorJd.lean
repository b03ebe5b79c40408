/- The walk of the law on CubicText: it returns true. -/
import Derived.Test.YtjlmoadnbbeloaaDoorJc
namespace Go.Proofs.YtjlmoadnbbeloaaDoor
open Go.RowKit
set_option maxHeartbeats 4000000 in
theorem walk_CubicText (m0 m1 m2 m3 m4 m5 m6 m7 : Int) (w_m0 : (Lit.int .i64 m0).wf = true) (w_m1 : (Lit.int .i64 m1).wf = true) (w_m2 : (Lit.int .i64 m2).wf = true) (w_m3 : (Lit.int .i64 m3).wf = true) (w_m4 : (Lit.int .i64 m4).wf = true) (w_m5 : (Lit.int .i64 m5).wf = true) (w_m6 : (Lit.int .i64 m6).wf = true) (w_m7 : (Lit.int .i64 m7).wf = true) (w : World) (ht : Lib.TabIs Tryd.prog w "internal/strconv.uint64pow10" .u64 Lib.pow10Tab) :
    Calls Tryd.prog 6 #[.agg #[.int .i64 m0, .int .i64 m1, .int .i64 m2, .int .i64 m3, .int .i64 m4, .int .i64 m5, .int .i64 m6, .int .i64 m7]] w fun e w' => e = .returned (.bool true) ∧ Below w.heap.size w w' := by
  have i_m0 := i64_bounds w_m0
  have i_m1 := i64_bounds w_m1
  have i_m2 := i64_bounds w_m2
  have i_m3 := i64_bounds w_m3
  have i_m4 := i64_bounds w_m4
  have i_m5 := i64_bounds w_m5
  have i_m6 := i64_bounds w_m6
  have i_m7 := i64_bounds w_m7
  have C1 := Lib.hid (fun w => specCubicText_any m0 m1 m2 m3 m4 m5 m6 m7 w)
  have C2 := Lib.hid (fun w1 (hb : Below w.heap.size w w1) => implCubicText_any m0 m1 m2 m3 m4 m5 m6 m7 w1 (Joins.tab_stays gPow ht hb (Nat.le_refl _)))
  generalize cubT m0 m1 m2 m3 m4 m5 m6 m7 = v at C1 C2
  clear i_m0 w_m0 i_m1 w_m1 i_m2 w_m2 i_m3 w_m3 i_m4 w_m4 i_m5 w_m5 i_m6 w_m6 i_m7 w_m7 ht
  have e_v : (v.toList == v.toList) = true := by simp
  have d_v : (v.toList != v.toList) = false := by simp
  go_enter Tryd.func6, Tryd.ntmps6
  go_wp2_with fail
  refine (toCubic_any m0 m1 m2 m3 m4 m5 m6 m7 _).mono ?_
  rintro e wA ⟨rfl, hbwA⟩
  have gA : Below w.heap.size w wA := (by repeat' (first | with_reducible assumption | with_reducible exact Below.refl _ _ | (with_reducible refine Below.setCell ?_ ?_ _) | (with_reducible refine Below.alloc ?_ ?_ _) | (with_reducible refine Below.drew ?_) | (with_reducible refine below_dr ?_ _) | (with_reducible refine Below.trans ?_ (Below.mono (by with_reducible assumption) ?_)) | omega | (simp; done) | (simp; omega)))
  obtain ⟨hcwA, hfwA⟩ := bcell hbwA
  have hzwA := hbwA.size
  (try simp only [World.size_alloc] at hcwA hfwA hzwA)
  have sA1 : wA.cell? ⟨w.heap.size, 0, none⟩ = some (.int .i64 m0) := (hcwA _ _ (by omega)).trans (by first | assumption | (refine (cell_alloc_at _ _ ?_).trans ?_; omega; assumption) | (simp [go_sem]; done) | (simp [go_sem, *]; done))
  have sA2 : wA.cell? ⟨w.heap.size, 1, none⟩ = some (.int .i64 m1) := (hcwA _ _ (by omega)).trans (by first | assumption | (refine (cell_alloc_at _ _ ?_).trans ?_; omega; assumption) | (simp [go_sem]; done) | (simp [go_sem, *]; done))
  have sA3 : wA.cell? ⟨w.heap.size, 2, none⟩ = some (.int .i64 m2) := (hcwA _ _ (by omega)).trans (by first | assumption | (refine (cell_alloc_at _ _ ?_).trans ?_; omega; assumption) | (simp [go_sem]; done) | (simp [go_sem, *]; done))
  have sA4 : wA.cell? ⟨w.heap.size, 3, none⟩ = some (.int .i64 m3) := (hcwA _ _ (by omega)).trans (by first | assumption | (refine (cell_alloc_at _ _ ?_).trans ?_; omega; assumption) | (simp [go_sem]; done) | (simp [go_sem, *]; done))
  have sA5 : wA.cell? ⟨w.heap.size, 4, none⟩ = some (.int .i64 m4) := (hcwA _ _ (by omega)).trans (by first | assumption | (refine (cell_alloc_at _ _ ?_).trans ?_; omega; assumption) | (simp [go_sem]; done) | (simp [go_sem, *]; done))
  have sA6 : wA.cell? ⟨w.heap.size, 5, none⟩ = some (.int .i64 m5) := (hcwA _ _ (by omega)).trans (by first | assumption | (refine (cell_alloc_at _ _ ?_).trans ?_; omega; assumption) | (simp [go_sem]; done) | (simp [go_sem, *]; done))
  have sA7 : wA.cell? ⟨w.heap.size, 6, none⟩ = some (.int .i64 m6) := (hcwA _ _ (by omega)).trans (by first | assumption | (refine (cell_alloc_at _ _ ?_).trans ?_; omega; assumption) | (simp [go_sem]; done) | (simp [go_sem, *]; done))
  have sA8 : wA.cell? ⟨w.heap.size, 7, none⟩ = some (.int .i64 m7) := (hcwA _ _ (by omega)).trans (by first | assumption | (refine (cell_alloc_at _ _ ?_).trans ?_; omega; assumption) | (simp [go_sem]; done) | (simp [go_sem, *]; done))
  have sAz : w.heap.size < wA.heap.size := (by omega)
  clear hcwA hfwA hzwA
  go_wp2_with fail
  refine (C1.out _).mono ?_
  rintro e wC ⟨rfl, hbwC⟩
  have gC : Below w.heap.size w wC := (by repeat' (first | with_reducible assumption | with_reducible exact Below.refl _ _ | (with_reducible refine Below.setCell ?_ ?_ _) | (with_reducible refine Below.alloc ?_ ?_ _) | (with_reducible refine Below.drew ?_) | (with_reducible refine below_dr ?_ _) | (with_reducible refine Below.trans ?_ (Below.mono (by with_reducible assumption) ?_)) | omega | (simp; done) | (simp; omega)))
  obtain ⟨hcwC, hfwC⟩ := bcell hbwC
  have hzwC := hbwC.size
  (try simp only [World.size_alloc] at hcwC hfwC hzwC)
  have sC1 : wC.cell? ⟨w.heap.size, 0, none⟩ = some (.int .i64 m0) := (hcwC _ _ (by omega)).trans (by first | assumption | (refine (cell_alloc_at _ _ ?_).trans ?_; omega; assumption) | (simp [go_sem]; done) | (simp [go_sem, *]; done))
  have sC2 : wC.cell? ⟨w.heap.size, 1, none⟩ = some (.int .i64 m1) := (hcwC _ _ (by omega)).trans (by first | assumption | (refine (cell_alloc_at _ _ ?_).trans ?_; omega; assumption) | (simp [go_sem]; done) | (simp [go_sem, *]; done))
  have sC3 : wC.cell? ⟨w.heap.size, 2, none⟩ = some (.int .i64 m2) := (hcwC _ _ (by omega)).trans (by first | assumption | (refine (cell_alloc_at _ _ ?_).trans ?_; omega; assumption) | (simp [go_sem]; done) | (simp [go_sem, *]; done))
  have sC4 : wC.cell? ⟨w.heap.size, 3, none⟩ = some (.int .i64 m3) := (hcwC _ _ (by omega)).trans (by first | assumption | (refine (cell_alloc_at _ _ ?_).trans ?_; omega; assumption) | (simp [go_sem]; done) | (simp [go_sem, *]; done))
  have sC5 : wC.cell? ⟨w.heap.size, 4, none⟩ = some (.int .i64 m4) := (hcwC _ _ (by omega)).trans (by first | assumption | (refine (cell_alloc_at _ _ ?_).trans ?_; omega; assumption) | (simp [go_sem]; done) | (simp [go_sem, *]; done))
  have sC6 : wC.cell? ⟨w.heap.size, 5, none⟩ = some (.int .i64 m5) := (hcwC _ _ (by omega)).trans (by first | assumption | (refine (cell_alloc_at _ _ ?_).trans ?_; omega; assumption) | (simp [go_sem]; done) | (simp [go_sem, *]; done))
  have sC7 : wC.cell? ⟨w.heap.size, 6, none⟩ = some (.int .i64 m6) := (hcwC _ _ (by omega)).trans (by first | assumption | (refine (cell_alloc_at _ _ ?_).trans ?_; omega; assumption) | (simp [go_sem]; done) | (simp [go_sem, *]; done))
  have sC8 : wC.cell? ⟨w.heap.size, 7, none⟩ = some (.int .i64 m7) := (hcwC _ _ (by omega)).trans (by first | assumption | (refine (cell_alloc_at _ _ ?_).trans ?_; omega; assumption) | (simp [go_sem]; done) | (simp [go_sem, *]; done))
  have sCz : w.heap.size < wC.heap.size := (by omega)
  clear hcwC hfwC hzwC
  go_wp2_with fail
  refine (toCubic_any m0 m1 m2 m3 m4 m5 m6 m7 _).mono ?_
  rintro e wD ⟨rfl, hbwD⟩
  have gD : Below w.heap.size w wD := (by repeat' (first | with_reducible assumption | with_reducible exact Below.refl _ _ | (with_reducible refine Below.setCell ?_ ?_ _) | (with_reducible refine Below.alloc ?_ ?_ _) | (with_reducible refine Below.drew ?_) | (with_reducible refine below_dr ?_ _) | (with_reducible refine Below.trans ?_ (Below.mono (by with_reducible assumption) ?_)) | omega | (simp; done) | (simp; omega)))
  obtain ⟨hcwD, hfwD⟩ := bcell hbwD
  have hzwD := hbwD.size
  (try simp only [World.size_alloc] at hcwD hfwD hzwD)
  have sD1 : wD.cell? ⟨w.heap.size, 0, none⟩ = some (.int .i64 m0) := (hcwD _ _ (by omega)).trans (by first | assumption | (refine (cell_alloc_at _ _ ?_).trans ?_; omega; assumption) | (simp [go_sem]; done) | (simp [go_sem, *]; done))
  have sD2 : wD.cell? ⟨w.heap.size, 1, none⟩ = some (.int .i64 m1) := (hcwD _ _ (by omega)).trans (by first | assumption | (refine (cell_alloc_at _ _ ?_).trans ?_; omega; assumption) | (simp [go_sem]; done) | (simp [go_sem, *]; done))
  have sD3 : wD.cell? ⟨w.heap.size, 2, none⟩ = some (.int .i64 m2) := (hcwD _ _ (by omega)).trans (by first | assumption | (refine (cell_alloc_at _ _ ?_).trans ?_; omega; assumption) | (simp [go_sem]; done) | (simp [go_sem, *]; done))
  have sD4 : wD.cell? ⟨w.heap.size, 3, none⟩ = some (.int .i64 m3) := (hcwD _ _ (by omega)).trans (by first | assumption | (refine (cell_alloc_at _ _ ?_).trans ?_; omega; assumption) | (simp [go_sem]; done) | (simp [go_sem, *]; done))
  have sD5 : wD.cell? ⟨w.heap.size, 4, none⟩ = some (.int .i64 m4) := (hcwD _ _ (by omega)).trans (by first | assumption | (refine (cell_alloc_at _ _ ?_).trans ?_; omega; assumption) | (simp [go_sem]; done) | (simp [go_sem, *]; done))
  have sD6 : wD.cell? ⟨w.heap.size, 5, none⟩ = some (.int .i64 m5) := (hcwD _ _ (by omega)).trans (by first | assumption | (refine (cell_alloc_at _ _ ?_).trans ?_; omega; assumption) | (simp [go_sem]; done) | (simp [go_sem, *]; done))
  have sD7 : wD.cell? ⟨w.heap.size, 6, none⟩ = some (.int .i64 m6) := (hcwD _ _ (by omega)).trans (by first | assumption | (refine (cell_alloc_at _ _ ?_).trans ?_; omega; assumption) | (simp [go_sem]; done) | (simp [go_sem, *]; done))
  have sD8 : wD.cell? ⟨w.heap.size, 7, none⟩ = some (.int .i64 m7) := (hcwD _ _ (by omega)).trans (by first | assumption | (refine (cell_alloc_at _ _ ?_).trans ?_; omega; assumption) | (simp [go_sem]; done) | (simp [go_sem, *]; done))
  have sDz : w.heap.size < wD.heap.size := (by omega)
  clear hcwD hfwD hzwD
  go_wp2_with fail
  refine (C2.out _ (by repeat' (first | with_reducible assumption | with_reducible exact Below.refl _ _ | (with_reducible refine Below.setCell ?_ ?_ _) | (with_reducible refine Below.alloc ?_ ?_ _) | (with_reducible refine Below.drew ?_) | (with_reducible refine below_dr ?_ _) | (with_reducible refine Below.trans ?_ (Below.mono (by with_reducible assumption) ?_)) | omega | (simp; done) | (simp; omega)))).mono ?_
  rintro e wF ⟨rfl, hbwF⟩
  go_wp2
  go_ret
  exact ⟨rfl, by repeat' (first | with_reducible assumption | with_reducible exact Below.refl _ _ | (with_reducible refine Below.setCell ?_ ?_ _) | (with_reducible refine Below.alloc ?_ ?_ _) | (with_reducible refine Below.drew ?_) | (with_reducible refine below_dr ?_ _) | (with_reducible refine Below.trans ?_ (Below.mono (by with_reducible assumption) ?_)) | omega | (simp; done) | (simp; omega))⟩
end Go.Proofs.YtjlmoadnbbeloaaDoor
