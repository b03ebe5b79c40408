/- Walks: the laws on ScaleTo and ScaleBack. -/
import Derived.Test.YtdikenapnncmfaaDoorTsa
import Derived.Test.YtdikenapnncmfaaDoorAw
namespace Go.Proofs.YtdikenapnncmfaaDoor
open Go.RowKit
set_option linter.unusedVariables false
theorem i64m {n : Int} (h : -9223372036854775808 ≤ n ∧ n ≤ 9223372036854775807) : IntKind.i64.wrap n = n := IntWalk.i64_in _ h
set_option maxHeartbeats 800000 in
theorem scale_to_any (v s u : Int) (w : World) (h : scI v s u) :
    Calls Tryd.prog 36 #[.agg #[.int .i64 s, .int .i64 u], .int .i64 v] w fun e w' => e = .returned (.int .i64 (near (v * s * 64) (u))) ∧ Below w.heap.size w w' := by
  obtain ⟨h1, h3, h4, h5, h6⟩ := h
  have hb := sc_b1 h1 ⟨h3, h4⟩
  have C := Lib.hid (fun w => implDR_any (v * s * 64) (u) w (by omega) (by omega) (by omega))
  generalize near (v * s * 64) (u) = r at *
  have e1 := i64m (n := v * s) (by omega)
  have e2 := i64m (n := v * s * 64) (by omega)
  go_enter Tryd.func36, Tryd.ntmps36
  go_wp2_with (go_at_call 57; (with_reducible refine (C.out _).mono ?_); rintro e w1 ⟨rfl, hb1⟩; have hz1 := hb1.size; try simp only [World.size_alloc] at hz1)
  go_ret
  exact ⟨rfl, by repeat' (first | with_reducible assumption | with_reducible exact Below.refl _ _ | (with_reducible refine Below.setCell ?_ ?_ _) | (with_reducible refine Below.alloc ?_ ?_ _) | (with_reducible refine Below.drew ?_) | (with_reducible refine below_dr ?_ _) | (with_reducible refine Below.trans ?_ (Below.mono (by with_reducible assumption) ?_)) | omega | (simp; done) | (simp; omega))⟩
set_option maxHeartbeats 800000 in
theorem scale_back_any (v s u : Int) (w : World) (h : scI v s u) :
    Calls Tryd.prog 37 #[.agg #[.int .i64 s, .int .i64 u], .int .i64 v] w fun e w' => e = .returned (.int .i64 (near (v * u) (s * 64))) ∧ Below w.heap.size w w' := by
  obtain ⟨h1, h3, h4, h5, h6⟩ := h
  have hb := sc_b2 h1 ⟨h5, h6⟩
  have C := Lib.hid (fun w => implDR_any (v * u) (s * 64) w (by omega) (by omega) (by omega))
  generalize near (v * u) (s * 64) = r at *
  have e1 := i64m (n := v * u) (by omega)
  have e2 := i64m (n := s * 64) (by omega)
  go_enter Tryd.func37, Tryd.ntmps37
  go_wp2_with (go_at_call 57; (with_reducible refine (C.out _).mono ?_); rintro e w1 ⟨rfl, hb1⟩; have hz1 := hb1.size; try simp only [World.size_alloc] at hz1)
  go_ret
  exact ⟨rfl, by repeat' (first | with_reducible assumption | with_reducible exact Below.refl _ _ | (with_reducible refine Below.setCell ?_ ?_ _) | (with_reducible refine Below.alloc ?_ ?_ _) | (with_reducible refine Below.drew ?_) | (with_reducible refine below_dr ?_ _) | (with_reducible refine Below.trans ?_ (Below.mono (by with_reducible assumption) ?_)) | omega | (simp; done) | (simp; omega))⟩
set_option maxHeartbeats 1600000 in
theorem implScaleTo_any (v s u : Int) (w : World) (hv : (-9223372036854775808 ≤ v ∧ v ≤ 9223372036854775807)) (hs : (-9223372036854775808 ≤ s ∧ s ≤ 9223372036854775807)) (hu : (-9223372036854775808 ≤ u ∧ u ≤ 9223372036854775807)) :
    Calls Tryd.prog 15 #[.int .i64 v, .int .i64 s, .int .i64 u] w fun e w' => e = .returned (.tuple #[.int .i64 (scT v s u), .int .i64 (scC v s u)]) ∧ Below w.heap.size w w' := by
  clear hv hs hu
  by_cases h : scI v s u
  · rw [show scT v s u = near (v * s * 64) (u) by simp [scT, h], show scC v s u = 0 by simp [scC, h]]
    have C := Lib.hid (fun w => scale_to_any v s u w h)
    generalize near (v * s * 64) (u) = r at *
    obtain ⟨⟨h1, h2⟩, hs⟩ := h
    go_enter Tryd.func15, Tryd.ntmps15
    go_wp2_with (first | (go_at_call 36; (with_reducible refine (C.out _).mono ?_); rintro e w1 ⟨rfl, hb1⟩; have hz1 := hb1.size; try simp only [World.size_alloc] at hz1) | (go_at_call 34; first | (refine (isCoord_yes _ _ (by omega) (by omega)).mono ?_; rintro e w1 ⟨rfl, rfl⟩) | (refine (isCoord_no _ _ (by omega)).mono ?_; rintro e w1 ⟨rfl, rfl⟩)) | (go_at_call 35; (with_reducible refine (scale_isValid_yes _ _ _ (by first | assumption | exact hs)).mono ?_); rintro e wq ⟨rfl, hq⟩; have hzq := hq.size; simp only [World.size_alloc] at hzq; have y0 : wq.cell? ⟨w.heap.size, 0, none⟩ = some (.int .i64 s) := (hq.cell (p := ⟨w.heap.size, 0, none⟩) (by simp)).trans (by simp [go_sem]); have y1 : wq.cell? ⟨w.heap.size, 1, none⟩ = some (.int .i64 u) := (hq.cell (p := ⟨w.heap.size, 1, none⟩) (by simp)).trans (by simp [go_sem])))
    refine bodyPost_ret (v := .tuple #[.int .i64 (r), .int .i64 0]) (by simp [results, Tryd.results15, go_sem, *]) rfl ?_
    exact ⟨rfl, by repeat' (first | with_reducible assumption | with_reducible exact Below.refl _ _ | (with_reducible refine Below.setCell ?_ ?_ _) | (with_reducible refine Below.alloc ?_ ?_ _) | (with_reducible refine Below.drew ?_) | (with_reducible refine below_dr ?_ _) | (with_reducible refine Below.trans ?_ (Below.mono (by with_reducible assumption) ?_)) | omega | (simp; done) | (simp; omega))⟩
  · rw [show scT v s u = 0 by simp [scT, h], show scC v s u = 2 by simp [scC, h]]
    by_cases h1 : -262144 ≤ v ∧ v ≤ 262144
    · have hs : ¬ suI s u := fun q => h ⟨h1, q⟩
      obtain ⟨h1, h2⟩ := h1
      go_enter Tryd.func15, Tryd.ntmps15
      go_wp2_with (first | (go_at_call 34; first | (refine (isCoord_yes _ _ (by omega) (by omega)).mono ?_; rintro e w1 ⟨rfl, rfl⟩) | (refine (isCoord_no _ _ (by omega)).mono ?_; rintro e w1 ⟨rfl, rfl⟩)) | (go_at_call 35; (with_reducible refine (scale_isValid_no _ _ _ (by first | assumption | exact hs)).mono ?_); rintro e wq ⟨rfl, hq⟩; have hzq := hq.size; simp only [World.size_alloc] at hzq; have y0 : wq.cell? ⟨w.heap.size, 0, none⟩ = some (.int .i64 s) := (hq.cell (p := ⟨w.heap.size, 0, none⟩) (by simp)).trans (by simp [go_sem]); have y1 : wq.cell? ⟨w.heap.size, 1, none⟩ = some (.int .i64 u) := (hq.cell (p := ⟨w.heap.size, 1, none⟩) (by simp)).trans (by simp [go_sem])))
      refine bodyPost_ret (v := .tuple #[.int .i64 (0), .int .i64 2]) (by simp [results, Tryd.results15, go_sem, *]) rfl ?_
      exact ⟨rfl, by repeat' (first | with_reducible assumption | with_reducible exact Below.refl _ _ | (with_reducible refine Below.setCell ?_ ?_ _) | (with_reducible refine Below.alloc ?_ ?_ _) | (with_reducible refine Below.drew ?_) | (with_reducible refine below_dr ?_ _) | (with_reducible refine Below.trans ?_ (Below.mono (by with_reducible assumption) ?_)) | omega | (simp; done) | (simp; omega))⟩
    · have h2 : v < -262144 ∨ 262144 < v := by omega
      clear h1 h
      go_enter Tryd.func15, Tryd.ntmps15
      go_wp2_with (first | (go_at_call 34; first | (refine (isCoord_yes _ _ (by omega) (by omega)).mono ?_; rintro e w1 ⟨rfl, rfl⟩) | (refine (isCoord_no _ _ (by omega)).mono ?_; rintro e w1 ⟨rfl, rfl⟩)))
      refine bodyPost_ret (v := .tuple #[.int .i64 (0), .int .i64 2]) (by simp [results, Tryd.results15, go_sem, *]) rfl ?_
      exact ⟨rfl, by repeat' (first | with_reducible assumption | with_reducible exact Below.refl _ _ | (with_reducible refine Below.setCell ?_ ?_ _) | (with_reducible refine Below.alloc ?_ ?_ _) | (with_reducible refine Below.drew ?_) | (with_reducible refine below_dr ?_ _) | (with_reducible refine Below.trans ?_ (Below.mono (by with_reducible assumption) ?_)) | omega | (simp; done) | (simp; omega))⟩

set_option maxHeartbeats 1600000 in
theorem implScaleBack_any (v s u : Int) (w : World) (hv : (-9223372036854775808 ≤ v ∧ v ≤ 9223372036854775807)) (hs : (-9223372036854775808 ≤ s ∧ s ≤ 9223372036854775807)) (hu : (-9223372036854775808 ≤ u ∧ u ≤ 9223372036854775807)) :
    Calls Tryd.prog 16 #[.int .i64 v, .int .i64 s, .int .i64 u] w fun e w' => e = .returned (.tuple #[.int .i64 (scK v s u), .int .i64 (scC v s u)]) ∧ Below w.heap.size w w' := by
  clear hv hs hu
  by_cases h : scI v s u
  · rw [show scK v s u = near (v * u) (s * 64) by simp [scK, h], show scC v s u = 0 by simp [scC, h]]
    have C := Lib.hid (fun w => scale_back_any v s u w h)
    generalize near (v * u) (s * 64) = r at *
    obtain ⟨⟨h1, h2⟩, hs⟩ := h
    go_enter Tryd.func16, Tryd.ntmps16
    go_wp2_with (first | (go_at_call 37; (with_reducible refine (C.out _).mono ?_); rintro e w1 ⟨rfl, hb1⟩; have hz1 := hb1.size; try simp only [World.size_alloc] at hz1) | (go_at_call 34; first | (refine (isCoord_yes _ _ (by omega) (by omega)).mono ?_; rintro e w1 ⟨rfl, rfl⟩) | (refine (isCoord_no _ _ (by omega)).mono ?_; rintro e w1 ⟨rfl, rfl⟩)) | (go_at_call 35; (with_reducible refine (scale_isValid_yes _ _ _ (by first | assumption | exact hs)).mono ?_); rintro e wq ⟨rfl, hq⟩; have hzq := hq.size; simp only [World.size_alloc] at hzq; have y0 : wq.cell? ⟨w.heap.size, 0, none⟩ = some (.int .i64 s) := (hq.cell (p := ⟨w.heap.size, 0, none⟩) (by simp)).trans (by simp [go_sem]); have y1 : wq.cell? ⟨w.heap.size, 1, none⟩ = some (.int .i64 u) := (hq.cell (p := ⟨w.heap.size, 1, none⟩) (by simp)).trans (by simp [go_sem])))
    refine bodyPost_ret (v := .tuple #[.int .i64 (r), .int .i64 0]) (by simp [results, Tryd.results16, go_sem, *]) rfl ?_
    exact ⟨rfl, by repeat' (first | with_reducible assumption | with_reducible exact Below.refl _ _ | (with_reducible refine Below.setCell ?_ ?_ _) | (with_reducible refine Below.alloc ?_ ?_ _) | (with_reducible refine Below.drew ?_) | (with_reducible refine below_dr ?_ _) | (with_reducible refine Below.trans ?_ (Below.mono (by with_reducible assumption) ?_)) | omega | (simp; done) | (simp; omega))⟩
  · rw [show scK v s u = 0 by simp [scK, h], show scC v s u = 2 by simp [scC, h]]
    by_cases h1 : -262144 ≤ v ∧ v ≤ 262144
    · have hs : ¬ suI s u := fun q => h ⟨h1, q⟩
      obtain ⟨h1, h2⟩ := h1
      go_enter Tryd.func16, Tryd.ntmps16
      go_wp2_with (first | (go_at_call 34; first | (refine (isCoord_yes _ _ (by omega) (by omega)).mono ?_; rintro e w1 ⟨rfl, rfl⟩) | (refine (isCoord_no _ _ (by omega)).mono ?_; rintro e w1 ⟨rfl, rfl⟩)) | (go_at_call 35; (with_reducible refine (scale_isValid_no _ _ _ (by first | assumption | exact hs)).mono ?_); rintro e wq ⟨rfl, hq⟩; have hzq := hq.size; simp only [World.size_alloc] at hzq; have y0 : wq.cell? ⟨w.heap.size, 0, none⟩ = some (.int .i64 s) := (hq.cell (p := ⟨w.heap.size, 0, none⟩) (by simp)).trans (by simp [go_sem]); have y1 : wq.cell? ⟨w.heap.size, 1, none⟩ = some (.int .i64 u) := (hq.cell (p := ⟨w.heap.size, 1, none⟩) (by simp)).trans (by simp [go_sem])))
      refine bodyPost_ret (v := .tuple #[.int .i64 (0), .int .i64 2]) (by simp [results, Tryd.results16, go_sem, *]) rfl ?_
      exact ⟨rfl, by repeat' (first | with_reducible assumption | with_reducible exact Below.refl _ _ | (with_reducible refine Below.setCell ?_ ?_ _) | (with_reducible refine Below.alloc ?_ ?_ _) | (with_reducible refine Below.drew ?_) | (with_reducible refine below_dr ?_ _) | (with_reducible refine Below.trans ?_ (Below.mono (by with_reducible assumption) ?_)) | omega | (simp; done) | (simp; omega))⟩
    · have h2 : v < -262144 ∨ 262144 < v := by omega
      clear h1 h
      go_enter Tryd.func16, Tryd.ntmps16
      go_wp2_with (first | (go_at_call 34; first | (refine (isCoord_yes _ _ (by omega) (by omega)).mono ?_; rintro e w1 ⟨rfl, rfl⟩) | (refine (isCoord_no _ _ (by omega)).mono ?_; rintro e w1 ⟨rfl, rfl⟩)))
      refine bodyPost_ret (v := .tuple #[.int .i64 (0), .int .i64 2]) (by simp [results, Tryd.results16, go_sem, *]) rfl ?_
      exact ⟨rfl, by repeat' (first | with_reducible assumption | with_reducible exact Below.refl _ _ | (with_reducible refine Below.setCell ?_ ?_ _) | (with_reducible refine Below.alloc ?_ ?_ _) | (with_reducible refine Below.drew ?_) | (with_reducible refine below_dr ?_ _) | (with_reducible refine Below.trans ?_ (Below.mono (by with_reducible assumption) ?_)) | omega | (simp; done) | (simp; omega))⟩

end Go.Proofs.YtdikenapnncmfaaDoor
