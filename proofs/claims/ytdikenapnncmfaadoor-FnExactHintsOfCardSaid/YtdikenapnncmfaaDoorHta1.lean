/- Walks: the program's ValidHint. -/
import Derived.Test.YtdikenapnncmfaaDoorHta0
namespace Go.Proofs.YtdikenapnncmfaaDoor
open Go.RowKit
set_option linter.unusedVariables false
set_option maxHeartbeats 3200000 in
theorem implValidHint_any (c x : Int) (w : World) :
    Calls Tryd.prog 95 #[.agg #[.int .i64 c, .int .i64 x]] w fun e w' => e = .returned (.bool (hvB c x)) ∧ Below w.heap.size w w' := by
  have C := Lib.hid (fun w => form_any c x w)
  obtain ⟨L, hL⟩ : ∃ L, fmL c = L := ⟨_, rfl⟩
  obtain ⟨G, hG⟩ : ∃ G, fmG c = G := ⟨_, rfl⟩
  rw [hL, hG] at C
  generalize fmB c = B at C
  by_cases hc : 0 ≤ c ∧ c ≤ 44
  · have C2 := Lib.hid (fun w => isHintCode_yes c w hc)
    by_cases h1 : L ≤ x
    · by_cases h2 : x ≤ G
      · rw [hv_in hL hG hc h1 h2]
        clear hL hG hc
        go_enter Tryd.func95, Tryd.ntmps95
        go_wp2_with (first | (go_at_call 60; (with_reducible refine (C.out _).mono ?_); rintro e wq ⟨rfl, hq⟩; have hzq := hq.size; (try simp only [World.size_alloc] at hzq); have y0 : wq.cell? ⟨w.heap.size, 0, none⟩ = some (.int .i64 c) := (hq.cell (p := ⟨w.heap.size, 0, none⟩) (by simp)).trans (by simp [go_sem]); have y1 : wq.cell? ⟨w.heap.size, 1, none⟩ = some (.int .i64 x) := (hq.cell (p := ⟨w.heap.size, 1, none⟩) (by simp)).trans (by simp [go_sem]); have yA0 : ∀ ob, (wq.alloc ob).cell? ⟨w.heap.size, 0, none⟩ = some (.int .i64 c) := (fun ob => (cell_alloc_at _ _ (by omega)).trans y0); have yA1 : ∀ ob, (wq.alloc ob).cell? ⟨w.heap.size, 1, none⟩ = some (.int .i64 x) := (fun ob => (cell_alloc_at _ _ (by omega)).trans y1)) | (go_at_call 117; (with_reducible refine (C2.out _).mono ?_); rintro e wp ⟨rfl, hp⟩; have hzp := hp.size; (try simp only [World.size_alloc] at hzp); have yy0 : wp.cell? ⟨w.heap.size, 0, none⟩ = some (.int .i64 c) := (hp.cell (p := ⟨w.heap.size, 0, none⟩) (by simp; omega)).trans (by simp [go_sem, *]); have yy1 : wp.cell? ⟨w.heap.size, 1, none⟩ = some (.int .i64 x) := (hp.cell (p := ⟨w.heap.size, 1, none⟩) (by simp; omega)).trans (by simp [go_sem, *]); have z1 : wp.cell? ⟨wq.heap.size, 1, none⟩ = some (.int .i64 L) := (hp.cell (p := ⟨wq.heap.size, 1, none⟩) (by simp)).trans (by simp [go_sem]); have z2 : wp.cell? ⟨wq.heap.size, 2, none⟩ = some (.int .i64 G) := (hp.cell (p := ⟨wq.heap.size, 2, none⟩) (by simp)).trans (by simp [go_sem])))
        go_ret
        exact ⟨rfl, by repeat' (first | with_reducible assumption | with_reducible exact Below.refl _ _ | (with_reducible refine Below.setCell ?_ ?_ _) | (with_reducible refine Below.alloc ?_ ?_ _) | (with_reducible refine Below.drew ?_) | (with_reducible refine below_dr ?_ _) | (with_reducible refine Below.trans ?_ (Below.mono (by with_reducible assumption) ?_)) | omega | (simp; done) | (simp; omega))⟩
      · rw [hv_out hL hG (by omega)]
        have h3 : decide (x ≤ G) = false := by simp; omega
        clear hL hG hc h2
        go_enter Tryd.func95, Tryd.ntmps95
        go_wp2_with (first | (go_at_call 60; (with_reducible refine (C.out _).mono ?_); rintro e wq ⟨rfl, hq⟩; have hzq := hq.size; (try simp only [World.size_alloc] at hzq); have y0 : wq.cell? ⟨w.heap.size, 0, none⟩ = some (.int .i64 c) := (hq.cell (p := ⟨w.heap.size, 0, none⟩) (by simp)).trans (by simp [go_sem]); have y1 : wq.cell? ⟨w.heap.size, 1, none⟩ = some (.int .i64 x) := (hq.cell (p := ⟨w.heap.size, 1, none⟩) (by simp)).trans (by simp [go_sem]); have yA0 : ∀ ob, (wq.alloc ob).cell? ⟨w.heap.size, 0, none⟩ = some (.int .i64 c) := (fun ob => (cell_alloc_at _ _ (by omega)).trans y0); have yA1 : ∀ ob, (wq.alloc ob).cell? ⟨w.heap.size, 1, none⟩ = some (.int .i64 x) := (fun ob => (cell_alloc_at _ _ (by omega)).trans y1)) | (go_at_call 117; (with_reducible refine (C2.out _).mono ?_); rintro e wp ⟨rfl, hp⟩; have hzp := hp.size; (try simp only [World.size_alloc] at hzp); have yy0 : wp.cell? ⟨w.heap.size, 0, none⟩ = some (.int .i64 c) := (hp.cell (p := ⟨w.heap.size, 0, none⟩) (by simp; omega)).trans (by simp [go_sem, *]); have yy1 : wp.cell? ⟨w.heap.size, 1, none⟩ = some (.int .i64 x) := (hp.cell (p := ⟨w.heap.size, 1, none⟩) (by simp; omega)).trans (by simp [go_sem, *]); have z1 : wp.cell? ⟨wq.heap.size, 1, none⟩ = some (.int .i64 L) := (hp.cell (p := ⟨wq.heap.size, 1, none⟩) (by simp)).trans (by simp [go_sem]); have z2 : wp.cell? ⟨wq.heap.size, 2, none⟩ = some (.int .i64 G) := (hp.cell (p := ⟨wq.heap.size, 2, none⟩) (by simp)).trans (by simp [go_sem])))
        go_ret
        exact ⟨rfl, by repeat' (first | with_reducible assumption | with_reducible exact Below.refl _ _ | (with_reducible refine Below.setCell ?_ ?_ _) | (with_reducible refine Below.alloc ?_ ?_ _) | (with_reducible refine Below.drew ?_) | (with_reducible refine below_dr ?_ _) | (with_reducible refine Below.trans ?_ (Below.mono (by with_reducible assumption) ?_)) | omega | (simp; done) | (simp; omega))⟩
    · rw [hv_out hL hG (by omega)]
      have h3 : decide (L ≤ x) = false := by simp; omega
      clear hL hG hc h1
      go_enter Tryd.func95, Tryd.ntmps95
      go_wp2_with (first | (go_at_call 60; (with_reducible refine (C.out _).mono ?_); rintro e wq ⟨rfl, hq⟩; have hzq := hq.size; (try simp only [World.size_alloc] at hzq); have y0 : wq.cell? ⟨w.heap.size, 0, none⟩ = some (.int .i64 c) := (hq.cell (p := ⟨w.heap.size, 0, none⟩) (by simp)).trans (by simp [go_sem]); have y1 : wq.cell? ⟨w.heap.size, 1, none⟩ = some (.int .i64 x) := (hq.cell (p := ⟨w.heap.size, 1, none⟩) (by simp)).trans (by simp [go_sem]); have yA0 : ∀ ob, (wq.alloc ob).cell? ⟨w.heap.size, 0, none⟩ = some (.int .i64 c) := (fun ob => (cell_alloc_at _ _ (by omega)).trans y0); have yA1 : ∀ ob, (wq.alloc ob).cell? ⟨w.heap.size, 1, none⟩ = some (.int .i64 x) := (fun ob => (cell_alloc_at _ _ (by omega)).trans y1)) | (go_at_call 117; (with_reducible refine (C2.out _).mono ?_); rintro e wp ⟨rfl, hp⟩; have hzp := hp.size; (try simp only [World.size_alloc] at hzp); have yy0 : wp.cell? ⟨w.heap.size, 0, none⟩ = some (.int .i64 c) := (hp.cell (p := ⟨w.heap.size, 0, none⟩) (by simp; omega)).trans (by simp [go_sem, *]); have yy1 : wp.cell? ⟨w.heap.size, 1, none⟩ = some (.int .i64 x) := (hp.cell (p := ⟨w.heap.size, 1, none⟩) (by simp; omega)).trans (by simp [go_sem, *]); have z1 : wp.cell? ⟨wq.heap.size, 1, none⟩ = some (.int .i64 L) := (hp.cell (p := ⟨wq.heap.size, 1, none⟩) (by simp)).trans (by simp [go_sem]); have z2 : wp.cell? ⟨wq.heap.size, 2, none⟩ = some (.int .i64 G) := (hp.cell (p := ⟨wq.heap.size, 2, none⟩) (by simp)).trans (by simp [go_sem])))
      go_ret
      exact ⟨rfl, by repeat' (first | with_reducible assumption | with_reducible exact Below.refl _ _ | (with_reducible refine Below.setCell ?_ ?_ _) | (with_reducible refine Below.alloc ?_ ?_ _) | (with_reducible refine Below.drew ?_) | (with_reducible refine below_dr ?_ _) | (with_reducible refine Below.trans ?_ (Below.mono (by with_reducible assumption) ?_)) | omega | (simp; done) | (simp; omega))⟩
  · have C2 := Lib.hid (fun w => isHintCode_no c w (by omega))
    rw [hv_code (by omega)]
    clear hL hG hc
    go_enter Tryd.func95, Tryd.ntmps95
    go_wp2_with (first | (go_at_call 60; (with_reducible refine (C.out _).mono ?_); rintro e wq ⟨rfl, hq⟩; have hzq := hq.size; (try simp only [World.size_alloc] at hzq); have y0 : wq.cell? ⟨w.heap.size, 0, none⟩ = some (.int .i64 c) := (hq.cell (p := ⟨w.heap.size, 0, none⟩) (by simp)).trans (by simp [go_sem]); have y1 : wq.cell? ⟨w.heap.size, 1, none⟩ = some (.int .i64 x) := (hq.cell (p := ⟨w.heap.size, 1, none⟩) (by simp)).trans (by simp [go_sem]); have yA0 : ∀ ob, (wq.alloc ob).cell? ⟨w.heap.size, 0, none⟩ = some (.int .i64 c) := (fun ob => (cell_alloc_at _ _ (by omega)).trans y0); have yA1 : ∀ ob, (wq.alloc ob).cell? ⟨w.heap.size, 1, none⟩ = some (.int .i64 x) := (fun ob => (cell_alloc_at _ _ (by omega)).trans y1)) | (go_at_call 117; (with_reducible refine (C2.out _).mono ?_); rintro e wp ⟨rfl, hp⟩; have hzp := hp.size; (try simp only [World.size_alloc] at hzp); have yy0 : wp.cell? ⟨w.heap.size, 0, none⟩ = some (.int .i64 c) := (hp.cell (p := ⟨w.heap.size, 0, none⟩) (by simp; omega)).trans (by simp [go_sem, *]); have yy1 : wp.cell? ⟨w.heap.size, 1, none⟩ = some (.int .i64 x) := (hp.cell (p := ⟨w.heap.size, 1, none⟩) (by simp; omega)).trans (by simp [go_sem, *]); have z1 : wp.cell? ⟨wq.heap.size, 1, none⟩ = some (.int .i64 L) := (hp.cell (p := ⟨wq.heap.size, 1, none⟩) (by simp)).trans (by simp [go_sem]); have z2 : wp.cell? ⟨wq.heap.size, 2, none⟩ = some (.int .i64 G) := (hp.cell (p := ⟨wq.heap.size, 2, none⟩) (by simp)).trans (by simp [go_sem])))
    go_ret
    exact ⟨rfl, by repeat' (first | with_reducible assumption | with_reducible exact Below.refl _ _ | (with_reducible refine Below.setCell ?_ ?_ _) | (with_reducible refine Below.alloc ?_ ?_ _) | (with_reducible refine Below.drew ?_) | (with_reducible refine below_dr ?_ _) | (with_reducible refine Below.trans ?_ (Below.mono (by with_reducible assumption) ?_)) | omega | (simp; done) | (simp; omega))⟩
end Go.Proofs.YtdikenapnncmfaaDoor
