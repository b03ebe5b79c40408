/- Walks: the program's ValidHint; the law. -/
import Derived.Test.YtofaolbgjhpopaaHta0
namespace Go.Proofs.Ytofaolbgjhpopaa
open Go.RowKit
set_option linter.unusedVariables false
set_option maxHeartbeats 3200000 in
theorem implValidHint_any (c x : Int) (w : World) :
    Calls Try.prog 21 #[.agg #[.int .i64 c, .int .i64 x]] w fun e w' => e = .returned (.bool (hvB c x)) ∧ Below w.heap.size w w' := by
  have C := Lib.hid (fun w => form_any c x w)
  obtain ⟨L, hL⟩ : ∃ L, fmL c = L := ⟨_, rfl⟩
  obtain ⟨G, hG⟩ : ∃ G, fmG c = G := ⟨_, rfl⟩
  rw [hL, hG] at C
  generalize fmB c = B at C
  by_cases hc : 0 ≤ c ∧ c ≤ 44
  · have C2 := Lib.hid (fun w => isHintCode_yes c w hc)
    by_cases h1 : L ≤ x
    · by_cases h2 : x ≤ G
      · rw [hv_in hL hG hc h1 h2]
        clear hL hG hc
        go_enter Try.func21, Try.ntmps21
        go_wp2_with (first | (go_at_call 52; (with_reducible refine (C.out _).mono ?_); rintro e wq ⟨rfl, hq⟩; have hzq := hq.size; (try simp only [World.size_alloc] at hzq); have y0 : wq.cell? ⟨w.heap.size, 0, none⟩ = some (.int .i64 c) := (hq.cell (p := ⟨w.heap.size, 0, none⟩) (by simp)).trans (by simp [go_sem]); have y1 : wq.cell? ⟨w.heap.size, 1, none⟩ = some (.int .i64 x) := (hq.cell (p := ⟨w.heap.size, 1, none⟩) (by simp)).trans (by simp [go_sem]); have yA0 : ∀ ob, (wq.alloc ob).cell? ⟨w.heap.size, 0, none⟩ = some (.int .i64 c) := (fun ob => (cell_alloc_at _ _ (by omega)).trans y0); have yA1 : ∀ ob, (wq.alloc ob).cell? ⟨w.heap.size, 1, none⟩ = some (.int .i64 x) := (fun ob => (cell_alloc_at _ _ (by omega)).trans y1)) | (go_at_call 53; (with_reducible refine (C2.out _).mono ?_); rintro e wp ⟨rfl, hp⟩; have hzp := hp.size; (try simp only [World.size_alloc] at hzp); have yy0 : wp.cell? ⟨w.heap.size, 0, none⟩ = some (.int .i64 c) := (hp.cell (p := ⟨w.heap.size, 0, none⟩) (by simp; omega)).trans (by simp [go_sem, *]); have yy1 : wp.cell? ⟨w.heap.size, 1, none⟩ = some (.int .i64 x) := (hp.cell (p := ⟨w.heap.size, 1, none⟩) (by simp; omega)).trans (by simp [go_sem, *]); have z1 : wp.cell? ⟨wq.heap.size, 1, none⟩ = some (.int .i64 L) := (hp.cell (p := ⟨wq.heap.size, 1, none⟩) (by simp)).trans (by simp [go_sem]); have z2 : wp.cell? ⟨wq.heap.size, 2, none⟩ = some (.int .i64 G) := (hp.cell (p := ⟨wq.heap.size, 2, none⟩) (by simp)).trans (by simp [go_sem])))
        go_ret
        exact ⟨rfl, by repeat' (first | with_reducible assumption | with_reducible exact Below.refl _ _ | (with_reducible refine Below.setCell ?_ ?_ _) | (with_reducible refine Below.alloc ?_ ?_ _) | (with_reducible refine Below.drew ?_) | (with_reducible refine below_dr ?_ _) | (with_reducible refine Below.trans ?_ (Below.mono (by with_reducible assumption) ?_)) | omega | (simp; done) | (simp; omega))⟩
      · rw [hv_out hL hG (by omega)]
        have h3 : decide (x ≤ G) = false := by simp; omega
        clear hL hG hc h2
        go_enter Try.func21, Try.ntmps21
        go_wp2_with (first | (go_at_call 52; (with_reducible refine (C.out _).mono ?_); rintro e wq ⟨rfl, hq⟩; have hzq := hq.size; (try simp only [World.size_alloc] at hzq); have y0 : wq.cell? ⟨w.heap.size, 0, none⟩ = some (.int .i64 c) := (hq.cell (p := ⟨w.heap.size, 0, none⟩) (by simp)).trans (by simp [go_sem]); have y1 : wq.cell? ⟨w.heap.size, 1, none⟩ = some (.int .i64 x) := (hq.cell (p := ⟨w.heap.size, 1, none⟩) (by simp)).trans (by simp [go_sem]); have yA0 : ∀ ob, (wq.alloc ob).cell? ⟨w.heap.size, 0, none⟩ = some (.int .i64 c) := (fun ob => (cell_alloc_at _ _ (by omega)).trans y0); have yA1 : ∀ ob, (wq.alloc ob).cell? ⟨w.heap.size, 1, none⟩ = some (.int .i64 x) := (fun ob => (cell_alloc_at _ _ (by omega)).trans y1)) | (go_at_call 53; (with_reducible refine (C2.out _).mono ?_); rintro e wp ⟨rfl, hp⟩; have hzp := hp.size; (try simp only [World.size_alloc] at hzp); have yy0 : wp.cell? ⟨w.heap.size, 0, none⟩ = some (.int .i64 c) := (hp.cell (p := ⟨w.heap.size, 0, none⟩) (by simp; omega)).trans (by simp [go_sem, *]); have yy1 : wp.cell? ⟨w.heap.size, 1, none⟩ = some (.int .i64 x) := (hp.cell (p := ⟨w.heap.size, 1, none⟩) (by simp; omega)).trans (by simp [go_sem, *]); have z1 : wp.cell? ⟨wq.heap.size, 1, none⟩ = some (.int .i64 L) := (hp.cell (p := ⟨wq.heap.size, 1, none⟩) (by simp)).trans (by simp [go_sem]); have z2 : wp.cell? ⟨wq.heap.size, 2, none⟩ = some (.int .i64 G) := (hp.cell (p := ⟨wq.heap.size, 2, none⟩) (by simp)).trans (by simp [go_sem])))
        go_ret
        exact ⟨rfl, by repeat' (first | with_reducible assumption | with_reducible exact Below.refl _ _ | (with_reducible refine Below.setCell ?_ ?_ _) | (with_reducible refine Below.alloc ?_ ?_ _) | (with_reducible refine Below.drew ?_) | (with_reducible refine below_dr ?_ _) | (with_reducible refine Below.trans ?_ (Below.mono (by with_reducible assumption) ?_)) | omega | (simp; done) | (simp; omega))⟩
    · rw [hv_out hL hG (by omega)]
      have h3 : decide (L ≤ x) = false := by simp; omega
      clear hL hG hc h1
      go_enter Try.func21, Try.ntmps21
      go_wp2_with (first | (go_at_call 52; (with_reducible refine (C.out _).mono ?_); rintro e wq ⟨rfl, hq⟩; have hzq := hq.size; (try simp only [World.size_alloc] at hzq); have y0 : wq.cell? ⟨w.heap.size, 0, none⟩ = some (.int .i64 c) := (hq.cell (p := ⟨w.heap.size, 0, none⟩) (by simp)).trans (by simp [go_sem]); have y1 : wq.cell? ⟨w.heap.size, 1, none⟩ = some (.int .i64 x) := (hq.cell (p := ⟨w.heap.size, 1, none⟩) (by simp)).trans (by simp [go_sem]); have yA0 : ∀ ob, (wq.alloc ob).cell? ⟨w.heap.size, 0, none⟩ = some (.int .i64 c) := (fun ob => (cell_alloc_at _ _ (by omega)).trans y0); have yA1 : ∀ ob, (wq.alloc ob).cell? ⟨w.heap.size, 1, none⟩ = some (.int .i64 x) := (fun ob => (cell_alloc_at _ _ (by omega)).trans y1)) | (go_at_call 53; (with_reducible refine (C2.out _).mono ?_); rintro e wp ⟨rfl, hp⟩; have hzp := hp.size; (try simp only [World.size_alloc] at hzp); have yy0 : wp.cell? ⟨w.heap.size, 0, none⟩ = some (.int .i64 c) := (hp.cell (p := ⟨w.heap.size, 0, none⟩) (by simp; omega)).trans (by simp [go_sem, *]); have yy1 : wp.cell? ⟨w.heap.size, 1, none⟩ = some (.int .i64 x) := (hp.cell (p := ⟨w.heap.size, 1, none⟩) (by simp; omega)).trans (by simp [go_sem, *]); have z1 : wp.cell? ⟨wq.heap.size, 1, none⟩ = some (.int .i64 L) := (hp.cell (p := ⟨wq.heap.size, 1, none⟩) (by simp)).trans (by simp [go_sem]); have z2 : wp.cell? ⟨wq.heap.size, 2, none⟩ = some (.int .i64 G) := (hp.cell (p := ⟨wq.heap.size, 2, none⟩) (by simp)).trans (by simp [go_sem])))
      go_ret
      exact ⟨rfl, by repeat' (first | with_reducible assumption | with_reducible exact Below.refl _ _ | (with_reducible refine Below.setCell ?_ ?_ _) | (with_reducible refine Below.alloc ?_ ?_ _) | (with_reducible refine Below.drew ?_) | (with_reducible refine below_dr ?_ _) | (with_reducible refine Below.trans ?_ (Below.mono (by with_reducible assumption) ?_)) | omega | (simp; done) | (simp; omega))⟩
  · have C2 := Lib.hid (fun w => isHintCode_no c w (by omega))
    rw [hv_code (by omega)]
    clear hL hG hc
    go_enter Try.func21, Try.ntmps21
    go_wp2_with (first | (go_at_call 52; (with_reducible refine (C.out _).mono ?_); rintro e wq ⟨rfl, hq⟩; have hzq := hq.size; (try simp only [World.size_alloc] at hzq); have y0 : wq.cell? ⟨w.heap.size, 0, none⟩ = some (.int .i64 c) := (hq.cell (p := ⟨w.heap.size, 0, none⟩) (by simp)).trans (by simp [go_sem]); have y1 : wq.cell? ⟨w.heap.size, 1, none⟩ = some (.int .i64 x) := (hq.cell (p := ⟨w.heap.size, 1, none⟩) (by simp)).trans (by simp [go_sem]); have yA0 : ∀ ob, (wq.alloc ob).cell? ⟨w.heap.size, 0, none⟩ = some (.int .i64 c) := (fun ob => (cell_alloc_at _ _ (by omega)).trans y0); have yA1 : ∀ ob, (wq.alloc ob).cell? ⟨w.heap.size, 1, none⟩ = some (.int .i64 x) := (fun ob => (cell_alloc_at _ _ (by omega)).trans y1)) | (go_at_call 53; (with_reducible refine (C2.out _).mono ?_); rintro e wp ⟨rfl, hp⟩; have hzp := hp.size; (try simp only [World.size_alloc] at hzp); have yy0 : wp.cell? ⟨w.heap.size, 0, none⟩ = some (.int .i64 c) := (hp.cell (p := ⟨w.heap.size, 0, none⟩) (by simp; omega)).trans (by simp [go_sem, *]); have yy1 : wp.cell? ⟨w.heap.size, 1, none⟩ = some (.int .i64 x) := (hp.cell (p := ⟨w.heap.size, 1, none⟩) (by simp; omega)).trans (by simp [go_sem, *]); have z1 : wp.cell? ⟨wq.heap.size, 1, none⟩ = some (.int .i64 L) := (hp.cell (p := ⟨wq.heap.size, 1, none⟩) (by simp)).trans (by simp [go_sem]); have z2 : wp.cell? ⟨wq.heap.size, 2, none⟩ = some (.int .i64 G) := (hp.cell (p := ⟨wq.heap.size, 2, none⟩) (by simp)).trans (by simp [go_sem])))
    go_ret
    exact ⟨rfl, by repeat' (first | with_reducible assumption | with_reducible exact Below.refl _ _ | (with_reducible refine Below.setCell ?_ ?_ _) | (with_reducible refine Below.alloc ?_ ?_ _) | (with_reducible refine Below.drew ?_) | (with_reducible refine below_dr ?_ _) | (with_reducible refine Below.trans ?_ (Below.mono (by with_reducible assumption) ?_)) | omega | (simp; done) | (simp; omega))⟩
set_option maxHeartbeats 800000 in
theorem toHint_any (x y : Int) (w : World) :
    Calls Try.prog 20 #[.agg #[.int .i64 x, .int .i64 y]] w fun e w' => e = .returned (.agg #[.int .i64 x, .int .i64 y]) ∧ Below w.heap.size w w' := by
  go_enter Try.func20, Try.ntmps20
  go_wp2
  refine bodyPost_ret (v := .agg #[.int .i64 x, .int .i64 y]) (by simp [results, Try.results20, go_sem]) rfl ⟨rfl, ?_⟩
  exact (((Below.refl _ _).alloc (Nat.le_refl _) _).alloc (by simp) _).alloc (by simp; omega) _
set_option maxHeartbeats 4000000 in
theorem walk_ValidHint (ax ay : Int) (w_ax : (Lit.int .i64 ax).wf = true) (w_ay : (Lit.int .i64 ay).wf = true) (w : World) :
    Calls Try.prog 7 #[.agg #[.int .i64 ax, .int .i64 ay]] w fun e w' => e = .returned (.bool true) ∧ Below w.heap.size w w' := by
  have i_ax := i64_bounds w_ax
  have i_ay := i64_bounds w_ay
  have C1 := Lib.hid (fun w => specValidHint_any ax ay w)
  have C2 := Lib.hid (fun w => implValidHint_any ax ay w)
  generalize hvB ax ay = v at C1 C2
  clear i_ax w_ax i_ay w_ay
  have e_v : (v != v) = false := by simp
  go_enter Try.func7, Try.ntmps7
  go_wp2_with fail
  refine (toHint_any ax ay _).mono ?_
  rintro e wA ⟨rfl, hbwA⟩
  have gA : Below w.heap.size w wA := (by repeat' (first | with_reducible assumption | with_reducible exact Below.refl _ _ | (with_reducible refine Below.setCell ?_ ?_ _) | (with_reducible refine Below.alloc ?_ ?_ _) | (with_reducible refine Below.drew ?_) | (with_reducible refine below_dr ?_ _) | (with_reducible refine Below.trans ?_ (Below.mono (by with_reducible assumption) ?_)) | omega | (simp; done) | (simp; omega)))
  obtain ⟨hcwA, hfwA⟩ := bcell hbwA
  have hzwA := hbwA.size
  (try simp only [World.size_alloc] at hcwA hfwA hzwA)
  have sA1 : wA.cell? ⟨w.heap.size, 0, none⟩ = some (.int .i64 ax) := (hcwA _ _ (by omega)).trans (by first | assumption | (refine (cell_alloc_at _ _ ?_).trans ?_; omega; assumption) | (simp [go_sem]; done) | (simp [go_sem, *]; done))
  have sA2 : wA.cell? ⟨w.heap.size, 1, none⟩ = some (.int .i64 ay) := (hcwA _ _ (by omega)).trans (by first | assumption | (refine (cell_alloc_at _ _ ?_).trans ?_; omega; assumption) | (simp [go_sem]; done) | (simp [go_sem, *]; done))
  have sAz : w.heap.size < wA.heap.size := (by omega)
  clear hcwA hfwA hzwA
  go_wp2_with fail
  refine (C1.out _).mono ?_
  rintro e wC ⟨rfl, hbwC⟩
  have gC : Below w.heap.size w wC := (by repeat' (first | with_reducible assumption | with_reducible exact Below.refl _ _ | (with_reducible refine Below.setCell ?_ ?_ _) | (with_reducible refine Below.alloc ?_ ?_ _) | (with_reducible refine Below.drew ?_) | (with_reducible refine below_dr ?_ _) | (with_reducible refine Below.trans ?_ (Below.mono (by with_reducible assumption) ?_)) | omega | (simp; done) | (simp; omega)))
  obtain ⟨hcwC, hfwC⟩ := bcell hbwC
  have hzwC := hbwC.size
  (try simp only [World.size_alloc] at hcwC hfwC hzwC)
  have sC1 : wC.cell? ⟨w.heap.size, 0, none⟩ = some (.int .i64 ax) := (hcwC _ _ (by omega)).trans (by first | assumption | (refine (cell_alloc_at _ _ ?_).trans ?_; omega; assumption) | (simp [go_sem]; done) | (simp [go_sem, *]; done))
  have sC2 : wC.cell? ⟨w.heap.size, 1, none⟩ = some (.int .i64 ay) := (hcwC _ _ (by omega)).trans (by first | assumption | (refine (cell_alloc_at _ _ ?_).trans ?_; omega; assumption) | (simp [go_sem]; done) | (simp [go_sem, *]; done))
  have sCz : w.heap.size < wC.heap.size := (by omega)
  clear hcwC hfwC hzwC
  go_wp2_with fail
  refine (toHint_any ax ay _).mono ?_
  rintro e wD ⟨rfl, hbwD⟩
  have gD : Below w.heap.size w wD := (by repeat' (first | with_reducible assumption | with_reducible exact Below.refl _ _ | (with_reducible refine Below.setCell ?_ ?_ _) | (with_reducible refine Below.alloc ?_ ?_ _) | (with_reducible refine Below.drew ?_) | (with_reducible refine below_dr ?_ _) | (with_reducible refine Below.trans ?_ (Below.mono (by with_reducible assumption) ?_)) | omega | (simp; done) | (simp; omega)))
  obtain ⟨hcwD, hfwD⟩ := bcell hbwD
  have hzwD := hbwD.size
  (try simp only [World.size_alloc] at hcwD hfwD hzwD)
  have sD1 : wD.cell? ⟨w.heap.size, 0, none⟩ = some (.int .i64 ax) := (hcwD _ _ (by omega)).trans (by first | assumption | (refine (cell_alloc_at _ _ ?_).trans ?_; omega; assumption) | (simp [go_sem]; done) | (simp [go_sem, *]; done))
  have sD2 : wD.cell? ⟨w.heap.size, 1, none⟩ = some (.int .i64 ay) := (hcwD _ _ (by omega)).trans (by first | assumption | (refine (cell_alloc_at _ _ ?_).trans ?_; omega; assumption) | (simp [go_sem]; done) | (simp [go_sem, *]; done))
  have sDz : w.heap.size < wD.heap.size := (by omega)
  clear hcwD hfwD hzwD
  go_wp2_with fail
  refine (C2.out _).mono ?_
  rintro e wF ⟨rfl, hbwF⟩
  go_wp2
  go_ret
  exact ⟨rfl, by repeat' (first | with_reducible assumption | with_reducible exact Below.refl _ _ | (with_reducible refine Below.setCell ?_ ?_ _) | (with_reducible refine Below.alloc ?_ ?_ _) | (with_reducible refine Below.drew ?_) | (with_reducible refine below_dr ?_ _) | (with_reducible refine Below.trans ?_ (Below.mono (by with_reducible assumption) ?_)) | omega | (simp; done) | (simp; omega))⟩
end Go.Proofs.Ytofaolbgjhpopaa
