/- Walks: how two segments meet, the program's side; the law on MeetingOf: it returns true. -/
import Derived.Test.YtjhboedaaeaomaaMp2
namespace Go.Proofs.Ytjhboedaaeaomaa
open Go.RowKit

theorem sgn_zero {n : Int} (h : sgnI n = 0) : n = 0 := by rcases sgn_cases n with ⟨_, e⟩ | ⟨_, e⟩ | ⟨k, _⟩ <;> omega
section
variable {ax ay bx ey cx cy dx dy : Int}
theorem meet_touches (h0 : ¬ (sgnI (turnI cx cy dx dy ax ay) = 0 ∧ sgnI (turnI cx cy dx dy bx ey) = 0 ∧ sgnI (turnI ax ay bx ey cx cy) = 0 ∧ sgnI (turnI ax ay bx ey dx dy) = 0))
    (h1 : ¬ 0 < sgnI (turnI cx cy dx dy ax ay) * sgnI (turnI cx cy dx dy bx ey)) (h2 : ¬ 0 < sgnI (turnI ax ay bx ey cx cy) * sgnI (turnI ax ay bx ey dx dy))
    (h3 : sgnI (turnI cx cy dx dy ax ay) * sgnI (turnI cx cy dx dy bx ey) = 0 ∨ sgnI (turnI ax ay bx ey cx cy) * sgnI (turnI ax ay bx ey dx dy) = 0) : 1 = meetI ax ay bx ey cx cy dx dy := by
  obtain ⟨p, hp, hf, hu⟩ := meet_touch (fun h => h0 (by rw [h.1, h.2.1, h.2.2.1, h.2.2.2]; exact ⟨rfl, rfl, rfl, rfl⟩)) h1 h2 h3
  exact (meet_one hp hf (fun q _ hq => hu q hq)).2
end
theorem and4 {a b c d : Bool} (h : (a && b && c && d) = true) : a = true ∧ b = true ∧ c = true ∧ d = true := by revert h; cases a <;> cases b <;> cases c <;> cases d <;> simp
set_option maxHeartbeats 12800000 in
theorem implMeetingOf_any (ax ay bx ey cx cy dx dy : Int) (w : World) :
    Calls Try.prog 58 #[.agg #[.int .i64 ax, .int .i64 ay], .agg #[.int .i64 bx, .int .i64 ey], .agg #[.int .i64 cx, .int .i64 cy], .agg #[.int .i64 dx, .int .i64 dy]] w fun e w' => e = .returned (.int .i64 (meetV ax ay bx ey cx cy dx dy)) ∧ Below w.heap.size w w' := by
  have CV := Lib.hid (fun b w hb h0 k0 h1 k1 h2 k2 h3 k3 => valid4 ax ay bx ey cx cy dx dy b w hb h0 k0 h1 k1 h2 k2 h3 k3)
  rcases hv : (okB ax ay && okB bx ey && okB cx cy && okB dx dy) with _ | _
  · have HV := Lib.hid (meetV_no hv)
    rw [hv] at CV
    clear hv
    go_enter Try.func58, Try.ntmps58
    go_wp2_with fail
    refine (CV.out _ _ (by simp) (by simp [go_sem]) (by simp [go_sem]) (by simp [go_sem]) (by simp [go_sem]) (by simp [go_sem]) (by simp [go_sem]) (by simp [go_sem]) (by simp [go_sem])).mono ?_
    rintro e w1 ⟨rfl, hbw1⟩
    go_wp2
    go_ret
    exact ⟨ret_i64 HV.out, by repeat' (first | with_reducible assumption | with_reducible exact Below.refl _ _ | (with_reducible refine Below.setCell ?_ ?_ _) | (with_reducible refine Below.alloc ?_ ?_ _) | (with_reducible refine Below.drew ?_) | (with_reducible refine below_dr ?_ _) | (with_reducible refine Below.trans ?_ (Below.mono (by with_reducible assumption) ?_)) | omega | (simp; done) | (simp; omega))⟩
  · obtain ⟨va, vb, vc, vd⟩ := and4 hv
    have HM := Lib.hid (meetV_is va vb vc vd)
    rw [hv] at CV
    have T0 := Lib.hid (fun w => implTurn_any cx cy dx dy ax ay w)
    rw [← turnV_is vc vd va] at T0
    have G0 := Lib.hid (fun w => sign_any (turnI cx cy dx dy ax ay) w)
    have b0 := sgn_b (turnI cx cy dx dy ax ay)
    have T1 := Lib.hid (fun w => implTurn_any cx cy dx dy bx ey w)
    rw [← turnV_is vc vd vb] at T1
    have G1 := Lib.hid (fun w => sign_any (turnI cx cy dx dy bx ey) w)
    have b1 := sgn_b (turnI cx cy dx dy bx ey)
    have T2 := Lib.hid (fun w => implTurn_any ax ay bx ey cx cy w)
    rw [← turnV_is va vb vc] at T2
    have G2 := Lib.hid (fun w => sign_any (turnI ax ay bx ey cx cy) w)
    have b2 := sgn_b (turnI ax ay bx ey cx cy)
    have T3 := Lib.hid (fun w => implTurn_any ax ay bx ey dx dy w)
    rw [← turnV_is va vb vd] at T3
    have G3 := Lib.hid (fun w => sign_any (turnI ax ay bx ey dx dy) w)
    have b3 := sgn_b (turnI ax ay bx ey dx dy)
    have HN := Lib.hid (fun h => meet_none (ax := ax) (ay := ay) (bx := bx) (ey := ey) (cx := cx) (cy := cy) (dx := dx) (dy := dy) h)
    have HT := Lib.hid (fun h0 h1 h2 h3 => meet_touches (ax := ax) (ay := ay) (bx := bx) (ey := ey) (cx := cx) (cy := cy) (dx := dx) (dy := dy) h0 h1 h2 h3)
    have HC := Lib.hid (fun h1 h2 => (meet_cross (ax := ax) (ay := ay) (bx := bx) (ey := ey) (cx := cx) (cy := cy) (dx := dx) (dy := dy) h1 h2).2)
    have HL := Lib.hid (fun h0 h1 h2 h3 w => onLine_any ax ay bx ey cx cy dx dy w va vb vc vd ⟨sgn_zero h0, sgn_zero h1, sgn_zero h2, sgn_zero h3⟩)
    clear hv va vb vc vd
    generalize sgnI (turnI cx cy dx dy ax ay) = x0 at *
    generalize turnI cx cy dx dy ax ay = t0 at *
    generalize sgnI (turnI cx cy dx dy bx ey) = x1 at *
    generalize turnI cx cy dx dy bx ey = t1 at *
    generalize sgnI (turnI ax ay bx ey cx cy) = x2 at *
    generalize turnI ax ay bx ey cx cy = t2 at *
    generalize sgnI (turnI ax ay bx ey dx dy) = x3 at *
    generalize turnI ax ay bx ey dx dy = t3 at *
    have e1 := wrap_prod b0 b1
    have e2 := wrap_prod b2 b3
    clear b0 b1 b2 b3
    go_enter Try.func58, Try.ntmps58
    go_wp2_with fail
    refine (CV.out _ _ (by simp) (by simp [go_sem]) (by simp [go_sem]) (by simp [go_sem]) (by simp [go_sem]) (by simp [go_sem]) (by simp [go_sem]) (by simp [go_sem]) (by simp [go_sem])).mono ?_
    rintro e w1 ⟨rfl, hbw1⟩
    have g1 : Below w.heap.size w w1 := by repeat' (first | with_reducible assumption | with_reducible exact Below.refl _ _ | (with_reducible refine Below.setCell ?_ ?_ _) | (with_reducible refine Below.alloc ?_ ?_ _) | (with_reducible refine Below.drew ?_) | (with_reducible refine below_dr ?_ _) | (with_reducible refine Below.trans ?_ (Below.mono (by with_reducible assumption) ?_)) | omega | (simp; done) | (simp; omega))
    obtain ⟨hc1, hf1⟩ := bcell hbw1
    have hz1 := hbw1.size
    simp only [World.size_alloc] at hc1 hf1 hz1
    have s00 : w1.cell? ⟨w.heap.size, 0, none⟩ = some (.int .i64 ax) := (hc1 _ _ (by omega)).trans (by simp [go_sem])
    have s01 : w1.cell? ⟨w.heap.size, 1, none⟩ = some (.int .i64 ay) := (hc1 _ _ (by omega)).trans (by simp [go_sem])
    have s10 : w1.cell? ⟨w.heap.size + 1, 0, none⟩ = some (.int .i64 bx) := (hc1 _ _ (by omega)).trans (by simp [go_sem])
    have s11 : w1.cell? ⟨w.heap.size + 1, 1, none⟩ = some (.int .i64 ey) := (hc1 _ _ (by omega)).trans (by simp [go_sem])
    have s20 : w1.cell? ⟨w.heap.size + 1 + 1, 0, none⟩ = some (.int .i64 cx) := (hc1 _ _ (by omega)).trans (by simp [go_sem])
    have s21 : w1.cell? ⟨w.heap.size + 1 + 1, 1, none⟩ = some (.int .i64 cy) := (hc1 _ _ (by omega)).trans (by simp [go_sem])
    have s30 : w1.cell? ⟨w.heap.size + 1 + 1 + 1, 0, none⟩ = some (.int .i64 dx) := (hc1 _ _ (by omega)).trans (by simp [go_sem])
    have s31 : w1.cell? ⟨w.heap.size + 1 + 1 + 1, 1, none⟩ = some (.int .i64 dy) := (hc1 _ _ (by omega)).trans (by simp [go_sem])
    have zz0 : w.heap.size < w1.heap.size := by omega
    have zz1 : w.heap.size + 1 < w1.heap.size := by omega
    have zz2 : w.heap.size + 1 + 1 < w1.heap.size := by omega
    have zz3 : w.heap.size + 1 + 1 + 1 < w1.heap.size := by omega
    clear hc1 hf1 hz1 hbw1 CV
    go_upto_region 3 with fail
    refine wp_region_held_drew (S := (fun w' => (∀ b o, b < w1.heap.size → w'.cell? ⟨b, o, none⟩ = w1.cell? ⟨b, o, none⟩) ∧ w1.heap.size ≤ w'.heap.size)) (by kernel_rfl) ?_ (fun hHeld => ?_)
    · (try dsimp only); (first | ((try dsimp only); exact ⟨fun b o h => (by (repeat (first | (revert b o h; apply And.left; with_reducible assumption) | with_reducible exact rfl | (with_reducible refine (cell_drew_at _ _).trans ?_) | (with_reducible refine (cell_set_at _ _ (by first | omega | (simp; done) | (simp; omega))).trans ?_) | (with_reducible refine (cell_alloc_at _ _ (by first | omega | (simp; done) | (simp; omega))).trans ?_) | (with_reducible refine (hcwT b o (by first | omega | (simp; done) | (simp; omega))).trans ?_)))), (by first | omega | (simp; done) | (simp; omega))⟩) | fail)
    refine wpAnyH_take (i := 0) (oi := ⟨_, _, _, _, _, _⟩) (v := ?_) rfl (by kernel_rfl) (by kernel_rfl) (by kernel_rfl) (fun _ _ _ h => h) (Or.inl ⟨by rfl, ?_⟩) (by assumption) ?_
    rotate_left
    · intro w hSw; (try dsimp only at hSw); go_simp; (try with_reducible rfl)
    (try simp only [Act.put, List.setIfInBounds_toArray, List.set_cons_zero, List.set_cons_succ])
    refine wpAnyH_take (i := 1) (oi := ⟨_, _, _, _, _, _⟩) (v := ?_) rfl (by kernel_rfl) (by kernel_rfl) (by kernel_rfl) (fun _ _ _ h => h) (Or.inl ⟨by rfl, ?_⟩) (by assumption) ?_
    rotate_left
    · intro w hSw; (try dsimp only at hSw); go_simp; (try with_reducible rfl)
    (try simp only [Act.put, List.setIfInBounds_toArray, List.set_cons_zero, List.set_cons_succ])
    refine wpAnyH_take (i := 2) (oi := ⟨_, _, _, _, _, _⟩) (v := ?_) rfl (by kernel_rfl) (by kernel_rfl) (by kernel_rfl) (fun _ _ _ h => h) (Or.inl ⟨by rfl, ?_⟩) (by assumption) ?_
    rotate_left
    · intro w hSw; (try dsimp only at hSw); go_simp; (try with_reducible rfl)
    (try simp only [Act.put, List.setIfInBounds_toArray, List.set_cons_zero, List.set_cons_succ])
    refine wpAnyH_take (i := 5) (oi := ⟨_, _, _, _, _, _⟩) (v := ?_) rfl (by kernel_rfl) (by kernel_rfl) (by kernel_rfl) (fun _ _ _ h => h) (Or.inl ⟨by rfl, ?_⟩) (by assumption) ?_
    rotate_left
    · intro w hSw; (try dsimp only at hSw); go_simp; (try with_reducible rfl)
    (try simp only [Act.put, List.setIfInBounds_toArray, List.set_cons_zero, List.set_cons_succ])
    refine wpAnyH_take (i := 6) (oi := ⟨_, _, _, _, _, _⟩) (v := ?_) rfl (by kernel_rfl) (by kernel_rfl) (by kernel_rfl) (fun _ _ _ h => h) (Or.inl ⟨by rfl, ?_⟩) (by assumption) ?_
    rotate_left
    · intro w hSw; (try dsimp only at hSw); go_simp; (try with_reducible rfl)
    (try simp only [Act.put, List.setIfInBounds_toArray, List.set_cons_zero, List.set_cons_succ])
    refine wpAnyH_take (i := 7) (oi := ⟨_, _, _, _, _, _⟩) (v := ?_) rfl (by kernel_rfl) (by kernel_rfl) (by kernel_rfl) (fun _ _ _ h => h) (Or.inl ⟨by rfl, ?_⟩) (by assumption) ?_
    rotate_left
    · intro w hSw; (try dsimp only at hSw); go_simp; (try with_reducible rfl)
    (try simp only [Act.put, List.setIfInBounds_toArray, List.set_cons_zero, List.set_cons_succ])
    refine wpAnyH_ready (rs := [3]) (by kernel_rfl) (by simp) ?_
    refine AllReadyH.cons (o := ⟨_, _, _, _, _, _⟩) rfl (fun K hK => ?_) AllReadyH.nil
    go_simp
    go_at_call 49; (with_reducible refine (T0.out _).mono ?_); rintro e wT ⟨rfl, hbwT⟩; obtain ⟨hcwT, hfwT⟩ := bcell hbwT; have hzwT := hbwT.size; (try simp only [World.size_drew] at hcwT hzwT); (clear hfwT)
    refine hK.out _ _ ?_ (fun hHeld => ?_)
    · (try dsimp only); (first | ((try dsimp only); exact ⟨fun b o h => (by (repeat (first | (revert b o h; apply And.left; with_reducible assumption) | with_reducible exact rfl | (with_reducible refine (cell_drew_at _ _).trans ?_) | (with_reducible refine (cell_set_at _ _ (by first | omega | (simp; done) | (simp; omega))).trans ?_) | (with_reducible refine (cell_alloc_at _ _ (by first | omega | (simp; done) | (simp; omega))).trans ?_) | (with_reducible refine (hcwT b o (by first | omega | (simp; done) | (simp; omega))).trans ?_)))), (by first | omega | (simp; done) | (simp; omega))⟩) | fail)
    clear hK K
    (try simp only [Act.put, List.setIfInBounds_toArray, List.set_cons_zero, List.set_cons_succ])
    refine wpAnyH_ready (rs := [4]) (by kernel_rfl) (by simp) ?_
    refine AllReadyH.cons (o := ⟨_, _, _, _, _, _⟩) rfl (fun K hK => ?_) AllReadyH.nil
    go_simp
    go_at_call 91; (with_reducible refine (G0.out _).mono ?_); rintro e wS ⟨rfl, rfl⟩
    refine hK.out _ _ ?_ (fun hHeld => ?_)
    · (try dsimp only); (first | ((try dsimp only); exact ⟨fun b o h => (by (repeat (first | (revert b o h; apply And.left; with_reducible assumption) | with_reducible exact rfl | (with_reducible refine (cell_drew_at _ _).trans ?_) | (with_reducible refine (cell_set_at _ _ (by first | omega | (simp; done) | (simp; omega))).trans ?_) | (with_reducible refine (cell_alloc_at _ _ (by first | omega | (simp; done) | (simp; omega))).trans ?_) | (with_reducible refine (hcwT b o (by first | omega | (simp; done) | (simp; omega))).trans ?_)))), (by first | omega | (simp; done) | (simp; omega))⟩) | fail)
    clear hK K
    (try simp only [Act.put, List.setIfInBounds_toArray, List.set_cons_zero, List.set_cons_succ])
    refine wpAnyH_ready (rs := [8]) (by kernel_rfl) (by simp) ?_
    refine AllReadyH.cons (o := ⟨_, _, _, _, _, _⟩) rfl (fun K hK => ?_) AllReadyH.nil
    go_simp
    go_at_call 49; (with_reducible refine (T1.out _).mono ?_); rintro e wT ⟨rfl, hbwT⟩; obtain ⟨hcwT, hfwT⟩ := bcell hbwT; have hzwT := hbwT.size; (try simp only [World.size_drew] at hcwT hzwT); (clear hfwT)
    refine hK.out _ _ ?_ (fun hHeld => ?_)
    · (try dsimp only); (first | ((try dsimp only); exact ⟨fun b o h => (by (repeat (first | (revert b o h; apply And.left; with_reducible assumption) | with_reducible exact rfl | (with_reducible refine (cell_drew_at _ _).trans ?_) | (with_reducible refine (cell_set_at _ _ (by first | omega | (simp; done) | (simp; omega))).trans ?_) | (with_reducible refine (cell_alloc_at _ _ (by first | omega | (simp; done) | (simp; omega))).trans ?_) | (with_reducible refine (hcwT b o (by first | omega | (simp; done) | (simp; omega))).trans ?_)))), (by first | omega | (simp; done) | (simp; omega))⟩) | fail)
    clear hK K
    (try simp only [Act.put, List.setIfInBounds_toArray, List.set_cons_zero, List.set_cons_succ])
    refine wpAnyH_ready (rs := [9]) (by kernel_rfl) (by simp) ?_
    refine AllReadyH.cons (o := ⟨_, _, _, _, _, _⟩) rfl (fun K hK => ?_) AllReadyH.nil
    go_simp
    go_at_call 91; (with_reducible refine (G1.out _).mono ?_); rintro e wS ⟨rfl, rfl⟩
    refine hK.out _ _ ?_ (fun hHeld => ?_)
    · (try dsimp only); (first | ((try dsimp only); exact ⟨fun b o h => (by (repeat (first | (revert b o h; apply And.left; with_reducible assumption) | with_reducible exact rfl | (with_reducible refine (cell_drew_at _ _).trans ?_) | (with_reducible refine (cell_set_at _ _ (by first | omega | (simp; done) | (simp; omega))).trans ?_) | (with_reducible refine (cell_alloc_at _ _ (by first | omega | (simp; done) | (simp; omega))).trans ?_) | (with_reducible refine (hcwT b o (by first | omega | (simp; done) | (simp; omega))).trans ?_)))), (by first | omega | (simp; done) | (simp; omega))⟩) | fail)
    clear hK K
    (try simp only [Act.put, List.setIfInBounds_toArray, List.set_cons_zero, List.set_cons_succ])
    refine wpAnyH_take (i := 10) (oi := ⟨_, _, _, _, _, _⟩) (v := ?_) rfl (by kernel_rfl) (by kernel_rfl) (by kernel_rfl) (fun _ _ _ h => h) (Or.inl ⟨by rfl, ?_⟩) (by assumption) ?_
    rotate_left
    · intro w hSw; (try dsimp only at hSw); go_simp; (try with_reducible rfl)
    (try simp only [Act.put, List.setIfInBounds_toArray, List.set_cons_zero, List.set_cons_succ])
    refine wpAnyH_take (i := 11) (oi := ⟨_, _, _, _, _, _⟩) (v := ?_) rfl (by kernel_rfl) (by kernel_rfl) (by kernel_rfl) (fun _ _ _ h => h) (Or.inl ⟨by rfl, ?_⟩) (by assumption) ?_
    rotate_left
    · intro w hSw; (try dsimp only at hSw); go_simp; (try with_reducible rfl)
    (try simp only [Act.put, List.setIfInBounds_toArray, List.set_cons_zero, List.set_cons_succ])
    refine wpAnyH_done (by kernel_rfl) ?_ _
    go_upto_region 4 with fail
    refine wp_region_held_drew (S := (fun w' => (∀ b o, b < w1.heap.size → w'.cell? ⟨b, o, none⟩ = w1.cell? ⟨b, o, none⟩) ∧ w1.heap.size ≤ w'.heap.size)) (by kernel_rfl) ?_ (fun hHeld => ?_)
    · (try dsimp only); (first | ((try dsimp only); exact ⟨fun b o h => (by (repeat (first | (revert b o h; apply And.left; with_reducible assumption) | with_reducible exact rfl | (with_reducible refine (cell_drew_at _ _).trans ?_) | (with_reducible refine (cell_set_at _ _ (by first | omega | (simp; done) | (simp; omega))).trans ?_) | (with_reducible refine (cell_alloc_at _ _ (by first | omega | (simp; done) | (simp; omega))).trans ?_) | (with_reducible refine (hcwT b o (by first | omega | (simp; done) | (simp; omega))).trans ?_)))), (by first | omega | (simp; done) | (simp; omega))⟩) | fail)
    refine wpAnyH_take (i := 0) (oi := ⟨_, _, _, _, _, _⟩) (v := ?_) rfl (by kernel_rfl) (by kernel_rfl) (by kernel_rfl) (fun _ _ _ h => h) (Or.inl ⟨by rfl, ?_⟩) (by assumption) ?_
    rotate_left
    · intro w hSw; (try dsimp only at hSw); go_simp; (try with_reducible rfl)
    (try simp only [Act.put, List.setIfInBounds_toArray, List.set_cons_zero, List.set_cons_succ])
    refine wpAnyH_take (i := 1) (oi := ⟨_, _, _, _, _, _⟩) (v := ?_) rfl (by kernel_rfl) (by kernel_rfl) (by kernel_rfl) (fun _ _ _ h => h) (Or.inl ⟨by rfl, ?_⟩) (by assumption) ?_
    rotate_left
    · intro w hSw; (try dsimp only at hSw); go_simp; (try with_reducible rfl)
    (try simp only [Act.put, List.setIfInBounds_toArray, List.set_cons_zero, List.set_cons_succ])
    refine wpAnyH_take (i := 2) (oi := ⟨_, _, _, _, _, _⟩) (v := ?_) rfl (by kernel_rfl) (by kernel_rfl) (by kernel_rfl) (fun _ _ _ h => h) (Or.inl ⟨by rfl, ?_⟩) (by assumption) ?_
    rotate_left
    · intro w hSw; (try dsimp only at hSw); go_simp; (try with_reducible rfl)
    (try simp only [Act.put, List.setIfInBounds_toArray, List.set_cons_zero, List.set_cons_succ])
    refine wpAnyH_take (i := 5) (oi := ⟨_, _, _, _, _, _⟩) (v := ?_) rfl (by kernel_rfl) (by kernel_rfl) (by kernel_rfl) (fun _ _ _ h => h) (Or.inl ⟨by rfl, ?_⟩) (by assumption) ?_
    rotate_left
    · intro w hSw; (try dsimp only at hSw); go_simp; (try with_reducible rfl)
    (try simp only [Act.put, List.setIfInBounds_toArray, List.set_cons_zero, List.set_cons_succ])
    refine wpAnyH_take (i := 6) (oi := ⟨_, _, _, _, _, _⟩) (v := ?_) rfl (by kernel_rfl) (by kernel_rfl) (by kernel_rfl) (fun _ _ _ h => h) (Or.inl ⟨by rfl, ?_⟩) (by assumption) ?_
    rotate_left
    · intro w hSw; (try dsimp only at hSw); go_simp; (try with_reducible rfl)
    (try simp only [Act.put, List.setIfInBounds_toArray, List.set_cons_zero, List.set_cons_succ])
    refine wpAnyH_take (i := 7) (oi := ⟨_, _, _, _, _, _⟩) (v := ?_) rfl (by kernel_rfl) (by kernel_rfl) (by kernel_rfl) (fun _ _ _ h => h) (Or.inl ⟨by rfl, ?_⟩) (by assumption) ?_
    rotate_left
    · intro w hSw; (try dsimp only at hSw); go_simp; (try with_reducible rfl)
    (try simp only [Act.put, List.setIfInBounds_toArray, List.set_cons_zero, List.set_cons_succ])
    refine wpAnyH_ready (rs := [3]) (by kernel_rfl) (by simp) ?_
    refine AllReadyH.cons (o := ⟨_, _, _, _, _, _⟩) rfl (fun K hK => ?_) AllReadyH.nil
    go_simp
    go_at_call 49; (with_reducible refine (T2.out _).mono ?_); rintro e wT ⟨rfl, hbwT⟩; obtain ⟨hcwT, hfwT⟩ := bcell hbwT; have hzwT := hbwT.size; (try simp only [World.size_drew] at hcwT hzwT); (clear hfwT)
    refine hK.out _ _ ?_ (fun hHeld => ?_)
    · (try dsimp only); (first | ((try dsimp only); exact ⟨fun b o h => (by (repeat (first | (revert b o h; apply And.left; with_reducible assumption) | with_reducible exact rfl | (with_reducible refine (cell_drew_at _ _).trans ?_) | (with_reducible refine (cell_set_at _ _ (by first | omega | (simp; done) | (simp; omega))).trans ?_) | (with_reducible refine (cell_alloc_at _ _ (by first | omega | (simp; done) | (simp; omega))).trans ?_) | (with_reducible refine (hcwT b o (by first | omega | (simp; done) | (simp; omega))).trans ?_)))), (by first | omega | (simp; done) | (simp; omega))⟩) | fail)
    clear hK K
    (try simp only [Act.put, List.setIfInBounds_toArray, List.set_cons_zero, List.set_cons_succ])
    refine wpAnyH_ready (rs := [4]) (by kernel_rfl) (by simp) ?_
    refine AllReadyH.cons (o := ⟨_, _, _, _, _, _⟩) rfl (fun K hK => ?_) AllReadyH.nil
    go_simp
    go_at_call 91; (with_reducible refine (G2.out _).mono ?_); rintro e wS ⟨rfl, rfl⟩
    refine hK.out _ _ ?_ (fun hHeld => ?_)
    · (try dsimp only); (first | ((try dsimp only); exact ⟨fun b o h => (by (repeat (first | (revert b o h; apply And.left; with_reducible assumption) | with_reducible exact rfl | (with_reducible refine (cell_drew_at _ _).trans ?_) | (with_reducible refine (cell_set_at _ _ (by first | omega | (simp; done) | (simp; omega))).trans ?_) | (with_reducible refine (cell_alloc_at _ _ (by first | omega | (simp; done) | (simp; omega))).trans ?_) | (with_reducible refine (hcwT b o (by first | omega | (simp; done) | (simp; omega))).trans ?_)))), (by first | omega | (simp; done) | (simp; omega))⟩) | fail)
    clear hK K
    (try simp only [Act.put, List.setIfInBounds_toArray, List.set_cons_zero, List.set_cons_succ])
    refine wpAnyH_ready (rs := [8]) (by kernel_rfl) (by simp) ?_
    refine AllReadyH.cons (o := ⟨_, _, _, _, _, _⟩) rfl (fun K hK => ?_) AllReadyH.nil
    go_simp
    go_at_call 49; (with_reducible refine (T3.out _).mono ?_); rintro e wT ⟨rfl, hbwT⟩; obtain ⟨hcwT, hfwT⟩ := bcell hbwT; have hzwT := hbwT.size; (try simp only [World.size_drew] at hcwT hzwT); (clear hfwT)
    refine hK.out _ _ ?_ (fun hHeld => ?_)
    · (try dsimp only); (first | ((try dsimp only); exact ⟨fun b o h => (by (repeat (first | (revert b o h; apply And.left; with_reducible assumption) | with_reducible exact rfl | (with_reducible refine (cell_drew_at _ _).trans ?_) | (with_reducible refine (cell_set_at _ _ (by first | omega | (simp; done) | (simp; omega))).trans ?_) | (with_reducible refine (cell_alloc_at _ _ (by first | omega | (simp; done) | (simp; omega))).trans ?_) | (with_reducible refine (hcwT b o (by first | omega | (simp; done) | (simp; omega))).trans ?_)))), (by first | omega | (simp; done) | (simp; omega))⟩) | fail)
    clear hK K
    (try simp only [Act.put, List.setIfInBounds_toArray, List.set_cons_zero, List.set_cons_succ])
    refine wpAnyH_ready (rs := [9]) (by kernel_rfl) (by simp) ?_
    refine AllReadyH.cons (o := ⟨_, _, _, _, _, _⟩) rfl (fun K hK => ?_) AllReadyH.nil
    go_simp
    go_at_call 91; (with_reducible refine (G3.out _).mono ?_); rintro e wS ⟨rfl, rfl⟩
    refine hK.out _ _ ?_ (fun hHeld => ?_)
    · (try dsimp only); (first | ((try dsimp only); exact ⟨fun b o h => (by (repeat (first | (revert b o h; apply And.left; with_reducible assumption) | with_reducible exact rfl | (with_reducible refine (cell_drew_at _ _).trans ?_) | (with_reducible refine (cell_set_at _ _ (by first | omega | (simp; done) | (simp; omega))).trans ?_) | (with_reducible refine (cell_alloc_at _ _ (by first | omega | (simp; done) | (simp; omega))).trans ?_) | (with_reducible refine (hcwT b o (by first | omega | (simp; done) | (simp; omega))).trans ?_)))), (by first | omega | (simp; done) | (simp; omega))⟩) | fail)
    clear hK K
    (try simp only [Act.put, List.setIfInBounds_toArray, List.set_cons_zero, List.set_cons_succ])
    refine wpAnyH_take (i := 10) (oi := ⟨_, _, _, _, _, _⟩) (v := ?_) rfl (by kernel_rfl) (by kernel_rfl) (by kernel_rfl) (fun _ _ _ h => h) (Or.inl ⟨by rfl, ?_⟩) (by assumption) ?_
    rotate_left
    · intro w hSw; (try dsimp only at hSw); go_simp; (try with_reducible rfl)
    (try simp only [Act.put, List.setIfInBounds_toArray, List.set_cons_zero, List.set_cons_succ])
    refine wpAnyH_take (i := 11) (oi := ⟨_, _, _, _, _, _⟩) (v := ?_) rfl (by kernel_rfl) (by kernel_rfl) (by kernel_rfl) (fun _ _ _ h => h) (Or.inl ⟨by rfl, ?_⟩) (by assumption) ?_
    rotate_left
    · intro w hSw; (try dsimp only at hSw); go_simp; (try with_reducible rfl)
    (try simp only [Act.put, List.setIfInBounds_toArray, List.set_cons_zero, List.set_cons_succ])
    refine wpAnyH_done (by kernel_rfl) ?_ _
    have gT : Below w.heap.size w wT := by repeat' (first | with_reducible assumption | with_reducible exact Below.refl _ _ | (with_reducible refine Below.setCell ?_ ?_ _) | (with_reducible refine Below.alloc ?_ ?_ _) | (with_reducible refine Below.drew ?_) | (with_reducible refine below_dr ?_ _) | (with_reducible refine Below.trans ?_ (Below.mono (by with_reducible assumption) ?_)) | omega | (simp; done) | (simp; omega))
    have u00 : wT.cell? ⟨w.heap.size, 0, none⟩ = some (.int .i64 ax) := (hHeld.1 _ _ zz0).trans s00
    have u01 : wT.cell? ⟨w.heap.size, 1, none⟩ = some (.int .i64 ay) := (hHeld.1 _ _ zz0).trans s01
    have u10 : wT.cell? ⟨w.heap.size + 1, 0, none⟩ = some (.int .i64 bx) := (hHeld.1 _ _ zz1).trans s10
    have u11 : wT.cell? ⟨w.heap.size + 1, 1, none⟩ = some (.int .i64 ey) := (hHeld.1 _ _ zz1).trans s11
    have u20 : wT.cell? ⟨w.heap.size + 1 + 1, 0, none⟩ = some (.int .i64 cx) := (hHeld.1 _ _ zz2).trans s20
    have u21 : wT.cell? ⟨w.heap.size + 1 + 1, 1, none⟩ = some (.int .i64 cy) := (hHeld.1 _ _ zz2).trans s21
    have u30 : wT.cell? ⟨w.heap.size + 1 + 1 + 1, 0, none⟩ = some (.int .i64 dx) := (hHeld.1 _ _ zz3).trans s30
    have u31 : wT.cell? ⟨w.heap.size + 1 + 1 + 1, 1, none⟩ = some (.int .i64 dy) := (hHeld.1 _ _ zz3).trans s31
    clear hHeld hbwT hcwT T0 T1 T2 T3 G0 G1 G2 G3 g1 s00 s01 s10 s11 s20 s21 s30 s31 zz0 zz1 zz2 zz3
    (try clear hzwT)
    by_cases z0 : x0 = 0
    rotate_left
    · have f0 : (x0 == 0) = false := by simpa using z0
      have hnz : ¬ (x0 = 0 ∧ x1 = 0 ∧ x2 = 0 ∧ x3 = 0) := fun h => z0 h.1
      by_cases hP : 0 < x0 * x1
      · have d1 : decide (0 < x0 * x1) = true := by simpa using hP
        have HR := Lib.hid (HN.out (.inl hP))
        clear HN HT HC HL hP hnz z0
        go_wp2
        go_ret
        exact ⟨ret_i64 (HR.out.trans HM.out), by repeat' (first | with_reducible assumption | with_reducible exact Below.refl _ _ | (with_reducible refine Below.setCell ?_ ?_ _) | (with_reducible refine Below.alloc ?_ ?_ _) | (with_reducible refine Below.drew ?_) | (with_reducible refine below_dr ?_ _) | (with_reducible refine Below.trans ?_ (Below.mono (by with_reducible assumption) ?_)) | omega | (simp; done) | (simp; omega))⟩
      have d1 : decide (0 < x0 * x1) = false := by simpa using hP
      by_cases hQ : 0 < x2 * x3
      · have d2 : decide (0 < x2 * x3) = true := by simpa using hQ
        have HR := Lib.hid (HN.out (.inr hQ))
        clear HN HT HC HL hP hQ hnz z0
        go_wp2
        go_ret
        exact ⟨ret_i64 (HR.out.trans HM.out), by repeat' (first | with_reducible assumption | with_reducible exact Below.refl _ _ | (with_reducible refine Below.setCell ?_ ?_ _) | (with_reducible refine Below.alloc ?_ ?_ _) | (with_reducible refine Below.drew ?_) | (with_reducible refine below_dr ?_ _) | (with_reducible refine Below.trans ?_ (Below.mono (by with_reducible assumption) ?_)) | omega | (simp; done) | (simp; omega))⟩
      have d2 : decide (0 < x2 * x3) = false := by simpa using hQ
      by_cases h1 : x0 * x1 = 0
      · have d3 : (x0 * x1 == 0) = true := by simpa using h1
        have HR := Lib.hid (HT.out (fun h => hnz h) (by omega) (by omega) (.inl h1))
        clear HN HT HC HL hP hQ h1 hnz z0
        go_wp2
        go_ret
        exact ⟨ret_i64 (HR.out.trans HM.out), by repeat' (first | with_reducible assumption | with_reducible exact Below.refl _ _ | (with_reducible refine Below.setCell ?_ ?_ _) | (with_reducible refine Below.alloc ?_ ?_ _) | (with_reducible refine Below.drew ?_) | (with_reducible refine below_dr ?_ _) | (with_reducible refine Below.trans ?_ (Below.mono (by with_reducible assumption) ?_)) | omega | (simp; done) | (simp; omega))⟩
      have d3 : (x0 * x1 == 0) = false := by simpa using h1
      by_cases h2 : x2 * x3 = 0
      · have d4 : (x2 * x3 == 0) = true := by simpa using h2
        have HR := Lib.hid (HT.out (fun h => hnz h) (by omega) (by omega) (.inr h2))
        clear HN HT HC HL hP hQ h1 h2 hnz z0
        go_wp2
        go_ret
        exact ⟨ret_i64 (HR.out.trans HM.out), by repeat' (first | with_reducible assumption | with_reducible exact Below.refl _ _ | (with_reducible refine Below.setCell ?_ ?_ _) | (with_reducible refine Below.alloc ?_ ?_ _) | (with_reducible refine Below.drew ?_) | (with_reducible refine below_dr ?_ _) | (with_reducible refine Below.trans ?_ (Below.mono (by with_reducible assumption) ?_)) | omega | (simp; done) | (simp; omega))⟩
      · have d4 : (x2 * x3 == 0) = false := by simpa using h2
        have HR := Lib.hid (HC.out (by omega) (by omega))
        clear HN HT HC HL hP hQ h1 h2 hnz z0
        go_wp2
        go_ret
        exact ⟨ret_i64 (HR.out.trans HM.out), by repeat' (first | with_reducible assumption | with_reducible exact Below.refl _ _ | (with_reducible refine Below.setCell ?_ ?_ _) | (with_reducible refine Below.alloc ?_ ?_ _) | (with_reducible refine Below.drew ?_) | (with_reducible refine below_dr ?_ _) | (with_reducible refine Below.trans ?_ (Below.mono (by with_reducible assumption) ?_)) | omega | (simp; done) | (simp; omega))⟩
    have f0 : (x0 == 0) = true := by simpa using z0
    by_cases z1 : x1 = 0
    rotate_left
    · have f1 : (x1 == 0) = false := by simpa using z1
      have hnz : ¬ (x0 = 0 ∧ x1 = 0 ∧ x2 = 0 ∧ x3 = 0) := fun h => z1 h.2.1
      by_cases hP : 0 < x0 * x1
      · have d1 : decide (0 < x0 * x1) = true := by simpa using hP
        have HR := Lib.hid (HN.out (.inl hP))
        clear HN HT HC HL hP hnz z0 z1
        go_wp2
        go_ret
        exact ⟨ret_i64 (HR.out.trans HM.out), by repeat' (first | with_reducible assumption | with_reducible exact Below.refl _ _ | (with_reducible refine Below.setCell ?_ ?_ _) | (with_reducible refine Below.alloc ?_ ?_ _) | (with_reducible refine Below.drew ?_) | (with_reducible refine below_dr ?_ _) | (with_reducible refine Below.trans ?_ (Below.mono (by with_reducible assumption) ?_)) | omega | (simp; done) | (simp; omega))⟩
      have d1 : decide (0 < x0 * x1) = false := by simpa using hP
      by_cases hQ : 0 < x2 * x3
      · have d2 : decide (0 < x2 * x3) = true := by simpa using hQ
        have HR := Lib.hid (HN.out (.inr hQ))
        clear HN HT HC HL hP hQ hnz z0 z1
        go_wp2
        go_ret
        exact ⟨ret_i64 (HR.out.trans HM.out), by repeat' (first | with_reducible assumption | with_reducible exact Below.refl _ _ | (with_reducible refine Below.setCell ?_ ?_ _) | (with_reducible refine Below.alloc ?_ ?_ _) | (with_reducible refine Below.drew ?_) | (with_reducible refine below_dr ?_ _) | (with_reducible refine Below.trans ?_ (Below.mono (by with_reducible assumption) ?_)) | omega | (simp; done) | (simp; omega))⟩
      have d2 : decide (0 < x2 * x3) = false := by simpa using hQ
      by_cases h1 : x0 * x1 = 0
      · have d3 : (x0 * x1 == 0) = true := by simpa using h1
        have HR := Lib.hid (HT.out (fun h => hnz h) (by omega) (by omega) (.inl h1))
        clear HN HT HC HL hP hQ h1 hnz z0 z1
        go_wp2
        go_ret
        exact ⟨ret_i64 (HR.out.trans HM.out), by repeat' (first | with_reducible assumption | with_reducible exact Below.refl _ _ | (with_reducible refine Below.setCell ?_ ?_ _) | (with_reducible refine Below.alloc ?_ ?_ _) | (with_reducible refine Below.drew ?_) | (with_reducible refine below_dr ?_ _) | (with_reducible refine Below.trans ?_ (Below.mono (by with_reducible assumption) ?_)) | omega | (simp; done) | (simp; omega))⟩
      have d3 : (x0 * x1 == 0) = false := by simpa using h1
      by_cases h2 : x2 * x3 = 0
      · have d4 : (x2 * x3 == 0) = true := by simpa using h2
        have HR := Lib.hid (HT.out (fun h => hnz h) (by omega) (by omega) (.inr h2))
        clear HN HT HC HL hP hQ h1 h2 hnz z0 z1
        go_wp2
        go_ret
        exact ⟨ret_i64 (HR.out.trans HM.out), by repeat' (first | with_reducible assumption | with_reducible exact Below.refl _ _ | (with_reducible refine Below.setCell ?_ ?_ _) | (with_reducible refine Below.alloc ?_ ?_ _) | (with_reducible refine Below.drew ?_) | (with_reducible refine below_dr ?_ _) | (with_reducible refine Below.trans ?_ (Below.mono (by with_reducible assumption) ?_)) | omega | (simp; done) | (simp; omega))⟩
      · have d4 : (x2 * x3 == 0) = false := by simpa using h2
        have HR := Lib.hid (HC.out (by omega) (by omega))
        clear HN HT HC HL hP hQ h1 h2 hnz z0 z1
        go_wp2
        go_ret
        exact ⟨ret_i64 (HR.out.trans HM.out), by repeat' (first | with_reducible assumption | with_reducible exact Below.refl _ _ | (with_reducible refine Below.setCell ?_ ?_ _) | (with_reducible refine Below.alloc ?_ ?_ _) | (with_reducible refine Below.drew ?_) | (with_reducible refine below_dr ?_ _) | (with_reducible refine Below.trans ?_ (Below.mono (by with_reducible assumption) ?_)) | omega | (simp; done) | (simp; omega))⟩
    have f1 : (x1 == 0) = true := by simpa using z1
    by_cases z2 : x2 = 0
    rotate_left
    · have f2 : (x2 == 0) = false := by simpa using z2
      have hnz : ¬ (x0 = 0 ∧ x1 = 0 ∧ x2 = 0 ∧ x3 = 0) := fun h => z2 h.2.2.1
      by_cases hP : 0 < x0 * x1
      · have d1 : decide (0 < x0 * x1) = true := by simpa using hP
        have HR := Lib.hid (HN.out (.inl hP))
        clear HN HT HC HL hP hnz z0 z1 z2
        go_wp2
        go_ret
        exact ⟨ret_i64 (HR.out.trans HM.out), by repeat' (first | with_reducible assumption | with_reducible exact Below.refl _ _ | (with_reducible refine Below.setCell ?_ ?_ _) | (with_reducible refine Below.alloc ?_ ?_ _) | (with_reducible refine Below.drew ?_) | (with_reducible refine below_dr ?_ _) | (with_reducible refine Below.trans ?_ (Below.mono (by with_reducible assumption) ?_)) | omega | (simp; done) | (simp; omega))⟩
      have d1 : decide (0 < x0 * x1) = false := by simpa using hP
      by_cases hQ : 0 < x2 * x3
      · have d2 : decide (0 < x2 * x3) = true := by simpa using hQ
        have HR := Lib.hid (HN.out (.inr hQ))
        clear HN HT HC HL hP hQ hnz z0 z1 z2
        go_wp2
        go_ret
        exact ⟨ret_i64 (HR.out.trans HM.out), by repeat' (first | with_reducible assumption | with_reducible exact Below.refl _ _ | (with_reducible refine Below.setCell ?_ ?_ _) | (with_reducible refine Below.alloc ?_ ?_ _) | (with_reducible refine Below.drew ?_) | (with_reducible refine below_dr ?_ _) | (with_reducible refine Below.trans ?_ (Below.mono (by with_reducible assumption) ?_)) | omega | (simp; done) | (simp; omega))⟩
      have d2 : decide (0 < x2 * x3) = false := by simpa using hQ
      by_cases h1 : x0 * x1 = 0
      · have d3 : (x0 * x1 == 0) = true := by simpa using h1
        have HR := Lib.hid (HT.out (fun h => hnz h) (by omega) (by omega) (.inl h1))
        clear HN HT HC HL hP hQ h1 hnz z0 z1 z2
        go_wp2
        go_ret
        exact ⟨ret_i64 (HR.out.trans HM.out), by repeat' (first | with_reducible assumption | with_reducible exact Below.refl _ _ | (with_reducible refine Below.setCell ?_ ?_ _) | (with_reducible refine Below.alloc ?_ ?_ _) | (with_reducible refine Below.drew ?_) | (with_reducible refine below_dr ?_ _) | (with_reducible refine Below.trans ?_ (Below.mono (by with_reducible assumption) ?_)) | omega | (simp; done) | (simp; omega))⟩
      have d3 : (x0 * x1 == 0) = false := by simpa using h1
      by_cases h2 : x2 * x3 = 0
      · have d4 : (x2 * x3 == 0) = true := by simpa using h2
        have HR := Lib.hid (HT.out (fun h => hnz h) (by omega) (by omega) (.inr h2))
        clear HN HT HC HL hP hQ h1 h2 hnz z0 z1 z2
        go_wp2
        go_ret
        exact ⟨ret_i64 (HR.out.trans HM.out), by repeat' (first | with_reducible assumption | with_reducible exact Below.refl _ _ | (with_reducible refine Below.setCell ?_ ?_ _) | (with_reducible refine Below.alloc ?_ ?_ _) | (with_reducible refine Below.drew ?_) | (with_reducible refine below_dr ?_ _) | (with_reducible refine Below.trans ?_ (Below.mono (by with_reducible assumption) ?_)) | omega | (simp; done) | (simp; omega))⟩
      · have d4 : (x2 * x3 == 0) = false := by simpa using h2
        have HR := Lib.hid (HC.out (by omega) (by omega))
        clear HN HT HC HL hP hQ h1 h2 hnz z0 z1 z2
        go_wp2
        go_ret
        exact ⟨ret_i64 (HR.out.trans HM.out), by repeat' (first | with_reducible assumption | with_reducible exact Below.refl _ _ | (with_reducible refine Below.setCell ?_ ?_ _) | (with_reducible refine Below.alloc ?_ ?_ _) | (with_reducible refine Below.drew ?_) | (with_reducible refine below_dr ?_ _) | (with_reducible refine Below.trans ?_ (Below.mono (by with_reducible assumption) ?_)) | omega | (simp; done) | (simp; omega))⟩
    have f2 : (x2 == 0) = true := by simpa using z2
    by_cases z3 : x3 = 0
    rotate_left
    · have f3 : (x3 == 0) = false := by simpa using z3
      have hnz : ¬ (x0 = 0 ∧ x1 = 0 ∧ x2 = 0 ∧ x3 = 0) := fun h => z3 h.2.2.2
      by_cases hP : 0 < x0 * x1
      · have d1 : decide (0 < x0 * x1) = true := by simpa using hP
        have HR := Lib.hid (HN.out (.inl hP))
        clear HN HT HC HL hP hnz z0 z1 z2 z3
        go_wp2
        go_ret
        exact ⟨ret_i64 (HR.out.trans HM.out), by repeat' (first | with_reducible assumption | with_reducible exact Below.refl _ _ | (with_reducible refine Below.setCell ?_ ?_ _) | (with_reducible refine Below.alloc ?_ ?_ _) | (with_reducible refine Below.drew ?_) | (with_reducible refine below_dr ?_ _) | (with_reducible refine Below.trans ?_ (Below.mono (by with_reducible assumption) ?_)) | omega | (simp; done) | (simp; omega))⟩
      have d1 : decide (0 < x0 * x1) = false := by simpa using hP
      by_cases hQ : 0 < x2 * x3
      · have d2 : decide (0 < x2 * x3) = true := by simpa using hQ
        have HR := Lib.hid (HN.out (.inr hQ))
        clear HN HT HC HL hP hQ hnz z0 z1 z2 z3
        go_wp2
        go_ret
        exact ⟨ret_i64 (HR.out.trans HM.out), by repeat' (first | with_reducible assumption | with_reducible exact Below.refl _ _ | (with_reducible refine Below.setCell ?_ ?_ _) | (with_reducible refine Below.alloc ?_ ?_ _) | (with_reducible refine Below.drew ?_) | (with_reducible refine below_dr ?_ _) | (with_reducible refine Below.trans ?_ (Below.mono (by with_reducible assumption) ?_)) | omega | (simp; done) | (simp; omega))⟩
      have d2 : decide (0 < x2 * x3) = false := by simpa using hQ
      by_cases h1 : x0 * x1 = 0
      · have d3 : (x0 * x1 == 0) = true := by simpa using h1
        have HR := Lib.hid (HT.out (fun h => hnz h) (by omega) (by omega) (.inl h1))
        clear HN HT HC HL hP hQ h1 hnz z0 z1 z2 z3
        go_wp2
        go_ret
        exact ⟨ret_i64 (HR.out.trans HM.out), by repeat' (first | with_reducible assumption | with_reducible exact Below.refl _ _ | (with_reducible refine Below.setCell ?_ ?_ _) | (with_reducible refine Below.alloc ?_ ?_ _) | (with_reducible refine Below.drew ?_) | (with_reducible refine below_dr ?_ _) | (with_reducible refine Below.trans ?_ (Below.mono (by with_reducible assumption) ?_)) | omega | (simp; done) | (simp; omega))⟩
      have d3 : (x0 * x1 == 0) = false := by simpa using h1
      by_cases h2 : x2 * x3 = 0
      · have d4 : (x2 * x3 == 0) = true := by simpa using h2
        have HR := Lib.hid (HT.out (fun h => hnz h) (by omega) (by omega) (.inr h2))
        clear HN HT HC HL hP hQ h1 h2 hnz z0 z1 z2 z3
        go_wp2
        go_ret
        exact ⟨ret_i64 (HR.out.trans HM.out), by repeat' (first | with_reducible assumption | with_reducible exact Below.refl _ _ | (with_reducible refine Below.setCell ?_ ?_ _) | (with_reducible refine Below.alloc ?_ ?_ _) | (with_reducible refine Below.drew ?_) | (with_reducible refine below_dr ?_ _) | (with_reducible refine Below.trans ?_ (Below.mono (by with_reducible assumption) ?_)) | omega | (simp; done) | (simp; omega))⟩
      · have d4 : (x2 * x3 == 0) = false := by simpa using h2
        have HR := Lib.hid (HC.out (by omega) (by omega))
        clear HN HT HC HL hP hQ h1 h2 hnz z0 z1 z2 z3
        go_wp2
        go_ret
        exact ⟨ret_i64 (HR.out.trans HM.out), by repeat' (first | with_reducible assumption | with_reducible exact Below.refl _ _ | (with_reducible refine Below.setCell ?_ ?_ _) | (with_reducible refine Below.alloc ?_ ?_ _) | (with_reducible refine Below.drew ?_) | (with_reducible refine below_dr ?_ _) | (with_reducible refine Below.trans ?_ (Below.mono (by with_reducible assumption) ?_)) | omega | (simp; done) | (simp; omega))⟩
    have f3 : (x3 == 0) = true := by simpa using z3
    have CL := Lib.hid (fun w => HL.out z0 z1 z2 z3 w)
    clear HN HT HC HL z0 z1 z2 z3
    go_wp2_with fail
    refine (CL.out _).mono ?_
    rintro e wZ ⟨rfl, hbwZ⟩
    have qT := gT.size
    go_wp2
    go_ret
    exact ⟨ret_i64 HM.out, by repeat' (first | with_reducible assumption | with_reducible exact Below.refl _ _ | (with_reducible refine Below.setCell ?_ ?_ _) | (with_reducible refine Below.alloc ?_ ?_ _) | (with_reducible refine Below.drew ?_) | (with_reducible refine below_dr ?_ _) | (with_reducible refine Below.trans ?_ (Below.mono (by with_reducible assumption) ?_)) | omega | (simp; done) | (simp; omega))⟩
end Go.Proofs.Ytjhboedaaeaomaa
