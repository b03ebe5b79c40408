/- The walks of the laws on ValidPt, DivRound, Turn, DistSq, MidPt: they return true. -/
import Derived.Test.YtiljdnfhojpgnaaPe
namespace Go.Proofs.Ytiljdnfhojpgnaa
open Go.RowKit
set_option maxHeartbeats 4000000 in
theorem walk_ValidPt (ax ay : Int) (w_ax : (Lit.int .i64 ax).wf = true) (w_ay : (Lit.int .i64 ay).wf = true) (w : World) :
    Calls Try.prog 3 #[.agg #[.int .i64 ax, .int .i64 ay]] w fun e w' => e = .returned (.bool true) ∧ Below w.heap.size w w' := by
  have i_ax := i64_bounds w_ax
  have i_ay := i64_bounds w_ay
  have C1 := Lib.hid (fun w => specValidPt_any ax ay w)
  have C2 := Lib.hid (fun w => implValidPt_any ax ay w)
  generalize okB ax ay = v at C1 C2
  clear i_ax w_ax i_ay w_ay
  have e_v : (v != v) = false := by simp
  go_enter Try.func3, Try.ntmps3
  go_wp2_with fail
  refine (toPt_any ax ay _).mono ?_
  rintro e wA ⟨rfl, hbwA⟩
  have gA : Below w.heap.size w wA := (by repeat' (first | assumption | exact Below.refl _ _ | (refine Below.drew ?_) | (refine below_dr ?_ _) | (refine Below.alloc ?_ ?_ _) | (refine Below.setCell ?_ ?_ _) | (refine Below.trans ?_ (Below.mono (by assumption) ?_)) | omega | (simp; done) | (simp; omega)))
  obtain ⟨hcwA, hfwA⟩ := bcell hbwA
  have hzwA := hbwA.size
  (try simp only [World.size_alloc] at hcwA hfwA hzwA)
  have sA1 : wA.cell? ⟨w.heap.size, 0, none⟩ = some (.int .i64 ax) := (hcwA _ _ (by omega)).trans (by first | assumption | simp [go_sem])
  have sA2 : wA.cell? ⟨w.heap.size, 1, none⟩ = some (.int .i64 ay) := (hcwA _ _ (by omega)).trans (by first | assumption | simp [go_sem])
  have sAz : w.heap.size < wA.heap.size := (by omega)
  clear hcwA hfwA hzwA
  go_wp2_with fail
  refine (C1.out _).mono ?_
  rintro e wC ⟨rfl, hbwC⟩
  have gC : Below w.heap.size w wC := (by repeat' (first | assumption | exact Below.refl _ _ | (refine Below.drew ?_) | (refine below_dr ?_ _) | (refine Below.alloc ?_ ?_ _) | (refine Below.setCell ?_ ?_ _) | (refine Below.trans ?_ (Below.mono (by assumption) ?_)) | omega | (simp; done) | (simp; omega)))
  obtain ⟨hcwC, hfwC⟩ := bcell hbwC
  have hzwC := hbwC.size
  (try simp only [World.size_alloc] at hcwC hfwC hzwC)
  have sC1 : wC.cell? ⟨w.heap.size, 0, none⟩ = some (.int .i64 ax) := (hcwC _ _ (by omega)).trans (by first | assumption | simp [go_sem])
  have sC2 : wC.cell? ⟨w.heap.size, 1, none⟩ = some (.int .i64 ay) := (hcwC _ _ (by omega)).trans (by first | assumption | simp [go_sem])
  have sCz : w.heap.size < wC.heap.size := (by omega)
  clear hcwC hfwC hzwC
  go_wp2_with fail
  refine (toPt_any ax ay _).mono ?_
  rintro e wD ⟨rfl, hbwD⟩
  have gD : Below w.heap.size w wD := (by repeat' (first | assumption | exact Below.refl _ _ | (refine Below.drew ?_) | (refine below_dr ?_ _) | (refine Below.alloc ?_ ?_ _) | (refine Below.setCell ?_ ?_ _) | (refine Below.trans ?_ (Below.mono (by assumption) ?_)) | omega | (simp; done) | (simp; omega)))
  obtain ⟨hcwD, hfwD⟩ := bcell hbwD
  have hzwD := hbwD.size
  (try simp only [World.size_alloc] at hcwD hfwD hzwD)
  have sD1 : wD.cell? ⟨w.heap.size, 0, none⟩ = some (.int .i64 ax) := (hcwD _ _ (by omega)).trans (by first | assumption | simp [go_sem])
  have sD2 : wD.cell? ⟨w.heap.size, 1, none⟩ = some (.int .i64 ay) := (hcwD _ _ (by omega)).trans (by first | assumption | simp [go_sem])
  have sDz : w.heap.size < wD.heap.size := (by omega)
  clear hcwD hfwD hzwD
  go_wp2_with fail
  refine (C2.out _).mono ?_
  rintro e wF ⟨rfl, hbwF⟩
  go_wp2
  go_ret
  exact ⟨rfl, by repeat' (first | assumption | exact Below.refl _ _ | (refine Below.drew ?_) | (refine below_dr ?_ _) | (refine Below.alloc ?_ ?_ _) | (refine Below.setCell ?_ ?_ _) | (refine Below.trans ?_ (Below.mono (by assumption) ?_)) | omega | (simp; done) | (simp; omega))⟩
set_option maxHeartbeats 4000000 in
theorem walk_DivRound (n d : Int) (w_n : (Lit.int .i64 n).wf = true) (w_d : (Lit.int .i64 d).wf = true) (w : World) :
    Calls Try.prog 4 #[.int .i64 n, .int .i64 d] w fun e w' => e = .returned (.bool true) ∧ Below w.heap.size w w' := by
  have i_n := i64_bounds w_n
  have i_d := i64_bounds w_d
  have C1 := Lib.hid (fun w => specDivRound_full n d w i_n i_d)
  have C2 := Lib.hid (fun w => implDivRound_full n d w i_n i_d)
  generalize divRound n d = v at C1 C2
  clear i_n w_n i_d w_d
  have e_v : (v != v) = false := by simp
  go_enter Try.func4, Try.ntmps4
  go_wp2_with fail
  refine (C1.out _).mono ?_
  rintro e wC ⟨rfl, hbwC⟩
  have hzC := hbwC.size
  go_wp2_with fail
  refine (C2.out _).mono ?_
  rintro e wD ⟨rfl, hbwD⟩
  go_wp2
  go_ret
  exact ⟨rfl, by repeat' (first | assumption | exact Below.refl _ _ | (refine Below.drew ?_) | (refine below_dr ?_ _) | (refine Below.alloc ?_ ?_ _) | (refine Below.setCell ?_ ?_ _) | (refine Below.trans ?_ (Below.mono (by assumption) ?_)) | omega | (simp; done) | (simp; omega))⟩
set_option maxHeartbeats 4000000 in
theorem walk_Turn (ax ay bx ey cx cy : Int) (w_ax : (Lit.int .i64 ax).wf = true) (w_ay : (Lit.int .i64 ay).wf = true) (w_bx : (Lit.int .i64 bx).wf = true) (w_ey : (Lit.int .i64 ey).wf = true) (w_cx : (Lit.int .i64 cx).wf = true) (w_cy : (Lit.int .i64 cy).wf = true) (w : World) :
    Calls Try.prog 5 #[.agg #[.int .i64 ax, .int .i64 ay], .agg #[.int .i64 bx, .int .i64 ey], .agg #[.int .i64 cx, .int .i64 cy]] w fun e w' => e = .returned (.bool true) ∧ Below w.heap.size w w' := by
  have i_ax := i64_bounds w_ax
  have i_ay := i64_bounds w_ay
  have i_bx := i64_bounds w_bx
  have i_ey := i64_bounds w_ey
  have i_cx := i64_bounds w_cx
  have i_cy := i64_bounds w_cy
  have C1 := Lib.hid (fun w => specTurn_any ax ay bx ey cx cy w)
  have C2 := Lib.hid (fun w => implTurn_any ax ay bx ey cx cy w)
  generalize turnV ax ay bx ey cx cy = v at C1 C2
  clear i_ax w_ax i_ay w_ay i_bx w_bx i_ey w_ey i_cx w_cx i_cy w_cy
  have e_v : (v != v) = false := by simp
  go_enter Try.func5, Try.ntmps5
  go_wp2_with fail
  generalize hW : (((w.alloc (.cells #[.int .i64 ax, .int .i64 ay] 23)).alloc (.cells #[.int .i64 bx, .int .i64 ey] 23)).alloc (.cells #[.int .i64 cx, .int .i64 cy] 23)) = W0
  have g0 : Below w.heap.size w W0 := by rw [← hW]; repeat' (first | assumption | exact Below.refl _ _ | (refine Below.setCell ?_ ?_ _) | (refine Below.alloc ?_ ?_ _) | (refine below_dr ?_ _) | exact Nat.le_refl _ | (simp; done) | (simp; omega))
  have s1 : W0.cell? ⟨w.heap.size, 0, none⟩ = some (.int .i64 ax) := by rw [← hW]; simp [go_sem]
  have s2 : W0.cell? ⟨w.heap.size, 1, none⟩ = some (.int .i64 ay) := by rw [← hW]; simp [go_sem]
  have s3 : W0.cell? ⟨w.heap.size + 1, 0, none⟩ = some (.int .i64 bx) := by rw [← hW]; simp [go_sem]
  have s4 : W0.cell? ⟨w.heap.size + 1, 1, none⟩ = some (.int .i64 ey) := by rw [← hW]; simp [go_sem]
  have s5 : W0.cell? ⟨w.heap.size + 1 + 1, 0, none⟩ = some (.int .i64 cx) := by rw [← hW]; simp [go_sem]
  have s6 : W0.cell? ⟨w.heap.size + 1 + 1, 1, none⟩ = some (.int .i64 cy) := by rw [← hW]; simp [go_sem]
  have sz : w.heap.size + 1 + 1 < W0.heap.size := by rw [← hW]; simp
  clear hW
  go_region_held3 (fun w' => w'.cell? ⟨w.heap.size, 0, none⟩ = some (.int .i64 ax) ∧ w'.cell? ⟨w.heap.size, 1, none⟩ = some (.int .i64 ay) ∧ w'.cell? ⟨w.heap.size + 1, 0, none⟩ = some (.int .i64 bx) ∧ w'.cell? ⟨w.heap.size + 1, 1, none⟩ = some (.int .i64 ey) ∧ w'.cell? ⟨w.heap.size + 1 + 1, 0, none⟩ = some (.int .i64 cx) ∧ w'.cell? ⟨w.heap.size + 1 + 1, 1, none⟩ = some (.int .i64 cy) ∧ w.heap.size + 1 + 1 < w'.heap.size)
    (first | ((try dsimp only); (repeat' apply And.intro); all_goals (first | assumption | omega | (simp (disch := omega) [*]; done) | (simp; omega))) | fail)
    (first
      | (go_at_call 15; (with_reducible refine (toPt_any ax ay _).mono ?_); rintro e wA0 ⟨rfl, hbwA0⟩; obtain ⟨hcwA0, hfwA0⟩ := bcell hbwA0; have hzwA0 := hbwA0.size; (try simp only [World.size_drew] at hcwA0 hfwA0 hzwA0); (try simp only [World.size_alloc] at hcwA0 hfwA0 hzwA0))
      | (go_at_call 15; (with_reducible refine (toPt_any bx ey _).mono ?_); rintro e wA1 ⟨rfl, hbwA1⟩; obtain ⟨hcwA1, hfwA1⟩ := bcell hbwA1; have hzwA1 := hbwA1.size; (try simp only [World.size_drew] at hcwA1 hfwA1 hzwA1); (try simp only [World.size_alloc] at hcwA1 hfwA1 hzwA1))
      | (go_at_call 15; (with_reducible refine (toPt_any cx cy _).mono ?_); rintro e wA2 ⟨rfl, hbwA2⟩; obtain ⟨hcwA2, hfwA2⟩ := bcell hbwA2; have hzwA2 := hbwA2.size; (try simp only [World.size_drew] at hcwA2 hfwA2 hzwA2); (try simp only [World.size_alloc] at hcwA2 hfwA2 hzwA2))
      | (go_at_call 19; ((with_reducible refine (C1.out _).mono ?_); rintro e wC ⟨rfl, hbwC⟩; obtain ⟨hcwC, hfwC⟩ := bcell hbwC; have hzwC := hbwC.size; (try simp only [World.size_drew] at hcwC hfwC hzwC); (try simp only [World.size_alloc] at hcwC hfwC hzwC))))
  have hBwC : Below W0.heap.size W0 wC := by repeat' (first | assumption | exact Below.refl _ _ | (refine Below.drew ?_) | (refine below_dr ?_ _) | (refine Below.alloc ?_ ?_ _) | (refine Below.setCell ?_ ?_ _) | (refine Below.trans ?_ (Below.mono (by assumption) ?_)) | omega | (simp; done) | (simp; omega))
  obtain ⟨hcwC', hfwC'⟩ := bcell hBwC
  have hzwC' := hBwC.size
  have t1 : wC.cell? ⟨w.heap.size, 0, none⟩ = some (.int .i64 ax) := (hcwC' _ _ (by omega)).trans s1
  have t2 : wC.cell? ⟨w.heap.size, 1, none⟩ = some (.int .i64 ay) := (hcwC' _ _ (by omega)).trans s2
  have t3 : wC.cell? ⟨w.heap.size + 1, 0, none⟩ = some (.int .i64 bx) := (hcwC' _ _ (by omega)).trans s3
  have t4 : wC.cell? ⟨w.heap.size + 1, 1, none⟩ = some (.int .i64 ey) := (hcwC' _ _ (by omega)).trans s4
  have t5 : wC.cell? ⟨w.heap.size + 1 + 1, 0, none⟩ = some (.int .i64 cx) := (hcwC' _ _ (by omega)).trans s5
  have t6 : wC.cell? ⟨w.heap.size + 1 + 1, 1, none⟩ = some (.int .i64 cy) := (hcwC' _ _ (by omega)).trans s6
  have tz : w.heap.size + 1 + 1 < wC.heap.size := by omega
  clear hcwC hfwC hcwA0 hfwA0 hcwA1 hfwA1 hcwA2 hfwA2
  go_wp2_with fail
  go_region_held3 (fun w' => w'.cell? ⟨w.heap.size, 0, none⟩ = some (.int .i64 ax) ∧ w'.cell? ⟨w.heap.size, 1, none⟩ = some (.int .i64 ay) ∧ w'.cell? ⟨w.heap.size + 1, 0, none⟩ = some (.int .i64 bx) ∧ w'.cell? ⟨w.heap.size + 1, 1, none⟩ = some (.int .i64 ey) ∧ w'.cell? ⟨w.heap.size + 1 + 1, 0, none⟩ = some (.int .i64 cx) ∧ w'.cell? ⟨w.heap.size + 1 + 1, 1, none⟩ = some (.int .i64 cy) ∧ w.heap.size + 1 + 1 < w'.heap.size)
    (first | ((try dsimp only); (repeat' apply And.intro); all_goals (first | assumption | omega | (simp (disch := omega) [*]; done) | (simp; omega))) | fail)
    (first
      | (go_at_call 15; (with_reducible refine (toPt_any ax ay _).mono ?_); rintro e wD0 ⟨rfl, hbwD0⟩; obtain ⟨hcwD0, hfwD0⟩ := bcell hbwD0; have hzwD0 := hbwD0.size; (try simp only [World.size_drew] at hcwD0 hfwD0 hzwD0); (try simp only [World.size_alloc] at hcwD0 hfwD0 hzwD0))
      | (go_at_call 15; (with_reducible refine (toPt_any bx ey _).mono ?_); rintro e wD1 ⟨rfl, hbwD1⟩; obtain ⟨hcwD1, hfwD1⟩ := bcell hbwD1; have hzwD1 := hbwD1.size; (try simp only [World.size_drew] at hcwD1 hfwD1 hzwD1); (try simp only [World.size_alloc] at hcwD1 hfwD1 hzwD1))
      | (go_at_call 15; (with_reducible refine (toPt_any cx cy _).mono ?_); rintro e wD2 ⟨rfl, hbwD2⟩; obtain ⟨hcwD2, hfwD2⟩ := bcell hbwD2; have hzwD2 := hbwD2.size; (try simp only [World.size_drew] at hcwD2 hfwD2 hzwD2); (try simp only [World.size_alloc] at hcwD2 hfwD2 hzwD2))
      | (go_at_call 20; ((with_reducible refine (C2.out _).mono ?_); rintro e wF ⟨rfl, hbwF⟩; obtain ⟨hcwF, hfwF⟩ := bcell hbwF; have hzwF := hbwF.size; (try simp only [World.size_drew] at hcwF hfwF hzwF); (try simp only [World.size_alloc] at hcwF hfwF hzwF))))
  go_wp2
  go_ret
  exact ⟨rfl, by repeat' (first | assumption | exact Below.refl _ _ | (refine Below.drew ?_) | (refine below_dr ?_ _) | (refine Below.alloc ?_ ?_ _) | (refine Below.setCell ?_ ?_ _) | (refine Below.trans ?_ (Below.mono (by assumption) ?_)) | omega | (simp; done) | (simp; omega))⟩
set_option maxHeartbeats 4000000 in
theorem walk_DistSq (ax ay bx ey : Int) (w_ax : (Lit.int .i64 ax).wf = true) (w_ay : (Lit.int .i64 ay).wf = true) (w_bx : (Lit.int .i64 bx).wf = true) (w_ey : (Lit.int .i64 ey).wf = true) (w : World) :
    Calls Try.prog 6 #[.agg #[.int .i64 ax, .int .i64 ay], .agg #[.int .i64 bx, .int .i64 ey]] w fun e w' => e = .returned (.bool true) ∧ Below w.heap.size w w' := by
  have i_ax := i64_bounds w_ax
  have i_ay := i64_bounds w_ay
  have i_bx := i64_bounds w_bx
  have i_ey := i64_bounds w_ey
  have C1 := Lib.hid (fun w => specDistSq_any ax ay bx ey w)
  have C2 := Lib.hid (fun w => implDistSq_any ax ay bx ey w)
  generalize sqV ax ay bx ey = v at C1 C2
  clear i_ax w_ax i_ay w_ay i_bx w_bx i_ey w_ey
  have e_v : (v != v) = false := by simp
  go_enter Try.func6, Try.ntmps6
  go_wp2_with fail
  generalize hW : ((w.alloc (.cells #[.int .i64 ax, .int .i64 ay] 23)).alloc (.cells #[.int .i64 bx, .int .i64 ey] 23)) = W0
  have g0 : Below w.heap.size w W0 := by rw [← hW]; repeat' (first | assumption | exact Below.refl _ _ | (refine Below.setCell ?_ ?_ _) | (refine Below.alloc ?_ ?_ _) | (refine below_dr ?_ _) | exact Nat.le_refl _ | (simp; done) | (simp; omega))
  have s1 : W0.cell? ⟨w.heap.size, 0, none⟩ = some (.int .i64 ax) := by rw [← hW]; simp [go_sem]
  have s2 : W0.cell? ⟨w.heap.size, 1, none⟩ = some (.int .i64 ay) := by rw [← hW]; simp [go_sem]
  have s3 : W0.cell? ⟨w.heap.size + 1, 0, none⟩ = some (.int .i64 bx) := by rw [← hW]; simp [go_sem]
  have s4 : W0.cell? ⟨w.heap.size + 1, 1, none⟩ = some (.int .i64 ey) := by rw [← hW]; simp [go_sem]
  have sz : w.heap.size + 1 < W0.heap.size := by rw [← hW]; simp
  clear hW
  go_region_held3 (fun w' => w'.cell? ⟨w.heap.size, 0, none⟩ = some (.int .i64 ax) ∧ w'.cell? ⟨w.heap.size, 1, none⟩ = some (.int .i64 ay) ∧ w'.cell? ⟨w.heap.size + 1, 0, none⟩ = some (.int .i64 bx) ∧ w'.cell? ⟨w.heap.size + 1, 1, none⟩ = some (.int .i64 ey) ∧ w.heap.size + 1 < w'.heap.size)
    (first | ((try dsimp only); (repeat' apply And.intro); all_goals (first | assumption | omega | (simp (disch := omega) [*]; done) | (simp; omega))) | fail)
    (first
      | (go_at_call 15; (with_reducible refine (toPt_any ax ay _).mono ?_); rintro e wA0 ⟨rfl, hbwA0⟩; obtain ⟨hcwA0, hfwA0⟩ := bcell hbwA0; have hzwA0 := hbwA0.size; (try simp only [World.size_drew] at hcwA0 hfwA0 hzwA0); (try simp only [World.size_alloc] at hcwA0 hfwA0 hzwA0))
      | (go_at_call 15; (with_reducible refine (toPt_any bx ey _).mono ?_); rintro e wA1 ⟨rfl, hbwA1⟩; obtain ⟨hcwA1, hfwA1⟩ := bcell hbwA1; have hzwA1 := hbwA1.size; (try simp only [World.size_drew] at hcwA1 hfwA1 hzwA1); (try simp only [World.size_alloc] at hcwA1 hfwA1 hzwA1))
      | (go_at_call 21; ((with_reducible refine (C1.out _).mono ?_); rintro e wC ⟨rfl, hbwC⟩; obtain ⟨hcwC, hfwC⟩ := bcell hbwC; have hzwC := hbwC.size; (try simp only [World.size_drew] at hcwC hfwC hzwC); (try simp only [World.size_alloc] at hcwC hfwC hzwC))))
  have hBwC : Below W0.heap.size W0 wC := by repeat' (first | assumption | exact Below.refl _ _ | (refine Below.drew ?_) | (refine below_dr ?_ _) | (refine Below.alloc ?_ ?_ _) | (refine Below.setCell ?_ ?_ _) | (refine Below.trans ?_ (Below.mono (by assumption) ?_)) | omega | (simp; done) | (simp; omega))
  obtain ⟨hcwC', hfwC'⟩ := bcell hBwC
  have hzwC' := hBwC.size
  have t1 : wC.cell? ⟨w.heap.size, 0, none⟩ = some (.int .i64 ax) := (hcwC' _ _ (by omega)).trans s1
  have t2 : wC.cell? ⟨w.heap.size, 1, none⟩ = some (.int .i64 ay) := (hcwC' _ _ (by omega)).trans s2
  have t3 : wC.cell? ⟨w.heap.size + 1, 0, none⟩ = some (.int .i64 bx) := (hcwC' _ _ (by omega)).trans s3
  have t4 : wC.cell? ⟨w.heap.size + 1, 1, none⟩ = some (.int .i64 ey) := (hcwC' _ _ (by omega)).trans s4
  have tz : w.heap.size + 1 < wC.heap.size := by omega
  clear hcwC hfwC hcwA0 hfwA0 hcwA1 hfwA1
  go_wp2_with fail
  go_region_held3 (fun w' => w'.cell? ⟨w.heap.size, 0, none⟩ = some (.int .i64 ax) ∧ w'.cell? ⟨w.heap.size, 1, none⟩ = some (.int .i64 ay) ∧ w'.cell? ⟨w.heap.size + 1, 0, none⟩ = some (.int .i64 bx) ∧ w'.cell? ⟨w.heap.size + 1, 1, none⟩ = some (.int .i64 ey) ∧ w.heap.size + 1 < w'.heap.size)
    (first | ((try dsimp only); (repeat' apply And.intro); all_goals (first | assumption | omega | (simp (disch := omega) [*]; done) | (simp; omega))) | fail)
    (first
      | (go_at_call 15; (with_reducible refine (toPt_any ax ay _).mono ?_); rintro e wD0 ⟨rfl, hbwD0⟩; obtain ⟨hcwD0, hfwD0⟩ := bcell hbwD0; have hzwD0 := hbwD0.size; (try simp only [World.size_drew] at hcwD0 hfwD0 hzwD0); (try simp only [World.size_alloc] at hcwD0 hfwD0 hzwD0))
      | (go_at_call 15; (with_reducible refine (toPt_any bx ey _).mono ?_); rintro e wD1 ⟨rfl, hbwD1⟩; obtain ⟨hcwD1, hfwD1⟩ := bcell hbwD1; have hzwD1 := hbwD1.size; (try simp only [World.size_drew] at hcwD1 hfwD1 hzwD1); (try simp only [World.size_alloc] at hcwD1 hfwD1 hzwD1))
      | (go_at_call 22; ((with_reducible refine (C2.out _).mono ?_); rintro e wF ⟨rfl, hbwF⟩; obtain ⟨hcwF, hfwF⟩ := bcell hbwF; have hzwF := hbwF.size; (try simp only [World.size_drew] at hcwF hfwF hzwF); (try simp only [World.size_alloc] at hcwF hfwF hzwF))))
  go_wp2
  go_ret
  exact ⟨rfl, by repeat' (first | assumption | exact Below.refl _ _ | (refine Below.drew ?_) | (refine below_dr ?_ _) | (refine Below.alloc ?_ ?_ _) | (refine Below.setCell ?_ ?_ _) | (refine Below.trans ?_ (Below.mono (by assumption) ?_)) | omega | (simp; done) | (simp; omega))⟩
set_option maxHeartbeats 4000000 in
theorem walk_MidPt (ax ay bx ey : Int) (w_ax : (Lit.int .i64 ax).wf = true) (w_ay : (Lit.int .i64 ay).wf = true) (w_bx : (Lit.int .i64 bx).wf = true) (w_ey : (Lit.int .i64 ey).wf = true) (w : World) :
    Calls Try.prog 7 #[.agg #[.int .i64 ax, .int .i64 ay], .agg #[.int .i64 bx, .int .i64 ey]] w fun e w' => e = .returned (.bool true) ∧ Below w.heap.size w w' := by
  have i_ax := i64_bounds w_ax
  have i_ay := i64_bounds w_ay
  have i_bx := i64_bounds w_bx
  have i_ey := i64_bounds w_ey
  have C1 := Lib.hid (fun w => specMidPt_any ax ay bx ey w)
  have C2 := Lib.hid (fun w => implMidPt_any ax ay bx ey w)
  unfold MidRet at C1 C2
  generalize midX ax ay bx ey = u at C1 C2
  generalize midY ax ay bx ey = v at C1 C2
  generalize midC ax ay bx ey = c at C1 C2
  clear i_ax w_ax i_ay w_ay i_bx w_bx i_ey w_ey
  have e_u : (u != u) = false := by simp
  have e_v : (v != v) = false := by simp
  have e_c : (c != c) = false := by simp
  go_enter Try.func7, Try.ntmps7
  go_upto_region 1 with fail
  go_cut [5, 6] (fun sA sB wx => LeftP [.int .i64 u, .int .i64 v] sA wx ∧ sB = .int .i64 c ∧ Below w.heap.size w wx ∧ AtL (w.heap.size) [.int .i64 ax, .int .i64 ay] wx ∧ AtL (w.heap.size + 1) [.int .i64 bx, .int .i64 ey] wx)
  case first =>
    generalize hW : ((w.alloc (.cells #[.int .i64 ax, .int .i64 ay] 23)).alloc (.cells #[.int .i64 bx, .int .i64 ey] 23)) = W0
    have g0 : Below w.heap.size w W0 := by rw [← hW]; repeat' (first | assumption | exact Below.refl _ _ | (refine Below.setCell ?_ ?_ _) | (refine Below.alloc ?_ ?_ _) | (refine below_dr ?_ _) | exact Nat.le_refl _ | (simp; done) | (simp; omega))
    have s1 : W0.cell? ⟨w.heap.size, 0, none⟩ = some (.int .i64 ax) := by rw [← hW]; simp [go_sem]
    have s2 : W0.cell? ⟨w.heap.size, 1, none⟩ = some (.int .i64 ay) := by rw [← hW]; simp [go_sem]
    have s3 : W0.cell? ⟨w.heap.size + 1, 0, none⟩ = some (.int .i64 bx) := by rw [← hW]; simp [go_sem]
    have s4 : W0.cell? ⟨w.heap.size + 1, 1, none⟩ = some (.int .i64 ey) := by rw [← hW]; simp [go_sem]
    have sz : w.heap.size + 1 < W0.heap.size := by rw [← hW]; simp
    clear hW
    have zz0 : w.heap.size < W0.heap.size := by omega
    have bx0 : AtL (w.heap.size) [.int .i64 ax, .int .i64 ay] W0 := ⟨fun i v hv => by
      match i, hv with
      | 0, hv => exact (Option.some.inj hv) ▸ s1
      | 1, hv => exact (Option.some.inj hv) ▸ s2
      , zz0⟩
    have zz1 : w.heap.size + 1 < W0.heap.size := by omega
    have bx1 : AtL (w.heap.size + 1) [.int .i64 bx, .int .i64 ey] W0 := ⟨fun i v hv => by
      match i, hv with
      | 0, hv => exact (Option.some.inj hv) ▸ s3
      | 1, hv => exact (Option.some.inj hv) ▸ s4
      , zz1⟩
    go_region_held3 (fun w' => w'.cell? ⟨w.heap.size, 0, none⟩ = some (.int .i64 ax) ∧ w'.cell? ⟨w.heap.size, 1, none⟩ = some (.int .i64 ay) ∧ w'.cell? ⟨w.heap.size + 1, 0, none⟩ = some (.int .i64 bx) ∧ w'.cell? ⟨w.heap.size + 1, 1, none⟩ = some (.int .i64 ey) ∧ w.heap.size + 1 < w'.heap.size)
      (first | ((try dsimp only); (repeat' apply And.intro); all_goals (first | assumption | omega | (simp (disch := omega) [*]; done) | (simp (disch := omega) [cell_alloc_at, *]; done) | (rw [cell_set_at _ _ (by omega), cell_set_at _ _ (by omega)]; first | assumption | (simp (disch := omega) [*]; done) | (simp (disch := omega) [cell_alloc_at, *]; done)) | (simp; omega))) | fail)
      (first
        | (go_at_call 15; (with_reducible refine (toPt_any ax ay _).mono ?_); rintro e wA0 ⟨rfl, hbwA0⟩; obtain ⟨hcwA0, hfwA0⟩ := bcell hbwA0; have hzwA0 := hbwA0.size; (try simp only [World.size_drew] at hcwA0 hfwA0 hzwA0); (try simp only [World.size_alloc] at hcwA0 hfwA0 hzwA0); (try have qW0wA0 : W0.heap.size < wA0.heap.size := (by omega)))
        | (go_at_call 15; (with_reducible refine (toPt_any bx ey _).mono ?_); rintro e wA1 ⟨rfl, hbwA1⟩; obtain ⟨hcwA1, hfwA1⟩ := bcell hbwA1; have hzwA1 := hbwA1.size; (try simp only [World.size_drew] at hcwA1 hfwA1 hzwA1); (try simp only [World.size_alloc] at hcwA1 hfwA1 hzwA1); (try have qW0wA1 : W0.heap.size < wA1.heap.size := (by omega)); (try have qwA0wA1 : wA0.heap.size < wA1.heap.size := (by omega)))
        | (go_at_call 23; ((with_reducible refine (C1.out _).mono ?_); rintro e wC ⟨rfl, hbwC⟩; obtain ⟨hcwC, hfwC⟩ := bcell hbwC; have hzwC := hbwC.size; (try simp only [World.size_drew] at hcwC hfwC hzwC); (try simp only [World.size_alloc] at hcwC hfwC hzwC); (try have qW0wC : W0.heap.size < wC.heap.size := (by omega)); (try have qwA0wC : wA0.heap.size < wC.heap.size := (by omega)); (try have qwA1wC : wA1.heap.size < wC.heap.size := (by omega)))))
    all_goals
      go_wp2_with fail
      go_meet
    all_goals exact ⟨⟨_, rfl, by repeat' (first | with_reducible assumption | with_reducible exact AtL.new _ _ _ | (with_reducible refine AtL.drew ?_) | (with_reducible apply AtL.store2) | (with_reducible refine AtL.alloc ?_ _) | (with_reducible refine AtL.far ?_ ?_ _ _) | (with_reducible refine AtL.below ?_ (by with_reducible assumption)) | omega | (simp; omega))⟩, rfl, by repeat' (first | assumption | exact Below.refl _ _ | (refine Below.drew ?_) | (refine below_dr ?_ _) | (refine Below.alloc ?_ ?_ _) | (refine Below.setCell ?_ ?_ _) | (refine Below.trans ?_ (Below.mono (by assumption) ?_)) | omega | (simp; done) | (simp; omega)), by repeat' (first | with_reducible assumption | with_reducible exact AtL.new _ _ _ | (with_reducible refine AtL.drew ?_) | (with_reducible apply AtL.store2) | (with_reducible refine AtL.alloc ?_ _) | (with_reducible refine AtL.far ?_ ?_ _ _) | (with_reducible refine AtL.below ?_ (by with_reducible assumption)) | omega | (simp; omega)), by repeat' (first | with_reducible assumption | with_reducible exact AtL.new _ _ _ | (with_reducible refine AtL.drew ?_) | (with_reducible apply AtL.store2) | (with_reducible refine AtL.alloc ?_ _) | (with_reducible refine AtL.far ?_ ?_ _ _) | (with_reducible refine AtL.below ?_ (by with_reducible assumption)) | omega | (simp; omega))⟩
  case rest =>
    obtain ⟨⟨g1, rfl, at1⟩, rfl, bel1, bx0, bx1⟩ := hcut
    obtain ⟨W0, rfl⟩ : ∃ W : World, W = wc := ⟨_, rfl⟩
    have lt1 := at1.lt
    have s1 := bx0.cell 0 rfl
    have s2 := bx0.cell 1 rfl
    have s3 := bx1.cell 0 rfl
    have s4 := bx1.cell 1 rfl
    have sz := bx1.lt
    go_upto_region 2 with fail
    go_cut [7, 8] (fun sA sB wx => LeftP [.int .i64 u, .int .i64 v] sA wx ∧ sB = .int .i64 c ∧ Below w.heap.size w wx ∧ AtL (w.heap.size) [.int .i64 ax, .int .i64 ay] wx ∧ AtL (w.heap.size + 1) [.int .i64 bx, .int .i64 ey] wx ∧ AtL g1 [.int .i64 u, .int .i64 v] wx)
    case first =>
      go_region_held3 (fun w' => w'.cell? ⟨w.heap.size, 0, none⟩ = some (.int .i64 ax) ∧ w'.cell? ⟨w.heap.size, 1, none⟩ = some (.int .i64 ay) ∧ w'.cell? ⟨w.heap.size + 1, 0, none⟩ = some (.int .i64 bx) ∧ w'.cell? ⟨w.heap.size + 1, 1, none⟩ = some (.int .i64 ey) ∧ w.heap.size + 1 < w'.heap.size)
        (first | ((try dsimp only); (repeat' apply And.intro); all_goals (first | assumption | omega | (simp (disch := omega) [*]; done) | (simp (disch := omega) [cell_alloc_at, *]; done) | (rw [cell_set_at _ _ (by omega), cell_set_at _ _ (by omega)]; first | assumption | (simp (disch := omega) [*]; done) | (simp (disch := omega) [cell_alloc_at, *]; done)) | (simp; omega))) | fail)
        (first
          | (go_at_call 15; (with_reducible refine (toPt_any ax ay _).mono ?_); rintro e wA0 ⟨rfl, hbwA0⟩; obtain ⟨hcwA0, hfwA0⟩ := bcell hbwA0; have hzwA0 := hbwA0.size; (try simp only [World.size_drew] at hcwA0 hfwA0 hzwA0); (try simp only [World.size_alloc] at hcwA0 hfwA0 hzwA0); (try have qW0wA0 : W0.heap.size < wA0.heap.size := (by omega)))
          | (go_at_call 15; (with_reducible refine (toPt_any bx ey _).mono ?_); rintro e wA1 ⟨rfl, hbwA1⟩; obtain ⟨hcwA1, hfwA1⟩ := bcell hbwA1; have hzwA1 := hbwA1.size; (try simp only [World.size_drew] at hcwA1 hfwA1 hzwA1); (try simp only [World.size_alloc] at hcwA1 hfwA1 hzwA1); (try have qW0wA1 : W0.heap.size < wA1.heap.size := (by omega)); (try have qwA0wA1 : wA0.heap.size < wA1.heap.size := (by omega)))
          | (go_at_call 24; ((with_reducible refine (C2.out _).mono ?_); rintro e wC ⟨rfl, hbwC⟩; obtain ⟨hcwC, hfwC⟩ := bcell hbwC; have hzwC := hbwC.size; (try simp only [World.size_drew] at hcwC hfwC hzwC); (try simp only [World.size_alloc] at hcwC hfwC hzwC); (try have qW0wC : W0.heap.size < wC.heap.size := (by omega)); (try have qwA0wC : wA0.heap.size < wC.heap.size := (by omega)); (try have qwA1wC : wA1.heap.size < wC.heap.size := (by omega)))))
      all_goals
        go_wp2_with fail
        go_meet
      all_goals exact ⟨⟨_, rfl, by repeat' (first | with_reducible assumption | with_reducible exact AtL.new _ _ _ | (with_reducible refine AtL.drew ?_) | (with_reducible apply AtL.store2) | (with_reducible refine AtL.alloc ?_ _) | (with_reducible refine AtL.far ?_ ?_ _ _) | (with_reducible refine AtL.below ?_ (by with_reducible assumption)) | omega | (simp; omega))⟩, rfl, by repeat' (first | assumption | exact Below.refl _ _ | (refine Below.drew ?_) | (refine below_dr ?_ _) | (refine Below.alloc ?_ ?_ _) | (refine Below.setCell ?_ ?_ _) | (refine Below.trans ?_ (Below.mono (by assumption) ?_)) | omega | (simp; done) | (simp; omega)), by repeat' (first | with_reducible assumption | with_reducible exact AtL.new _ _ _ | (with_reducible refine AtL.drew ?_) | (with_reducible apply AtL.store2) | (with_reducible refine AtL.alloc ?_ _) | (with_reducible refine AtL.far ?_ ?_ _ _) | (with_reducible refine AtL.below ?_ (by with_reducible assumption)) | omega | (simp; omega)), by repeat' (first | with_reducible assumption | with_reducible exact AtL.new _ _ _ | (with_reducible refine AtL.drew ?_) | (with_reducible apply AtL.store2) | (with_reducible refine AtL.alloc ?_ _) | (with_reducible refine AtL.far ?_ ?_ _ _) | (with_reducible refine AtL.below ?_ (by with_reducible assumption)) | omega | (simp; omega)), by repeat' (first | with_reducible assumption | with_reducible exact AtL.new _ _ _ | (with_reducible refine AtL.drew ?_) | (with_reducible apply AtL.store2) | (with_reducible refine AtL.alloc ?_ _) | (with_reducible refine AtL.far ?_ ?_ _ _) | (with_reducible refine AtL.below ?_ (by with_reducible assumption)) | omega | (simp; omega))⟩
    case rest =>
      obtain ⟨⟨g2, rfl, at2⟩, rfl, bel2, _, _, at3⟩ := hcut
      have k0 := at2.cell 0 rfl
      have k1 := at2.cell 1 rfl
      have k2 := at3.cell 0 rfl
      have k3 := at3.cell 1 rfl
      go_wp2_with fail
      refine (eqPt_same _ _ _).mono ?_
      rintro e wE ⟨rfl, hbwE⟩
      have zE := bel2.size
      go_wp2
      go_ret
      exact ⟨rfl, by repeat' (first | assumption | exact Below.refl _ _ | (refine Below.drew ?_) | (refine below_dr ?_ _) | (refine Below.alloc ?_ ?_ _) | (refine Below.setCell ?_ ?_ _) | (refine Below.trans ?_ (Below.mono (by assumption) ?_)) | omega | (simp; done) | (simp; omega))⟩
end Go.Proofs.Ytiljdnfhojpgnaa
