/- The walk of the law on OnSegment: it returns true. -/
import Derived.Test.YtiljdnfhojpgnaaPg
namespace Go.Proofs.Ytiljdnfhojpgnaa
open Go.RowKit
set_option maxHeartbeats 4000000 in
theorem walk_OnSegment (ax ay bx ey px py : Int) (w_ax : (Lit.int .i64 ax).wf = true) (w_ay : (Lit.int .i64 ay).wf = true) (w_bx : (Lit.int .i64 bx).wf = true) (w_ey : (Lit.int .i64 ey).wf = true) (w_px : (Lit.int .i64 px).wf = true) (w_py : (Lit.int .i64 py).wf = true) (w : World) :
    Calls Try.prog 8 #[.agg #[.int .i64 ax, .int .i64 ay], .agg #[.int .i64 bx, .int .i64 ey], .agg #[.int .i64 px, .int .i64 py]] w fun e w' => e = .returned (.bool true) ∧ Below w.heap.size w w' := by
  have i_ax := i64_bounds w_ax
  have i_ay := i64_bounds w_ay
  have i_bx := i64_bounds w_bx
  have i_ey := i64_bounds w_ey
  have i_px := i64_bounds w_px
  have i_py := i64_bounds w_py
  have C1 := Lib.hid (fun w => specOn_any ax ay bx ey px py w)
  have C2 := Lib.hid (fun w => implOn_any ax ay bx ey px py w)
  generalize onV ax ay bx ey px py = v at C1 C2
  clear i_ax w_ax i_ay w_ay i_bx w_bx i_ey w_ey i_px w_px i_py w_py
  have e_v : (v != v) = false := by simp
  go_enter Try.func8, Try.ntmps8
  go_wp2_with fail
  generalize hW : (((w.alloc (.cells #[.int .i64 ax, .int .i64 ay] 23)).alloc (.cells #[.int .i64 bx, .int .i64 ey] 23)).alloc (.cells #[.int .i64 px, .int .i64 py] 23)) = W0
  have g0 : Below w.heap.size w W0 := by rw [← hW]; repeat' (first | assumption | exact Below.refl _ _ | (refine Below.setCell ?_ ?_ _) | (refine Below.alloc ?_ ?_ _) | (refine below_dr ?_ _) | exact Nat.le_refl _ | (simp; done) | (simp; omega))
  have s1 : W0.cell? ⟨w.heap.size, 0, none⟩ = some (.int .i64 ax) := by rw [← hW]; simp [go_sem]
  have s2 : W0.cell? ⟨w.heap.size, 1, none⟩ = some (.int .i64 ay) := by rw [← hW]; simp [go_sem]
  have s3 : W0.cell? ⟨w.heap.size + 1, 0, none⟩ = some (.int .i64 bx) := by rw [← hW]; simp [go_sem]
  have s4 : W0.cell? ⟨w.heap.size + 1, 1, none⟩ = some (.int .i64 ey) := by rw [← hW]; simp [go_sem]
  have s5 : W0.cell? ⟨w.heap.size + 1 + 1, 0, none⟩ = some (.int .i64 px) := by rw [← hW]; simp [go_sem]
  have s6 : W0.cell? ⟨w.heap.size + 1 + 1, 1, none⟩ = some (.int .i64 py) := by rw [← hW]; simp [go_sem]
  have sz : w.heap.size + 1 + 1 < W0.heap.size := by rw [← hW]; simp
  clear hW
  go_region_held3 (fun w' => w'.cell? ⟨w.heap.size, 0, none⟩ = some (.int .i64 ax) ∧ w'.cell? ⟨w.heap.size, 1, none⟩ = some (.int .i64 ay) ∧ w'.cell? ⟨w.heap.size + 1, 0, none⟩ = some (.int .i64 bx) ∧ w'.cell? ⟨w.heap.size + 1, 1, none⟩ = some (.int .i64 ey) ∧ w'.cell? ⟨w.heap.size + 1 + 1, 0, none⟩ = some (.int .i64 px) ∧ w'.cell? ⟨w.heap.size + 1 + 1, 1, none⟩ = some (.int .i64 py) ∧ w.heap.size + 1 + 1 < w'.heap.size)
    (first | ((try dsimp only); (repeat' apply And.intro); all_goals (first | assumption | omega | (simp (disch := omega) [*]; done) | (simp; omega))) | fail)
    (first
      | (go_at_call 15; (with_reducible refine (toPt_any ax ay _).mono ?_); rintro e wA0 ⟨rfl, hbwA0⟩; obtain ⟨hcwA0, hfwA0⟩ := bcell hbwA0; have hzwA0 := hbwA0.size; (try simp only [World.size_drew] at hcwA0 hfwA0 hzwA0); (try simp only [World.size_alloc] at hcwA0 hfwA0 hzwA0))
      | (go_at_call 15; (with_reducible refine (toPt_any bx ey _).mono ?_); rintro e wA1 ⟨rfl, hbwA1⟩; obtain ⟨hcwA1, hfwA1⟩ := bcell hbwA1; have hzwA1 := hbwA1.size; (try simp only [World.size_drew] at hcwA1 hfwA1 hzwA1); (try simp only [World.size_alloc] at hcwA1 hfwA1 hzwA1))
      | (go_at_call 15; (with_reducible refine (toPt_any px py _).mono ?_); rintro e wA2 ⟨rfl, hbwA2⟩; obtain ⟨hcwA2, hfwA2⟩ := bcell hbwA2; have hzwA2 := hbwA2.size; (try simp only [World.size_drew] at hcwA2 hfwA2 hzwA2); (try simp only [World.size_alloc] at hcwA2 hfwA2 hzwA2))
      | (go_at_call 26; ((with_reducible refine (C1.out _).mono ?_); rintro e wC ⟨rfl, hbwC⟩; obtain ⟨hcwC, hfwC⟩ := bcell hbwC; have hzwC := hbwC.size; (try simp only [World.size_drew] at hcwC hfwC hzwC); (try simp only [World.size_alloc] at hcwC hfwC hzwC))))
  have hBwC : Below W0.heap.size W0 wC := by repeat' (first | assumption | exact Below.refl _ _ | (refine Below.drew ?_) | (refine below_dr ?_ _) | (refine Below.alloc ?_ ?_ _) | (refine Below.setCell ?_ ?_ _) | (refine Below.trans ?_ (Below.mono (by assumption) ?_)) | omega | (simp; done) | (simp; omega))
  obtain ⟨hcwC', hfwC'⟩ := bcell hBwC
  have hzwC' := hBwC.size
  have t1 : wC.cell? ⟨w.heap.size, 0, none⟩ = some (.int .i64 ax) := (hcwC' _ _ (by omega)).trans s1
  have t2 : wC.cell? ⟨w.heap.size, 1, none⟩ = some (.int .i64 ay) := (hcwC' _ _ (by omega)).trans s2
  have t3 : wC.cell? ⟨w.heap.size + 1, 0, none⟩ = some (.int .i64 bx) := (hcwC' _ _ (by omega)).trans s3
  have t4 : wC.cell? ⟨w.heap.size + 1, 1, none⟩ = some (.int .i64 ey) := (hcwC' _ _ (by omega)).trans s4
  have t5 : wC.cell? ⟨w.heap.size + 1 + 1, 0, none⟩ = some (.int .i64 px) := (hcwC' _ _ (by omega)).trans s5
  have t6 : wC.cell? ⟨w.heap.size + 1 + 1, 1, none⟩ = some (.int .i64 py) := (hcwC' _ _ (by omega)).trans s6
  have tz : w.heap.size + 1 + 1 < wC.heap.size := by omega
  clear hcwC hfwC hcwA0 hfwA0 hcwA1 hfwA1 hcwA2 hfwA2
  go_wp2_with fail
  go_region_held3 (fun w' => w'.cell? ⟨w.heap.size, 0, none⟩ = some (.int .i64 ax) ∧ w'.cell? ⟨w.heap.size, 1, none⟩ = some (.int .i64 ay) ∧ w'.cell? ⟨w.heap.size + 1, 0, none⟩ = some (.int .i64 bx) ∧ w'.cell? ⟨w.heap.size + 1, 1, none⟩ = some (.int .i64 ey) ∧ w'.cell? ⟨w.heap.size + 1 + 1, 0, none⟩ = some (.int .i64 px) ∧ w'.cell? ⟨w.heap.size + 1 + 1, 1, none⟩ = some (.int .i64 py) ∧ w.heap.size + 1 + 1 < w'.heap.size)
    (first | ((try dsimp only); (repeat' apply And.intro); all_goals (first | assumption | omega | (simp (disch := omega) [*]; done) | (simp; omega))) | fail)
    (first
      | (go_at_call 15; (with_reducible refine (toPt_any ax ay _).mono ?_); rintro e wD0 ⟨rfl, hbwD0⟩; obtain ⟨hcwD0, hfwD0⟩ := bcell hbwD0; have hzwD0 := hbwD0.size; (try simp only [World.size_drew] at hcwD0 hfwD0 hzwD0); (try simp only [World.size_alloc] at hcwD0 hfwD0 hzwD0))
      | (go_at_call 15; (with_reducible refine (toPt_any bx ey _).mono ?_); rintro e wD1 ⟨rfl, hbwD1⟩; obtain ⟨hcwD1, hfwD1⟩ := bcell hbwD1; have hzwD1 := hbwD1.size; (try simp only [World.size_drew] at hcwD1 hfwD1 hzwD1); (try simp only [World.size_alloc] at hcwD1 hfwD1 hzwD1))
      | (go_at_call 15; (with_reducible refine (toPt_any px py _).mono ?_); rintro e wD2 ⟨rfl, hbwD2⟩; obtain ⟨hcwD2, hfwD2⟩ := bcell hbwD2; have hzwD2 := hbwD2.size; (try simp only [World.size_drew] at hcwD2 hfwD2 hzwD2); (try simp only [World.size_alloc] at hcwD2 hfwD2 hzwD2))
      | (go_at_call 27; ((with_reducible refine (C2.out _).mono ?_); rintro e wF ⟨rfl, hbwF⟩; obtain ⟨hcwF, hfwF⟩ := bcell hbwF; have hzwF := hbwF.size; (try simp only [World.size_drew] at hcwF hfwF hzwF); (try simp only [World.size_alloc] at hcwF hfwF hzwF))))
  go_wp2
  go_ret
  exact ⟨rfl, by repeat' (first | assumption | exact Below.refl _ _ | (refine Below.drew ?_) | (refine below_dr ?_ _) | (refine Below.alloc ?_ ?_ _) | (refine Below.setCell ?_ ?_ _) | (refine Below.trans ?_ (Below.mono (by assumption) ?_)) | omega | (simp; done) | (simp; omega))⟩
end Go.Proofs.Ytiljdnfhojpgnaa
