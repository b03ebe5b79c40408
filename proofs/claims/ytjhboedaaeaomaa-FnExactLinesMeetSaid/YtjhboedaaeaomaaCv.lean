/- Walks: the common point of two segments that touch; the program's side whole; the law on CrossingOf: it returns true. -/
import Derived.Test.YtjhboedaaeaomaaCu
namespace Go.Proofs.Ytjhboedaaeaomaa
open Go.RowKit
theorem touched_is {ax ay bx ey cx cy dx dy : Int} {p : Int × Int} (he : endsF (bothB ax ay bx ey cx cy dx dy) [(ax, ay), (bx, ey), (cx, cy), (dx, dy)] = [p]) :
    (onB cx cy dx dy ax ay = true → p = (ax, ay)) ∧ (onB cx cy dx dy bx ey = true → p = (bx, ey)) ∧ (onB ax ay bx ey cx cy = true → p = (cx, cy)) ∧
    (onB cx cy dx dy ax ay = false → onB cx cy dx dy bx ey = false → onB ax ay bx ey cx cy = false → p = (dx, dy)) := by
  have hm : ∀ q, q ∈ [(ax, ay), (bx, ey), (cx, cy), (dx, dy)] → bothB ax ay bx ey cx cy dx dy q = true → p = q := fun q h1 h2 => by
    have := (ends_mem (bothB ax ay bx ey cx cy dx dy) [(ax, ay), (bx, ey), (cx, cy), (dx, dy)] q).2 ⟨h1, h2⟩
    rw [he] at this; simp at this; exact this.symm
  refine ⟨fun h => hm _ (by simp) (by simp [bothB, on_a, h]), fun h => hm _ (by simp) (by simp [bothB, on_b, h]), fun h => hm _ (by simp) (by simp [bothB, on_a, h]), fun h1 h2 h3 => ?_⟩
  have hp := (ends_mem (bothB ax ay bx ey cx cy dx dy) [(ax, ay), (bx, ey), (cx, cy), (dx, dy)] p).1 (by rw [he]; simp)
  obtain ⟨q1, q2⟩ := both_on hp.2
  have hp := hp.1
  simp only [List.mem_cons, List.not_mem_nil, or_false] at hp
  rcases hp with e | e | e | e
  · rw [e] at q2; simp only at q2; rw [h1] at q2; simp at q2
  · rw [e] at q2; simp only at q2; rw [h2] at q2; simp at q2
  · rw [e] at q1; simp only at q1; rw [h3] at q1; simp at q1
  · exact e
set_option maxRecDepth 100000 in
set_option maxHeartbeats 12800000 in
theorem touchedEnd_any (ax ay bx ey cx cy dx dy : Int) (w : World) (va : okB ax ay = true) (vb : okB bx ey = true) (vc : okB cx cy = true) (vd : okB dx dy = true) {px py : Int} (he : endsF (bothB ax ay bx ey cx cy dx dy) [(ax, ay), (bx, ey), (cx, cy), (dx, dy)] = [(px, py)]) :
    Calls Try.prog 59 #[.agg #[.int .i64 ax, .int .i64 ay], .agg #[.int .i64 bx, .int .i64 ey], .agg #[.int .i64 cx, .int .i64 cy], .agg #[.int .i64 dx, .int .i64 dy]] w fun e w' => e = .returned (.agg #[.int .i64 px, .int .i64 py]) ∧ Below w.heap.size w w' := by
  obtain ⟨H1, H2, H3, H4⟩ := touched_is he
  have O0 := Lib.hid (fun w => implOn_any ax ay bx ey ax ay w)
  rw [← onV_is va vb va] at O0
  rw [on_a ax ay bx ey] at O0
  have O1 := Lib.hid (fun w => implOn_any cx cy dx dy ax ay w)
  rw [← onV_is vc vd va] at O1
  have O2 := Lib.hid (fun w => implOn_any ax ay bx ey bx ey w)
  rw [← onV_is va vb vb] at O2
  rw [on_b ax ay bx ey] at O2
  have O3 := Lib.hid (fun w => implOn_any cx cy dx dy bx ey w)
  rw [← onV_is vc vd vb] at O3
  have O4 := Lib.hid (fun w => implOn_any ax ay bx ey cx cy w)
  rw [← onV_is va vb vc] at O4
  have O5 := Lib.hid (fun w => implOn_any cx cy dx dy cx cy w)
  rw [← onV_is vc vd vc] at O5
  rw [on_a cx cy dx dy] at O5
  clear va vb vc vd he
  generalize onB cx cy dx dy ax ay = ka at *
  generalize onB cx cy dx dy bx ey = kb at *
  generalize onB ax ay bx ey cx cy = kc at *
  rcases ka with _ | _
  rotate_left
  · have X := Lib.hid (H1 rfl)
    clear H1 H2 H3 H4
    have ix0 : ∀ w, (Instr.index 100 (.agg #[.int .i64 ax, .int .i64 ay, .int .i64 bx, .int .i64 ey, .int .i64 cx, .int .i64 cy]) (.int .i64 0)).run Try.prog w = .ok (.agg #[.int .i64 ax, .int .i64 ay]) w := fun _ => by kernel_rfl
    have ix1 : ∀ w, (Instr.index 100 (.agg #[.int .i64 ax, .int .i64 ay, .int .i64 bx, .int .i64 ey, .int .i64 cx, .int .i64 cy]) (.int .i64 1)).run Try.prog w = .ok (.agg #[.int .i64 bx, .int .i64 ey]) w := fun _ => by kernel_rfl
    have ix2 : ∀ w, (Instr.index 100 (.agg #[.int .i64 ax, .int .i64 ay, .int .i64 bx, .int .i64 ey, .int .i64 cx, .int .i64 cy]) (.int .i64 2)).run Try.prog w = .ok (.agg #[.int .i64 cx, .int .i64 cy]) w := fun _ => by kernel_rfl
    go_enter Try.func59, Try.ntmps59
    go_wp2_with fail
    generalize hW : (((((w.alloc (.cells #[.int .i64 ax, .int .i64 ay] 25)).alloc (.cells #[.int .i64 bx, .int .i64 ey] 25)).alloc (.cells #[.int .i64 cx, .int .i64 cy] 25)).alloc (.cells #[.int .i64 dx, .int .i64 dy] 25)).alloc (.cells #[.int .i64 0, .int .i64 0] 25)) = W0
    have g0 : Below w.heap.size w W0 := by rw [← hW]; repeat' (first | with_reducible assumption | with_reducible exact Below.refl _ _ | (with_reducible refine Below.setCell ?_ ?_ _) | (with_reducible refine Below.alloc ?_ ?_ _) | (with_reducible refine Below.drew ?_) | (with_reducible refine below_dr ?_ _) | (with_reducible refine Below.trans ?_ (Below.mono (by with_reducible assumption) ?_)) | omega | (simp; done) | (simp; omega))
    have y00 : W0.cell? ⟨w.heap.size, 0, none⟩ = some (.int .i64 ax) := by rw [← hW]; simp [go_sem]
    have y01 : W0.cell? ⟨w.heap.size, 1, none⟩ = some (.int .i64 ay) := by rw [← hW]; simp [go_sem]
    have y02 : W0.cell? ⟨w.heap.size + 1, 0, none⟩ = some (.int .i64 bx) := by rw [← hW]; simp [go_sem]
    have y03 : W0.cell? ⟨w.heap.size + 1, 1, none⟩ = some (.int .i64 ey) := by rw [← hW]; simp [go_sem]
    have y04 : W0.cell? ⟨w.heap.size + 1 + 1, 0, none⟩ = some (.int .i64 cx) := by rw [← hW]; simp [go_sem]
    have y05 : W0.cell? ⟨w.heap.size + 1 + 1, 1, none⟩ = some (.int .i64 cy) := by rw [← hW]; simp [go_sem]
    have y06 : W0.cell? ⟨w.heap.size + 1 + 1 + 1, 0, none⟩ = some (.int .i64 dx) := by rw [← hW]; simp [go_sem]
    have y07 : W0.cell? ⟨w.heap.size + 1 + 1 + 1, 1, none⟩ = some (.int .i64 dy) := by rw [← hW]; simp [go_sem]
    have y08 : W0.cell? ⟨w.heap.size + 1 + 1 + 1 + 1, 0, none⟩ = some (.int .i64 0) := by rw [← hW]; simp [go_sem]
    have y09 : W0.cell? ⟨w.heap.size + 1 + 1 + 1 + 1, 1, none⟩ = some (.int .i64 0) := by rw [← hW]; simp [go_sem]
    have yf00 : W0.frozen? ⟨w.heap.size + 1 + 1 + 1 + 1, 0, none⟩ = false := by rw [← hW]; simp [go_sem]
    have yf01 : W0.frozen? ⟨w.heap.size + 1 + 1 + 1 + 1, 1, none⟩ = false := by rw [← hW]; simp [go_sem]
    have hz0 : W0.heap.size = w.heap.size + 1 + 1 + 1 + 1 + 1 := by rw [← hW]; simp
    have z00 : w.heap.size < W0.heap.size := by omega
    have z01 : w.heap.size + 1 < W0.heap.size := by omega
    have z02 : w.heap.size + 1 + 1 < W0.heap.size := by omega
    have z03 : w.heap.size + 1 + 1 + 1 < W0.heap.size := by omega
    have z04 : w.heap.size + 1 + 1 + 1 + 1 < W0.heap.size := by omega
    clear hW hz0
    refine wp_loop_rounds 4 ?_
    rw [rounds_succ]
    have nwk10 : (W0.alloc (.cells #[.int .i64 ax, .int .i64 ay] 25)).cell? ⟨W0.heap.size, 0, none⟩ = some (.int .i64 ax) := by simp [go_sem]
    have nwk11 : (W0.alloc (.cells #[.int .i64 ax, .int .i64 ay] 25)).cell? ⟨W0.heap.size, 1, none⟩ = some (.int .i64 ay) := by simp [go_sem]
    go_wp2_with fail
    refine (O0.out _).mono ?_
    rintro e wk1 ⟨rfl, hbwk1⟩
    obtain ⟨hcwk1, hfwk1⟩ := bcell hbwk1
    have hzwk1 := hbwk1.size
    (try simp only [World.size_alloc] at hcwk1 hfwk1 hzwk1)
    have Gwk1 : Below w.heap.size w wk1 := by repeat' (first | with_reducible assumption | with_reducible exact Below.refl _ _ | (with_reducible refine Below.setCell ?_ ?_ _) | (with_reducible refine Below.alloc ?_ ?_ _) | (with_reducible refine Below.drew ?_) | (with_reducible refine below_dr ?_ _) | (with_reducible refine Below.trans ?_ (Below.mono (by with_reducible assumption) ?_)) | omega | (simp; done) | (simp; omega))
    have ywk10 : wk1.cell? ⟨w.heap.size, 0, none⟩ = some (.int .i64 ax) := (by (repeat (first | with_reducible assumption | (with_reducible refine (cell_drew_at _ _).trans ?_) | (with_reducible refine (cell_set_at _ _ (by first | omega | (simp; done) | (simp; omega))).trans ?_) | (with_reducible refine (cell_alloc_at _ _ (by first | omega | (simp; done) | (simp; omega))).trans ?_) | (with_reducible refine (hcwk1 _ _ (by first | omega | (simp; done) | (simp; omega))).trans ?_))))
    have ywk11 : wk1.cell? ⟨w.heap.size, 1, none⟩ = some (.int .i64 ay) := (by (repeat (first | with_reducible assumption | (with_reducible refine (cell_drew_at _ _).trans ?_) | (with_reducible refine (cell_set_at _ _ (by first | omega | (simp; done) | (simp; omega))).trans ?_) | (with_reducible refine (cell_alloc_at _ _ (by first | omega | (simp; done) | (simp; omega))).trans ?_) | (with_reducible refine (hcwk1 _ _ (by first | omega | (simp; done) | (simp; omega))).trans ?_))))
    have ywk12 : wk1.cell? ⟨w.heap.size + 1, 0, none⟩ = some (.int .i64 bx) := (by (repeat (first | with_reducible assumption | (with_reducible refine (cell_drew_at _ _).trans ?_) | (with_reducible refine (cell_set_at _ _ (by first | omega | (simp; done) | (simp; omega))).trans ?_) | (with_reducible refine (cell_alloc_at _ _ (by first | omega | (simp; done) | (simp; omega))).trans ?_) | (with_reducible refine (hcwk1 _ _ (by first | omega | (simp; done) | (simp; omega))).trans ?_))))
    have ywk13 : wk1.cell? ⟨w.heap.size + 1, 1, none⟩ = some (.int .i64 ey) := (by (repeat (first | with_reducible assumption | (with_reducible refine (cell_drew_at _ _).trans ?_) | (with_reducible refine (cell_set_at _ _ (by first | omega | (simp; done) | (simp; omega))).trans ?_) | (with_reducible refine (cell_alloc_at _ _ (by first | omega | (simp; done) | (simp; omega))).trans ?_) | (with_reducible refine (hcwk1 _ _ (by first | omega | (simp; done) | (simp; omega))).trans ?_))))
    have ywk14 : wk1.cell? ⟨w.heap.size + 1 + 1, 0, none⟩ = some (.int .i64 cx) := (by (repeat (first | with_reducible assumption | (with_reducible refine (cell_drew_at _ _).trans ?_) | (with_reducible refine (cell_set_at _ _ (by first | omega | (simp; done) | (simp; omega))).trans ?_) | (with_reducible refine (cell_alloc_at _ _ (by first | omega | (simp; done) | (simp; omega))).trans ?_) | (with_reducible refine (hcwk1 _ _ (by first | omega | (simp; done) | (simp; omega))).trans ?_))))
    have ywk15 : wk1.cell? ⟨w.heap.size + 1 + 1, 1, none⟩ = some (.int .i64 cy) := (by (repeat (first | with_reducible assumption | (with_reducible refine (cell_drew_at _ _).trans ?_) | (with_reducible refine (cell_set_at _ _ (by first | omega | (simp; done) | (simp; omega))).trans ?_) | (with_reducible refine (cell_alloc_at _ _ (by first | omega | (simp; done) | (simp; omega))).trans ?_) | (with_reducible refine (hcwk1 _ _ (by first | omega | (simp; done) | (simp; omega))).trans ?_))))
    have ywk16 : wk1.cell? ⟨w.heap.size + 1 + 1 + 1, 0, none⟩ = some (.int .i64 dx) := (by (repeat (first | with_reducible assumption | (with_reducible refine (cell_drew_at _ _).trans ?_) | (with_reducible refine (cell_set_at _ _ (by first | omega | (simp; done) | (simp; omega))).trans ?_) | (with_reducible refine (cell_alloc_at _ _ (by first | omega | (simp; done) | (simp; omega))).trans ?_) | (with_reducible refine (hcwk1 _ _ (by first | omega | (simp; done) | (simp; omega))).trans ?_))))
    have ywk17 : wk1.cell? ⟨w.heap.size + 1 + 1 + 1, 1, none⟩ = some (.int .i64 dy) := (by (repeat (first | with_reducible assumption | (with_reducible refine (cell_drew_at _ _).trans ?_) | (with_reducible refine (cell_set_at _ _ (by first | omega | (simp; done) | (simp; omega))).trans ?_) | (with_reducible refine (cell_alloc_at _ _ (by first | omega | (simp; done) | (simp; omega))).trans ?_) | (with_reducible refine (hcwk1 _ _ (by first | omega | (simp; done) | (simp; omega))).trans ?_))))
    have ywk18 : wk1.cell? ⟨w.heap.size + 1 + 1 + 1 + 1, 0, none⟩ = some (.int .i64 0) := (by (repeat (first | with_reducible assumption | (with_reducible refine (cell_drew_at _ _).trans ?_) | (with_reducible refine (cell_set_at _ _ (by first | omega | (simp; done) | (simp; omega))).trans ?_) | (with_reducible refine (cell_alloc_at _ _ (by first | omega | (simp; done) | (simp; omega))).trans ?_) | (with_reducible refine (hcwk1 _ _ (by first | omega | (simp; done) | (simp; omega))).trans ?_))))
    have ywk19 : wk1.cell? ⟨w.heap.size + 1 + 1 + 1 + 1, 1, none⟩ = some (.int .i64 0) := (by (repeat (first | with_reducible assumption | (with_reducible refine (cell_drew_at _ _).trans ?_) | (with_reducible refine (cell_set_at _ _ (by first | omega | (simp; done) | (simp; omega))).trans ?_) | (with_reducible refine (cell_alloc_at _ _ (by first | omega | (simp; done) | (simp; omega))).trans ?_) | (with_reducible refine (hcwk1 _ _ (by first | omega | (simp; done) | (simp; omega))).trans ?_))))
    have yfwk18 : wk1.frozen? ⟨w.heap.size + 1 + 1 + 1 + 1, 0, none⟩ = false := (by (repeat (first | with_reducible assumption | (with_reducible refine (frozen_drew_at _ _).trans ?_) | (with_reducible refine (World.frozen?_setCell _ _ _ _).trans ?_) | (with_reducible refine (frozen_alloc_at _ _ (by first | omega | (simp; done) | (simp; omega))).trans ?_) | (with_reducible refine (hfwk1 _ _ (by first | omega | (simp; done) | (simp; omega))).trans ?_))))
    have yfwk19 : wk1.frozen? ⟨w.heap.size + 1 + 1 + 1 + 1, 1, none⟩ = false := (by (repeat (first | with_reducible assumption | (with_reducible refine (frozen_drew_at _ _).trans ?_) | (with_reducible refine (World.frozen?_setCell _ _ _ _).trans ?_) | (with_reducible refine (frozen_alloc_at _ _ (by first | omega | (simp; done) | (simp; omega))).trans ?_) | (with_reducible refine (hfwk1 _ _ (by first | omega | (simp; done) | (simp; omega))).trans ?_))))
    have pwk10 : wk1.cell? ⟨W0.heap.size, 0, none⟩ = some (.int .i64 ax) := (hcwk1 _ _ (by omega)).trans nwk10
    have pwk11 : wk1.cell? ⟨W0.heap.size, 1, none⟩ = some (.int .i64 ay) := (hcwk1 _ _ (by omega)).trans nwk11
    have zwk10 : w.heap.size < wk1.heap.size := by omega
    have zwk11 : w.heap.size + 1 < wk1.heap.size := by omega
    have zwk12 : w.heap.size + 1 + 1 < wk1.heap.size := by omega
    have zwk13 : w.heap.size + 1 + 1 + 1 < wk1.heap.size := by omega
    have zwk14 : w.heap.size + 1 + 1 + 1 + 1 < wk1.heap.size := by omega
    have zpwk1 : W0.heap.size < wk1.heap.size := by omega
    clear hcwk1 hfwk1 nwk10 nwk11 hbwk1
    go_wp2_with fail
    refine (O1.out _).mono ?_
    rintro e wk2 ⟨rfl, hbwk2⟩
    obtain ⟨hcwk2, hfwk2⟩ := bcell hbwk2
    have hzwk2 := hbwk2.size
    (try simp only [World.size_alloc] at hcwk2 hfwk2 hzwk2)
    have Gwk2 : Below w.heap.size w wk2 := by repeat' (first | with_reducible assumption | with_reducible exact Below.refl _ _ | (with_reducible refine Below.setCell ?_ ?_ _) | (with_reducible refine Below.alloc ?_ ?_ _) | (with_reducible refine Below.drew ?_) | (with_reducible refine below_dr ?_ _) | (with_reducible refine Below.trans ?_ (Below.mono (by with_reducible assumption) ?_)) | omega | (simp; done) | (simp; omega))
    have ywk20 : wk2.cell? ⟨w.heap.size, 0, none⟩ = some (.int .i64 ax) := (by (repeat (first | with_reducible assumption | (with_reducible refine (cell_drew_at _ _).trans ?_) | (with_reducible refine (cell_set_at _ _ (by first | omega | (simp; done) | (simp; omega))).trans ?_) | (with_reducible refine (cell_alloc_at _ _ (by first | omega | (simp; done) | (simp; omega))).trans ?_) | (with_reducible refine (hcwk2 _ _ (by first | omega | (simp; done) | (simp; omega))).trans ?_))))
    have ywk21 : wk2.cell? ⟨w.heap.size, 1, none⟩ = some (.int .i64 ay) := (by (repeat (first | with_reducible assumption | (with_reducible refine (cell_drew_at _ _).trans ?_) | (with_reducible refine (cell_set_at _ _ (by first | omega | (simp; done) | (simp; omega))).trans ?_) | (with_reducible refine (cell_alloc_at _ _ (by first | omega | (simp; done) | (simp; omega))).trans ?_) | (with_reducible refine (hcwk2 _ _ (by first | omega | (simp; done) | (simp; omega))).trans ?_))))
    have ywk22 : wk2.cell? ⟨w.heap.size + 1, 0, none⟩ = some (.int .i64 bx) := (by (repeat (first | with_reducible assumption | (with_reducible refine (cell_drew_at _ _).trans ?_) | (with_reducible refine (cell_set_at _ _ (by first | omega | (simp; done) | (simp; omega))).trans ?_) | (with_reducible refine (cell_alloc_at _ _ (by first | omega | (simp; done) | (simp; omega))).trans ?_) | (with_reducible refine (hcwk2 _ _ (by first | omega | (simp; done) | (simp; omega))).trans ?_))))
    have ywk23 : wk2.cell? ⟨w.heap.size + 1, 1, none⟩ = some (.int .i64 ey) := (by (repeat (first | with_reducible assumption | (with_reducible refine (cell_drew_at _ _).trans ?_) | (with_reducible refine (cell_set_at _ _ (by first | omega | (simp; done) | (simp; omega))).trans ?_) | (with_reducible refine (cell_alloc_at _ _ (by first | omega | (simp; done) | (simp; omega))).trans ?_) | (with_reducible refine (hcwk2 _ _ (by first | omega | (simp; done) | (simp; omega))).trans ?_))))
    have ywk24 : wk2.cell? ⟨w.heap.size + 1 + 1, 0, none⟩ = some (.int .i64 cx) := (by (repeat (first | with_reducible assumption | (with_reducible refine (cell_drew_at _ _).trans ?_) | (with_reducible refine (cell_set_at _ _ (by first | omega | (simp; done) | (simp; omega))).trans ?_) | (with_reducible refine (cell_alloc_at _ _ (by first | omega | (simp; done) | (simp; omega))).trans ?_) | (with_reducible refine (hcwk2 _ _ (by first | omega | (simp; done) | (simp; omega))).trans ?_))))
    have ywk25 : wk2.cell? ⟨w.heap.size + 1 + 1, 1, none⟩ = some (.int .i64 cy) := (by (repeat (first | with_reducible assumption | (with_reducible refine (cell_drew_at _ _).trans ?_) | (with_reducible refine (cell_set_at _ _ (by first | omega | (simp; done) | (simp; omega))).trans ?_) | (with_reducible refine (cell_alloc_at _ _ (by first | omega | (simp; done) | (simp; omega))).trans ?_) | (with_reducible refine (hcwk2 _ _ (by first | omega | (simp; done) | (simp; omega))).trans ?_))))
    have ywk26 : wk2.cell? ⟨w.heap.size + 1 + 1 + 1, 0, none⟩ = some (.int .i64 dx) := (by (repeat (first | with_reducible assumption | (with_reducible refine (cell_drew_at _ _).trans ?_) | (with_reducible refine (cell_set_at _ _ (by first | omega | (simp; done) | (simp; omega))).trans ?_) | (with_reducible refine (cell_alloc_at _ _ (by first | omega | (simp; done) | (simp; omega))).trans ?_) | (with_reducible refine (hcwk2 _ _ (by first | omega | (simp; done) | (simp; omega))).trans ?_))))
    have ywk27 : wk2.cell? ⟨w.heap.size + 1 + 1 + 1, 1, none⟩ = some (.int .i64 dy) := (by (repeat (first | with_reducible assumption | (with_reducible refine (cell_drew_at _ _).trans ?_) | (with_reducible refine (cell_set_at _ _ (by first | omega | (simp; done) | (simp; omega))).trans ?_) | (with_reducible refine (cell_alloc_at _ _ (by first | omega | (simp; done) | (simp; omega))).trans ?_) | (with_reducible refine (hcwk2 _ _ (by first | omega | (simp; done) | (simp; omega))).trans ?_))))
    have ywk28 : wk2.cell? ⟨w.heap.size + 1 + 1 + 1 + 1, 0, none⟩ = some (.int .i64 0) := (by (repeat (first | with_reducible assumption | (with_reducible refine (cell_drew_at _ _).trans ?_) | (with_reducible refine (cell_set_at _ _ (by first | omega | (simp; done) | (simp; omega))).trans ?_) | (with_reducible refine (cell_alloc_at _ _ (by first | omega | (simp; done) | (simp; omega))).trans ?_) | (with_reducible refine (hcwk2 _ _ (by first | omega | (simp; done) | (simp; omega))).trans ?_))))
    have ywk29 : wk2.cell? ⟨w.heap.size + 1 + 1 + 1 + 1, 1, none⟩ = some (.int .i64 0) := (by (repeat (first | with_reducible assumption | (with_reducible refine (cell_drew_at _ _).trans ?_) | (with_reducible refine (cell_set_at _ _ (by first | omega | (simp; done) | (simp; omega))).trans ?_) | (with_reducible refine (cell_alloc_at _ _ (by first | omega | (simp; done) | (simp; omega))).trans ?_) | (with_reducible refine (hcwk2 _ _ (by first | omega | (simp; done) | (simp; omega))).trans ?_))))
    have yfwk28 : wk2.frozen? ⟨w.heap.size + 1 + 1 + 1 + 1, 0, none⟩ = false := (by (repeat (first | with_reducible assumption | (with_reducible refine (frozen_drew_at _ _).trans ?_) | (with_reducible refine (World.frozen?_setCell _ _ _ _).trans ?_) | (with_reducible refine (frozen_alloc_at _ _ (by first | omega | (simp; done) | (simp; omega))).trans ?_) | (with_reducible refine (hfwk2 _ _ (by first | omega | (simp; done) | (simp; omega))).trans ?_))))
    have yfwk29 : wk2.frozen? ⟨w.heap.size + 1 + 1 + 1 + 1, 1, none⟩ = false := (by (repeat (first | with_reducible assumption | (with_reducible refine (frozen_drew_at _ _).trans ?_) | (with_reducible refine (World.frozen?_setCell _ _ _ _).trans ?_) | (with_reducible refine (frozen_alloc_at _ _ (by first | omega | (simp; done) | (simp; omega))).trans ?_) | (with_reducible refine (hfwk2 _ _ (by first | omega | (simp; done) | (simp; omega))).trans ?_))))
    have pwk20 : wk2.cell? ⟨W0.heap.size, 0, none⟩ = some (.int .i64 ax) := (hcwk2 _ _ (by omega)).trans pwk10
    have pwk21 : wk2.cell? ⟨W0.heap.size, 1, none⟩ = some (.int .i64 ay) := (hcwk2 _ _ (by omega)).trans pwk11
    have zwk20 : w.heap.size < wk2.heap.size := by omega
    have zwk21 : w.heap.size + 1 < wk2.heap.size := by omega
    have zwk22 : w.heap.size + 1 + 1 < wk2.heap.size := by omega
    have zwk23 : w.heap.size + 1 + 1 + 1 < wk2.heap.size := by omega
    have zwk24 : w.heap.size + 1 + 1 + 1 + 1 < wk2.heap.size := by omega
    have zpwk2 : W0.heap.size < wk2.heap.size := by omega
    clear hcwk2 hfwk2 hbwk2
    go_wp2
    have ra := AtL.of2 ywk28 ywk29 zwk24
    have rb := ra.store2 (a := .int .i64 ax) (b := .int .i64 ay)
    have r0 := rb.cell 0 rfl
    have r1 := rb.cell 1 rfl
    refine bodyPost_ret (v := .agg #[.int .i64 ax, .int .i64 ay]) (by simp [results, Try.results59, go_sem, r0, r1]) rfl ⟨?_, ?_⟩
    · have hx := X.out
      injection hx with hx hy
      rw [hx, hy]
    repeat' (first | with_reducible assumption | with_reducible exact Below.refl _ _ | (with_reducible refine Below.setCell ?_ ?_ _) | (with_reducible refine Below.alloc ?_ ?_ _) | (with_reducible refine Below.drew ?_) | (with_reducible refine below_dr ?_ _) | (with_reducible refine Below.trans ?_ (Below.mono (by with_reducible assumption) ?_)) | omega | (simp; done) | (simp; omega))
  rcases kb with _ | _
  rotate_left
  · have X := Lib.hid (H2 rfl)
    clear H1 H2 H3 H4
    have ix0 : ∀ w, (Instr.index 100 (.agg #[.int .i64 ax, .int .i64 ay, .int .i64 bx, .int .i64 ey, .int .i64 cx, .int .i64 cy]) (.int .i64 0)).run Try.prog w = .ok (.agg #[.int .i64 ax, .int .i64 ay]) w := fun _ => by kernel_rfl
    have ix1 : ∀ w, (Instr.index 100 (.agg #[.int .i64 ax, .int .i64 ay, .int .i64 bx, .int .i64 ey, .int .i64 cx, .int .i64 cy]) (.int .i64 1)).run Try.prog w = .ok (.agg #[.int .i64 bx, .int .i64 ey]) w := fun _ => by kernel_rfl
    have ix2 : ∀ w, (Instr.index 100 (.agg #[.int .i64 ax, .int .i64 ay, .int .i64 bx, .int .i64 ey, .int .i64 cx, .int .i64 cy]) (.int .i64 2)).run Try.prog w = .ok (.agg #[.int .i64 cx, .int .i64 cy]) w := fun _ => by kernel_rfl
    go_enter Try.func59, Try.ntmps59
    go_wp2_with fail
    generalize hW : (((((w.alloc (.cells #[.int .i64 ax, .int .i64 ay] 25)).alloc (.cells #[.int .i64 bx, .int .i64 ey] 25)).alloc (.cells #[.int .i64 cx, .int .i64 cy] 25)).alloc (.cells #[.int .i64 dx, .int .i64 dy] 25)).alloc (.cells #[.int .i64 0, .int .i64 0] 25)) = W0
    have g0 : Below w.heap.size w W0 := by rw [← hW]; repeat' (first | with_reducible assumption | with_reducible exact Below.refl _ _ | (with_reducible refine Below.setCell ?_ ?_ _) | (with_reducible refine Below.alloc ?_ ?_ _) | (with_reducible refine Below.drew ?_) | (with_reducible refine below_dr ?_ _) | (with_reducible refine Below.trans ?_ (Below.mono (by with_reducible assumption) ?_)) | omega | (simp; done) | (simp; omega))
    have y00 : W0.cell? ⟨w.heap.size, 0, none⟩ = some (.int .i64 ax) := by rw [← hW]; simp [go_sem]
    have y01 : W0.cell? ⟨w.heap.size, 1, none⟩ = some (.int .i64 ay) := by rw [← hW]; simp [go_sem]
    have y02 : W0.cell? ⟨w.heap.size + 1, 0, none⟩ = some (.int .i64 bx) := by rw [← hW]; simp [go_sem]
    have y03 : W0.cell? ⟨w.heap.size + 1, 1, none⟩ = some (.int .i64 ey) := by rw [← hW]; simp [go_sem]
    have y04 : W0.cell? ⟨w.heap.size + 1 + 1, 0, none⟩ = some (.int .i64 cx) := by rw [← hW]; simp [go_sem]
    have y05 : W0.cell? ⟨w.heap.size + 1 + 1, 1, none⟩ = some (.int .i64 cy) := by rw [← hW]; simp [go_sem]
    have y06 : W0.cell? ⟨w.heap.size + 1 + 1 + 1, 0, none⟩ = some (.int .i64 dx) := by rw [← hW]; simp [go_sem]
    have y07 : W0.cell? ⟨w.heap.size + 1 + 1 + 1, 1, none⟩ = some (.int .i64 dy) := by rw [← hW]; simp [go_sem]
    have y08 : W0.cell? ⟨w.heap.size + 1 + 1 + 1 + 1, 0, none⟩ = some (.int .i64 0) := by rw [← hW]; simp [go_sem]
    have y09 : W0.cell? ⟨w.heap.size + 1 + 1 + 1 + 1, 1, none⟩ = some (.int .i64 0) := by rw [← hW]; simp [go_sem]
    have yf00 : W0.frozen? ⟨w.heap.size + 1 + 1 + 1 + 1, 0, none⟩ = false := by rw [← hW]; simp [go_sem]
    have yf01 : W0.frozen? ⟨w.heap.size + 1 + 1 + 1 + 1, 1, none⟩ = false := by rw [← hW]; simp [go_sem]
    have hz0 : W0.heap.size = w.heap.size + 1 + 1 + 1 + 1 + 1 := by rw [← hW]; simp
    have z00 : w.heap.size < W0.heap.size := by omega
    have z01 : w.heap.size + 1 < W0.heap.size := by omega
    have z02 : w.heap.size + 1 + 1 < W0.heap.size := by omega
    have z03 : w.heap.size + 1 + 1 + 1 < W0.heap.size := by omega
    have z04 : w.heap.size + 1 + 1 + 1 + 1 < W0.heap.size := by omega
    clear hW hz0
    refine wp_loop_rounds 4 ?_
    rw [rounds_succ]
    have nwk30 : (W0.alloc (.cells #[.int .i64 ax, .int .i64 ay] 25)).cell? ⟨W0.heap.size, 0, none⟩ = some (.int .i64 ax) := by simp [go_sem]
    have nwk31 : (W0.alloc (.cells #[.int .i64 ax, .int .i64 ay] 25)).cell? ⟨W0.heap.size, 1, none⟩ = some (.int .i64 ay) := by simp [go_sem]
    go_wp2_with fail
    refine (O0.out _).mono ?_
    rintro e wk3 ⟨rfl, hbwk3⟩
    obtain ⟨hcwk3, hfwk3⟩ := bcell hbwk3
    have hzwk3 := hbwk3.size
    (try simp only [World.size_alloc] at hcwk3 hfwk3 hzwk3)
    have Gwk3 : Below w.heap.size w wk3 := by repeat' (first | with_reducible assumption | with_reducible exact Below.refl _ _ | (with_reducible refine Below.setCell ?_ ?_ _) | (with_reducible refine Below.alloc ?_ ?_ _) | (with_reducible refine Below.drew ?_) | (with_reducible refine below_dr ?_ _) | (with_reducible refine Below.trans ?_ (Below.mono (by with_reducible assumption) ?_)) | omega | (simp; done) | (simp; omega))
    have ywk30 : wk3.cell? ⟨w.heap.size, 0, none⟩ = some (.int .i64 ax) := (by (repeat (first | with_reducible assumption | (with_reducible refine (cell_drew_at _ _).trans ?_) | (with_reducible refine (cell_set_at _ _ (by first | omega | (simp; done) | (simp; omega))).trans ?_) | (with_reducible refine (cell_alloc_at _ _ (by first | omega | (simp; done) | (simp; omega))).trans ?_) | (with_reducible refine (hcwk3 _ _ (by first | omega | (simp; done) | (simp; omega))).trans ?_))))
    have ywk31 : wk3.cell? ⟨w.heap.size, 1, none⟩ = some (.int .i64 ay) := (by (repeat (first | with_reducible assumption | (with_reducible refine (cell_drew_at _ _).trans ?_) | (with_reducible refine (cell_set_at _ _ (by first | omega | (simp; done) | (simp; omega))).trans ?_) | (with_reducible refine (cell_alloc_at _ _ (by first | omega | (simp; done) | (simp; omega))).trans ?_) | (with_reducible refine (hcwk3 _ _ (by first | omega | (simp; done) | (simp; omega))).trans ?_))))
    have ywk32 : wk3.cell? ⟨w.heap.size + 1, 0, none⟩ = some (.int .i64 bx) := (by (repeat (first | with_reducible assumption | (with_reducible refine (cell_drew_at _ _).trans ?_) | (with_reducible refine (cell_set_at _ _ (by first | omega | (simp; done) | (simp; omega))).trans ?_) | (with_reducible refine (cell_alloc_at _ _ (by first | omega | (simp; done) | (simp; omega))).trans ?_) | (with_reducible refine (hcwk3 _ _ (by first | omega | (simp; done) | (simp; omega))).trans ?_))))
    have ywk33 : wk3.cell? ⟨w.heap.size + 1, 1, none⟩ = some (.int .i64 ey) := (by (repeat (first | with_reducible assumption | (with_reducible refine (cell_drew_at _ _).trans ?_) | (with_reducible refine (cell_set_at _ _ (by first | omega | (simp; done) | (simp; omega))).trans ?_) | (with_reducible refine (cell_alloc_at _ _ (by first | omega | (simp; done) | (simp; omega))).trans ?_) | (with_reducible refine (hcwk3 _ _ (by first | omega | (simp; done) | (simp; omega))).trans ?_))))
    have ywk34 : wk3.cell? ⟨w.heap.size + 1 + 1, 0, none⟩ = some (.int .i64 cx) := (by (repeat (first | with_reducible assumption | (with_reducible refine (cell_drew_at _ _).trans ?_) | (with_reducible refine (cell_set_at _ _ (by first | omega | (simp; done) | (simp; omega))).trans ?_) | (with_reducible refine (cell_alloc_at _ _ (by first | omega | (simp; done) | (simp; omega))).trans ?_) | (with_reducible refine (hcwk3 _ _ (by first | omega | (simp; done) | (simp; omega))).trans ?_))))
    have ywk35 : wk3.cell? ⟨w.heap.size + 1 + 1, 1, none⟩ = some (.int .i64 cy) := (by (repeat (first | with_reducible assumption | (with_reducible refine (cell_drew_at _ _).trans ?_) | (with_reducible refine (cell_set_at _ _ (by first | omega | (simp; done) | (simp; omega))).trans ?_) | (with_reducible refine (cell_alloc_at _ _ (by first | omega | (simp; done) | (simp; omega))).trans ?_) | (with_reducible refine (hcwk3 _ _ (by first | omega | (simp; done) | (simp; omega))).trans ?_))))
    have ywk36 : wk3.cell? ⟨w.heap.size + 1 + 1 + 1, 0, none⟩ = some (.int .i64 dx) := (by (repeat (first | with_reducible assumption | (with_reducible refine (cell_drew_at _ _).trans ?_) | (with_reducible refine (cell_set_at _ _ (by first | omega | (simp; done) | (simp; omega))).trans ?_) | (with_reducible refine (cell_alloc_at _ _ (by first | omega | (simp; done) | (simp; omega))).trans ?_) | (with_reducible refine (hcwk3 _ _ (by first | omega | (simp; done) | (simp; omega))).trans ?_))))
    have ywk37 : wk3.cell? ⟨w.heap.size + 1 + 1 + 1, 1, none⟩ = some (.int .i64 dy) := (by (repeat (first | with_reducible assumption | (with_reducible refine (cell_drew_at _ _).trans ?_) | (with_reducible refine (cell_set_at _ _ (by first | omega | (simp; done) | (simp; omega))).trans ?_) | (with_reducible refine (cell_alloc_at _ _ (by first | omega | (simp; done) | (simp; omega))).trans ?_) | (with_reducible refine (hcwk3 _ _ (by first | omega | (simp; done) | (simp; omega))).trans ?_))))
    have ywk38 : wk3.cell? ⟨w.heap.size + 1 + 1 + 1 + 1, 0, none⟩ = some (.int .i64 0) := (by (repeat (first | with_reducible assumption | (with_reducible refine (cell_drew_at _ _).trans ?_) | (with_reducible refine (cell_set_at _ _ (by first | omega | (simp; done) | (simp; omega))).trans ?_) | (with_reducible refine (cell_alloc_at _ _ (by first | omega | (simp; done) | (simp; omega))).trans ?_) | (with_reducible refine (hcwk3 _ _ (by first | omega | (simp; done) | (simp; omega))).trans ?_))))
    have ywk39 : wk3.cell? ⟨w.heap.size + 1 + 1 + 1 + 1, 1, none⟩ = some (.int .i64 0) := (by (repeat (first | with_reducible assumption | (with_reducible refine (cell_drew_at _ _).trans ?_) | (with_reducible refine (cell_set_at _ _ (by first | omega | (simp; done) | (simp; omega))).trans ?_) | (with_reducible refine (cell_alloc_at _ _ (by first | omega | (simp; done) | (simp; omega))).trans ?_) | (with_reducible refine (hcwk3 _ _ (by first | omega | (simp; done) | (simp; omega))).trans ?_))))
    have yfwk38 : wk3.frozen? ⟨w.heap.size + 1 + 1 + 1 + 1, 0, none⟩ = false := (by (repeat (first | with_reducible assumption | (with_reducible refine (frozen_drew_at _ _).trans ?_) | (with_reducible refine (World.frozen?_setCell _ _ _ _).trans ?_) | (with_reducible refine (frozen_alloc_at _ _ (by first | omega | (simp; done) | (simp; omega))).trans ?_) | (with_reducible refine (hfwk3 _ _ (by first | omega | (simp; done) | (simp; omega))).trans ?_))))
    have yfwk39 : wk3.frozen? ⟨w.heap.size + 1 + 1 + 1 + 1, 1, none⟩ = false := (by (repeat (first | with_reducible assumption | (with_reducible refine (frozen_drew_at _ _).trans ?_) | (with_reducible refine (World.frozen?_setCell _ _ _ _).trans ?_) | (with_reducible refine (frozen_alloc_at _ _ (by first | omega | (simp; done) | (simp; omega))).trans ?_) | (with_reducible refine (hfwk3 _ _ (by first | omega | (simp; done) | (simp; omega))).trans ?_))))
    have pwk30 : wk3.cell? ⟨W0.heap.size, 0, none⟩ = some (.int .i64 ax) := (hcwk3 _ _ (by omega)).trans nwk30
    have pwk31 : wk3.cell? ⟨W0.heap.size, 1, none⟩ = some (.int .i64 ay) := (hcwk3 _ _ (by omega)).trans nwk31
    have zwk30 : w.heap.size < wk3.heap.size := by omega
    have zwk31 : w.heap.size + 1 < wk3.heap.size := by omega
    have zwk32 : w.heap.size + 1 + 1 < wk3.heap.size := by omega
    have zwk33 : w.heap.size + 1 + 1 + 1 < wk3.heap.size := by omega
    have zwk34 : w.heap.size + 1 + 1 + 1 + 1 < wk3.heap.size := by omega
    have zpwk3 : W0.heap.size < wk3.heap.size := by omega
    clear hcwk3 hfwk3 nwk30 nwk31 hbwk3
    go_wp2_with fail
    refine (O1.out _).mono ?_
    rintro e wk4 ⟨rfl, hbwk4⟩
    obtain ⟨hcwk4, hfwk4⟩ := bcell hbwk4
    have hzwk4 := hbwk4.size
    (try simp only [World.size_alloc] at hcwk4 hfwk4 hzwk4)
    have Gwk4 : Below w.heap.size w wk4 := by repeat' (first | with_reducible assumption | with_reducible exact Below.refl _ _ | (with_reducible refine Below.setCell ?_ ?_ _) | (with_reducible refine Below.alloc ?_ ?_ _) | (with_reducible refine Below.drew ?_) | (with_reducible refine below_dr ?_ _) | (with_reducible refine Below.trans ?_ (Below.mono (by with_reducible assumption) ?_)) | omega | (simp; done) | (simp; omega))
    have ywk40 : wk4.cell? ⟨w.heap.size, 0, none⟩ = some (.int .i64 ax) := (by (repeat (first | with_reducible assumption | (with_reducible refine (cell_drew_at _ _).trans ?_) | (with_reducible refine (cell_set_at _ _ (by first | omega | (simp; done) | (simp; omega))).trans ?_) | (with_reducible refine (cell_alloc_at _ _ (by first | omega | (simp; done) | (simp; omega))).trans ?_) | (with_reducible refine (hcwk4 _ _ (by first | omega | (simp; done) | (simp; omega))).trans ?_))))
    have ywk41 : wk4.cell? ⟨w.heap.size, 1, none⟩ = some (.int .i64 ay) := (by (repeat (first | with_reducible assumption | (with_reducible refine (cell_drew_at _ _).trans ?_) | (with_reducible refine (cell_set_at _ _ (by first | omega | (simp; done) | (simp; omega))).trans ?_) | (with_reducible refine (cell_alloc_at _ _ (by first | omega | (simp; done) | (simp; omega))).trans ?_) | (with_reducible refine (hcwk4 _ _ (by first | omega | (simp; done) | (simp; omega))).trans ?_))))
    have ywk42 : wk4.cell? ⟨w.heap.size + 1, 0, none⟩ = some (.int .i64 bx) := (by (repeat (first | with_reducible assumption | (with_reducible refine (cell_drew_at _ _).trans ?_) | (with_reducible refine (cell_set_at _ _ (by first | omega | (simp; done) | (simp; omega))).trans ?_) | (with_reducible refine (cell_alloc_at _ _ (by first | omega | (simp; done) | (simp; omega))).trans ?_) | (with_reducible refine (hcwk4 _ _ (by first | omega | (simp; done) | (simp; omega))).trans ?_))))
    have ywk43 : wk4.cell? ⟨w.heap.size + 1, 1, none⟩ = some (.int .i64 ey) := (by (repeat (first | with_reducible assumption | (with_reducible refine (cell_drew_at _ _).trans ?_) | (with_reducible refine (cell_set_at _ _ (by first | omega | (simp; done) | (simp; omega))).trans ?_) | (with_reducible refine (cell_alloc_at _ _ (by first | omega | (simp; done) | (simp; omega))).trans ?_) | (with_reducible refine (hcwk4 _ _ (by first | omega | (simp; done) | (simp; omega))).trans ?_))))
    have ywk44 : wk4.cell? ⟨w.heap.size + 1 + 1, 0, none⟩ = some (.int .i64 cx) := (by (repeat (first | with_reducible assumption | (with_reducible refine (cell_drew_at _ _).trans ?_) | (with_reducible refine (cell_set_at _ _ (by first | omega | (simp; done) | (simp; omega))).trans ?_) | (with_reducible refine (cell_alloc_at _ _ (by first | omega | (simp; done) | (simp; omega))).trans ?_) | (with_reducible refine (hcwk4 _ _ (by first | omega | (simp; done) | (simp; omega))).trans ?_))))
    have ywk45 : wk4.cell? ⟨w.heap.size + 1 + 1, 1, none⟩ = some (.int .i64 cy) := (by (repeat (first | with_reducible assumption | (with_reducible refine (cell_drew_at _ _).trans ?_) | (with_reducible refine (cell_set_at _ _ (by first | omega | (simp; done) | (simp; omega))).trans ?_) | (with_reducible refine (cell_alloc_at _ _ (by first | omega | (simp; done) | (simp; omega))).trans ?_) | (with_reducible refine (hcwk4 _ _ (by first | omega | (simp; done) | (simp; omega))).trans ?_))))
    have ywk46 : wk4.cell? ⟨w.heap.size + 1 + 1 + 1, 0, none⟩ = some (.int .i64 dx) := (by (repeat (first | with_reducible assumption | (with_reducible refine (cell_drew_at _ _).trans ?_) | (with_reducible refine (cell_set_at _ _ (by first | omega | (simp; done) | (simp; omega))).trans ?_) | (with_reducible refine (cell_alloc_at _ _ (by first | omega | (simp; done) | (simp; omega))).trans ?_) | (with_reducible refine (hcwk4 _ _ (by first | omega | (simp; done) | (simp; omega))).trans ?_))))
    have ywk47 : wk4.cell? ⟨w.heap.size + 1 + 1 + 1, 1, none⟩ = some (.int .i64 dy) := (by (repeat (first | with_reducible assumption | (with_reducible refine (cell_drew_at _ _).trans ?_) | (with_reducible refine (cell_set_at _ _ (by first | omega | (simp; done) | (simp; omega))).trans ?_) | (with_reducible refine (cell_alloc_at _ _ (by first | omega | (simp; done) | (simp; omega))).trans ?_) | (with_reducible refine (hcwk4 _ _ (by first | omega | (simp; done) | (simp; omega))).trans ?_))))
    have ywk48 : wk4.cell? ⟨w.heap.size + 1 + 1 + 1 + 1, 0, none⟩ = some (.int .i64 0) := (by (repeat (first | with_reducible assumption | (with_reducible refine (cell_drew_at _ _).trans ?_) | (with_reducible refine (cell_set_at _ _ (by first | omega | (simp; done) | (simp; omega))).trans ?_) | (with_reducible refine (cell_alloc_at _ _ (by first | omega | (simp; done) | (simp; omega))).trans ?_) | (with_reducible refine (hcwk4 _ _ (by first | omega | (simp; done) | (simp; omega))).trans ?_))))
    have ywk49 : wk4.cell? ⟨w.heap.size + 1 + 1 + 1 + 1, 1, none⟩ = some (.int .i64 0) := (by (repeat (first | with_reducible assumption | (with_reducible refine (cell_drew_at _ _).trans ?_) | (with_reducible refine (cell_set_at _ _ (by first | omega | (simp; done) | (simp; omega))).trans ?_) | (with_reducible refine (cell_alloc_at _ _ (by first | omega | (simp; done) | (simp; omega))).trans ?_) | (with_reducible refine (hcwk4 _ _ (by first | omega | (simp; done) | (simp; omega))).trans ?_))))
    have yfwk48 : wk4.frozen? ⟨w.heap.size + 1 + 1 + 1 + 1, 0, none⟩ = false := (by (repeat (first | with_reducible assumption | (with_reducible refine (frozen_drew_at _ _).trans ?_) | (with_reducible refine (World.frozen?_setCell _ _ _ _).trans ?_) | (with_reducible refine (frozen_alloc_at _ _ (by first | omega | (simp; done) | (simp; omega))).trans ?_) | (with_reducible refine (hfwk4 _ _ (by first | omega | (simp; done) | (simp; omega))).trans ?_))))
    have yfwk49 : wk4.frozen? ⟨w.heap.size + 1 + 1 + 1 + 1, 1, none⟩ = false := (by (repeat (first | with_reducible assumption | (with_reducible refine (frozen_drew_at _ _).trans ?_) | (with_reducible refine (World.frozen?_setCell _ _ _ _).trans ?_) | (with_reducible refine (frozen_alloc_at _ _ (by first | omega | (simp; done) | (simp; omega))).trans ?_) | (with_reducible refine (hfwk4 _ _ (by first | omega | (simp; done) | (simp; omega))).trans ?_))))
    have pwk40 : wk4.cell? ⟨W0.heap.size, 0, none⟩ = some (.int .i64 ax) := (hcwk4 _ _ (by omega)).trans pwk30
    have pwk41 : wk4.cell? ⟨W0.heap.size, 1, none⟩ = some (.int .i64 ay) := (hcwk4 _ _ (by omega)).trans pwk31
    have zwk40 : w.heap.size < wk4.heap.size := by omega
    have zwk41 : w.heap.size + 1 < wk4.heap.size := by omega
    have zwk42 : w.heap.size + 1 + 1 < wk4.heap.size := by omega
    have zwk43 : w.heap.size + 1 + 1 + 1 < wk4.heap.size := by omega
    have zwk44 : w.heap.size + 1 + 1 + 1 + 1 < wk4.heap.size := by omega
    have zpwk4 : W0.heap.size < wk4.heap.size := by omega
    clear hcwk4 hfwk4 hbwk4
    go_wp2_with fail
    rw [rounds_succ]
    have nwk50 : (wk4.alloc (.cells #[.int .i64 bx, .int .i64 ey] 25)).cell? ⟨wk4.heap.size, 0, none⟩ = some (.int .i64 bx) := by simp [go_sem]
    have nwk51 : (wk4.alloc (.cells #[.int .i64 bx, .int .i64 ey] 25)).cell? ⟨wk4.heap.size, 1, none⟩ = some (.int .i64 ey) := by simp [go_sem]
    go_wp2_with fail
    refine (O2.out _).mono ?_
    rintro e wk5 ⟨rfl, hbwk5⟩
    obtain ⟨hcwk5, hfwk5⟩ := bcell hbwk5
    have hzwk5 := hbwk5.size
    (try simp only [World.size_alloc] at hcwk5 hfwk5 hzwk5)
    have Gwk5 : Below w.heap.size w wk5 := by repeat' (first | with_reducible assumption | with_reducible exact Below.refl _ _ | (with_reducible refine Below.setCell ?_ ?_ _) | (with_reducible refine Below.alloc ?_ ?_ _) | (with_reducible refine Below.drew ?_) | (with_reducible refine below_dr ?_ _) | (with_reducible refine Below.trans ?_ (Below.mono (by with_reducible assumption) ?_)) | omega | (simp; done) | (simp; omega))
    have ywk50 : wk5.cell? ⟨w.heap.size, 0, none⟩ = some (.int .i64 ax) := (by (repeat (first | with_reducible assumption | (with_reducible refine (cell_drew_at _ _).trans ?_) | (with_reducible refine (cell_set_at _ _ (by first | omega | (simp; done) | (simp; omega))).trans ?_) | (with_reducible refine (cell_alloc_at _ _ (by first | omega | (simp; done) | (simp; omega))).trans ?_) | (with_reducible refine (hcwk5 _ _ (by first | omega | (simp; done) | (simp; omega))).trans ?_))))
    have ywk51 : wk5.cell? ⟨w.heap.size, 1, none⟩ = some (.int .i64 ay) := (by (repeat (first | with_reducible assumption | (with_reducible refine (cell_drew_at _ _).trans ?_) | (with_reducible refine (cell_set_at _ _ (by first | omega | (simp; done) | (simp; omega))).trans ?_) | (with_reducible refine (cell_alloc_at _ _ (by first | omega | (simp; done) | (simp; omega))).trans ?_) | (with_reducible refine (hcwk5 _ _ (by first | omega | (simp; done) | (simp; omega))).trans ?_))))
    have ywk52 : wk5.cell? ⟨w.heap.size + 1, 0, none⟩ = some (.int .i64 bx) := (by (repeat (first | with_reducible assumption | (with_reducible refine (cell_drew_at _ _).trans ?_) | (with_reducible refine (cell_set_at _ _ (by first | omega | (simp; done) | (simp; omega))).trans ?_) | (with_reducible refine (cell_alloc_at _ _ (by first | omega | (simp; done) | (simp; omega))).trans ?_) | (with_reducible refine (hcwk5 _ _ (by first | omega | (simp; done) | (simp; omega))).trans ?_))))
    have ywk53 : wk5.cell? ⟨w.heap.size + 1, 1, none⟩ = some (.int .i64 ey) := (by (repeat (first | with_reducible assumption | (with_reducible refine (cell_drew_at _ _).trans ?_) | (with_reducible refine (cell_set_at _ _ (by first | omega | (simp; done) | (simp; omega))).trans ?_) | (with_reducible refine (cell_alloc_at _ _ (by first | omega | (simp; done) | (simp; omega))).trans ?_) | (with_reducible refine (hcwk5 _ _ (by first | omega | (simp; done) | (simp; omega))).trans ?_))))
    have ywk54 : wk5.cell? ⟨w.heap.size + 1 + 1, 0, none⟩ = some (.int .i64 cx) := (by (repeat (first | with_reducible assumption | (with_reducible refine (cell_drew_at _ _).trans ?_) | (with_reducible refine (cell_set_at _ _ (by first | omega | (simp; done) | (simp; omega))).trans ?_) | (with_reducible refine (cell_alloc_at _ _ (by first | omega | (simp; done) | (simp; omega))).trans ?_) | (with_reducible refine (hcwk5 _ _ (by first | omega | (simp; done) | (simp; omega))).trans ?_))))
    have ywk55 : wk5.cell? ⟨w.heap.size + 1 + 1, 1, none⟩ = some (.int .i64 cy) := (by (repeat (first | with_reducible assumption | (with_reducible refine (cell_drew_at _ _).trans ?_) | (with_reducible refine (cell_set_at _ _ (by first | omega | (simp; done) | (simp; omega))).trans ?_) | (with_reducible refine (cell_alloc_at _ _ (by first | omega | (simp; done) | (simp; omega))).trans ?_) | (with_reducible refine (hcwk5 _ _ (by first | omega | (simp; done) | (simp; omega))).trans ?_))))
    have ywk56 : wk5.cell? ⟨w.heap.size + 1 + 1 + 1, 0, none⟩ = some (.int .i64 dx) := (by (repeat (first | with_reducible assumption | (with_reducible refine (cell_drew_at _ _).trans ?_) | (with_reducible refine (cell_set_at _ _ (by first | omega | (simp; done) | (simp; omega))).trans ?_) | (with_reducible refine (cell_alloc_at _ _ (by first | omega | (simp; done) | (simp; omega))).trans ?_) | (with_reducible refine (hcwk5 _ _ (by first | omega | (simp; done) | (simp; omega))).trans ?_))))
    have ywk57 : wk5.cell? ⟨w.heap.size + 1 + 1 + 1, 1, none⟩ = some (.int .i64 dy) := (by (repeat (first | with_reducible assumption | (with_reducible refine (cell_drew_at _ _).trans ?_) | (with_reducible refine (cell_set_at _ _ (by first | omega | (simp; done) | (simp; omega))).trans ?_) | (with_reducible refine (cell_alloc_at _ _ (by first | omega | (simp; done) | (simp; omega))).trans ?_) | (with_reducible refine (hcwk5 _ _ (by first | omega | (simp; done) | (simp; omega))).trans ?_))))
    have ywk58 : wk5.cell? ⟨w.heap.size + 1 + 1 + 1 + 1, 0, none⟩ = some (.int .i64 0) := (by (repeat (first | with_reducible assumption | (with_reducible refine (cell_drew_at _ _).trans ?_) | (with_reducible refine (cell_set_at _ _ (by first | omega | (simp; done) | (simp; omega))).trans ?_) | (with_reducible refine (cell_alloc_at _ _ (by first | omega | (simp; done) | (simp; omega))).trans ?_) | (with_reducible refine (hcwk5 _ _ (by first | omega | (simp; done) | (simp; omega))).trans ?_))))
    have ywk59 : wk5.cell? ⟨w.heap.size + 1 + 1 + 1 + 1, 1, none⟩ = some (.int .i64 0) := (by (repeat (first | with_reducible assumption | (with_reducible refine (cell_drew_at _ _).trans ?_) | (with_reducible refine (cell_set_at _ _ (by first | omega | (simp; done) | (simp; omega))).trans ?_) | (with_reducible refine (cell_alloc_at _ _ (by first | omega | (simp; done) | (simp; omega))).trans ?_) | (with_reducible refine (hcwk5 _ _ (by first | omega | (simp; done) | (simp; omega))).trans ?_))))
    have yfwk58 : wk5.frozen? ⟨w.heap.size + 1 + 1 + 1 + 1, 0, none⟩ = false := (by (repeat (first | with_reducible assumption | (with_reducible refine (frozen_drew_at _ _).trans ?_) | (with_reducible refine (World.frozen?_setCell _ _ _ _).trans ?_) | (with_reducible refine (frozen_alloc_at _ _ (by first | omega | (simp; done) | (simp; omega))).trans ?_) | (with_reducible refine (hfwk5 _ _ (by first | omega | (simp; done) | (simp; omega))).trans ?_))))
    have yfwk59 : wk5.frozen? ⟨w.heap.size + 1 + 1 + 1 + 1, 1, none⟩ = false := (by (repeat (first | with_reducible assumption | (with_reducible refine (frozen_drew_at _ _).trans ?_) | (with_reducible refine (World.frozen?_setCell _ _ _ _).trans ?_) | (with_reducible refine (frozen_alloc_at _ _ (by first | omega | (simp; done) | (simp; omega))).trans ?_) | (with_reducible refine (hfwk5 _ _ (by first | omega | (simp; done) | (simp; omega))).trans ?_))))
    have pwk50 : wk5.cell? ⟨wk4.heap.size, 0, none⟩ = some (.int .i64 bx) := (hcwk5 _ _ (by omega)).trans nwk50
    have pwk51 : wk5.cell? ⟨wk4.heap.size, 1, none⟩ = some (.int .i64 ey) := (hcwk5 _ _ (by omega)).trans nwk51
    have zwk50 : w.heap.size < wk5.heap.size := by omega
    have zwk51 : w.heap.size + 1 < wk5.heap.size := by omega
    have zwk52 : w.heap.size + 1 + 1 < wk5.heap.size := by omega
    have zwk53 : w.heap.size + 1 + 1 + 1 < wk5.heap.size := by omega
    have zwk54 : w.heap.size + 1 + 1 + 1 + 1 < wk5.heap.size := by omega
    have zpwk5 : wk4.heap.size < wk5.heap.size := by omega
    clear hcwk5 hfwk5 nwk50 nwk51 hbwk5
    go_wp2_with fail
    refine (O3.out _).mono ?_
    rintro e wk6 ⟨rfl, hbwk6⟩
    obtain ⟨hcwk6, hfwk6⟩ := bcell hbwk6
    have hzwk6 := hbwk6.size
    (try simp only [World.size_alloc] at hcwk6 hfwk6 hzwk6)
    have Gwk6 : Below w.heap.size w wk6 := by repeat' (first | with_reducible assumption | with_reducible exact Below.refl _ _ | (with_reducible refine Below.setCell ?_ ?_ _) | (with_reducible refine Below.alloc ?_ ?_ _) | (with_reducible refine Below.drew ?_) | (with_reducible refine below_dr ?_ _) | (with_reducible refine Below.trans ?_ (Below.mono (by with_reducible assumption) ?_)) | omega | (simp; done) | (simp; omega))
    have ywk60 : wk6.cell? ⟨w.heap.size, 0, none⟩ = some (.int .i64 ax) := (by (repeat (first | with_reducible assumption | (with_reducible refine (cell_drew_at _ _).trans ?_) | (with_reducible refine (cell_set_at _ _ (by first | omega | (simp; done) | (simp; omega))).trans ?_) | (with_reducible refine (cell_alloc_at _ _ (by first | omega | (simp; done) | (simp; omega))).trans ?_) | (with_reducible refine (hcwk6 _ _ (by first | omega | (simp; done) | (simp; omega))).trans ?_))))
    have ywk61 : wk6.cell? ⟨w.heap.size, 1, none⟩ = some (.int .i64 ay) := (by (repeat (first | with_reducible assumption | (with_reducible refine (cell_drew_at _ _).trans ?_) | (with_reducible refine (cell_set_at _ _ (by first | omega | (simp; done) | (simp; omega))).trans ?_) | (with_reducible refine (cell_alloc_at _ _ (by first | omega | (simp; done) | (simp; omega))).trans ?_) | (with_reducible refine (hcwk6 _ _ (by first | omega | (simp; done) | (simp; omega))).trans ?_))))
    have ywk62 : wk6.cell? ⟨w.heap.size + 1, 0, none⟩ = some (.int .i64 bx) := (by (repeat (first | with_reducible assumption | (with_reducible refine (cell_drew_at _ _).trans ?_) | (with_reducible refine (cell_set_at _ _ (by first | omega | (simp; done) | (simp; omega))).trans ?_) | (with_reducible refine (cell_alloc_at _ _ (by first | omega | (simp; done) | (simp; omega))).trans ?_) | (with_reducible refine (hcwk6 _ _ (by first | omega | (simp; done) | (simp; omega))).trans ?_))))
    have ywk63 : wk6.cell? ⟨w.heap.size + 1, 1, none⟩ = some (.int .i64 ey) := (by (repeat (first | with_reducible assumption | (with_reducible refine (cell_drew_at _ _).trans ?_) | (with_reducible refine (cell_set_at _ _ (by first | omega | (simp; done) | (simp; omega))).trans ?_) | (with_reducible refine (cell_alloc_at _ _ (by first | omega | (simp; done) | (simp; omega))).trans ?_) | (with_reducible refine (hcwk6 _ _ (by first | omega | (simp; done) | (simp; omega))).trans ?_))))
    have ywk64 : wk6.cell? ⟨w.heap.size + 1 + 1, 0, none⟩ = some (.int .i64 cx) := (by (repeat (first | with_reducible assumption | (with_reducible refine (cell_drew_at _ _).trans ?_) | (with_reducible refine (cell_set_at _ _ (by first | omega | (simp; done) | (simp; omega))).trans ?_) | (with_reducible refine (cell_alloc_at _ _ (by first | omega | (simp; done) | (simp; omega))).trans ?_) | (with_reducible refine (hcwk6 _ _ (by first | omega | (simp; done) | (simp; omega))).trans ?_))))
    have ywk65 : wk6.cell? ⟨w.heap.size + 1 + 1, 1, none⟩ = some (.int .i64 cy) := (by (repeat (first | with_reducible assumption | (with_reducible refine (cell_drew_at _ _).trans ?_) | (with_reducible refine (cell_set_at _ _ (by first | omega | (simp; done) | (simp; omega))).trans ?_) | (with_reducible refine (cell_alloc_at _ _ (by first | omega | (simp; done) | (simp; omega))).trans ?_) | (with_reducible refine (hcwk6 _ _ (by first | omega | (simp; done) | (simp; omega))).trans ?_))))
    have ywk66 : wk6.cell? ⟨w.heap.size + 1 + 1 + 1, 0, none⟩ = some (.int .i64 dx) := (by (repeat (first | with_reducible assumption | (with_reducible refine (cell_drew_at _ _).trans ?_) | (with_reducible refine (cell_set_at _ _ (by first | omega | (simp; done) | (simp; omega))).trans ?_) | (with_reducible refine (cell_alloc_at _ _ (by first | omega | (simp; done) | (simp; omega))).trans ?_) | (with_reducible refine (hcwk6 _ _ (by first | omega | (simp; done) | (simp; omega))).trans ?_))))
    have ywk67 : wk6.cell? ⟨w.heap.size + 1 + 1 + 1, 1, none⟩ = some (.int .i64 dy) := (by (repeat (first | with_reducible assumption | (with_reducible refine (cell_drew_at _ _).trans ?_) | (with_reducible refine (cell_set_at _ _ (by first | omega | (simp; done) | (simp; omega))).trans ?_) | (with_reducible refine (cell_alloc_at _ _ (by first | omega | (simp; done) | (simp; omega))).trans ?_) | (with_reducible refine (hcwk6 _ _ (by first | omega | (simp; done) | (simp; omega))).trans ?_))))
    have ywk68 : wk6.cell? ⟨w.heap.size + 1 + 1 + 1 + 1, 0, none⟩ = some (.int .i64 0) := (by (repeat (first | with_reducible assumption | (with_reducible refine (cell_drew_at _ _).trans ?_) | (with_reducible refine (cell_set_at _ _ (by first | omega | (simp; done) | (simp; omega))).trans ?_) | (with_reducible refine (cell_alloc_at _ _ (by first | omega | (simp; done) | (simp; omega))).trans ?_) | (with_reducible refine (hcwk6 _ _ (by first | omega | (simp; done) | (simp; omega))).trans ?_))))
    have ywk69 : wk6.cell? ⟨w.heap.size + 1 + 1 + 1 + 1, 1, none⟩ = some (.int .i64 0) := (by (repeat (first | with_reducible assumption | (with_reducible refine (cell_drew_at _ _).trans ?_) | (with_reducible refine (cell_set_at _ _ (by first | omega | (simp; done) | (simp; omega))).trans ?_) | (with_reducible refine (cell_alloc_at _ _ (by first | omega | (simp; done) | (simp; omega))).trans ?_) | (with_reducible refine (hcwk6 _ _ (by first | omega | (simp; done) | (simp; omega))).trans ?_))))
    have yfwk68 : wk6.frozen? ⟨w.heap.size + 1 + 1 + 1 + 1, 0, none⟩ = false := (by (repeat (first | with_reducible assumption | (with_reducible refine (frozen_drew_at _ _).trans ?_) | (with_reducible refine (World.frozen?_setCell _ _ _ _).trans ?_) | (with_reducible refine (frozen_alloc_at _ _ (by first | omega | (simp; done) | (simp; omega))).trans ?_) | (with_reducible refine (hfwk6 _ _ (by first | omega | (simp; done) | (simp; omega))).trans ?_))))
    have yfwk69 : wk6.frozen? ⟨w.heap.size + 1 + 1 + 1 + 1, 1, none⟩ = false := (by (repeat (first | with_reducible assumption | (with_reducible refine (frozen_drew_at _ _).trans ?_) | (with_reducible refine (World.frozen?_setCell _ _ _ _).trans ?_) | (with_reducible refine (frozen_alloc_at _ _ (by first | omega | (simp; done) | (simp; omega))).trans ?_) | (with_reducible refine (hfwk6 _ _ (by first | omega | (simp; done) | (simp; omega))).trans ?_))))
    have pwk60 : wk6.cell? ⟨wk4.heap.size, 0, none⟩ = some (.int .i64 bx) := (hcwk6 _ _ (by omega)).trans pwk50
    have pwk61 : wk6.cell? ⟨wk4.heap.size, 1, none⟩ = some (.int .i64 ey) := (hcwk6 _ _ (by omega)).trans pwk51
    have zwk60 : w.heap.size < wk6.heap.size := by omega
    have zwk61 : w.heap.size + 1 < wk6.heap.size := by omega
    have zwk62 : w.heap.size + 1 + 1 < wk6.heap.size := by omega
    have zwk63 : w.heap.size + 1 + 1 + 1 < wk6.heap.size := by omega
    have zwk64 : w.heap.size + 1 + 1 + 1 + 1 < wk6.heap.size := by omega
    have zpwk6 : wk4.heap.size < wk6.heap.size := by omega
    clear hcwk6 hfwk6 hbwk6
    go_wp2
    have ra := AtL.of2 ywk68 ywk69 zwk64
    have rb := ra.store2 (a := .int .i64 bx) (b := .int .i64 ey)
    have r0 := rb.cell 0 rfl
    have r1 := rb.cell 1 rfl
    refine bodyPost_ret (v := .agg #[.int .i64 bx, .int .i64 ey]) (by simp [results, Try.results59, go_sem, r0, r1]) rfl ⟨?_, ?_⟩
    · have hx := X.out
      injection hx with hx hy
      rw [hx, hy]
    repeat' (first | with_reducible assumption | with_reducible exact Below.refl _ _ | (with_reducible refine Below.setCell ?_ ?_ _) | (with_reducible refine Below.alloc ?_ ?_ _) | (with_reducible refine Below.drew ?_) | (with_reducible refine below_dr ?_ _) | (with_reducible refine Below.trans ?_ (Below.mono (by with_reducible assumption) ?_)) | omega | (simp; done) | (simp; omega))
  rcases kc with _ | _
  rotate_left
  · have X := Lib.hid (H3 rfl)
    clear H1 H2 H3 H4
    have ix0 : ∀ w, (Instr.index 100 (.agg #[.int .i64 ax, .int .i64 ay, .int .i64 bx, .int .i64 ey, .int .i64 cx, .int .i64 cy]) (.int .i64 0)).run Try.prog w = .ok (.agg #[.int .i64 ax, .int .i64 ay]) w := fun _ => by kernel_rfl
    have ix1 : ∀ w, (Instr.index 100 (.agg #[.int .i64 ax, .int .i64 ay, .int .i64 bx, .int .i64 ey, .int .i64 cx, .int .i64 cy]) (.int .i64 1)).run Try.prog w = .ok (.agg #[.int .i64 bx, .int .i64 ey]) w := fun _ => by kernel_rfl
    have ix2 : ∀ w, (Instr.index 100 (.agg #[.int .i64 ax, .int .i64 ay, .int .i64 bx, .int .i64 ey, .int .i64 cx, .int .i64 cy]) (.int .i64 2)).run Try.prog w = .ok (.agg #[.int .i64 cx, .int .i64 cy]) w := fun _ => by kernel_rfl
    go_enter Try.func59, Try.ntmps59
    go_wp2_with fail
    generalize hW : (((((w.alloc (.cells #[.int .i64 ax, .int .i64 ay] 25)).alloc (.cells #[.int .i64 bx, .int .i64 ey] 25)).alloc (.cells #[.int .i64 cx, .int .i64 cy] 25)).alloc (.cells #[.int .i64 dx, .int .i64 dy] 25)).alloc (.cells #[.int .i64 0, .int .i64 0] 25)) = W0
    have g0 : Below w.heap.size w W0 := by rw [← hW]; repeat' (first | with_reducible assumption | with_reducible exact Below.refl _ _ | (with_reducible refine Below.setCell ?_ ?_ _) | (with_reducible refine Below.alloc ?_ ?_ _) | (with_reducible refine Below.drew ?_) | (with_reducible refine below_dr ?_ _) | (with_reducible refine Below.trans ?_ (Below.mono (by with_reducible assumption) ?_)) | omega | (simp; done) | (simp; omega))
    have y00 : W0.cell? ⟨w.heap.size, 0, none⟩ = some (.int .i64 ax) := by rw [← hW]; simp [go_sem]
    have y01 : W0.cell? ⟨w.heap.size, 1, none⟩ = some (.int .i64 ay) := by rw [← hW]; simp [go_sem]
    have y02 : W0.cell? ⟨w.heap.size + 1, 0, none⟩ = some (.int .i64 bx) := by rw [← hW]; simp [go_sem]
    have y03 : W0.cell? ⟨w.heap.size + 1, 1, none⟩ = some (.int .i64 ey) := by rw [← hW]; simp [go_sem]
    have y04 : W0.cell? ⟨w.heap.size + 1 + 1, 0, none⟩ = some (.int .i64 cx) := by rw [← hW]; simp [go_sem]
    have y05 : W0.cell? ⟨w.heap.size + 1 + 1, 1, none⟩ = some (.int .i64 cy) := by rw [← hW]; simp [go_sem]
    have y06 : W0.cell? ⟨w.heap.size + 1 + 1 + 1, 0, none⟩ = some (.int .i64 dx) := by rw [← hW]; simp [go_sem]
    have y07 : W0.cell? ⟨w.heap.size + 1 + 1 + 1, 1, none⟩ = some (.int .i64 dy) := by rw [← hW]; simp [go_sem]
    have y08 : W0.cell? ⟨w.heap.size + 1 + 1 + 1 + 1, 0, none⟩ = some (.int .i64 0) := by rw [← hW]; simp [go_sem]
    have y09 : W0.cell? ⟨w.heap.size + 1 + 1 + 1 + 1, 1, none⟩ = some (.int .i64 0) := by rw [← hW]; simp [go_sem]
    have yf00 : W0.frozen? ⟨w.heap.size + 1 + 1 + 1 + 1, 0, none⟩ = false := by rw [← hW]; simp [go_sem]
    have yf01 : W0.frozen? ⟨w.heap.size + 1 + 1 + 1 + 1, 1, none⟩ = false := by rw [← hW]; simp [go_sem]
    have hz0 : W0.heap.size = w.heap.size + 1 + 1 + 1 + 1 + 1 := by rw [← hW]; simp
    have z00 : w.heap.size < W0.heap.size := by omega
    have z01 : w.heap.size + 1 < W0.heap.size := by omega
    have z02 : w.heap.size + 1 + 1 < W0.heap.size := by omega
    have z03 : w.heap.size + 1 + 1 + 1 < W0.heap.size := by omega
    have z04 : w.heap.size + 1 + 1 + 1 + 1 < W0.heap.size := by omega
    clear hW hz0
    refine wp_loop_rounds 4 ?_
    rw [rounds_succ]
    have nwk70 : (W0.alloc (.cells #[.int .i64 ax, .int .i64 ay] 25)).cell? ⟨W0.heap.size, 0, none⟩ = some (.int .i64 ax) := by simp [go_sem]
    have nwk71 : (W0.alloc (.cells #[.int .i64 ax, .int .i64 ay] 25)).cell? ⟨W0.heap.size, 1, none⟩ = some (.int .i64 ay) := by simp [go_sem]
    go_wp2_with fail
    refine (O0.out _).mono ?_
    rintro e wk7 ⟨rfl, hbwk7⟩
    obtain ⟨hcwk7, hfwk7⟩ := bcell hbwk7
    have hzwk7 := hbwk7.size
    (try simp only [World.size_alloc] at hcwk7 hfwk7 hzwk7)
    have Gwk7 : Below w.heap.size w wk7 := by repeat' (first | with_reducible assumption | with_reducible exact Below.refl _ _ | (with_reducible refine Below.setCell ?_ ?_ _) | (with_reducible refine Below.alloc ?_ ?_ _) | (with_reducible refine Below.drew ?_) | (with_reducible refine below_dr ?_ _) | (with_reducible refine Below.trans ?_ (Below.mono (by with_reducible assumption) ?_)) | omega | (simp; done) | (simp; omega))
    have ywk70 : wk7.cell? ⟨w.heap.size, 0, none⟩ = some (.int .i64 ax) := (by (repeat (first | with_reducible assumption | (with_reducible refine (cell_drew_at _ _).trans ?_) | (with_reducible refine (cell_set_at _ _ (by first | omega | (simp; done) | (simp; omega))).trans ?_) | (with_reducible refine (cell_alloc_at _ _ (by first | omega | (simp; done) | (simp; omega))).trans ?_) | (with_reducible refine (hcwk7 _ _ (by first | omega | (simp; done) | (simp; omega))).trans ?_))))
    have ywk71 : wk7.cell? ⟨w.heap.size, 1, none⟩ = some (.int .i64 ay) := (by (repeat (first | with_reducible assumption | (with_reducible refine (cell_drew_at _ _).trans ?_) | (with_reducible refine (cell_set_at _ _ (by first | omega | (simp; done) | (simp; omega))).trans ?_) | (with_reducible refine (cell_alloc_at _ _ (by first | omega | (simp; done) | (simp; omega))).trans ?_) | (with_reducible refine (hcwk7 _ _ (by first | omega | (simp; done) | (simp; omega))).trans ?_))))
    have ywk72 : wk7.cell? ⟨w.heap.size + 1, 0, none⟩ = some (.int .i64 bx) := (by (repeat (first | with_reducible assumption | (with_reducible refine (cell_drew_at _ _).trans ?_) | (with_reducible refine (cell_set_at _ _ (by first | omega | (simp; done) | (simp; omega))).trans ?_) | (with_reducible refine (cell_alloc_at _ _ (by first | omega | (simp; done) | (simp; omega))).trans ?_) | (with_reducible refine (hcwk7 _ _ (by first | omega | (simp; done) | (simp; omega))).trans ?_))))
    have ywk73 : wk7.cell? ⟨w.heap.size + 1, 1, none⟩ = some (.int .i64 ey) := (by (repeat (first | with_reducible assumption | (with_reducible refine (cell_drew_at _ _).trans ?_) | (with_reducible refine (cell_set_at _ _ (by first | omega | (simp; done) | (simp; omega))).trans ?_) | (with_reducible refine (cell_alloc_at _ _ (by first | omega | (simp; done) | (simp; omega))).trans ?_) | (with_reducible refine (hcwk7 _ _ (by first | omega | (simp; done) | (simp; omega))).trans ?_))))
    have ywk74 : wk7.cell? ⟨w.heap.size + 1 + 1, 0, none⟩ = some (.int .i64 cx) := (by (repeat (first | with_reducible assumption | (with_reducible refine (cell_drew_at _ _).trans ?_) | (with_reducible refine (cell_set_at _ _ (by first | omega | (simp; done) | (simp; omega))).trans ?_) | (with_reducible refine (cell_alloc_at _ _ (by first | omega | (simp; done) | (simp; omega))).trans ?_) | (with_reducible refine (hcwk7 _ _ (by first | omega | (simp; done) | (simp; omega))).trans ?_))))
    have ywk75 : wk7.cell? ⟨w.heap.size + 1 + 1, 1, none⟩ = some (.int .i64 cy) := (by (repeat (first | with_reducible assumption | (with_reducible refine (cell_drew_at _ _).trans ?_) | (with_reducible refine (cell_set_at _ _ (by first | omega | (simp; done) | (simp; omega))).trans ?_) | (with_reducible refine (cell_alloc_at _ _ (by first | omega | (simp; done) | (simp; omega))).trans ?_) | (with_reducible refine (hcwk7 _ _ (by first | omega | (simp; done) | (simp; omega))).trans ?_))))
    have ywk76 : wk7.cell? ⟨w.heap.size + 1 + 1 + 1, 0, none⟩ = some (.int .i64 dx) := (by (repeat (first | with_reducible assumption | (with_reducible refine (cell_drew_at _ _).trans ?_) | (with_reducible refine (cell_set_at _ _ (by first | omega | (simp; done) | (simp; omega))).trans ?_) | (with_reducible refine (cell_alloc_at _ _ (by first | omega | (simp; done) | (simp; omega))).trans ?_) | (with_reducible refine (hcwk7 _ _ (by first | omega | (simp; done) | (simp; omega))).trans ?_))))
    have ywk77 : wk7.cell? ⟨w.heap.size + 1 + 1 + 1, 1, none⟩ = some (.int .i64 dy) := (by (repeat (first | with_reducible assumption | (with_reducible refine (cell_drew_at _ _).trans ?_) | (with_reducible refine (cell_set_at _ _ (by first | omega | (simp; done) | (simp; omega))).trans ?_) | (with_reducible refine (cell_alloc_at _ _ (by first | omega | (simp; done) | (simp; omega))).trans ?_) | (with_reducible refine (hcwk7 _ _ (by first | omega | (simp; done) | (simp; omega))).trans ?_))))
    have ywk78 : wk7.cell? ⟨w.heap.size + 1 + 1 + 1 + 1, 0, none⟩ = some (.int .i64 0) := (by (repeat (first | with_reducible assumption | (with_reducible refine (cell_drew_at _ _).trans ?_) | (with_reducible refine (cell_set_at _ _ (by first | omega | (simp; done) | (simp; omega))).trans ?_) | (with_reducible refine (cell_alloc_at _ _ (by first | omega | (simp; done) | (simp; omega))).trans ?_) | (with_reducible refine (hcwk7 _ _ (by first | omega | (simp; done) | (simp; omega))).trans ?_))))
    have ywk79 : wk7.cell? ⟨w.heap.size + 1 + 1 + 1 + 1, 1, none⟩ = some (.int .i64 0) := (by (repeat (first | with_reducible assumption | (with_reducible refine (cell_drew_at _ _).trans ?_) | (with_reducible refine (cell_set_at _ _ (by first | omega | (simp; done) | (simp; omega))).trans ?_) | (with_reducible refine (cell_alloc_at _ _ (by first | omega | (simp; done) | (simp; omega))).trans ?_) | (with_reducible refine (hcwk7 _ _ (by first | omega | (simp; done) | (simp; omega))).trans ?_))))
    have yfwk78 : wk7.frozen? ⟨w.heap.size + 1 + 1 + 1 + 1, 0, none⟩ = false := (by (repeat (first | with_reducible assumption | (with_reducible refine (frozen_drew_at _ _).trans ?_) | (with_reducible refine (World.frozen?_setCell _ _ _ _).trans ?_) | (with_reducible refine (frozen_alloc_at _ _ (by first | omega | (simp; done) | (simp; omega))).trans ?_) | (with_reducible refine (hfwk7 _ _ (by first | omega | (simp; done) | (simp; omega))).trans ?_))))
    have yfwk79 : wk7.frozen? ⟨w.heap.size + 1 + 1 + 1 + 1, 1, none⟩ = false := (by (repeat (first | with_reducible assumption | (with_reducible refine (frozen_drew_at _ _).trans ?_) | (with_reducible refine (World.frozen?_setCell _ _ _ _).trans ?_) | (with_reducible refine (frozen_alloc_at _ _ (by first | omega | (simp; done) | (simp; omega))).trans ?_) | (with_reducible refine (hfwk7 _ _ (by first | omega | (simp; done) | (simp; omega))).trans ?_))))
    have pwk70 : wk7.cell? ⟨W0.heap.size, 0, none⟩ = some (.int .i64 ax) := (hcwk7 _ _ (by omega)).trans nwk70
    have pwk71 : wk7.cell? ⟨W0.heap.size, 1, none⟩ = some (.int .i64 ay) := (hcwk7 _ _ (by omega)).trans nwk71
    have zwk70 : w.heap.size < wk7.heap.size := by omega
    have zwk71 : w.heap.size + 1 < wk7.heap.size := by omega
    have zwk72 : w.heap.size + 1 + 1 < wk7.heap.size := by omega
    have zwk73 : w.heap.size + 1 + 1 + 1 < wk7.heap.size := by omega
    have zwk74 : w.heap.size + 1 + 1 + 1 + 1 < wk7.heap.size := by omega
    have zpwk7 : W0.heap.size < wk7.heap.size := by omega
    clear hcwk7 hfwk7 nwk70 nwk71 hbwk7
    go_wp2_with fail
    refine (O1.out _).mono ?_
    rintro e wk8 ⟨rfl, hbwk8⟩
    obtain ⟨hcwk8, hfwk8⟩ := bcell hbwk8
    have hzwk8 := hbwk8.size
    (try simp only [World.size_alloc] at hcwk8 hfwk8 hzwk8)
    have Gwk8 : Below w.heap.size w wk8 := by repeat' (first | with_reducible assumption | with_reducible exact Below.refl _ _ | (with_reducible refine Below.setCell ?_ ?_ _) | (with_reducible refine Below.alloc ?_ ?_ _) | (with_reducible refine Below.drew ?_) | (with_reducible refine below_dr ?_ _) | (with_reducible refine Below.trans ?_ (Below.mono (by with_reducible assumption) ?_)) | omega | (simp; done) | (simp; omega))
    have ywk80 : wk8.cell? ⟨w.heap.size, 0, none⟩ = some (.int .i64 ax) := (by (repeat (first | with_reducible assumption | (with_reducible refine (cell_drew_at _ _).trans ?_) | (with_reducible refine (cell_set_at _ _ (by first | omega | (simp; done) | (simp; omega))).trans ?_) | (with_reducible refine (cell_alloc_at _ _ (by first | omega | (simp; done) | (simp; omega))).trans ?_) | (with_reducible refine (hcwk8 _ _ (by first | omega | (simp; done) | (simp; omega))).trans ?_))))
    have ywk81 : wk8.cell? ⟨w.heap.size, 1, none⟩ = some (.int .i64 ay) := (by (repeat (first | with_reducible assumption | (with_reducible refine (cell_drew_at _ _).trans ?_) | (with_reducible refine (cell_set_at _ _ (by first | omega | (simp; done) | (simp; omega))).trans ?_) | (with_reducible refine (cell_alloc_at _ _ (by first | omega | (simp; done) | (simp; omega))).trans ?_) | (with_reducible refine (hcwk8 _ _ (by first | omega | (simp; done) | (simp; omega))).trans ?_))))
    have ywk82 : wk8.cell? ⟨w.heap.size + 1, 0, none⟩ = some (.int .i64 bx) := (by (repeat (first | with_reducible assumption | (with_reducible refine (cell_drew_at _ _).trans ?_) | (with_reducible refine (cell_set_at _ _ (by first | omega | (simp; done) | (simp; omega))).trans ?_) | (with_reducible refine (cell_alloc_at _ _ (by first | omega | (simp; done) | (simp; omega))).trans ?_) | (with_reducible refine (hcwk8 _ _ (by first | omega | (simp; done) | (simp; omega))).trans ?_))))
    have ywk83 : wk8.cell? ⟨w.heap.size + 1, 1, none⟩ = some (.int .i64 ey) := (by (repeat (first | with_reducible assumption | (with_reducible refine (cell_drew_at _ _).trans ?_) | (with_reducible refine (cell_set_at _ _ (by first | omega | (simp; done) | (simp; omega))).trans ?_) | (with_reducible refine (cell_alloc_at _ _ (by first | omega | (simp; done) | (simp; omega))).trans ?_) | (with_reducible refine (hcwk8 _ _ (by first | omega | (simp; done) | (simp; omega))).trans ?_))))
    have ywk84 : wk8.cell? ⟨w.heap.size + 1 + 1, 0, none⟩ = some (.int .i64 cx) := (by (repeat (first | with_reducible assumption | (with_reducible refine (cell_drew_at _ _).trans ?_) | (with_reducible refine (cell_set_at _ _ (by first | omega | (simp; done) | (simp; omega))).trans ?_) | (with_reducible refine (cell_alloc_at _ _ (by first | omega | (simp; done) | (simp; omega))).trans ?_) | (with_reducible refine (hcwk8 _ _ (by first | omega | (simp; done) | (simp; omega))).trans ?_))))
    have ywk85 : wk8.cell? ⟨w.heap.size + 1 + 1, 1, none⟩ = some (.int .i64 cy) := (by (repeat (first | with_reducible assumption | (with_reducible refine (cell_drew_at _ _).trans ?_) | (with_reducible refine (cell_set_at _ _ (by first | omega | (simp; done) | (simp; omega))).trans ?_) | (with_reducible refine (cell_alloc_at _ _ (by first | omega | (simp; done) | (simp; omega))).trans ?_) | (with_reducible refine (hcwk8 _ _ (by first | omega | (simp; done) | (simp; omega))).trans ?_))))
    have ywk86 : wk8.cell? ⟨w.heap.size + 1 + 1 + 1, 0, none⟩ = some (.int .i64 dx) := (by (repeat (first | with_reducible assumption | (with_reducible refine (cell_drew_at _ _).trans ?_) | (with_reducible refine (cell_set_at _ _ (by first | omega | (simp; done) | (simp; omega))).trans ?_) | (with_reducible refine (cell_alloc_at _ _ (by first | omega | (simp; done) | (simp; omega))).trans ?_) | (with_reducible refine (hcwk8 _ _ (by first | omega | (simp; done) | (simp; omega))).trans ?_))))
    have ywk87 : wk8.cell? ⟨w.heap.size + 1 + 1 + 1, 1, none⟩ = some (.int .i64 dy) := (by (repeat (first | with_reducible assumption | (with_reducible refine (cell_drew_at _ _).trans ?_) | (with_reducible refine (cell_set_at _ _ (by first | omega | (simp; done) | (simp; omega))).trans ?_) | (with_reducible refine (cell_alloc_at _ _ (by first | omega | (simp; done) | (simp; omega))).trans ?_) | (with_reducible refine (hcwk8 _ _ (by first | omega | (simp; done) | (simp; omega))).trans ?_))))
    have ywk88 : wk8.cell? ⟨w.heap.size + 1 + 1 + 1 + 1, 0, none⟩ = some (.int .i64 0) := (by (repeat (first | with_reducible assumption | (with_reducible refine (cell_drew_at _ _).trans ?_) | (with_reducible refine (cell_set_at _ _ (by first | omega | (simp; done) | (simp; omega))).trans ?_) | (with_reducible refine (cell_alloc_at _ _ (by first | omega | (simp; done) | (simp; omega))).trans ?_) | (with_reducible refine (hcwk8 _ _ (by first | omega | (simp; done) | (simp; omega))).trans ?_))))
    have ywk89 : wk8.cell? ⟨w.heap.size + 1 + 1 + 1 + 1, 1, none⟩ = some (.int .i64 0) := (by (repeat (first | with_reducible assumption | (with_reducible refine (cell_drew_at _ _).trans ?_) | (with_reducible refine (cell_set_at _ _ (by first | omega | (simp; done) | (simp; omega))).trans ?_) | (with_reducible refine (cell_alloc_at _ _ (by first | omega | (simp; done) | (simp; omega))).trans ?_) | (with_reducible refine (hcwk8 _ _ (by first | omega | (simp; done) | (simp; omega))).trans ?_))))
    have yfwk88 : wk8.frozen? ⟨w.heap.size + 1 + 1 + 1 + 1, 0, none⟩ = false := (by (repeat (first | with_reducible assumption | (with_reducible refine (frozen_drew_at _ _).trans ?_) | (with_reducible refine (World.frozen?_setCell _ _ _ _).trans ?_) | (with_reducible refine (frozen_alloc_at _ _ (by first | omega | (simp; done) | (simp; omega))).trans ?_) | (with_reducible refine (hfwk8 _ _ (by first | omega | (simp; done) | (simp; omega))).trans ?_))))
    have yfwk89 : wk8.frozen? ⟨w.heap.size + 1 + 1 + 1 + 1, 1, none⟩ = false := (by (repeat (first | with_reducible assumption | (with_reducible refine (frozen_drew_at _ _).trans ?_) | (with_reducible refine (World.frozen?_setCell _ _ _ _).trans ?_) | (with_reducible refine (frozen_alloc_at _ _ (by first | omega | (simp; done) | (simp; omega))).trans ?_) | (with_reducible refine (hfwk8 _ _ (by first | omega | (simp; done) | (simp; omega))).trans ?_))))
    have pwk80 : wk8.cell? ⟨W0.heap.size, 0, none⟩ = some (.int .i64 ax) := (hcwk8 _ _ (by omega)).trans pwk70
    have pwk81 : wk8.cell? ⟨W0.heap.size, 1, none⟩ = some (.int .i64 ay) := (hcwk8 _ _ (by omega)).trans pwk71
    have zwk80 : w.heap.size < wk8.heap.size := by omega
    have zwk81 : w.heap.size + 1 < wk8.heap.size := by omega
    have zwk82 : w.heap.size + 1 + 1 < wk8.heap.size := by omega
    have zwk83 : w.heap.size + 1 + 1 + 1 < wk8.heap.size := by omega
    have zwk84 : w.heap.size + 1 + 1 + 1 + 1 < wk8.heap.size := by omega
    have zpwk8 : W0.heap.size < wk8.heap.size := by omega
    clear hcwk8 hfwk8 hbwk8
    go_wp2_with fail
    rw [rounds_succ]
    have nwk90 : (wk8.alloc (.cells #[.int .i64 bx, .int .i64 ey] 25)).cell? ⟨wk8.heap.size, 0, none⟩ = some (.int .i64 bx) := by simp [go_sem]
    have nwk91 : (wk8.alloc (.cells #[.int .i64 bx, .int .i64 ey] 25)).cell? ⟨wk8.heap.size, 1, none⟩ = some (.int .i64 ey) := by simp [go_sem]
    go_wp2_with fail
    refine (O2.out _).mono ?_
    rintro e wk9 ⟨rfl, hbwk9⟩
    obtain ⟨hcwk9, hfwk9⟩ := bcell hbwk9
    have hzwk9 := hbwk9.size
    (try simp only [World.size_alloc] at hcwk9 hfwk9 hzwk9)
    have Gwk9 : Below w.heap.size w wk9 := by repeat' (first | with_reducible assumption | with_reducible exact Below.refl _ _ | (with_reducible refine Below.setCell ?_ ?_ _) | (with_reducible refine Below.alloc ?_ ?_ _) | (with_reducible refine Below.drew ?_) | (with_reducible refine below_dr ?_ _) | (with_reducible refine Below.trans ?_ (Below.mono (by with_reducible assumption) ?_)) | omega | (simp; done) | (simp; omega))
    have ywk90 : wk9.cell? ⟨w.heap.size, 0, none⟩ = some (.int .i64 ax) := (by (repeat (first | with_reducible assumption | (with_reducible refine (cell_drew_at _ _).trans ?_) | (with_reducible refine (cell_set_at _ _ (by first | omega | (simp; done) | (simp; omega))).trans ?_) | (with_reducible refine (cell_alloc_at _ _ (by first | omega | (simp; done) | (simp; omega))).trans ?_) | (with_reducible refine (hcwk9 _ _ (by first | omega | (simp; done) | (simp; omega))).trans ?_))))
    have ywk91 : wk9.cell? ⟨w.heap.size, 1, none⟩ = some (.int .i64 ay) := (by (repeat (first | with_reducible assumption | (with_reducible refine (cell_drew_at _ _).trans ?_) | (with_reducible refine (cell_set_at _ _ (by first | omega | (simp; done) | (simp; omega))).trans ?_) | (with_reducible refine (cell_alloc_at _ _ (by first | omega | (simp; done) | (simp; omega))).trans ?_) | (with_reducible refine (hcwk9 _ _ (by first | omega | (simp; done) | (simp; omega))).trans ?_))))
    have ywk92 : wk9.cell? ⟨w.heap.size + 1, 0, none⟩ = some (.int .i64 bx) := (by (repeat (first | with_reducible assumption | (with_reducible refine (cell_drew_at _ _).trans ?_) | (with_reducible refine (cell_set_at _ _ (by first | omega | (simp; done) | (simp; omega))).trans ?_) | (with_reducible refine (cell_alloc_at _ _ (by first | omega | (simp; done) | (simp; omega))).trans ?_) | (with_reducible refine (hcwk9 _ _ (by first | omega | (simp; done) | (simp; omega))).trans ?_))))
    have ywk93 : wk9.cell? ⟨w.heap.size + 1, 1, none⟩ = some (.int .i64 ey) := (by (repeat (first | with_reducible assumption | (with_reducible refine (cell_drew_at _ _).trans ?_) | (with_reducible refine (cell_set_at _ _ (by first | omega | (simp; done) | (simp; omega))).trans ?_) | (with_reducible refine (cell_alloc_at _ _ (by first | omega | (simp; done) | (simp; omega))).trans ?_) | (with_reducible refine (hcwk9 _ _ (by first | omega | (simp; done) | (simp; omega))).trans ?_))))
    have ywk94 : wk9.cell? ⟨w.heap.size + 1 + 1, 0, none⟩ = some (.int .i64 cx) := (by (repeat (first | with_reducible assumption | (with_reducible refine (cell_drew_at _ _).trans ?_) | (with_reducible refine (cell_set_at _ _ (by first | omega | (simp; done) | (simp; omega))).trans ?_) | (with_reducible refine (cell_alloc_at _ _ (by first | omega | (simp; done) | (simp; omega))).trans ?_) | (with_reducible refine (hcwk9 _ _ (by first | omega | (simp; done) | (simp; omega))).trans ?_))))
    have ywk95 : wk9.cell? ⟨w.heap.size + 1 + 1, 1, none⟩ = some (.int .i64 cy) := (by (repeat (first | with_reducible assumption | (with_reducible refine (cell_drew_at _ _).trans ?_) | (with_reducible refine (cell_set_at _ _ (by first | omega | (simp; done) | (simp; omega))).trans ?_) | (with_reducible refine (cell_alloc_at _ _ (by first | omega | (simp; done) | (simp; omega))).trans ?_) | (with_reducible refine (hcwk9 _ _ (by first | omega | (simp; done) | (simp; omega))).trans ?_))))
    have ywk96 : wk9.cell? ⟨w.heap.size + 1 + 1 + 1, 0, none⟩ = some (.int .i64 dx) := (by (repeat (first | with_reducible assumption | (with_reducible refine (cell_drew_at _ _).trans ?_) | (with_reducible refine (cell_set_at _ _ (by first | omega | (simp; done) | (simp; omega))).trans ?_) | (with_reducible refine (cell_alloc_at _ _ (by first | omega | (simp; done) | (simp; omega))).trans ?_) | (with_reducible refine (hcwk9 _ _ (by first | omega | (simp; done) | (simp; omega))).trans ?_))))
    have ywk97 : wk9.cell? ⟨w.heap.size + 1 + 1 + 1, 1, none⟩ = some (.int .i64 dy) := (by (repeat (first | with_reducible assumption | (with_reducible refine (cell_drew_at _ _).trans ?_) | (with_reducible refine (cell_set_at _ _ (by first | omega | (simp; done) | (simp; omega))).trans ?_) | (with_reducible refine (cell_alloc_at _ _ (by first | omega | (simp; done) | (simp; omega))).trans ?_) | (with_reducible refine (hcwk9 _ _ (by first | omega | (simp; done) | (simp; omega))).trans ?_))))
    have ywk98 : wk9.cell? ⟨w.heap.size + 1 + 1 + 1 + 1, 0, none⟩ = some (.int .i64 0) := (by (repeat (first | with_reducible assumption | (with_reducible refine (cell_drew_at _ _).trans ?_) | (with_reducible refine (cell_set_at _ _ (by first | omega | (simp; done) | (simp; omega))).trans ?_) | (with_reducible refine (cell_alloc_at _ _ (by first | omega | (simp; done) | (simp; omega))).trans ?_) | (with_reducible refine (hcwk9 _ _ (by first | omega | (simp; done) | (simp; omega))).trans ?_))))
    have ywk99 : wk9.cell? ⟨w.heap.size + 1 + 1 + 1 + 1, 1, none⟩ = some (.int .i64 0) := (by (repeat (first | with_reducible assumption | (with_reducible refine (cell_drew_at _ _).trans ?_) | (with_reducible refine (cell_set_at _ _ (by first | omega | (simp; done) | (simp; omega))).trans ?_) | (with_reducible refine (cell_alloc_at _ _ (by first | omega | (simp; done) | (simp; omega))).trans ?_) | (with_reducible refine (hcwk9 _ _ (by first | omega | (simp; done) | (simp; omega))).trans ?_))))
    have yfwk98 : wk9.frozen? ⟨w.heap.size + 1 + 1 + 1 + 1, 0, none⟩ = false := (by (repeat (first | with_reducible assumption | (with_reducible refine (frozen_drew_at _ _).trans ?_) | (with_reducible refine (World.frozen?_setCell _ _ _ _).trans ?_) | (with_reducible refine (frozen_alloc_at _ _ (by first | omega | (simp; done) | (simp; omega))).trans ?_) | (with_reducible refine (hfwk9 _ _ (by first | omega | (simp; done) | (simp; omega))).trans ?_))))
    have yfwk99 : wk9.frozen? ⟨w.heap.size + 1 + 1 + 1 + 1, 1, none⟩ = false := (by (repeat (first | with_reducible assumption | (with_reducible refine (frozen_drew_at _ _).trans ?_) | (with_reducible refine (World.frozen?_setCell _ _ _ _).trans ?_) | (with_reducible refine (frozen_alloc_at _ _ (by first | omega | (simp; done) | (simp; omega))).trans ?_) | (with_reducible refine (hfwk9 _ _ (by first | omega | (simp; done) | (simp; omega))).trans ?_))))
    have pwk90 : wk9.cell? ⟨wk8.heap.size, 0, none⟩ = some (.int .i64 bx) := (hcwk9 _ _ (by omega)).trans nwk90
    have pwk91 : wk9.cell? ⟨wk8.heap.size, 1, none⟩ = some (.int .i64 ey) := (hcwk9 _ _ (by omega)).trans nwk91
    have zwk90 : w.heap.size < wk9.heap.size := by omega
    have zwk91 : w.heap.size + 1 < wk9.heap.size := by omega
    have zwk92 : w.heap.size + 1 + 1 < wk9.heap.size := by omega
    have zwk93 : w.heap.size + 1 + 1 + 1 < wk9.heap.size := by omega
    have zwk94 : w.heap.size + 1 + 1 + 1 + 1 < wk9.heap.size := by omega
    have zpwk9 : wk8.heap.size < wk9.heap.size := by omega
    clear hcwk9 hfwk9 nwk90 nwk91 hbwk9
    go_wp2_with fail
    refine (O3.out _).mono ?_
    rintro e wk10 ⟨rfl, hbwk10⟩
    obtain ⟨hcwk10, hfwk10⟩ := bcell hbwk10
    have hzwk10 := hbwk10.size
    (try simp only [World.size_alloc] at hcwk10 hfwk10 hzwk10)
    have Gwk10 : Below w.heap.size w wk10 := by repeat' (first | with_reducible assumption | with_reducible exact Below.refl _ _ | (with_reducible refine Below.setCell ?_ ?_ _) | (with_reducible refine Below.alloc ?_ ?_ _) | (with_reducible refine Below.drew ?_) | (with_reducible refine below_dr ?_ _) | (with_reducible refine Below.trans ?_ (Below.mono (by with_reducible assumption) ?_)) | omega | (simp; done) | (simp; omega))
    have ywk100 : wk10.cell? ⟨w.heap.size, 0, none⟩ = some (.int .i64 ax) := (by (repeat (first | with_reducible assumption | (with_reducible refine (cell_drew_at _ _).trans ?_) | (with_reducible refine (cell_set_at _ _ (by first | omega | (simp; done) | (simp; omega))).trans ?_) | (with_reducible refine (cell_alloc_at _ _ (by first | omega | (simp; done) | (simp; omega))).trans ?_) | (with_reducible refine (hcwk10 _ _ (by first | omega | (simp; done) | (simp; omega))).trans ?_))))
    have ywk101 : wk10.cell? ⟨w.heap.size, 1, none⟩ = some (.int .i64 ay) := (by (repeat (first | with_reducible assumption | (with_reducible refine (cell_drew_at _ _).trans ?_) | (with_reducible refine (cell_set_at _ _ (by first | omega | (simp; done) | (simp; omega))).trans ?_) | (with_reducible refine (cell_alloc_at _ _ (by first | omega | (simp; done) | (simp; omega))).trans ?_) | (with_reducible refine (hcwk10 _ _ (by first | omega | (simp; done) | (simp; omega))).trans ?_))))
    have ywk102 : wk10.cell? ⟨w.heap.size + 1, 0, none⟩ = some (.int .i64 bx) := (by (repeat (first | with_reducible assumption | (with_reducible refine (cell_drew_at _ _).trans ?_) | (with_reducible refine (cell_set_at _ _ (by first | omega | (simp; done) | (simp; omega))).trans ?_) | (with_reducible refine (cell_alloc_at _ _ (by first | omega | (simp; done) | (simp; omega))).trans ?_) | (with_reducible refine (hcwk10 _ _ (by first | omega | (simp; done) | (simp; omega))).trans ?_))))
    have ywk103 : wk10.cell? ⟨w.heap.size + 1, 1, none⟩ = some (.int .i64 ey) := (by (repeat (first | with_reducible assumption | (with_reducible refine (cell_drew_at _ _).trans ?_) | (with_reducible refine (cell_set_at _ _ (by first | omega | (simp; done) | (simp; omega))).trans ?_) | (with_reducible refine (cell_alloc_at _ _ (by first | omega | (simp; done) | (simp; omega))).trans ?_) | (with_reducible refine (hcwk10 _ _ (by first | omega | (simp; done) | (simp; omega))).trans ?_))))
    have ywk104 : wk10.cell? ⟨w.heap.size + 1 + 1, 0, none⟩ = some (.int .i64 cx) := (by (repeat (first | with_reducible assumption | (with_reducible refine (cell_drew_at _ _).trans ?_) | (with_reducible refine (cell_set_at _ _ (by first | omega | (simp; done) | (simp; omega))).trans ?_) | (with_reducible refine (cell_alloc_at _ _ (by first | omega | (simp; done) | (simp; omega))).trans ?_) | (with_reducible refine (hcwk10 _ _ (by first | omega | (simp; done) | (simp; omega))).trans ?_))))
    have ywk105 : wk10.cell? ⟨w.heap.size + 1 + 1, 1, none⟩ = some (.int .i64 cy) := (by (repeat (first | with_reducible assumption | (with_reducible refine (cell_drew_at _ _).trans ?_) | (with_reducible refine (cell_set_at _ _ (by first | omega | (simp; done) | (simp; omega))).trans ?_) | (with_reducible refine (cell_alloc_at _ _ (by first | omega | (simp; done) | (simp; omega))).trans ?_) | (with_reducible refine (hcwk10 _ _ (by first | omega | (simp; done) | (simp; omega))).trans ?_))))
    have ywk106 : wk10.cell? ⟨w.heap.size + 1 + 1 + 1, 0, none⟩ = some (.int .i64 dx) := (by (repeat (first | with_reducible assumption | (with_reducible refine (cell_drew_at _ _).trans ?_) | (with_reducible refine (cell_set_at _ _ (by first | omega | (simp; done) | (simp; omega))).trans ?_) | (with_reducible refine (cell_alloc_at _ _ (by first | omega | (simp; done) | (simp; omega))).trans ?_) | (with_reducible refine (hcwk10 _ _ (by first | omega | (simp; done) | (simp; omega))).trans ?_))))
    have ywk107 : wk10.cell? ⟨w.heap.size + 1 + 1 + 1, 1, none⟩ = some (.int .i64 dy) := (by (repeat (first | with_reducible assumption | (with_reducible refine (cell_drew_at _ _).trans ?_) | (with_reducible refine (cell_set_at _ _ (by first | omega | (simp; done) | (simp; omega))).trans ?_) | (with_reducible refine (cell_alloc_at _ _ (by first | omega | (simp; done) | (simp; omega))).trans ?_) | (with_reducible refine (hcwk10 _ _ (by first | omega | (simp; done) | (simp; omega))).trans ?_))))
    have ywk108 : wk10.cell? ⟨w.heap.size + 1 + 1 + 1 + 1, 0, none⟩ = some (.int .i64 0) := (by (repeat (first | with_reducible assumption | (with_reducible refine (cell_drew_at _ _).trans ?_) | (with_reducible refine (cell_set_at _ _ (by first | omega | (simp; done) | (simp; omega))).trans ?_) | (with_reducible refine (cell_alloc_at _ _ (by first | omega | (simp; done) | (simp; omega))).trans ?_) | (with_reducible refine (hcwk10 _ _ (by first | omega | (simp; done) | (simp; omega))).trans ?_))))
    have ywk109 : wk10.cell? ⟨w.heap.size + 1 + 1 + 1 + 1, 1, none⟩ = some (.int .i64 0) := (by (repeat (first | with_reducible assumption | (with_reducible refine (cell_drew_at _ _).trans ?_) | (with_reducible refine (cell_set_at _ _ (by first | omega | (simp; done) | (simp; omega))).trans ?_) | (with_reducible refine (cell_alloc_at _ _ (by first | omega | (simp; done) | (simp; omega))).trans ?_) | (with_reducible refine (hcwk10 _ _ (by first | omega | (simp; done) | (simp; omega))).trans ?_))))
    have yfwk108 : wk10.frozen? ⟨w.heap.size + 1 + 1 + 1 + 1, 0, none⟩ = false := (by (repeat (first | with_reducible assumption | (with_reducible refine (frozen_drew_at _ _).trans ?_) | (with_reducible refine (World.frozen?_setCell _ _ _ _).trans ?_) | (with_reducible refine (frozen_alloc_at _ _ (by first | omega | (simp; done) | (simp; omega))).trans ?_) | (with_reducible refine (hfwk10 _ _ (by first | omega | (simp; done) | (simp; omega))).trans ?_))))
    have yfwk109 : wk10.frozen? ⟨w.heap.size + 1 + 1 + 1 + 1, 1, none⟩ = false := (by (repeat (first | with_reducible assumption | (with_reducible refine (frozen_drew_at _ _).trans ?_) | (with_reducible refine (World.frozen?_setCell _ _ _ _).trans ?_) | (with_reducible refine (frozen_alloc_at _ _ (by first | omega | (simp; done) | (simp; omega))).trans ?_) | (with_reducible refine (hfwk10 _ _ (by first | omega | (simp; done) | (simp; omega))).trans ?_))))
    have pwk100 : wk10.cell? ⟨wk8.heap.size, 0, none⟩ = some (.int .i64 bx) := (hcwk10 _ _ (by omega)).trans pwk90
    have pwk101 : wk10.cell? ⟨wk8.heap.size, 1, none⟩ = some (.int .i64 ey) := (hcwk10 _ _ (by omega)).trans pwk91
    have zwk100 : w.heap.size < wk10.heap.size := by omega
    have zwk101 : w.heap.size + 1 < wk10.heap.size := by omega
    have zwk102 : w.heap.size + 1 + 1 < wk10.heap.size := by omega
    have zwk103 : w.heap.size + 1 + 1 + 1 < wk10.heap.size := by omega
    have zwk104 : w.heap.size + 1 + 1 + 1 + 1 < wk10.heap.size := by omega
    have zpwk10 : wk8.heap.size < wk10.heap.size := by omega
    clear hcwk10 hfwk10 hbwk10
    go_wp2_with fail
    rw [rounds_succ]
    have nwk110 : (wk10.alloc (.cells #[.int .i64 cx, .int .i64 cy] 25)).cell? ⟨wk10.heap.size, 0, none⟩ = some (.int .i64 cx) := by simp [go_sem]
    have nwk111 : (wk10.alloc (.cells #[.int .i64 cx, .int .i64 cy] 25)).cell? ⟨wk10.heap.size, 1, none⟩ = some (.int .i64 cy) := by simp [go_sem]
    go_wp2_with fail
    refine (O4.out _).mono ?_
    rintro e wk11 ⟨rfl, hbwk11⟩
    obtain ⟨hcwk11, hfwk11⟩ := bcell hbwk11
    have hzwk11 := hbwk11.size
    (try simp only [World.size_alloc] at hcwk11 hfwk11 hzwk11)
    have Gwk11 : Below w.heap.size w wk11 := by repeat' (first | with_reducible assumption | with_reducible exact Below.refl _ _ | (with_reducible refine Below.setCell ?_ ?_ _) | (with_reducible refine Below.alloc ?_ ?_ _) | (with_reducible refine Below.drew ?_) | (with_reducible refine below_dr ?_ _) | (with_reducible refine Below.trans ?_ (Below.mono (by with_reducible assumption) ?_)) | omega | (simp; done) | (simp; omega))
    have ywk110 : wk11.cell? ⟨w.heap.size, 0, none⟩ = some (.int .i64 ax) := (by (repeat (first | with_reducible assumption | (with_reducible refine (cell_drew_at _ _).trans ?_) | (with_reducible refine (cell_set_at _ _ (by first | omega | (simp; done) | (simp; omega))).trans ?_) | (with_reducible refine (cell_alloc_at _ _ (by first | omega | (simp; done) | (simp; omega))).trans ?_) | (with_reducible refine (hcwk11 _ _ (by first | omega | (simp; done) | (simp; omega))).trans ?_))))
    have ywk111 : wk11.cell? ⟨w.heap.size, 1, none⟩ = some (.int .i64 ay) := (by (repeat (first | with_reducible assumption | (with_reducible refine (cell_drew_at _ _).trans ?_) | (with_reducible refine (cell_set_at _ _ (by first | omega | (simp; done) | (simp; omega))).trans ?_) | (with_reducible refine (cell_alloc_at _ _ (by first | omega | (simp; done) | (simp; omega))).trans ?_) | (with_reducible refine (hcwk11 _ _ (by first | omega | (simp; done) | (simp; omega))).trans ?_))))
    have ywk112 : wk11.cell? ⟨w.heap.size + 1, 0, none⟩ = some (.int .i64 bx) := (by (repeat (first | with_reducible assumption | (with_reducible refine (cell_drew_at _ _).trans ?_) | (with_reducible refine (cell_set_at _ _ (by first | omega | (simp; done) | (simp; omega))).trans ?_) | (with_reducible refine (cell_alloc_at _ _ (by first | omega | (simp; done) | (simp; omega))).trans ?_) | (with_reducible refine (hcwk11 _ _ (by first | omega | (simp; done) | (simp; omega))).trans ?_))))
    have ywk113 : wk11.cell? ⟨w.heap.size + 1, 1, none⟩ = some (.int .i64 ey) := (by (repeat (first | with_reducible assumption | (with_reducible refine (cell_drew_at _ _).trans ?_) | (with_reducible refine (cell_set_at _ _ (by first | omega | (simp; done) | (simp; omega))).trans ?_) | (with_reducible refine (cell_alloc_at _ _ (by first | omega | (simp; done) | (simp; omega))).trans ?_) | (with_reducible refine (hcwk11 _ _ (by first | omega | (simp; done) | (simp; omega))).trans ?_))))
    have ywk114 : wk11.cell? ⟨w.heap.size + 1 + 1, 0, none⟩ = some (.int .i64 cx) := (by (repeat (first | with_reducible assumption | (with_reducible refine (cell_drew_at _ _).trans ?_) | (with_reducible refine (cell_set_at _ _ (by first | omega | (simp; done) | (simp; omega))).trans ?_) | (with_reducible refine (cell_alloc_at _ _ (by first | omega | (simp; done) | (simp; omega))).trans ?_) | (with_reducible refine (hcwk11 _ _ (by first | omega | (simp; done) | (simp; omega))).trans ?_))))
    have ywk115 : wk11.cell? ⟨w.heap.size + 1 + 1, 1, none⟩ = some (.int .i64 cy) := (by (repeat (first | with_reducible assumption | (with_reducible refine (cell_drew_at _ _).trans ?_) | (with_reducible refine (cell_set_at _ _ (by first | omega | (simp; done) | (simp; omega))).trans ?_) | (with_reducible refine (cell_alloc_at _ _ (by first | omega | (simp; done) | (simp; omega))).trans ?_) | (with_reducible refine (hcwk11 _ _ (by first | omega | (simp; done) | (simp; omega))).trans ?_))))
    have ywk116 : wk11.cell? ⟨w.heap.size + 1 + 1 + 1, 0, none⟩ = some (.int .i64 dx) := (by (repeat (first | with_reducible assumption | (with_reducible refine (cell_drew_at _ _).trans ?_) | (with_reducible refine (cell_set_at _ _ (by first | omega | (simp; done) | (simp; omega))).trans ?_) | (with_reducible refine (cell_alloc_at _ _ (by first | omega | (simp; done) | (simp; omega))).trans ?_) | (with_reducible refine (hcwk11 _ _ (by first | omega | (simp; done) | (simp; omega))).trans ?_))))
    have ywk117 : wk11.cell? ⟨w.heap.size + 1 + 1 + 1, 1, none⟩ = some (.int .i64 dy) := (by (repeat (first | with_reducible assumption | (with_reducible refine (cell_drew_at _ _).trans ?_) | (with_reducible refine (cell_set_at _ _ (by first | omega | (simp; done) | (simp; omega))).trans ?_) | (with_reducible refine (cell_alloc_at _ _ (by first | omega | (simp; done) | (simp; omega))).trans ?_) | (with_reducible refine (hcwk11 _ _ (by first | omega | (simp; done) | (simp; omega))).trans ?_))))
    have ywk118 : wk11.cell? ⟨w.heap.size + 1 + 1 + 1 + 1, 0, none⟩ = some (.int .i64 0) := (by (repeat (first | with_reducible assumption | (with_reducible refine (cell_drew_at _ _).trans ?_) | (with_reducible refine (cell_set_at _ _ (by first | omega | (simp; done) | (simp; omega))).trans ?_) | (with_reducible refine (cell_alloc_at _ _ (by first | omega | (simp; done) | (simp; omega))).trans ?_) | (with_reducible refine (hcwk11 _ _ (by first | omega | (simp; done) | (simp; omega))).trans ?_))))
    have ywk119 : wk11.cell? ⟨w.heap.size + 1 + 1 + 1 + 1, 1, none⟩ = some (.int .i64 0) := (by (repeat (first | with_reducible assumption | (with_reducible refine (cell_drew_at _ _).trans ?_) | (with_reducible refine (cell_set_at _ _ (by first | omega | (simp; done) | (simp; omega))).trans ?_) | (with_reducible refine (cell_alloc_at _ _ (by first | omega | (simp; done) | (simp; omega))).trans ?_) | (with_reducible refine (hcwk11 _ _ (by first | omega | (simp; done) | (simp; omega))).trans ?_))))
    have yfwk118 : wk11.frozen? ⟨w.heap.size + 1 + 1 + 1 + 1, 0, none⟩ = false := (by (repeat (first | with_reducible assumption | (with_reducible refine (frozen_drew_at _ _).trans ?_) | (with_reducible refine (World.frozen?_setCell _ _ _ _).trans ?_) | (with_reducible refine (frozen_alloc_at _ _ (by first | omega | (simp; done) | (simp; omega))).trans ?_) | (with_reducible refine (hfwk11 _ _ (by first | omega | (simp; done) | (simp; omega))).trans ?_))))
    have yfwk119 : wk11.frozen? ⟨w.heap.size + 1 + 1 + 1 + 1, 1, none⟩ = false := (by (repeat (first | with_reducible assumption | (with_reducible refine (frozen_drew_at _ _).trans ?_) | (with_reducible refine (World.frozen?_setCell _ _ _ _).trans ?_) | (with_reducible refine (frozen_alloc_at _ _ (by first | omega | (simp; done) | (simp; omega))).trans ?_) | (with_reducible refine (hfwk11 _ _ (by first | omega | (simp; done) | (simp; omega))).trans ?_))))
    have pwk110 : wk11.cell? ⟨wk10.heap.size, 0, none⟩ = some (.int .i64 cx) := (hcwk11 _ _ (by omega)).trans nwk110
    have pwk111 : wk11.cell? ⟨wk10.heap.size, 1, none⟩ = some (.int .i64 cy) := (hcwk11 _ _ (by omega)).trans nwk111
    have zwk110 : w.heap.size < wk11.heap.size := by omega
    have zwk111 : w.heap.size + 1 < wk11.heap.size := by omega
    have zwk112 : w.heap.size + 1 + 1 < wk11.heap.size := by omega
    have zwk113 : w.heap.size + 1 + 1 + 1 < wk11.heap.size := by omega
    have zwk114 : w.heap.size + 1 + 1 + 1 + 1 < wk11.heap.size := by omega
    have zpwk11 : wk10.heap.size < wk11.heap.size := by omega
    clear hcwk11 hfwk11 nwk110 nwk111 hbwk11
    go_wp2_with fail
    refine (O5.out _).mono ?_
    rintro e wk12 ⟨rfl, hbwk12⟩
    obtain ⟨hcwk12, hfwk12⟩ := bcell hbwk12
    have hzwk12 := hbwk12.size
    (try simp only [World.size_alloc] at hcwk12 hfwk12 hzwk12)
    have Gwk12 : Below w.heap.size w wk12 := by repeat' (first | with_reducible assumption | with_reducible exact Below.refl _ _ | (with_reducible refine Below.setCell ?_ ?_ _) | (with_reducible refine Below.alloc ?_ ?_ _) | (with_reducible refine Below.drew ?_) | (with_reducible refine below_dr ?_ _) | (with_reducible refine Below.trans ?_ (Below.mono (by with_reducible assumption) ?_)) | omega | (simp; done) | (simp; omega))
    have ywk120 : wk12.cell? ⟨w.heap.size, 0, none⟩ = some (.int .i64 ax) := (by (repeat (first | with_reducible assumption | (with_reducible refine (cell_drew_at _ _).trans ?_) | (with_reducible refine (cell_set_at _ _ (by first | omega | (simp; done) | (simp; omega))).trans ?_) | (with_reducible refine (cell_alloc_at _ _ (by first | omega | (simp; done) | (simp; omega))).trans ?_) | (with_reducible refine (hcwk12 _ _ (by first | omega | (simp; done) | (simp; omega))).trans ?_))))
    have ywk121 : wk12.cell? ⟨w.heap.size, 1, none⟩ = some (.int .i64 ay) := (by (repeat (first | with_reducible assumption | (with_reducible refine (cell_drew_at _ _).trans ?_) | (with_reducible refine (cell_set_at _ _ (by first | omega | (simp; done) | (simp; omega))).trans ?_) | (with_reducible refine (cell_alloc_at _ _ (by first | omega | (simp; done) | (simp; omega))).trans ?_) | (with_reducible refine (hcwk12 _ _ (by first | omega | (simp; done) | (simp; omega))).trans ?_))))
    have ywk122 : wk12.cell? ⟨w.heap.size + 1, 0, none⟩ = some (.int .i64 bx) := (by (repeat (first | with_reducible assumption | (with_reducible refine (cell_drew_at _ _).trans ?_) | (with_reducible refine (cell_set_at _ _ (by first | omega | (simp; done) | (simp; omega))).trans ?_) | (with_reducible refine (cell_alloc_at _ _ (by first | omega | (simp; done) | (simp; omega))).trans ?_) | (with_reducible refine (hcwk12 _ _ (by first | omega | (simp; done) | (simp; omega))).trans ?_))))
    have ywk123 : wk12.cell? ⟨w.heap.size + 1, 1, none⟩ = some (.int .i64 ey) := (by (repeat (first | with_reducible assumption | (with_reducible refine (cell_drew_at _ _).trans ?_) | (with_reducible refine (cell_set_at _ _ (by first | omega | (simp; done) | (simp; omega))).trans ?_) | (with_reducible refine (cell_alloc_at _ _ (by first | omega | (simp; done) | (simp; omega))).trans ?_) | (with_reducible refine (hcwk12 _ _ (by first | omega | (simp; done) | (simp; omega))).trans ?_))))
    have ywk124 : wk12.cell? ⟨w.heap.size + 1 + 1, 0, none⟩ = some (.int .i64 cx) := (by (repeat (first | with_reducible assumption | (with_reducible refine (cell_drew_at _ _).trans ?_) | (with_reducible refine (cell_set_at _ _ (by first | omega | (simp; done) | (simp; omega))).trans ?_) | (with_reducible refine (cell_alloc_at _ _ (by first | omega | (simp; done) | (simp; omega))).trans ?_) | (with_reducible refine (hcwk12 _ _ (by first | omega | (simp; done) | (simp; omega))).trans ?_))))
    have ywk125 : wk12.cell? ⟨w.heap.size + 1 + 1, 1, none⟩ = some (.int .i64 cy) := (by (repeat (first | with_reducible assumption | (with_reducible refine (cell_drew_at _ _).trans ?_) | (with_reducible refine (cell_set_at _ _ (by first | omega | (simp; done) | (simp; omega))).trans ?_) | (with_reducible refine (cell_alloc_at _ _ (by first | omega | (simp; done) | (simp; omega))).trans ?_) | (with_reducible refine (hcwk12 _ _ (by first | omega | (simp; done) | (simp; omega))).trans ?_))))
    have ywk126 : wk12.cell? ⟨w.heap.size + 1 + 1 + 1, 0, none⟩ = some (.int .i64 dx) := (by (repeat (first | with_reducible assumption | (with_reducible refine (cell_drew_at _ _).trans ?_) | (with_reducible refine (cell_set_at _ _ (by first | omega | (simp; done) | (simp; omega))).trans ?_) | (with_reducible refine (cell_alloc_at _ _ (by first | omega | (simp; done) | (simp; omega))).trans ?_) | (with_reducible refine (hcwk12 _ _ (by first | omega | (simp; done) | (simp; omega))).trans ?_))))
    have ywk127 : wk12.cell? ⟨w.heap.size + 1 + 1 + 1, 1, none⟩ = some (.int .i64 dy) := (by (repeat (first | with_reducible assumption | (with_reducible refine (cell_drew_at _ _).trans ?_) | (with_reducible refine (cell_set_at _ _ (by first | omega | (simp; done) | (simp; omega))).trans ?_) | (with_reducible refine (cell_alloc_at _ _ (by first | omega | (simp; done) | (simp; omega))).trans ?_) | (with_reducible refine (hcwk12 _ _ (by first | omega | (simp; done) | (simp; omega))).trans ?_))))
    have ywk128 : wk12.cell? ⟨w.heap.size + 1 + 1 + 1 + 1, 0, none⟩ = some (.int .i64 0) := (by (repeat (first | with_reducible assumption | (with_reducible refine (cell_drew_at _ _).trans ?_) | (with_reducible refine (cell_set_at _ _ (by first | omega | (simp; done) | (simp; omega))).trans ?_) | (with_reducible refine (cell_alloc_at _ _ (by first | omega | (simp; done) | (simp; omega))).trans ?_) | (with_reducible refine (hcwk12 _ _ (by first | omega | (simp; done) | (simp; omega))).trans ?_))))
    have ywk129 : wk12.cell? ⟨w.heap.size + 1 + 1 + 1 + 1, 1, none⟩ = some (.int .i64 0) := (by (repeat (first | with_reducible assumption | (with_reducible refine (cell_drew_at _ _).trans ?_) | (with_reducible refine (cell_set_at _ _ (by first | omega | (simp; done) | (simp; omega))).trans ?_) | (with_reducible refine (cell_alloc_at _ _ (by first | omega | (simp; done) | (simp; omega))).trans ?_) | (with_reducible refine (hcwk12 _ _ (by first | omega | (simp; done) | (simp; omega))).trans ?_))))
    have yfwk128 : wk12.frozen? ⟨w.heap.size + 1 + 1 + 1 + 1, 0, none⟩ = false := (by (repeat (first | with_reducible assumption | (with_reducible refine (frozen_drew_at _ _).trans ?_) | (with_reducible refine (World.frozen?_setCell _ _ _ _).trans ?_) | (with_reducible refine (frozen_alloc_at _ _ (by first | omega | (simp; done) | (simp; omega))).trans ?_) | (with_reducible refine (hfwk12 _ _ (by first | omega | (simp; done) | (simp; omega))).trans ?_))))
    have yfwk129 : wk12.frozen? ⟨w.heap.size + 1 + 1 + 1 + 1, 1, none⟩ = false := (by (repeat (first | with_reducible assumption | (with_reducible refine (frozen_drew_at _ _).trans ?_) | (with_reducible refine (World.frozen?_setCell _ _ _ _).trans ?_) | (with_reducible refine (frozen_alloc_at _ _ (by first | omega | (simp; done) | (simp; omega))).trans ?_) | (with_reducible refine (hfwk12 _ _ (by first | omega | (simp; done) | (simp; omega))).trans ?_))))
    have pwk120 : wk12.cell? ⟨wk10.heap.size, 0, none⟩ = some (.int .i64 cx) := (hcwk12 _ _ (by omega)).trans pwk110
    have pwk121 : wk12.cell? ⟨wk10.heap.size, 1, none⟩ = some (.int .i64 cy) := (hcwk12 _ _ (by omega)).trans pwk111
    have zwk120 : w.heap.size < wk12.heap.size := by omega
    have zwk121 : w.heap.size + 1 < wk12.heap.size := by omega
    have zwk122 : w.heap.size + 1 + 1 < wk12.heap.size := by omega
    have zwk123 : w.heap.size + 1 + 1 + 1 < wk12.heap.size := by omega
    have zwk124 : w.heap.size + 1 + 1 + 1 + 1 < wk12.heap.size := by omega
    have zpwk12 : wk10.heap.size < wk12.heap.size := by omega
    clear hcwk12 hfwk12 hbwk12
    go_wp2
    have ra := AtL.of2 ywk128 ywk129 zwk124
    have rb := ra.store2 (a := .int .i64 cx) (b := .int .i64 cy)
    have r0 := rb.cell 0 rfl
    have r1 := rb.cell 1 rfl
    refine bodyPost_ret (v := .agg #[.int .i64 cx, .int .i64 cy]) (by simp [results, Try.results59, go_sem, r0, r1]) rfl ⟨?_, ?_⟩
    · have hx := X.out
      injection hx with hx hy
      rw [hx, hy]
    repeat' (first | with_reducible assumption | with_reducible exact Below.refl _ _ | (with_reducible refine Below.setCell ?_ ?_ _) | (with_reducible refine Below.alloc ?_ ?_ _) | (with_reducible refine Below.drew ?_) | (with_reducible refine below_dr ?_ _) | (with_reducible refine Below.trans ?_ (Below.mono (by with_reducible assumption) ?_)) | omega | (simp; done) | (simp; omega))
  have X := Lib.hid (H4 rfl rfl rfl)
  clear H1 H2 H3 H4
  have ix0 : ∀ w, (Instr.index 100 (.agg #[.int .i64 ax, .int .i64 ay, .int .i64 bx, .int .i64 ey, .int .i64 cx, .int .i64 cy]) (.int .i64 0)).run Try.prog w = .ok (.agg #[.int .i64 ax, .int .i64 ay]) w := fun _ => by kernel_rfl
  have ix1 : ∀ w, (Instr.index 100 (.agg #[.int .i64 ax, .int .i64 ay, .int .i64 bx, .int .i64 ey, .int .i64 cx, .int .i64 cy]) (.int .i64 1)).run Try.prog w = .ok (.agg #[.int .i64 bx, .int .i64 ey]) w := fun _ => by kernel_rfl
  have ix2 : ∀ w, (Instr.index 100 (.agg #[.int .i64 ax, .int .i64 ay, .int .i64 bx, .int .i64 ey, .int .i64 cx, .int .i64 cy]) (.int .i64 2)).run Try.prog w = .ok (.agg #[.int .i64 cx, .int .i64 cy]) w := fun _ => by kernel_rfl
  go_enter Try.func59, Try.ntmps59
  go_wp2_with fail
  generalize hW : (((((w.alloc (.cells #[.int .i64 ax, .int .i64 ay] 25)).alloc (.cells #[.int .i64 bx, .int .i64 ey] 25)).alloc (.cells #[.int .i64 cx, .int .i64 cy] 25)).alloc (.cells #[.int .i64 dx, .int .i64 dy] 25)).alloc (.cells #[.int .i64 0, .int .i64 0] 25)) = W0
  have g0 : Below w.heap.size w W0 := by rw [← hW]; repeat' (first | with_reducible assumption | with_reducible exact Below.refl _ _ | (with_reducible refine Below.setCell ?_ ?_ _) | (with_reducible refine Below.alloc ?_ ?_ _) | (with_reducible refine Below.drew ?_) | (with_reducible refine below_dr ?_ _) | (with_reducible refine Below.trans ?_ (Below.mono (by with_reducible assumption) ?_)) | omega | (simp; done) | (simp; omega))
  have y00 : W0.cell? ⟨w.heap.size, 0, none⟩ = some (.int .i64 ax) := by rw [← hW]; simp [go_sem]
  have y01 : W0.cell? ⟨w.heap.size, 1, none⟩ = some (.int .i64 ay) := by rw [← hW]; simp [go_sem]
  have y02 : W0.cell? ⟨w.heap.size + 1, 0, none⟩ = some (.int .i64 bx) := by rw [← hW]; simp [go_sem]
  have y03 : W0.cell? ⟨w.heap.size + 1, 1, none⟩ = some (.int .i64 ey) := by rw [← hW]; simp [go_sem]
  have y04 : W0.cell? ⟨w.heap.size + 1 + 1, 0, none⟩ = some (.int .i64 cx) := by rw [← hW]; simp [go_sem]
  have y05 : W0.cell? ⟨w.heap.size + 1 + 1, 1, none⟩ = some (.int .i64 cy) := by rw [← hW]; simp [go_sem]
  have y06 : W0.cell? ⟨w.heap.size + 1 + 1 + 1, 0, none⟩ = some (.int .i64 dx) := by rw [← hW]; simp [go_sem]
  have y07 : W0.cell? ⟨w.heap.size + 1 + 1 + 1, 1, none⟩ = some (.int .i64 dy) := by rw [← hW]; simp [go_sem]
  have y08 : W0.cell? ⟨w.heap.size + 1 + 1 + 1 + 1, 0, none⟩ = some (.int .i64 0) := by rw [← hW]; simp [go_sem]
  have y09 : W0.cell? ⟨w.heap.size + 1 + 1 + 1 + 1, 1, none⟩ = some (.int .i64 0) := by rw [← hW]; simp [go_sem]
  have yf00 : W0.frozen? ⟨w.heap.size + 1 + 1 + 1 + 1, 0, none⟩ = false := by rw [← hW]; simp [go_sem]
  have yf01 : W0.frozen? ⟨w.heap.size + 1 + 1 + 1 + 1, 1, none⟩ = false := by rw [← hW]; simp [go_sem]
  have hz0 : W0.heap.size = w.heap.size + 1 + 1 + 1 + 1 + 1 := by rw [← hW]; simp
  have z00 : w.heap.size < W0.heap.size := by omega
  have z01 : w.heap.size + 1 < W0.heap.size := by omega
  have z02 : w.heap.size + 1 + 1 < W0.heap.size := by omega
  have z03 : w.heap.size + 1 + 1 + 1 < W0.heap.size := by omega
  have z04 : w.heap.size + 1 + 1 + 1 + 1 < W0.heap.size := by omega
  clear hW hz0
  refine wp_loop_rounds 4 ?_
  rw [rounds_succ]
  have nwk130 : (W0.alloc (.cells #[.int .i64 ax, .int .i64 ay] 25)).cell? ⟨W0.heap.size, 0, none⟩ = some (.int .i64 ax) := by simp [go_sem]
  have nwk131 : (W0.alloc (.cells #[.int .i64 ax, .int .i64 ay] 25)).cell? ⟨W0.heap.size, 1, none⟩ = some (.int .i64 ay) := by simp [go_sem]
  go_wp2_with fail
  refine (O0.out _).mono ?_
  rintro e wk13 ⟨rfl, hbwk13⟩
  obtain ⟨hcwk13, hfwk13⟩ := bcell hbwk13
  have hzwk13 := hbwk13.size
  (try simp only [World.size_alloc] at hcwk13 hfwk13 hzwk13)
  have Gwk13 : Below w.heap.size w wk13 := by repeat' (first | with_reducible assumption | with_reducible exact Below.refl _ _ | (with_reducible refine Below.setCell ?_ ?_ _) | (with_reducible refine Below.alloc ?_ ?_ _) | (with_reducible refine Below.drew ?_) | (with_reducible refine below_dr ?_ _) | (with_reducible refine Below.trans ?_ (Below.mono (by with_reducible assumption) ?_)) | omega | (simp; done) | (simp; omega))
  have ywk130 : wk13.cell? ⟨w.heap.size, 0, none⟩ = some (.int .i64 ax) := (by (repeat (first | with_reducible assumption | (with_reducible refine (cell_drew_at _ _).trans ?_) | (with_reducible refine (cell_set_at _ _ (by first | omega | (simp; done) | (simp; omega))).trans ?_) | (with_reducible refine (cell_alloc_at _ _ (by first | omega | (simp; done) | (simp; omega))).trans ?_) | (with_reducible refine (hcwk13 _ _ (by first | omega | (simp; done) | (simp; omega))).trans ?_))))
  have ywk131 : wk13.cell? ⟨w.heap.size, 1, none⟩ = some (.int .i64 ay) := (by (repeat (first | with_reducible assumption | (with_reducible refine (cell_drew_at _ _).trans ?_) | (with_reducible refine (cell_set_at _ _ (by first | omega | (simp; done) | (simp; omega))).trans ?_) | (with_reducible refine (cell_alloc_at _ _ (by first | omega | (simp; done) | (simp; omega))).trans ?_) | (with_reducible refine (hcwk13 _ _ (by first | omega | (simp; done) | (simp; omega))).trans ?_))))
  have ywk132 : wk13.cell? ⟨w.heap.size + 1, 0, none⟩ = some (.int .i64 bx) := (by (repeat (first | with_reducible assumption | (with_reducible refine (cell_drew_at _ _).trans ?_) | (with_reducible refine (cell_set_at _ _ (by first | omega | (simp; done) | (simp; omega))).trans ?_) | (with_reducible refine (cell_alloc_at _ _ (by first | omega | (simp; done) | (simp; omega))).trans ?_) | (with_reducible refine (hcwk13 _ _ (by first | omega | (simp; done) | (simp; omega))).trans ?_))))
  have ywk133 : wk13.cell? ⟨w.heap.size + 1, 1, none⟩ = some (.int .i64 ey) := (by (repeat (first | with_reducible assumption | (with_reducible refine (cell_drew_at _ _).trans ?_) | (with_reducible refine (cell_set_at _ _ (by first | omega | (simp; done) | (simp; omega))).trans ?_) | (with_reducible refine (cell_alloc_at _ _ (by first | omega | (simp; done) | (simp; omega))).trans ?_) | (with_reducible refine (hcwk13 _ _ (by first | omega | (simp; done) | (simp; omega))).trans ?_))))
  have ywk134 : wk13.cell? ⟨w.heap.size + 1 + 1, 0, none⟩ = some (.int .i64 cx) := (by (repeat (first | with_reducible assumption | (with_reducible refine (cell_drew_at _ _).trans ?_) | (with_reducible refine (cell_set_at _ _ (by first | omega | (simp; done) | (simp; omega))).trans ?_) | (with_reducible refine (cell_alloc_at _ _ (by first | omega | (simp; done) | (simp; omega))).trans ?_) | (with_reducible refine (hcwk13 _ _ (by first | omega | (simp; done) | (simp; omega))).trans ?_))))
  have ywk135 : wk13.cell? ⟨w.heap.size + 1 + 1, 1, none⟩ = some (.int .i64 cy) := (by (repeat (first | with_reducible assumption | (with_reducible refine (cell_drew_at _ _).trans ?_) | (with_reducible refine (cell_set_at _ _ (by first | omega | (simp; done) | (simp; omega))).trans ?_) | (with_reducible refine (cell_alloc_at _ _ (by first | omega | (simp; done) | (simp; omega))).trans ?_) | (with_reducible refine (hcwk13 _ _ (by first | omega | (simp; done) | (simp; omega))).trans ?_))))
  have ywk136 : wk13.cell? ⟨w.heap.size + 1 + 1 + 1, 0, none⟩ = some (.int .i64 dx) := (by (repeat (first | with_reducible assumption | (with_reducible refine (cell_drew_at _ _).trans ?_) | (with_reducible refine (cell_set_at _ _ (by first | omega | (simp; done) | (simp; omega))).trans ?_) | (with_reducible refine (cell_alloc_at _ _ (by first | omega | (simp; done) | (simp; omega))).trans ?_) | (with_reducible refine (hcwk13 _ _ (by first | omega | (simp; done) | (simp; omega))).trans ?_))))
  have ywk137 : wk13.cell? ⟨w.heap.size + 1 + 1 + 1, 1, none⟩ = some (.int .i64 dy) := (by (repeat (first | with_reducible assumption | (with_reducible refine (cell_drew_at _ _).trans ?_) | (with_reducible refine (cell_set_at _ _ (by first | omega | (simp; done) | (simp; omega))).trans ?_) | (with_reducible refine (cell_alloc_at _ _ (by first | omega | (simp; done) | (simp; omega))).trans ?_) | (with_reducible refine (hcwk13 _ _ (by first | omega | (simp; done) | (simp; omega))).trans ?_))))
  have ywk138 : wk13.cell? ⟨w.heap.size + 1 + 1 + 1 + 1, 0, none⟩ = some (.int .i64 0) := (by (repeat (first | with_reducible assumption | (with_reducible refine (cell_drew_at _ _).trans ?_) | (with_reducible refine (cell_set_at _ _ (by first | omega | (simp; done) | (simp; omega))).trans ?_) | (with_reducible refine (cell_alloc_at _ _ (by first | omega | (simp; done) | (simp; omega))).trans ?_) | (with_reducible refine (hcwk13 _ _ (by first | omega | (simp; done) | (simp; omega))).trans ?_))))
  have ywk139 : wk13.cell? ⟨w.heap.size + 1 + 1 + 1 + 1, 1, none⟩ = some (.int .i64 0) := (by (repeat (first | with_reducible assumption | (with_reducible refine (cell_drew_at _ _).trans ?_) | (with_reducible refine (cell_set_at _ _ (by first | omega | (simp; done) | (simp; omega))).trans ?_) | (with_reducible refine (cell_alloc_at _ _ (by first | omega | (simp; done) | (simp; omega))).trans ?_) | (with_reducible refine (hcwk13 _ _ (by first | omega | (simp; done) | (simp; omega))).trans ?_))))
  have yfwk138 : wk13.frozen? ⟨w.heap.size + 1 + 1 + 1 + 1, 0, none⟩ = false := (by (repeat (first | with_reducible assumption | (with_reducible refine (frozen_drew_at _ _).trans ?_) | (with_reducible refine (World.frozen?_setCell _ _ _ _).trans ?_) | (with_reducible refine (frozen_alloc_at _ _ (by first | omega | (simp; done) | (simp; omega))).trans ?_) | (with_reducible refine (hfwk13 _ _ (by first | omega | (simp; done) | (simp; omega))).trans ?_))))
  have yfwk139 : wk13.frozen? ⟨w.heap.size + 1 + 1 + 1 + 1, 1, none⟩ = false := (by (repeat (first | with_reducible assumption | (with_reducible refine (frozen_drew_at _ _).trans ?_) | (with_reducible refine (World.frozen?_setCell _ _ _ _).trans ?_) | (with_reducible refine (frozen_alloc_at _ _ (by first | omega | (simp; done) | (simp; omega))).trans ?_) | (with_reducible refine (hfwk13 _ _ (by first | omega | (simp; done) | (simp; omega))).trans ?_))))
  have pwk130 : wk13.cell? ⟨W0.heap.size, 0, none⟩ = some (.int .i64 ax) := (hcwk13 _ _ (by omega)).trans nwk130
  have pwk131 : wk13.cell? ⟨W0.heap.size, 1, none⟩ = some (.int .i64 ay) := (hcwk13 _ _ (by omega)).trans nwk131
  have zwk130 : w.heap.size < wk13.heap.size := by omega
  have zwk131 : w.heap.size + 1 < wk13.heap.size := by omega
  have zwk132 : w.heap.size + 1 + 1 < wk13.heap.size := by omega
  have zwk133 : w.heap.size + 1 + 1 + 1 < wk13.heap.size := by omega
  have zwk134 : w.heap.size + 1 + 1 + 1 + 1 < wk13.heap.size := by omega
  have zpwk13 : W0.heap.size < wk13.heap.size := by omega
  clear hcwk13 hfwk13 nwk130 nwk131 hbwk13
  go_wp2_with fail
  refine (O1.out _).mono ?_
  rintro e wk14 ⟨rfl, hbwk14⟩
  obtain ⟨hcwk14, hfwk14⟩ := bcell hbwk14
  have hzwk14 := hbwk14.size
  (try simp only [World.size_alloc] at hcwk14 hfwk14 hzwk14)
  have Gwk14 : Below w.heap.size w wk14 := by repeat' (first | with_reducible assumption | with_reducible exact Below.refl _ _ | (with_reducible refine Below.setCell ?_ ?_ _) | (with_reducible refine Below.alloc ?_ ?_ _) | (with_reducible refine Below.drew ?_) | (with_reducible refine below_dr ?_ _) | (with_reducible refine Below.trans ?_ (Below.mono (by with_reducible assumption) ?_)) | omega | (simp; done) | (simp; omega))
  have ywk140 : wk14.cell? ⟨w.heap.size, 0, none⟩ = some (.int .i64 ax) := (by (repeat (first | with_reducible assumption | (with_reducible refine (cell_drew_at _ _).trans ?_) | (with_reducible refine (cell_set_at _ _ (by first | omega | (simp; done) | (simp; omega))).trans ?_) | (with_reducible refine (cell_alloc_at _ _ (by first | omega | (simp; done) | (simp; omega))).trans ?_) | (with_reducible refine (hcwk14 _ _ (by first | omega | (simp; done) | (simp; omega))).trans ?_))))
  have ywk141 : wk14.cell? ⟨w.heap.size, 1, none⟩ = some (.int .i64 ay) := (by (repeat (first | with_reducible assumption | (with_reducible refine (cell_drew_at _ _).trans ?_) | (with_reducible refine (cell_set_at _ _ (by first | omega | (simp; done) | (simp; omega))).trans ?_) | (with_reducible refine (cell_alloc_at _ _ (by first | omega | (simp; done) | (simp; omega))).trans ?_) | (with_reducible refine (hcwk14 _ _ (by first | omega | (simp; done) | (simp; omega))).trans ?_))))
  have ywk142 : wk14.cell? ⟨w.heap.size + 1, 0, none⟩ = some (.int .i64 bx) := (by (repeat (first | with_reducible assumption | (with_reducible refine (cell_drew_at _ _).trans ?_) | (with_reducible refine (cell_set_at _ _ (by first | omega | (simp; done) | (simp; omega))).trans ?_) | (with_reducible refine (cell_alloc_at _ _ (by first | omega | (simp; done) | (simp; omega))).trans ?_) | (with_reducible refine (hcwk14 _ _ (by first | omega | (simp; done) | (simp; omega))).trans ?_))))
  have ywk143 : wk14.cell? ⟨w.heap.size + 1, 1, none⟩ = some (.int .i64 ey) := (by (repeat (first | with_reducible assumption | (with_reducible refine (cell_drew_at _ _).trans ?_) | (with_reducible refine (cell_set_at _ _ (by first | omega | (simp; done) | (simp; omega))).trans ?_) | (with_reducible refine (cell_alloc_at _ _ (by first | omega | (simp; done) | (simp; omega))).trans ?_) | (with_reducible refine (hcwk14 _ _ (by first | omega | (simp; done) | (simp; omega))).trans ?_))))
  have ywk144 : wk14.cell? ⟨w.heap.size + 1 + 1, 0, none⟩ = some (.int .i64 cx) := (by (repeat (first | with_reducible assumption | (with_reducible refine (cell_drew_at _ _).trans ?_) | (with_reducible refine (cell_set_at _ _ (by first | omega | (simp; done) | (simp; omega))).trans ?_) | (with_reducible refine (cell_alloc_at _ _ (by first | omega | (simp; done) | (simp; omega))).trans ?_) | (with_reducible refine (hcwk14 _ _ (by first | omega | (simp; done) | (simp; omega))).trans ?_))))
  have ywk145 : wk14.cell? ⟨w.heap.size + 1 + 1, 1, none⟩ = some (.int .i64 cy) := (by (repeat (first | with_reducible assumption | (with_reducible refine (cell_drew_at _ _).trans ?_) | (with_reducible refine (cell_set_at _ _ (by first | omega | (simp; done) | (simp; omega))).trans ?_) | (with_reducible refine (cell_alloc_at _ _ (by first | omega | (simp; done) | (simp; omega))).trans ?_) | (with_reducible refine (hcwk14 _ _ (by first | omega | (simp; done) | (simp; omega))).trans ?_))))
  have ywk146 : wk14.cell? ⟨w.heap.size + 1 + 1 + 1, 0, none⟩ = some (.int .i64 dx) := (by (repeat (first | with_reducible assumption | (with_reducible refine (cell_drew_at _ _).trans ?_) | (with_reducible refine (cell_set_at _ _ (by first | omega | (simp; done) | (simp; omega))).trans ?_) | (with_reducible refine (cell_alloc_at _ _ (by first | omega | (simp; done) | (simp; omega))).trans ?_) | (with_reducible refine (hcwk14 _ _ (by first | omega | (simp; done) | (simp; omega))).trans ?_))))
  have ywk147 : wk14.cell? ⟨w.heap.size + 1 + 1 + 1, 1, none⟩ = some (.int .i64 dy) := (by (repeat (first | with_reducible assumption | (with_reducible refine (cell_drew_at _ _).trans ?_) | (with_reducible refine (cell_set_at _ _ (by first | omega | (simp; done) | (simp; omega))).trans ?_) | (with_reducible refine (cell_alloc_at _ _ (by first | omega | (simp; done) | (simp; omega))).trans ?_) | (with_reducible refine (hcwk14 _ _ (by first | omega | (simp; done) | (simp; omega))).trans ?_))))
  have ywk148 : wk14.cell? ⟨w.heap.size + 1 + 1 + 1 + 1, 0, none⟩ = some (.int .i64 0) := (by (repeat (first | with_reducible assumption | (with_reducible refine (cell_drew_at _ _).trans ?_) | (with_reducible refine (cell_set_at _ _ (by first | omega | (simp; done) | (simp; omega))).trans ?_) | (with_reducible refine (cell_alloc_at _ _ (by first | omega | (simp; done) | (simp; omega))).trans ?_) | (with_reducible refine (hcwk14 _ _ (by first | omega | (simp; done) | (simp; omega))).trans ?_))))
  have ywk149 : wk14.cell? ⟨w.heap.size + 1 + 1 + 1 + 1, 1, none⟩ = some (.int .i64 0) := (by (repeat (first | with_reducible assumption | (with_reducible refine (cell_drew_at _ _).trans ?_) | (with_reducible refine (cell_set_at _ _ (by first | omega | (simp; done) | (simp; omega))).trans ?_) | (with_reducible refine (cell_alloc_at _ _ (by first | omega | (simp; done) | (simp; omega))).trans ?_) | (with_reducible refine (hcwk14 _ _ (by first | omega | (simp; done) | (simp; omega))).trans ?_))))
  have yfwk148 : wk14.frozen? ⟨w.heap.size + 1 + 1 + 1 + 1, 0, none⟩ = false := (by (repeat (first | with_reducible assumption | (with_reducible refine (frozen_drew_at _ _).trans ?_) | (with_reducible refine (World.frozen?_setCell _ _ _ _).trans ?_) | (with_reducible refine (frozen_alloc_at _ _ (by first | omega | (simp; done) | (simp; omega))).trans ?_) | (with_reducible refine (hfwk14 _ _ (by first | omega | (simp; done) | (simp; omega))).trans ?_))))
  have yfwk149 : wk14.frozen? ⟨w.heap.size + 1 + 1 + 1 + 1, 1, none⟩ = false := (by (repeat (first | with_reducible assumption | (with_reducible refine (frozen_drew_at _ _).trans ?_) | (with_reducible refine (World.frozen?_setCell _ _ _ _).trans ?_) | (with_reducible refine (frozen_alloc_at _ _ (by first | omega | (simp; done) | (simp; omega))).trans ?_) | (with_reducible refine (hfwk14 _ _ (by first | omega | (simp; done) | (simp; omega))).trans ?_))))
  have pwk140 : wk14.cell? ⟨W0.heap.size, 0, none⟩ = some (.int .i64 ax) := (hcwk14 _ _ (by omega)).trans pwk130
  have pwk141 : wk14.cell? ⟨W0.heap.size, 1, none⟩ = some (.int .i64 ay) := (hcwk14 _ _ (by omega)).trans pwk131
  have zwk140 : w.heap.size < wk14.heap.size := by omega
  have zwk141 : w.heap.size + 1 < wk14.heap.size := by omega
  have zwk142 : w.heap.size + 1 + 1 < wk14.heap.size := by omega
  have zwk143 : w.heap.size + 1 + 1 + 1 < wk14.heap.size := by omega
  have zwk144 : w.heap.size + 1 + 1 + 1 + 1 < wk14.heap.size := by omega
  have zpwk14 : W0.heap.size < wk14.heap.size := by omega
  clear hcwk14 hfwk14 hbwk14
  go_wp2_with fail
  rw [rounds_succ]
  have nwk150 : (wk14.alloc (.cells #[.int .i64 bx, .int .i64 ey] 25)).cell? ⟨wk14.heap.size, 0, none⟩ = some (.int .i64 bx) := by simp [go_sem]
  have nwk151 : (wk14.alloc (.cells #[.int .i64 bx, .int .i64 ey] 25)).cell? ⟨wk14.heap.size, 1, none⟩ = some (.int .i64 ey) := by simp [go_sem]
  go_wp2_with fail
  refine (O2.out _).mono ?_
  rintro e wk15 ⟨rfl, hbwk15⟩
  obtain ⟨hcwk15, hfwk15⟩ := bcell hbwk15
  have hzwk15 := hbwk15.size
  (try simp only [World.size_alloc] at hcwk15 hfwk15 hzwk15)
  have Gwk15 : Below w.heap.size w wk15 := by repeat' (first | with_reducible assumption | with_reducible exact Below.refl _ _ | (with_reducible refine Below.setCell ?_ ?_ _) | (with_reducible refine Below.alloc ?_ ?_ _) | (with_reducible refine Below.drew ?_) | (with_reducible refine below_dr ?_ _) | (with_reducible refine Below.trans ?_ (Below.mono (by with_reducible assumption) ?_)) | omega | (simp; done) | (simp; omega))
  have ywk150 : wk15.cell? ⟨w.heap.size, 0, none⟩ = some (.int .i64 ax) := (by (repeat (first | with_reducible assumption | (with_reducible refine (cell_drew_at _ _).trans ?_) | (with_reducible refine (cell_set_at _ _ (by first | omega | (simp; done) | (simp; omega))).trans ?_) | (with_reducible refine (cell_alloc_at _ _ (by first | omega | (simp; done) | (simp; omega))).trans ?_) | (with_reducible refine (hcwk15 _ _ (by first | omega | (simp; done) | (simp; omega))).trans ?_))))
  have ywk151 : wk15.cell? ⟨w.heap.size, 1, none⟩ = some (.int .i64 ay) := (by (repeat (first | with_reducible assumption | (with_reducible refine (cell_drew_at _ _).trans ?_) | (with_reducible refine (cell_set_at _ _ (by first | omega | (simp; done) | (simp; omega))).trans ?_) | (with_reducible refine (cell_alloc_at _ _ (by first | omega | (simp; done) | (simp; omega))).trans ?_) | (with_reducible refine (hcwk15 _ _ (by first | omega | (simp; done) | (simp; omega))).trans ?_))))
  have ywk152 : wk15.cell? ⟨w.heap.size + 1, 0, none⟩ = some (.int .i64 bx) := (by (repeat (first | with_reducible assumption | (with_reducible refine (cell_drew_at _ _).trans ?_) | (with_reducible refine (cell_set_at _ _ (by first | omega | (simp; done) | (simp; omega))).trans ?_) | (with_reducible refine (cell_alloc_at _ _ (by first | omega | (simp; done) | (simp; omega))).trans ?_) | (with_reducible refine (hcwk15 _ _ (by first | omega | (simp; done) | (simp; omega))).trans ?_))))
  have ywk153 : wk15.cell? ⟨w.heap.size + 1, 1, none⟩ = some (.int .i64 ey) := (by (repeat (first | with_reducible assumption | (with_reducible refine (cell_drew_at _ _).trans ?_) | (with_reducible refine (cell_set_at _ _ (by first | omega | (simp; done) | (simp; omega))).trans ?_) | (with_reducible refine (cell_alloc_at _ _ (by first | omega | (simp; done) | (simp; omega))).trans ?_) | (with_reducible refine (hcwk15 _ _ (by first | omega | (simp; done) | (simp; omega))).trans ?_))))
  have ywk154 : wk15.cell? ⟨w.heap.size + 1 + 1, 0, none⟩ = some (.int .i64 cx) := (by (repeat (first | with_reducible assumption | (with_reducible refine (cell_drew_at _ _).trans ?_) | (with_reducible refine (cell_set_at _ _ (by first | omega | (simp; done) | (simp; omega))).trans ?_) | (with_reducible refine (cell_alloc_at _ _ (by first | omega | (simp; done) | (simp; omega))).trans ?_) | (with_reducible refine (hcwk15 _ _ (by first | omega | (simp; done) | (simp; omega))).trans ?_))))
  have ywk155 : wk15.cell? ⟨w.heap.size + 1 + 1, 1, none⟩ = some (.int .i64 cy) := (by (repeat (first | with_reducible assumption | (with_reducible refine (cell_drew_at _ _).trans ?_) | (with_reducible refine (cell_set_at _ _ (by first | omega | (simp; done) | (simp; omega))).trans ?_) | (with_reducible refine (cell_alloc_at _ _ (by first | omega | (simp; done) | (simp; omega))).trans ?_) | (with_reducible refine (hcwk15 _ _ (by first | omega | (simp; done) | (simp; omega))).trans ?_))))
  have ywk156 : wk15.cell? ⟨w.heap.size + 1 + 1 + 1, 0, none⟩ = some (.int .i64 dx) := (by (repeat (first | with_reducible assumption | (with_reducible refine (cell_drew_at _ _).trans ?_) | (with_reducible refine (cell_set_at _ _ (by first | omega | (simp; done) | (simp; omega))).trans ?_) | (with_reducible refine (cell_alloc_at _ _ (by first | omega | (simp; done) | (simp; omega))).trans ?_) | (with_reducible refine (hcwk15 _ _ (by first | omega | (simp; done) | (simp; omega))).trans ?_))))
  have ywk157 : wk15.cell? ⟨w.heap.size + 1 + 1 + 1, 1, none⟩ = some (.int .i64 dy) := (by (repeat (first | with_reducible assumption | (with_reducible refine (cell_drew_at _ _).trans ?_) | (with_reducible refine (cell_set_at _ _ (by first | omega | (simp; done) | (simp; omega))).trans ?_) | (with_reducible refine (cell_alloc_at _ _ (by first | omega | (simp; done) | (simp; omega))).trans ?_) | (with_reducible refine (hcwk15 _ _ (by first | omega | (simp; done) | (simp; omega))).trans ?_))))
  have ywk158 : wk15.cell? ⟨w.heap.size + 1 + 1 + 1 + 1, 0, none⟩ = some (.int .i64 0) := (by (repeat (first | with_reducible assumption | (with_reducible refine (cell_drew_at _ _).trans ?_) | (with_reducible refine (cell_set_at _ _ (by first | omega | (simp; done) | (simp; omega))).trans ?_) | (with_reducible refine (cell_alloc_at _ _ (by first | omega | (simp; done) | (simp; omega))).trans ?_) | (with_reducible refine (hcwk15 _ _ (by first | omega | (simp; done) | (simp; omega))).trans ?_))))
  have ywk159 : wk15.cell? ⟨w.heap.size + 1 + 1 + 1 + 1, 1, none⟩ = some (.int .i64 0) := (by (repeat (first | with_reducible assumption | (with_reducible refine (cell_drew_at _ _).trans ?_) | (with_reducible refine (cell_set_at _ _ (by first | omega | (simp; done) | (simp; omega))).trans ?_) | (with_reducible refine (cell_alloc_at _ _ (by first | omega | (simp; done) | (simp; omega))).trans ?_) | (with_reducible refine (hcwk15 _ _ (by first | omega | (simp; done) | (simp; omega))).trans ?_))))
  have yfwk158 : wk15.frozen? ⟨w.heap.size + 1 + 1 + 1 + 1, 0, none⟩ = false := (by (repeat (first | with_reducible assumption | (with_reducible refine (frozen_drew_at _ _).trans ?_) | (with_reducible refine (World.frozen?_setCell _ _ _ _).trans ?_) | (with_reducible refine (frozen_alloc_at _ _ (by first | omega | (simp; done) | (simp; omega))).trans ?_) | (with_reducible refine (hfwk15 _ _ (by first | omega | (simp; done) | (simp; omega))).trans ?_))))
  have yfwk159 : wk15.frozen? ⟨w.heap.size + 1 + 1 + 1 + 1, 1, none⟩ = false := (by (repeat (first | with_reducible assumption | (with_reducible refine (frozen_drew_at _ _).trans ?_) | (with_reducible refine (World.frozen?_setCell _ _ _ _).trans ?_) | (with_reducible refine (frozen_alloc_at _ _ (by first | omega | (simp; done) | (simp; omega))).trans ?_) | (with_reducible refine (hfwk15 _ _ (by first | omega | (simp; done) | (simp; omega))).trans ?_))))
  have pwk150 : wk15.cell? ⟨wk14.heap.size, 0, none⟩ = some (.int .i64 bx) := (hcwk15 _ _ (by omega)).trans nwk150
  have pwk151 : wk15.cell? ⟨wk14.heap.size, 1, none⟩ = some (.int .i64 ey) := (hcwk15 _ _ (by omega)).trans nwk151
  have zwk150 : w.heap.size < wk15.heap.size := by omega
  have zwk151 : w.heap.size + 1 < wk15.heap.size := by omega
  have zwk152 : w.heap.size + 1 + 1 < wk15.heap.size := by omega
  have zwk153 : w.heap.size + 1 + 1 + 1 < wk15.heap.size := by omega
  have zwk154 : w.heap.size + 1 + 1 + 1 + 1 < wk15.heap.size := by omega
  have zpwk15 : wk14.heap.size < wk15.heap.size := by omega
  clear hcwk15 hfwk15 nwk150 nwk151 hbwk15
  go_wp2_with fail
  refine (O3.out _).mono ?_
  rintro e wk16 ⟨rfl, hbwk16⟩
  obtain ⟨hcwk16, hfwk16⟩ := bcell hbwk16
  have hzwk16 := hbwk16.size
  (try simp only [World.size_alloc] at hcwk16 hfwk16 hzwk16)
  have Gwk16 : Below w.heap.size w wk16 := by repeat' (first | with_reducible assumption | with_reducible exact Below.refl _ _ | (with_reducible refine Below.setCell ?_ ?_ _) | (with_reducible refine Below.alloc ?_ ?_ _) | (with_reducible refine Below.drew ?_) | (with_reducible refine below_dr ?_ _) | (with_reducible refine Below.trans ?_ (Below.mono (by with_reducible assumption) ?_)) | omega | (simp; done) | (simp; omega))
  have ywk160 : wk16.cell? ⟨w.heap.size, 0, none⟩ = some (.int .i64 ax) := (by (repeat (first | with_reducible assumption | (with_reducible refine (cell_drew_at _ _).trans ?_) | (with_reducible refine (cell_set_at _ _ (by first | omega | (simp; done) | (simp; omega))).trans ?_) | (with_reducible refine (cell_alloc_at _ _ (by first | omega | (simp; done) | (simp; omega))).trans ?_) | (with_reducible refine (hcwk16 _ _ (by first | omega | (simp; done) | (simp; omega))).trans ?_))))
  have ywk161 : wk16.cell? ⟨w.heap.size, 1, none⟩ = some (.int .i64 ay) := (by (repeat (first | with_reducible assumption | (with_reducible refine (cell_drew_at _ _).trans ?_) | (with_reducible refine (cell_set_at _ _ (by first | omega | (simp; done) | (simp; omega))).trans ?_) | (with_reducible refine (cell_alloc_at _ _ (by first | omega | (simp; done) | (simp; omega))).trans ?_) | (with_reducible refine (hcwk16 _ _ (by first | omega | (simp; done) | (simp; omega))).trans ?_))))
  have ywk162 : wk16.cell? ⟨w.heap.size + 1, 0, none⟩ = some (.int .i64 bx) := (by (repeat (first | with_reducible assumption | (with_reducible refine (cell_drew_at _ _).trans ?_) | (with_reducible refine (cell_set_at _ _ (by first | omega | (simp; done) | (simp; omega))).trans ?_) | (with_reducible refine (cell_alloc_at _ _ (by first | omega | (simp; done) | (simp; omega))).trans ?_) | (with_reducible refine (hcwk16 _ _ (by first | omega | (simp; done) | (simp; omega))).trans ?_))))
  have ywk163 : wk16.cell? ⟨w.heap.size + 1, 1, none⟩ = some (.int .i64 ey) := (by (repeat (first | with_reducible assumption | (with_reducible refine (cell_drew_at _ _).trans ?_) | (with_reducible refine (cell_set_at _ _ (by first | omega | (simp; done) | (simp; omega))).trans ?_) | (with_reducible refine (cell_alloc_at _ _ (by first | omega | (simp; done) | (simp; omega))).trans ?_) | (with_reducible refine (hcwk16 _ _ (by first | omega | (simp; done) | (simp; omega))).trans ?_))))
  have ywk164 : wk16.cell? ⟨w.heap.size + 1 + 1, 0, none⟩ = some (.int .i64 cx) := (by (repeat (first | with_reducible assumption | (with_reducible refine (cell_drew_at _ _).trans ?_) | (with_reducible refine (cell_set_at _ _ (by first | omega | (simp; done) | (simp; omega))).trans ?_) | (with_reducible refine (cell_alloc_at _ _ (by first | omega | (simp; done) | (simp; omega))).trans ?_) | (with_reducible refine (hcwk16 _ _ (by first | omega | (simp; done) | (simp; omega))).trans ?_))))
  have ywk165 : wk16.cell? ⟨w.heap.size + 1 + 1, 1, none⟩ = some (.int .i64 cy) := (by (repeat (first | with_reducible assumption | (with_reducible refine (cell_drew_at _ _).trans ?_) | (with_reducible refine (cell_set_at _ _ (by first | omega | (simp; done) | (simp; omega))).trans ?_) | (with_reducible refine (cell_alloc_at _ _ (by first | omega | (simp; done) | (simp; omega))).trans ?_) | (with_reducible refine (hcwk16 _ _ (by first | omega | (simp; done) | (simp; omega))).trans ?_))))
  have ywk166 : wk16.cell? ⟨w.heap.size + 1 + 1 + 1, 0, none⟩ = some (.int .i64 dx) := (by (repeat (first | with_reducible assumption | (with_reducible refine (cell_drew_at _ _).trans ?_) | (with_reducible refine (cell_set_at _ _ (by first | omega | (simp; done) | (simp; omega))).trans ?_) | (with_reducible refine (cell_alloc_at _ _ (by first | omega | (simp; done) | (simp; omega))).trans ?_) | (with_reducible refine (hcwk16 _ _ (by first | omega | (simp; done) | (simp; omega))).trans ?_))))
  have ywk167 : wk16.cell? ⟨w.heap.size + 1 + 1 + 1, 1, none⟩ = some (.int .i64 dy) := (by (repeat (first | with_reducible assumption | (with_reducible refine (cell_drew_at _ _).trans ?_) | (with_reducible refine (cell_set_at _ _ (by first | omega | (simp; done) | (simp; omega))).trans ?_) | (with_reducible refine (cell_alloc_at _ _ (by first | omega | (simp; done) | (simp; omega))).trans ?_) | (with_reducible refine (hcwk16 _ _ (by first | omega | (simp; done) | (simp; omega))).trans ?_))))
  have ywk168 : wk16.cell? ⟨w.heap.size + 1 + 1 + 1 + 1, 0, none⟩ = some (.int .i64 0) := (by (repeat (first | with_reducible assumption | (with_reducible refine (cell_drew_at _ _).trans ?_) | (with_reducible refine (cell_set_at _ _ (by first | omega | (simp; done) | (simp; omega))).trans ?_) | (with_reducible refine (cell_alloc_at _ _ (by first | omega | (simp; done) | (simp; omega))).trans ?_) | (with_reducible refine (hcwk16 _ _ (by first | omega | (simp; done) | (simp; omega))).trans ?_))))
  have ywk169 : wk16.cell? ⟨w.heap.size + 1 + 1 + 1 + 1, 1, none⟩ = some (.int .i64 0) := (by (repeat (first | with_reducible assumption | (with_reducible refine (cell_drew_at _ _).trans ?_) | (with_reducible refine (cell_set_at _ _ (by first | omega | (simp; done) | (simp; omega))).trans ?_) | (with_reducible refine (cell_alloc_at _ _ (by first | omega | (simp; done) | (simp; omega))).trans ?_) | (with_reducible refine (hcwk16 _ _ (by first | omega | (simp; done) | (simp; omega))).trans ?_))))
  have yfwk168 : wk16.frozen? ⟨w.heap.size + 1 + 1 + 1 + 1, 0, none⟩ = false := (by (repeat (first | with_reducible assumption | (with_reducible refine (frozen_drew_at _ _).trans ?_) | (with_reducible refine (World.frozen?_setCell _ _ _ _).trans ?_) | (with_reducible refine (frozen_alloc_at _ _ (by first | omega | (simp; done) | (simp; omega))).trans ?_) | (with_reducible refine (hfwk16 _ _ (by first | omega | (simp; done) | (simp; omega))).trans ?_))))
  have yfwk169 : wk16.frozen? ⟨w.heap.size + 1 + 1 + 1 + 1, 1, none⟩ = false := (by (repeat (first | with_reducible assumption | (with_reducible refine (frozen_drew_at _ _).trans ?_) | (with_reducible refine (World.frozen?_setCell _ _ _ _).trans ?_) | (with_reducible refine (frozen_alloc_at _ _ (by first | omega | (simp; done) | (simp; omega))).trans ?_) | (with_reducible refine (hfwk16 _ _ (by first | omega | (simp; done) | (simp; omega))).trans ?_))))
  have pwk160 : wk16.cell? ⟨wk14.heap.size, 0, none⟩ = some (.int .i64 bx) := (hcwk16 _ _ (by omega)).trans pwk150
  have pwk161 : wk16.cell? ⟨wk14.heap.size, 1, none⟩ = some (.int .i64 ey) := (hcwk16 _ _ (by omega)).trans pwk151
  have zwk160 : w.heap.size < wk16.heap.size := by omega
  have zwk161 : w.heap.size + 1 < wk16.heap.size := by omega
  have zwk162 : w.heap.size + 1 + 1 < wk16.heap.size := by omega
  have zwk163 : w.heap.size + 1 + 1 + 1 < wk16.heap.size := by omega
  have zwk164 : w.heap.size + 1 + 1 + 1 + 1 < wk16.heap.size := by omega
  have zpwk16 : wk14.heap.size < wk16.heap.size := by omega
  clear hcwk16 hfwk16 hbwk16
  go_wp2_with fail
  rw [rounds_succ]
  have nwk170 : (wk16.alloc (.cells #[.int .i64 cx, .int .i64 cy] 25)).cell? ⟨wk16.heap.size, 0, none⟩ = some (.int .i64 cx) := by simp [go_sem]
  have nwk171 : (wk16.alloc (.cells #[.int .i64 cx, .int .i64 cy] 25)).cell? ⟨wk16.heap.size, 1, none⟩ = some (.int .i64 cy) := by simp [go_sem]
  go_wp2_with fail
  refine (O4.out _).mono ?_
  rintro e wk17 ⟨rfl, hbwk17⟩
  obtain ⟨hcwk17, hfwk17⟩ := bcell hbwk17
  have hzwk17 := hbwk17.size
  (try simp only [World.size_alloc] at hcwk17 hfwk17 hzwk17)
  have Gwk17 : Below w.heap.size w wk17 := by repeat' (first | with_reducible assumption | with_reducible exact Below.refl _ _ | (with_reducible refine Below.setCell ?_ ?_ _) | (with_reducible refine Below.alloc ?_ ?_ _) | (with_reducible refine Below.drew ?_) | (with_reducible refine below_dr ?_ _) | (with_reducible refine Below.trans ?_ (Below.mono (by with_reducible assumption) ?_)) | omega | (simp; done) | (simp; omega))
  have ywk170 : wk17.cell? ⟨w.heap.size, 0, none⟩ = some (.int .i64 ax) := (by (repeat (first | with_reducible assumption | (with_reducible refine (cell_drew_at _ _).trans ?_) | (with_reducible refine (cell_set_at _ _ (by first | omega | (simp; done) | (simp; omega))).trans ?_) | (with_reducible refine (cell_alloc_at _ _ (by first | omega | (simp; done) | (simp; omega))).trans ?_) | (with_reducible refine (hcwk17 _ _ (by first | omega | (simp; done) | (simp; omega))).trans ?_))))
  have ywk171 : wk17.cell? ⟨w.heap.size, 1, none⟩ = some (.int .i64 ay) := (by (repeat (first | with_reducible assumption | (with_reducible refine (cell_drew_at _ _).trans ?_) | (with_reducible refine (cell_set_at _ _ (by first | omega | (simp; done) | (simp; omega))).trans ?_) | (with_reducible refine (cell_alloc_at _ _ (by first | omega | (simp; done) | (simp; omega))).trans ?_) | (with_reducible refine (hcwk17 _ _ (by first | omega | (simp; done) | (simp; omega))).trans ?_))))
  have ywk172 : wk17.cell? ⟨w.heap.size + 1, 0, none⟩ = some (.int .i64 bx) := (by (repeat (first | with_reducible assumption | (with_reducible refine (cell_drew_at _ _).trans ?_) | (with_reducible refine (cell_set_at _ _ (by first | omega | (simp; done) | (simp; omega))).trans ?_) | (with_reducible refine (cell_alloc_at _ _ (by first | omega | (simp; done) | (simp; omega))).trans ?_) | (with_reducible refine (hcwk17 _ _ (by first | omega | (simp; done) | (simp; omega))).trans ?_))))
  have ywk173 : wk17.cell? ⟨w.heap.size + 1, 1, none⟩ = some (.int .i64 ey) := (by (repeat (first | with_reducible assumption | (with_reducible refine (cell_drew_at _ _).trans ?_) | (with_reducible refine (cell_set_at _ _ (by first | omega | (simp; done) | (simp; omega))).trans ?_) | (with_reducible refine (cell_alloc_at _ _ (by first | omega | (simp; done) | (simp; omega))).trans ?_) | (with_reducible refine (hcwk17 _ _ (by first | omega | (simp; done) | (simp; omega))).trans ?_))))
  have ywk174 : wk17.cell? ⟨w.heap.size + 1 + 1, 0, none⟩ = some (.int .i64 cx) := (by (repeat (first | with_reducible assumption | (with_reducible refine (cell_drew_at _ _).trans ?_) | (with_reducible refine (cell_set_at _ _ (by first | omega | (simp; done) | (simp; omega))).trans ?_) | (with_reducible refine (cell_alloc_at _ _ (by first | omega | (simp; done) | (simp; omega))).trans ?_) | (with_reducible refine (hcwk17 _ _ (by first | omega | (simp; done) | (simp; omega))).trans ?_))))
  have ywk175 : wk17.cell? ⟨w.heap.size + 1 + 1, 1, none⟩ = some (.int .i64 cy) := (by (repeat (first | with_reducible assumption | (with_reducible refine (cell_drew_at _ _).trans ?_) | (with_reducible refine (cell_set_at _ _ (by first | omega | (simp; done) | (simp; omega))).trans ?_) | (with_reducible refine (cell_alloc_at _ _ (by first | omega | (simp; done) | (simp; omega))).trans ?_) | (with_reducible refine (hcwk17 _ _ (by first | omega | (simp; done) | (simp; omega))).trans ?_))))
  have ywk176 : wk17.cell? ⟨w.heap.size + 1 + 1 + 1, 0, none⟩ = some (.int .i64 dx) := (by (repeat (first | with_reducible assumption | (with_reducible refine (cell_drew_at _ _).trans ?_) | (with_reducible refine (cell_set_at _ _ (by first | omega | (simp; done) | (simp; omega))).trans ?_) | (with_reducible refine (cell_alloc_at _ _ (by first | omega | (simp; done) | (simp; omega))).trans ?_) | (with_reducible refine (hcwk17 _ _ (by first | omega | (simp; done) | (simp; omega))).trans ?_))))
  have ywk177 : wk17.cell? ⟨w.heap.size + 1 + 1 + 1, 1, none⟩ = some (.int .i64 dy) := (by (repeat (first | with_reducible assumption | (with_reducible refine (cell_drew_at _ _).trans ?_) | (with_reducible refine (cell_set_at _ _ (by first | omega | (simp; done) | (simp; omega))).trans ?_) | (with_reducible refine (cell_alloc_at _ _ (by first | omega | (simp; done) | (simp; omega))).trans ?_) | (with_reducible refine (hcwk17 _ _ (by first | omega | (simp; done) | (simp; omega))).trans ?_))))
  have ywk178 : wk17.cell? ⟨w.heap.size + 1 + 1 + 1 + 1, 0, none⟩ = some (.int .i64 0) := (by (repeat (first | with_reducible assumption | (with_reducible refine (cell_drew_at _ _).trans ?_) | (with_reducible refine (cell_set_at _ _ (by first | omega | (simp; done) | (simp; omega))).trans ?_) | (with_reducible refine (cell_alloc_at _ _ (by first | omega | (simp; done) | (simp; omega))).trans ?_) | (with_reducible refine (hcwk17 _ _ (by first | omega | (simp; done) | (simp; omega))).trans ?_))))
  have ywk179 : wk17.cell? ⟨w.heap.size + 1 + 1 + 1 + 1, 1, none⟩ = some (.int .i64 0) := (by (repeat (first | with_reducible assumption | (with_reducible refine (cell_drew_at _ _).trans ?_) | (with_reducible refine (cell_set_at _ _ (by first | omega | (simp; done) | (simp; omega))).trans ?_) | (with_reducible refine (cell_alloc_at _ _ (by first | omega | (simp; done) | (simp; omega))).trans ?_) | (with_reducible refine (hcwk17 _ _ (by first | omega | (simp; done) | (simp; omega))).trans ?_))))
  have yfwk178 : wk17.frozen? ⟨w.heap.size + 1 + 1 + 1 + 1, 0, none⟩ = false := (by (repeat (first | with_reducible assumption | (with_reducible refine (frozen_drew_at _ _).trans ?_) | (with_reducible refine (World.frozen?_setCell _ _ _ _).trans ?_) | (with_reducible refine (frozen_alloc_at _ _ (by first | omega | (simp; done) | (simp; omega))).trans ?_) | (with_reducible refine (hfwk17 _ _ (by first | omega | (simp; done) | (simp; omega))).trans ?_))))
  have yfwk179 : wk17.frozen? ⟨w.heap.size + 1 + 1 + 1 + 1, 1, none⟩ = false := (by (repeat (first | with_reducible assumption | (with_reducible refine (frozen_drew_at _ _).trans ?_) | (with_reducible refine (World.frozen?_setCell _ _ _ _).trans ?_) | (with_reducible refine (frozen_alloc_at _ _ (by first | omega | (simp; done) | (simp; omega))).trans ?_) | (with_reducible refine (hfwk17 _ _ (by first | omega | (simp; done) | (simp; omega))).trans ?_))))
  have pwk170 : wk17.cell? ⟨wk16.heap.size, 0, none⟩ = some (.int .i64 cx) := (hcwk17 _ _ (by omega)).trans nwk170
  have pwk171 : wk17.cell? ⟨wk16.heap.size, 1, none⟩ = some (.int .i64 cy) := (hcwk17 _ _ (by omega)).trans nwk171
  have zwk170 : w.heap.size < wk17.heap.size := by omega
  have zwk171 : w.heap.size + 1 < wk17.heap.size := by omega
  have zwk172 : w.heap.size + 1 + 1 < wk17.heap.size := by omega
  have zwk173 : w.heap.size + 1 + 1 + 1 < wk17.heap.size := by omega
  have zwk174 : w.heap.size + 1 + 1 + 1 + 1 < wk17.heap.size := by omega
  have zpwk17 : wk16.heap.size < wk17.heap.size := by omega
  clear hcwk17 hfwk17 nwk170 nwk171 hbwk17
  go_wp2_with fail
  rw [rounds_succ]
  go_wp2
  have ra := AtL.of2 ywk178 ywk179 zwk174
  have rb := ra.store2 (a := .int .i64 dx) (b := .int .i64 dy)
  have r0 := rb.cell 0 rfl
  have r1 := rb.cell 1 rfl
  refine bodyPost_ret (v := .agg #[.int .i64 dx, .int .i64 dy]) (by simp [results, Try.results59, go_sem, r0, r1]) rfl ⟨?_, ?_⟩
  · have hx := X.out
    injection hx with hx hy
    rw [hx, hy]
  repeat' (first | with_reducible assumption | with_reducible exact Below.refl _ _ | (with_reducible refine Below.setCell ?_ ?_ _) | (with_reducible refine Below.alloc ?_ ?_ _) | (with_reducible refine Below.drew ?_) | (with_reducible refine below_dr ?_ _) | (with_reducible refine Below.trans ?_ (Below.mono (by with_reducible assumption) ?_)) | omega | (simp; done) | (simp; omega))
end Go.Proofs.Ytjhboedaaeaomaa
