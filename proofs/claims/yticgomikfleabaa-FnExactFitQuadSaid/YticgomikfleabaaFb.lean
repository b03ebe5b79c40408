/- Walks: the point nearest to the crossing of two lines, on both sides. -/
import Derived.Test.YticgomikfleabaaLx
import Derived.Test.YticgomikfleabaaPc
namespace Go.Proofs.Yticgomikfleabaa
open Go.RowKit
set_option linter.unusedVariables false
section
variable (ax ay bx ey cx cy dx dy : Int)
def lnT : Prop := turnI cx cy dx dy ax ay = turnI cx cy dx dy bx ey
def lnP : Int × Int := (crI ax bx (turnI cx cy dx dy ax ay) (turnI cx cy dx dy ax ay - turnI cx cy dx dy bx ey), crI ay ey (turnI cx cy dx dy ax ay) (turnI cx cy dx dy ax ay - turnI cx cy dx dy bx ey))
def lmC : Int := if (okB ax ay && okB bx ey && okB cx cy && okB dx dy) = false then 1 else if turnI cx cy dx dy ax ay = turnI cx cy dx dy bx ey then 6 else if okB (lnP ax ay bx ey cx cy dx dy).1 (lnP ax ay bx ey cx cy dx dy).2 = true then 0 else 6
def lmP : Int × Int := if lmC ax ay bx ey cx cy dx dy = 0 then lnP ax ay bx ey cx cy dx dy else (0, 0)
end
section
variable {ax ay bx ey cx cy dx dy : Int}
theorem and4f {a b c d : Bool} (h : (a && b && c && d) = true) : a = true ∧ b = true ∧ c = true ∧ d = true := by revert h; cases a <;> cases b <;> cases c <;> cases d <;> simp
theorem lm_no (h : (okB ax ay && okB bx ey && okB cx cy && okB dx dy) = false) : lmC ax ay bx ey cx cy dx dy = 1 ∧ lmP ax ay bx ey cx cy dx dy = (0, 0) := by
  have e : lmC ax ay bx ey cx cy dx dy = 1 := by unfold lmC; rw [if_pos h]
  exact ⟨e, by unfold lmP; rw [e]; rfl⟩
theorem lm_par (h : (okB ax ay && okB bx ey && okB cx cy && okB dx dy) = true) (h2 : turnI cx cy dx dy ax ay = turnI cx cy dx dy bx ey) : lmC ax ay bx ey cx cy dx dy = 6 ∧ lmP ax ay bx ey cx cy dx dy = (0, 0) := by
  have e : lmC ax ay bx ey cx cy dx dy = 6 := by unfold lmC; rw [if_neg (by simp [h]), if_pos h2]
  exact ⟨e, by unfold lmP; rw [e]; rfl⟩
theorem lm_far (h : (okB ax ay && okB bx ey && okB cx cy && okB dx dy) = true) (h2 : ¬ turnI cx cy dx dy ax ay = turnI cx cy dx dy bx ey) (h3 : okB (lnP ax ay bx ey cx cy dx dy).1 (lnP ax ay bx ey cx cy dx dy).2 = false) : lmC ax ay bx ey cx cy dx dy = 6 ∧ lmP ax ay bx ey cx cy dx dy = (0, 0) := by
  have e : lmC ax ay bx ey cx cy dx dy = 6 := by unfold lmC; rw [if_neg (by simp [h]), if_neg h2, if_neg (by simp [h3])]
  exact ⟨e, by unfold lmP; rw [e]; rfl⟩
theorem lm_yes (h : (okB ax ay && okB bx ey && okB cx cy && okB dx dy) = true) (h2 : ¬ turnI cx cy dx dy ax ay = turnI cx cy dx dy bx ey) (h3 : okB (lnP ax ay bx ey cx cy dx dy).1 (lnP ax ay bx ey cx cy dx dy).2 = true) : lmC ax ay bx ey cx cy dx dy = 0 ∧ lmP ax ay bx ey cx cy dx dy = lnP ax ay bx ey cx cy dx dy := by
  have e : lmC ax ay bx ey cx cy dx dy = 0 := by unfold lmC; rw [if_neg (by simp [h]), if_neg h2, if_pos h3]
  exact ⟨e, by unfold lmP; rw [e]; rfl⟩
end
def LmRet (p : Int × Int) (c : Int) (w : World) (e : Ending) (w' : World) : Prop := e = .returned (.tuple #[.agg #[.int .i64 p.1, .int .i64 p.2], .int .i64 c]) ∧ Below w.heap.size w w'
theorem LmRet.mk {p : Int × Int} {x y c d : Int} {w w' : World} (h : p = (x, y)) (hc : c = d) (hb : Below w.heap.size w w') : LmRet p c w (.returned (.tuple #[.agg #[.int .i64 x, .int .i64 y], .int .i64 d])) w' := by
  subst h; subst hc; exact ⟨rfl, hb⟩
set_option maxHeartbeats 6400000 in
theorem l16Lines_par (ax ay bx ey cx cy dx dy : Int) (w : World) (va : okB ax ay = true) (vb : okB bx ey = true) (vc : okB cx cy = true) (vd : okB dx dy = true) (h : turnI cx cy dx dy ax ay = turnI cx cy dx dy bx ey) :
    Calls Try.prog 79 #[.agg #[.int .i64 ax, .int .i64 ay], .agg #[.int .i64 bx, .int .i64 ey], .agg #[.int .i64 cx, .int .i64 cy], .agg #[.int .i64 dx, .int .i64 dy]] w fun e w' => e = .returned (.tuple #[.agg #[.int .i64 0, .int .i64 0], .bool false]) ∧ Below w.heap.size w w' := by
  have T0 := Lib.hid (fun w => l03Turn_any cx cy dx dy ax ay w vc vd va)
  have T1 := Lib.hid (fun w => l03Turn_any cx cy dx dy bx ey w vc vd vb)
  have B0 := turn_bound vc vd va
  have B1 := turn_bound vc vd vb
  obtain ⟨a1, a2, a3, a4⟩ := okB_bounds va
  obtain ⟨b1, b2, b3, b4⟩ := okB_bounds vb
  clear va vb vc vd
  generalize turnI cx cy dx dy ax ay = t0 at *
  generalize turnI cx cy dx dy bx ey = t1 at *
  subst h
  have e3 : IntKind.i64.wrap (t0 - t0) = 0 := by rw [Int.sub_self]; rfl
  clear a1 a2 a3 a4 b1 b2 b3 b4 B1
  go_enter Try.func79, Try.ntmps79
  go_wp2_with fail
  refine (T0.out _).mono ?_
  rintro e w2 ⟨rfl, hbw2⟩
  have g2 : Below w.heap.size w w2 := (by repeat' (first | with_reducible assumption | with_reducible exact Below.refl _ _ | (with_reducible refine Below.setCell ?_ ?_ _) | (with_reducible refine Below.alloc ?_ ?_ _) | (with_reducible refine Below.drew ?_) | (with_reducible refine below_dr ?_ _) | (with_reducible refine Below.trans ?_ (Below.mono (by with_reducible assumption) ?_)) | omega | (simp; done) | (simp; omega)))
  obtain ⟨hcw2, hfw2⟩ := bcell hbw2
  have hzw2 := hbw2.size
  (try simp only [World.size_alloc] at hcw2 hfw2 hzw2)
  have t1 : w2.cell? ⟨w.heap.size, 0, none⟩ = some (.int .i64 ax) := (hcw2 _ _ (by omega)).trans (by first | assumption | (refine (cell_alloc_at _ _ ?_).trans ?_; omega; assumption) | (simp [go_sem]; done) | (simp [go_sem, *]; done))
  have t2 : w2.cell? ⟨w.heap.size, 1, none⟩ = some (.int .i64 ay) := (hcw2 _ _ (by omega)).trans (by first | assumption | (refine (cell_alloc_at _ _ ?_).trans ?_; omega; assumption) | (simp [go_sem]; done) | (simp [go_sem, *]; done))
  have t3 : w2.cell? ⟨w.heap.size + 1, 0, none⟩ = some (.int .i64 bx) := (hcw2 _ _ (by omega)).trans (by first | assumption | (refine (cell_alloc_at _ _ ?_).trans ?_; omega; assumption) | (simp [go_sem]; done) | (simp [go_sem, *]; done))
  have t4 : w2.cell? ⟨w.heap.size + 1, 1, none⟩ = some (.int .i64 ey) := (hcw2 _ _ (by omega)).trans (by first | assumption | (refine (cell_alloc_at _ _ ?_).trans ?_; omega; assumption) | (simp [go_sem]; done) | (simp [go_sem, *]; done))
  have t5 : w2.cell? ⟨w.heap.size + 1 + 1, 0, none⟩ = some (.int .i64 cx) := (hcw2 _ _ (by omega)).trans (by first | assumption | (refine (cell_alloc_at _ _ ?_).trans ?_; omega; assumption) | (simp [go_sem]; done) | (simp [go_sem, *]; done))
  have t6 : w2.cell? ⟨w.heap.size + 1 + 1, 1, none⟩ = some (.int .i64 cy) := (hcw2 _ _ (by omega)).trans (by first | assumption | (refine (cell_alloc_at _ _ ?_).trans ?_; omega; assumption) | (simp [go_sem]; done) | (simp [go_sem, *]; done))
  have t7 : w2.cell? ⟨w.heap.size + 1 + 1 + 1, 0, none⟩ = some (.int .i64 dx) := (hcw2 _ _ (by omega)).trans (by first | assumption | (refine (cell_alloc_at _ _ ?_).trans ?_; omega; assumption) | (simp [go_sem]; done) | (simp [go_sem, *]; done))
  have t8 : w2.cell? ⟨w.heap.size + 1 + 1 + 1, 1, none⟩ = some (.int .i64 dy) := (hcw2 _ _ (by omega)).trans (by first | assumption | (refine (cell_alloc_at _ _ ?_).trans ?_; omega; assumption) | (simp [go_sem]; done) | (simp [go_sem, *]; done))
  have t9 : w2.cell? ⟨w.heap.size + 1 + 1 + 1 + 1, 0, none⟩ = some (.int .i64 0) := (hcw2 _ _ (by omega)).trans (by first | assumption | (refine (cell_alloc_at _ _ ?_).trans ?_; omega; assumption) | (simp [go_sem]; done) | (simp [go_sem, *]; done))
  have t10 : w2.cell? ⟨w.heap.size + 1 + 1 + 1 + 1, 1, none⟩ = some (.int .i64 0) := (hcw2 _ _ (by omega)).trans (by first | assumption | (refine (cell_alloc_at _ _ ?_).trans ?_; omega; assumption) | (simp [go_sem]; done) | (simp [go_sem, *]; done))
  have tzq0 : w.heap.size < w2.heap.size := (by omega)
  have tzq1 : w.heap.size + 1 < w2.heap.size := (by omega)
  have tzq2 : w.heap.size + 1 + 1 < w2.heap.size := (by omega)
  have tzq3 : w.heap.size + 1 + 1 + 1 < w2.heap.size := (by omega)
  have tz : w.heap.size + 1 + 1 + 1 + 1 < w2.heap.size := (by omega)
  have ft40 : w2.frozen? ⟨w.heap.size + 1 + 1 + 1 + 1, 0, none⟩ = false := (hfw2 _ _ (by omega)).trans (by first | assumption | (refine (World.frozen?_alloc_old _ _ _ ?_).trans ?_; (simp; omega); assumption) | (simp [go_sem]; done) | (simp [go_sem, *]; done))
  have ft41 : w2.frozen? ⟨w.heap.size + 1 + 1 + 1 + 1, 1, none⟩ = false := (hfw2 _ _ (by omega)).trans (by first | assumption | (refine (World.frozen?_alloc_old _ _ _ ?_).trans ?_; (simp; omega); assumption) | (simp [go_sem]; done) | (simp [go_sem, *]; done))
  clear hcw2 hfw2 hzw2
  go_wp2_with fail
  refine (T1.out _).mono ?_
  rintro e w3 ⟨rfl, hbw3⟩
  have g3 : Below w.heap.size w w3 := (by repeat' (first | with_reducible assumption | with_reducible exact Below.refl _ _ | (with_reducible refine Below.setCell ?_ ?_ _) | (with_reducible refine Below.alloc ?_ ?_ _) | (with_reducible refine Below.drew ?_) | (with_reducible refine below_dr ?_ _) | (with_reducible refine Below.trans ?_ (Below.mono (by with_reducible assumption) ?_)) | omega | (simp; done) | (simp; omega)))
  obtain ⟨hcw3, hfw3⟩ := bcell hbw3
  have hzw3 := hbw3.size
  (try simp only [World.size_alloc] at hcw3 hfw3 hzw3)
  have u1 : w3.cell? ⟨w.heap.size, 0, none⟩ = some (.int .i64 ax) := (hcw3 _ _ (by omega)).trans (by first | assumption | (refine (cell_alloc_at _ _ ?_).trans ?_; omega; assumption) | (simp [go_sem]; done) | (simp [go_sem, *]; done))
  have u2 : w3.cell? ⟨w.heap.size, 1, none⟩ = some (.int .i64 ay) := (hcw3 _ _ (by omega)).trans (by first | assumption | (refine (cell_alloc_at _ _ ?_).trans ?_; omega; assumption) | (simp [go_sem]; done) | (simp [go_sem, *]; done))
  have u3 : w3.cell? ⟨w.heap.size + 1, 0, none⟩ = some (.int .i64 bx) := (hcw3 _ _ (by omega)).trans (by first | assumption | (refine (cell_alloc_at _ _ ?_).trans ?_; omega; assumption) | (simp [go_sem]; done) | (simp [go_sem, *]; done))
  have u4 : w3.cell? ⟨w.heap.size + 1, 1, none⟩ = some (.int .i64 ey) := (hcw3 _ _ (by omega)).trans (by first | assumption | (refine (cell_alloc_at _ _ ?_).trans ?_; omega; assumption) | (simp [go_sem]; done) | (simp [go_sem, *]; done))
  have u5 : w3.cell? ⟨w.heap.size + 1 + 1, 0, none⟩ = some (.int .i64 cx) := (hcw3 _ _ (by omega)).trans (by first | assumption | (refine (cell_alloc_at _ _ ?_).trans ?_; omega; assumption) | (simp [go_sem]; done) | (simp [go_sem, *]; done))
  have u6 : w3.cell? ⟨w.heap.size + 1 + 1, 1, none⟩ = some (.int .i64 cy) := (hcw3 _ _ (by omega)).trans (by first | assumption | (refine (cell_alloc_at _ _ ?_).trans ?_; omega; assumption) | (simp [go_sem]; done) | (simp [go_sem, *]; done))
  have u7 : w3.cell? ⟨w.heap.size + 1 + 1 + 1, 0, none⟩ = some (.int .i64 dx) := (hcw3 _ _ (by omega)).trans (by first | assumption | (refine (cell_alloc_at _ _ ?_).trans ?_; omega; assumption) | (simp [go_sem]; done) | (simp [go_sem, *]; done))
  have u8 : w3.cell? ⟨w.heap.size + 1 + 1 + 1, 1, none⟩ = some (.int .i64 dy) := (hcw3 _ _ (by omega)).trans (by first | assumption | (refine (cell_alloc_at _ _ ?_).trans ?_; omega; assumption) | (simp [go_sem]; done) | (simp [go_sem, *]; done))
  have u9 : w3.cell? ⟨w.heap.size + 1 + 1 + 1 + 1, 0, none⟩ = some (.int .i64 0) := (hcw3 _ _ (by omega)).trans (by first | assumption | (refine (cell_alloc_at _ _ ?_).trans ?_; omega; assumption) | (simp [go_sem]; done) | (simp [go_sem, *]; done))
  have u10 : w3.cell? ⟨w.heap.size + 1 + 1 + 1 + 1, 1, none⟩ = some (.int .i64 0) := (hcw3 _ _ (by omega)).trans (by first | assumption | (refine (cell_alloc_at _ _ ?_).trans ?_; omega; assumption) | (simp [go_sem]; done) | (simp [go_sem, *]; done))
  have uzq0 : w.heap.size < w3.heap.size := (by omega)
  have uzq1 : w.heap.size + 1 < w3.heap.size := (by omega)
  have uzq2 : w.heap.size + 1 + 1 < w3.heap.size := (by omega)
  have uzq3 : w.heap.size + 1 + 1 + 1 < w3.heap.size := (by omega)
  have uz : w.heap.size + 1 + 1 + 1 + 1 < w3.heap.size := (by omega)
  have fu40 : w3.frozen? ⟨w.heap.size + 1 + 1 + 1 + 1, 0, none⟩ = false := (hfw3 _ _ (by omega)).trans (by first | assumption | (refine (World.frozen?_alloc_old _ _ _ ?_).trans ?_; (simp; omega); assumption) | (simp [go_sem]; done) | (simp [go_sem, *]; done))
  have fu41 : w3.frozen? ⟨w.heap.size + 1 + 1 + 1 + 1, 1, none⟩ = false := (hfw3 _ _ (by omega)).trans (by first | assumption | (refine (World.frozen?_alloc_old _ _ _ ?_).trans ?_; (simp; omega); assumption) | (simp [go_sem]; done) | (simp [go_sem, *]; done))
  clear hcw3 hfw3 hzw3
  go_wp2
  have ra := AtL.of2 u9 u10 uz
  have rb := ra.store2 (a := .int .i64 0) (b := .int .i64 0)
  have r0 := rb.cell 0 rfl
  have r1 := rb.cell 1 rfl
  refine bodyPost_ret (v := .tuple #[.agg #[.int .i64 0, .int .i64 0], .bool false]) (by simp [results, Try.results79, go_sem, r0, r1]) rfl ⟨rfl, ?_⟩
  repeat' (first | with_reducible assumption | with_reducible exact Below.refl _ _ | (with_reducible refine Below.setCell ?_ ?_ _) | (with_reducible refine Below.alloc ?_ ?_ _) | (with_reducible refine Below.drew ?_) | (with_reducible refine below_dr ?_ _) | (with_reducible refine Below.trans ?_ (Below.mono (by with_reducible assumption) ?_)) | omega | (simp; done) | (simp; omega))
set_option maxHeartbeats 12800000 in
theorem l16Lines_far (ax ay bx ey cx cy dx dy : Int) (w : World) (va : okB ax ay = true) (vb : okB bx ey = true) (vc : okB cx cy = true) (vd : okB dx dy = true) (h : ¬ turnI cx cy dx dy ax ay = turnI cx cy dx dy bx ey) :
    Calls Try.prog 79 #[.agg #[.int .i64 ax, .int .i64 ay], .agg #[.int .i64 bx, .int .i64 ey], .agg #[.int .i64 cx, .int .i64 cy], .agg #[.int .i64 dx, .int .i64 dy]] w fun e w' => e = .returned (.tuple #[.agg #[.int .i64 (lnP ax ay bx ey cx cy dx dy).1, .int .i64 (lnP ax ay bx ey cx cy dx dy).2], .bool (okB (lnP ax ay bx ey cx cy dx dy).1 (lnP ax ay bx ey cx cy dx dy).2)]) ∧ Below w.heap.size w w' := by
  have T0 := Lib.hid (fun w => l03Turn_any cx cy dx dy ax ay w vc vd va)
  have T1 := Lib.hid (fun w => l03Turn_any cx cy dx dy bx ey w vc vd vb)
  simp only [lnP]
  have B0 := turn_bound vc vd va
  have B1 := turn_bound vc vd vb
  obtain ⟨a1, a2, a3, a4⟩ := okB_bounds va
  obtain ⟨b1, b2, b3, b4⟩ := okB_bounds vb
  clear va vb vc vd
  generalize turnI cx cy dx dy ax ay = t0 at *
  generalize turnI cx cy dx dy bx ey = t1 at *
  obtain ⟨q1, q2, q3, q4⟩ := line_nums h B0 B1
  obtain ⟨m1, m2⟩ := mulB (a := bx - ax) (b := partI t0 (t0 - t1)) (A := 524288) (B := 549755813888) (by omega) (by omega) (by omega) (by omega)
  obtain ⟨m3, m4⟩ := mulB (a := ey - ay) (b := partI t0 (t0 - t1)) (A := 524288) (B := 549755813888) (by omega) (by omega) (by omega) (by omega)
  obtain ⟨n1, n2⟩ := near_bound (v := (bx - ax) * partI t0 (t0 - t1)) q3 (by omega) (by omega)
  obtain ⟨n3, n4⟩ := near_bound (v := (ey - ay) * partI t0 (t0 - t1)) q3 (by omega) (by omega)
  have CX := Lib.hid (fun w => l03Round_any ((bx - ax) * partI t0 (t0 - t1)) (wholeI (t0 - t1)) w (by omega) (by omega) (by omega))
  have CY := Lib.hid (fun w => l03Round_any ((ey - ay) * partI t0 (t0 - t1)) (wholeI (t0 - t1)) w (by omega) (by omega) (by omega))
  have e1 : IntKind.i64.wrap (bx - ax) = bx - ax := IntWalk.i64_in _ (by omega)
  have e2 : IntKind.i64.wrap (ey - ay) = ey - ay := IntWalk.i64_in _ (by omega)
  have e3 : IntKind.i64.wrap (t0 - t1) = t0 - t1 := IntWalk.i64_in _ (by omega)
  have e4 : IntKind.i64.wrap (-t0) = -t0 := IntWalk.i64_in _ (by omega)
  have e5 : IntKind.i64.wrap (-(t0 - t1)) = -(t0 - t1) := IntWalk.i64_in _ (by omega)
  have e6 : IntKind.i64.wrap ((bx - ax) * partI t0 (t0 - t1)) = (bx - ax) * partI t0 (t0 - t1) := IntWalk.i64_in _ (by omega)
  have e7 : IntKind.i64.wrap ((ey - ay) * partI t0 (t0 - t1)) = (ey - ay) * partI t0 (t0 - t1) := IntWalk.i64_in _ (by omega)
  have e8 : IntKind.i64.wrap (ax + near ((bx - ax) * partI t0 (t0 - t1)) (wholeI (t0 - t1))) = ax + near ((bx - ax) * partI t0 (t0 - t1)) (wholeI (t0 - t1)) := IntWalk.i64_in _ (by omega)
  have e9 : IntKind.i64.wrap (ay + near ((ey - ay) * partI t0 (t0 - t1)) (wholeI (t0 - t1))) = ay + near ((ey - ay) * partI t0 (t0 - t1)) (wholeI (t0 - t1)) := IntWalk.i64_in _ (by omega)
  unfold crI
  generalize near ((bx - ax) * partI t0 (t0 - t1)) (wholeI (t0 - t1)) = X at *
  generalize near ((ey - ay) * partI t0 (t0 - t1)) (wholeI (t0 - t1)) = Y at *
  have OK := Lib.hid (fun w => l03Ok_any (ax + X) (ay + Y) w)
  generalize okB (ax + X) (ay + Y) = v at *
  clear q1 q2 q3 q4 n1 n2 n3 n4 m1 m2 m3 m4 a1 a2 a3 a4 b1 b2 b3 b4 B0 B1
  by_cases hm : t0 - t1 < 0
  · have hp : partI t0 (t0 - t1) = -t0 := by unfold partI; rw [if_pos hm]
    have hq : wholeI (t0 - t1) = -(t0 - t1) := by unfold wholeI; rw [if_pos hm]
    rw [hp, hq] at CX CY
    rw [hp] at e6 e7
    have d1 : decide (t0 - t1 < 0) = true := by simpa using hm
    have d2 : (-(t0 - t1) == 0) = false := by simp; omega
    clear hp hq hm h
    go_enter Try.func79, Try.ntmps79
    go_wp2_with fail
    refine (T0.out _).mono ?_
    rintro e w2 ⟨rfl, hbw2⟩
    have g2 : Below w.heap.size w w2 := (by repeat' (first | with_reducible assumption | with_reducible exact Below.refl _ _ | (with_reducible refine Below.setCell ?_ ?_ _) | (with_reducible refine Below.alloc ?_ ?_ _) | (with_reducible refine Below.drew ?_) | (with_reducible refine below_dr ?_ _) | (with_reducible refine Below.trans ?_ (Below.mono (by with_reducible assumption) ?_)) | omega | (simp; done) | (simp; omega)))
    obtain ⟨hcw2, hfw2⟩ := bcell hbw2
    have hzw2 := hbw2.size
    (try simp only [World.size_alloc] at hcw2 hfw2 hzw2)
    have t1 : w2.cell? ⟨w.heap.size, 0, none⟩ = some (.int .i64 ax) := (hcw2 _ _ (by omega)).trans (by first | assumption | (refine (cell_alloc_at _ _ ?_).trans ?_; omega; assumption) | (simp [go_sem]; done) | (simp [go_sem, *]; done))
    have t2 : w2.cell? ⟨w.heap.size, 1, none⟩ = some (.int .i64 ay) := (hcw2 _ _ (by omega)).trans (by first | assumption | (refine (cell_alloc_at _ _ ?_).trans ?_; omega; assumption) | (simp [go_sem]; done) | (simp [go_sem, *]; done))
    have t3 : w2.cell? ⟨w.heap.size + 1, 0, none⟩ = some (.int .i64 bx) := (hcw2 _ _ (by omega)).trans (by first | assumption | (refine (cell_alloc_at _ _ ?_).trans ?_; omega; assumption) | (simp [go_sem]; done) | (simp [go_sem, *]; done))
    have t4 : w2.cell? ⟨w.heap.size + 1, 1, none⟩ = some (.int .i64 ey) := (hcw2 _ _ (by omega)).trans (by first | assumption | (refine (cell_alloc_at _ _ ?_).trans ?_; omega; assumption) | (simp [go_sem]; done) | (simp [go_sem, *]; done))
    have t5 : w2.cell? ⟨w.heap.size + 1 + 1, 0, none⟩ = some (.int .i64 cx) := (hcw2 _ _ (by omega)).trans (by first | assumption | (refine (cell_alloc_at _ _ ?_).trans ?_; omega; assumption) | (simp [go_sem]; done) | (simp [go_sem, *]; done))
    have t6 : w2.cell? ⟨w.heap.size + 1 + 1, 1, none⟩ = some (.int .i64 cy) := (hcw2 _ _ (by omega)).trans (by first | assumption | (refine (cell_alloc_at _ _ ?_).trans ?_; omega; assumption) | (simp [go_sem]; done) | (simp [go_sem, *]; done))
    have t7 : w2.cell? ⟨w.heap.size + 1 + 1 + 1, 0, none⟩ = some (.int .i64 dx) := (hcw2 _ _ (by omega)).trans (by first | assumption | (refine (cell_alloc_at _ _ ?_).trans ?_; omega; assumption) | (simp [go_sem]; done) | (simp [go_sem, *]; done))
    have t8 : w2.cell? ⟨w.heap.size + 1 + 1 + 1, 1, none⟩ = some (.int .i64 dy) := (hcw2 _ _ (by omega)).trans (by first | assumption | (refine (cell_alloc_at _ _ ?_).trans ?_; omega; assumption) | (simp [go_sem]; done) | (simp [go_sem, *]; done))
    have t9 : w2.cell? ⟨w.heap.size + 1 + 1 + 1 + 1, 0, none⟩ = some (.int .i64 0) := (hcw2 _ _ (by omega)).trans (by first | assumption | (refine (cell_alloc_at _ _ ?_).trans ?_; omega; assumption) | (simp [go_sem]; done) | (simp [go_sem, *]; done))
    have t10 : w2.cell? ⟨w.heap.size + 1 + 1 + 1 + 1, 1, none⟩ = some (.int .i64 0) := (hcw2 _ _ (by omega)).trans (by first | assumption | (refine (cell_alloc_at _ _ ?_).trans ?_; omega; assumption) | (simp [go_sem]; done) | (simp [go_sem, *]; done))
    have tzq0 : w.heap.size < w2.heap.size := (by omega)
    have tzq1 : w.heap.size + 1 < w2.heap.size := (by omega)
    have tzq2 : w.heap.size + 1 + 1 < w2.heap.size := (by omega)
    have tzq3 : w.heap.size + 1 + 1 + 1 < w2.heap.size := (by omega)
    have tz : w.heap.size + 1 + 1 + 1 + 1 < w2.heap.size := (by omega)
    have ft40 : w2.frozen? ⟨w.heap.size + 1 + 1 + 1 + 1, 0, none⟩ = false := (hfw2 _ _ (by omega)).trans (by first | assumption | (refine (World.frozen?_alloc_old _ _ _ ?_).trans ?_; (simp; omega); assumption) | (simp [go_sem]; done) | (simp [go_sem, *]; done))
    have ft41 : w2.frozen? ⟨w.heap.size + 1 + 1 + 1 + 1, 1, none⟩ = false := (hfw2 _ _ (by omega)).trans (by first | assumption | (refine (World.frozen?_alloc_old _ _ _ ?_).trans ?_; (simp; omega); assumption) | (simp [go_sem]; done) | (simp [go_sem, *]; done))
    clear hcw2 hfw2 hzw2
    go_wp2_with fail
    refine (T1.out _).mono ?_
    rintro e w3 ⟨rfl, hbw3⟩
    have g3 : Below w.heap.size w w3 := (by repeat' (first | with_reducible assumption | with_reducible exact Below.refl _ _ | (with_reducible refine Below.setCell ?_ ?_ _) | (with_reducible refine Below.alloc ?_ ?_ _) | (with_reducible refine Below.drew ?_) | (with_reducible refine below_dr ?_ _) | (with_reducible refine Below.trans ?_ (Below.mono (by with_reducible assumption) ?_)) | omega | (simp; done) | (simp; omega)))
    obtain ⟨hcw3, hfw3⟩ := bcell hbw3
    have hzw3 := hbw3.size
    (try simp only [World.size_alloc] at hcw3 hfw3 hzw3)
    have u1 : w3.cell? ⟨w.heap.size, 0, none⟩ = some (.int .i64 ax) := (hcw3 _ _ (by omega)).trans (by first | assumption | (refine (cell_alloc_at _ _ ?_).trans ?_; omega; assumption) | (simp [go_sem]; done) | (simp [go_sem, *]; done))
    have u2 : w3.cell? ⟨w.heap.size, 1, none⟩ = some (.int .i64 ay) := (hcw3 _ _ (by omega)).trans (by first | assumption | (refine (cell_alloc_at _ _ ?_).trans ?_; omega; assumption) | (simp [go_sem]; done) | (simp [go_sem, *]; done))
    have u3 : w3.cell? ⟨w.heap.size + 1, 0, none⟩ = some (.int .i64 bx) := (hcw3 _ _ (by omega)).trans (by first | assumption | (refine (cell_alloc_at _ _ ?_).trans ?_; omega; assumption) | (simp [go_sem]; done) | (simp [go_sem, *]; done))
    have u4 : w3.cell? ⟨w.heap.size + 1, 1, none⟩ = some (.int .i64 ey) := (hcw3 _ _ (by omega)).trans (by first | assumption | (refine (cell_alloc_at _ _ ?_).trans ?_; omega; assumption) | (simp [go_sem]; done) | (simp [go_sem, *]; done))
    have u5 : w3.cell? ⟨w.heap.size + 1 + 1, 0, none⟩ = some (.int .i64 cx) := (hcw3 _ _ (by omega)).trans (by first | assumption | (refine (cell_alloc_at _ _ ?_).trans ?_; omega; assumption) | (simp [go_sem]; done) | (simp [go_sem, *]; done))
    have u6 : w3.cell? ⟨w.heap.size + 1 + 1, 1, none⟩ = some (.int .i64 cy) := (hcw3 _ _ (by omega)).trans (by first | assumption | (refine (cell_alloc_at _ _ ?_).trans ?_; omega; assumption) | (simp [go_sem]; done) | (simp [go_sem, *]; done))
    have u7 : w3.cell? ⟨w.heap.size + 1 + 1 + 1, 0, none⟩ = some (.int .i64 dx) := (hcw3 _ _ (by omega)).trans (by first | assumption | (refine (cell_alloc_at _ _ ?_).trans ?_; omega; assumption) | (simp [go_sem]; done) | (simp [go_sem, *]; done))
    have u8 : w3.cell? ⟨w.heap.size + 1 + 1 + 1, 1, none⟩ = some (.int .i64 dy) := (hcw3 _ _ (by omega)).trans (by first | assumption | (refine (cell_alloc_at _ _ ?_).trans ?_; omega; assumption) | (simp [go_sem]; done) | (simp [go_sem, *]; done))
    have u9 : w3.cell? ⟨w.heap.size + 1 + 1 + 1 + 1, 0, none⟩ = some (.int .i64 0) := (hcw3 _ _ (by omega)).trans (by first | assumption | (refine (cell_alloc_at _ _ ?_).trans ?_; omega; assumption) | (simp [go_sem]; done) | (simp [go_sem, *]; done))
    have u10 : w3.cell? ⟨w.heap.size + 1 + 1 + 1 + 1, 1, none⟩ = some (.int .i64 0) := (hcw3 _ _ (by omega)).trans (by first | assumption | (refine (cell_alloc_at _ _ ?_).trans ?_; omega; assumption) | (simp [go_sem]; done) | (simp [go_sem, *]; done))
    have uzq0 : w.heap.size < w3.heap.size := (by omega)
    have uzq1 : w.heap.size + 1 < w3.heap.size := (by omega)
    have uzq2 : w.heap.size + 1 + 1 < w3.heap.size := (by omega)
    have uzq3 : w.heap.size + 1 + 1 + 1 < w3.heap.size := (by omega)
    have uz : w.heap.size + 1 + 1 + 1 + 1 < w3.heap.size := (by omega)
    have fu40 : w3.frozen? ⟨w.heap.size + 1 + 1 + 1 + 1, 0, none⟩ = false := (hfw3 _ _ (by omega)).trans (by first | assumption | (refine (World.frozen?_alloc_old _ _ _ ?_).trans ?_; (simp; omega); assumption) | (simp [go_sem]; done) | (simp [go_sem, *]; done))
    have fu41 : w3.frozen? ⟨w.heap.size + 1 + 1 + 1 + 1, 1, none⟩ = false := (hfw3 _ _ (by omega)).trans (by first | assumption | (refine (World.frozen?_alloc_old _ _ _ ?_).trans ?_; (simp; omega); assumption) | (simp [go_sem]; done) | (simp [go_sem, *]; done))
    clear hcw3 hfw3 hzw3
    clear T0 T1 t1 t2 t3 t4 t5 t6 t7 t8 t9 t10
    go_upto_region 8 with fail
    have bx0 : AtL (w.heap.size + 1 + 1 + 1 + 1) [.int .i64 0, .int .i64 0] w3 := AtL.of2 u9 u10 uz
    have zz0 : w.heap.size < w3.heap.size := by omega
    have zz1 : w.heap.size + 1 < w3.heap.size := by omega
    go_cut [12] (fun sA wx => (∃ g, sA = .pointer (some ⟨g, 0, none⟩) ∧ w.heap.size + 1 + 1 + 1 + 1 < g ∧ AtL g [.int .i64 (ax + X), .int .i64 (ay + Y)] wx) ∧ Below w.heap.size w wx ∧ AtL (w.heap.size + 1 + 1 + 1 + 1) [.int .i64 0, .int .i64 0] wx ∧ wx.frozen? ⟨w.heap.size + 1 + 1 + 1 + 1, 0, none⟩ = false ∧ wx.frozen? ⟨w.heap.size + 1 + 1 + 1 + 1, 1, none⟩ = false)
    case first =>
      clear OK
      go_region_held3 (fun w' => (∀ b o, b < w3.heap.size → w'.cell? ⟨b, o, none⟩ = w3.cell? ⟨b, o, none⟩) ∧ (∀ b o, b < w3.heap.size → w'.frozen? ⟨b, o, none⟩ = w3.frozen? ⟨b, o, none⟩) ∧ w3.heap.size ≤ w'.heap.size)
        (first | ((try dsimp only); exact ⟨fun b o h => (by (repeat (first | with_reducible exact rfl | (with_reducible refine (cell_drew_at _ _).trans ?_) | (with_reducible refine (cell_set_at _ _ (by first | omega | (simp; done) | (simp; omega))).trans ?_) | (with_reducible refine (cell_alloc_at _ _ (by first | omega | (simp; done) | (simp; omega))).trans ?_) | (with_reducible refine (hcwF b o (by first | omega | (simp; done) | (simp; omega))).trans ?_) | (with_reducible refine (hcwG b o (by first | omega | (simp; done) | (simp; omega))).trans ?_)))), fun b o h => (by (repeat (first | with_reducible exact rfl | (with_reducible refine (frozen_drew_at _ _).trans ?_) | (with_reducible refine (World.frozen?_setCell _ _ _ _).trans ?_) | (with_reducible refine (frozen_alloc_at _ _ (by first | omega | (simp; done) | (simp; omega))).trans ?_) | (with_reducible refine (hfwF b o (by first | omega | (simp; done) | (simp; omega))).trans ?_) | (with_reducible refine (hfwG b o (by first | omega | (simp; done) | (simp; omega))).trans ?_)))), (by first | omega | (simp; done) | (simp; omega))⟩) | fail)
        (first
          | (go_at_call 100; (with_reducible refine (CX.out _).mono ?_); rintro e wF ⟨rfl, hbwF⟩; obtain ⟨hcwF, hfwF⟩ := bcell hbwF; have hzwF := hbwF.size; (try simp only [World.size_drew] at hcwF hfwF hzwF); (try simp only [World.size_alloc] at hcwF hfwF hzwF); (try have qw30wF : w3.heap.size < wF.heap.size := (by omega)); (try have qw31wF : w3.heap.size + 1 < wF.heap.size := (by omega)))
          | (go_at_call 100; (with_reducible refine (CY.out _).mono ?_); rintro e wG ⟨rfl, hbwG⟩; obtain ⟨hcwG, hfwG⟩ := bcell hbwG; have hzwG := hbwG.size; (try simp only [World.size_drew] at hcwG hfwG hzwG); (try simp only [World.size_alloc] at hcwG hfwG hzwG); (try have qw30wG : w3.heap.size < wG.heap.size := (by omega)); (try have qw31wG : w3.heap.size + 1 < wG.heap.size := (by omega)); (try have qwF0wG : wF.heap.size < wG.heap.size := (by omega)); (try have qwF1wG : wF.heap.size + 1 < wG.heap.size := (by omega))))
      all_goals
        go_wp2_with fail
        go_meet
      all_goals exact ⟨⟨_, rfl, by (try simp only [World.size_drew]); omega, by repeat' (first | ((with_reducible refine AtL.newAt ?_); (first | rfl | (simp; done))) | with_reducible assumption | with_reducible exact AtL.new _ _ _ | (with_reducible refine AtL.drew ?_) | (with_reducible apply AtL.store2) | (with_reducible refine AtL.alloc ?_ _) | (with_reducible refine AtL.far ?_ ?_ _ _) | (with_reducible refine AtL.below ?_ (by with_reducible assumption)) | omega | (simp; done) | (simp; omega))⟩, by repeat' (first | with_reducible assumption | with_reducible exact Below.refl _ _ | (with_reducible refine Below.setCell ?_ ?_ _) | (with_reducible refine Below.alloc ?_ ?_ _) | (with_reducible refine Below.drew ?_) | (with_reducible refine below_dr ?_ _) | (with_reducible refine Below.trans ?_ (Below.mono (by with_reducible assumption) ?_)) | omega | (simp; done) | (simp; omega)), by repeat' (first | ((with_reducible refine AtL.newAt ?_); (first | rfl | (simp; done))) | with_reducible assumption | with_reducible exact AtL.new _ _ _ | (with_reducible refine AtL.drew ?_) | (with_reducible apply AtL.store2) | (with_reducible refine AtL.alloc ?_ _) | (with_reducible refine AtL.far ?_ ?_ _ _) | (with_reducible refine AtL.below ?_ (by with_reducible assumption)) | omega | (simp; done) | (simp; omega)), by first | assumption | (simp [go_sem, *]; done), by first | assumption | (simp [go_sem, *]; done)⟩
    case rest =>
      obtain ⟨⟨g1, rfl, gz, at1⟩, bel, at0, f0, f1⟩ := hcut
      obtain ⟨W1, rfl⟩ : ∃ W : World, W = wc := ⟨_, rfl⟩
      clear CX CY g2 g3 u1 u2 u3 u4 u5 u6 u7 u8 u9 u10
      have k0 := at1.cell 0 rfl
      have k1 := at1.cell 1 rfl
      have kz := at1.lt
      have j0 := at0.cell 0 rfl
      have j1 := at0.cell 1 rfl
      have jz := at0.lt
      have hzz := bel.size
      have gn : ¬ g1 = w.heap.size + 1 + 1 + 1 + 1 := by omega
      have gn2 : ¬ w.heap.size + 1 + 1 + 1 + 1 = g1 := by omega
      go_wp2_with fail
      go_region_held3 (fun w' => (∀ b o, b < W1.heap.size → ¬ b = w.heap.size + 1 + 1 + 1 + 1 → w'.cell? ⟨b, o, none⟩ = W1.cell? ⟨b, o, none⟩) ∧ W1.heap.size ≤ w'.heap.size)
        (first | ((try dsimp only); exact ⟨fun b o h hn => (by (repeat (first | with_reducible exact rfl | (revert b o h hn; apply And.left; with_reducible assumption) | (with_reducible refine (cell_drew_at _ _).trans ?_) | (with_reducible refine (cell_set_ne _ _ hn).trans ?_) | (with_reducible refine (hcwO b o (by first | omega | (simp; done) | (simp; omega))).trans ?_)))), (by first | omega | (simp; done) | (simp; omega))⟩) | fail)
        (first
          | (go_at_call 61; (with_reducible refine (OK.out _).mono ?_); rintro e wO ⟨rfl, hbwO⟩; obtain ⟨hcwO, hfwO⟩ := bcell hbwO; have hzwO := hbwO.size; (try simp only [World.size_drew] at hcwO hfwO hzwO); (try simp only [World.size_alloc] at hcwO hfwO hzwO); have zO : w.heap.size + 1 + 1 + 1 + 1 < wO.heap.size := (by omega); have ywO0 : wO.cell? ⟨w.heap.size + 1 + 1 + 1 + 1, 0, none⟩ = some (.int .i64 0) := (by (repeat (first | with_reducible assumption | (with_reducible refine (cell_drew_at _ _).trans ?_) | (with_reducible refine (cell_set_at _ _ (by first | omega | (simp; done) | (simp; omega))).trans ?_) | (with_reducible refine (cell_alloc_at _ _ (by first | omega | (simp; done) | (simp; omega))).trans ?_) | (with_reducible refine (hcwO _ _ (by first | omega | (simp; done) | (simp; omega))).trans ?_)))); have ywO1 : wO.cell? ⟨w.heap.size + 1 + 1 + 1 + 1, 1, none⟩ = some (.int .i64 0) := (by (repeat (first | with_reducible assumption | (with_reducible refine (cell_drew_at _ _).trans ?_) | (with_reducible refine (cell_set_at _ _ (by first | omega | (simp; done) | (simp; omega))).trans ?_) | (with_reducible refine (cell_alloc_at _ _ (by first | omega | (simp; done) | (simp; omega))).trans ?_) | (with_reducible refine (hcwO _ _ (by first | omega | (simp; done) | (simp; omega))).trans ?_)))); have yfwO0 : wO.frozen? ⟨w.heap.size + 1 + 1 + 1 + 1, 0, none⟩ = false := (by (repeat (first | with_reducible assumption | (with_reducible refine (frozen_drew_at _ _).trans ?_) | (with_reducible refine (World.frozen?_setCell _ _ _ _).trans ?_) | (with_reducible refine (frozen_alloc_at _ _ (by first | omega | (simp; done) | (simp; omega))).trans ?_) | (with_reducible refine (hfwO _ _ (by first | omega | (simp; done) | (simp; omega))).trans ?_)))); have yfwO1 : wO.frozen? ⟨w.heap.size + 1 + 1 + 1 + 1, 1, none⟩ = false := (by (repeat (first | with_reducible assumption | (with_reducible refine (frozen_drew_at _ _).trans ?_) | (with_reducible refine (World.frozen?_setCell _ _ _ _).trans ?_) | (with_reducible refine (frozen_alloc_at _ _ (by first | omega | (simp; done) | (simp; omega))).trans ?_) | (with_reducible refine (hfwO _ _ (by first | omega | (simp; done) | (simp; omega))).trans ?_))))))
      all_goals
        have ra := AtL.of2 ywO0 ywO1 zO
        have rb := ra.store2 (a := .int .i64 (ax + X)) (b := .int .i64 (ay + Y))
        have r0 := rb.cell 0 rfl
        have r1 := rb.cell 1 rfl
        go_wp2
      all_goals refine bodyPost_ret (v := .tuple #[.agg #[.int .i64 (ax + X), .int .i64 (ay + Y)], .bool v]) (by simp [results, Try.results79, go_sem, r0, r1]) rfl ⟨rfl, ?_⟩
      all_goals repeat' (first | with_reducible assumption | with_reducible exact Below.refl _ _ | (with_reducible refine Below.setCell ?_ ?_ _) | (with_reducible refine Below.alloc ?_ ?_ _) | (with_reducible refine Below.drew ?_) | (with_reducible refine below_dr ?_ _) | (with_reducible refine Below.trans ?_ (Below.mono (by with_reducible assumption) ?_)) | omega | (simp; done) | (simp; omega))
  · have hp : partI t0 (t0 - t1) = t0 := by unfold partI; rw [if_neg hm]
    have hq : wholeI (t0 - t1) = t0 - t1 := by unfold wholeI; rw [if_neg hm]
    rw [hp, hq] at CX CY
    rw [hp] at e6 e7
    have d1 : decide (t0 - t1 < 0) = false := by simpa using hm
    have d2 : (t0 - t1 == 0) = false := by simp; omega
    clear hp hq hm h
    go_enter Try.func79, Try.ntmps79
    go_wp2_with fail
    refine (T0.out _).mono ?_
    rintro e w2 ⟨rfl, hbw2⟩
    have g2 : Below w.heap.size w w2 := (by repeat' (first | with_reducible assumption | with_reducible exact Below.refl _ _ | (with_reducible refine Below.setCell ?_ ?_ _) | (with_reducible refine Below.alloc ?_ ?_ _) | (with_reducible refine Below.drew ?_) | (with_reducible refine below_dr ?_ _) | (with_reducible refine Below.trans ?_ (Below.mono (by with_reducible assumption) ?_)) | omega | (simp; done) | (simp; omega)))
    obtain ⟨hcw2, hfw2⟩ := bcell hbw2
    have hzw2 := hbw2.size
    (try simp only [World.size_alloc] at hcw2 hfw2 hzw2)
    have t1 : w2.cell? ⟨w.heap.size, 0, none⟩ = some (.int .i64 ax) := (hcw2 _ _ (by omega)).trans (by first | assumption | (refine (cell_alloc_at _ _ ?_).trans ?_; omega; assumption) | (simp [go_sem]; done) | (simp [go_sem, *]; done))
    have t2 : w2.cell? ⟨w.heap.size, 1, none⟩ = some (.int .i64 ay) := (hcw2 _ _ (by omega)).trans (by first | assumption | (refine (cell_alloc_at _ _ ?_).trans ?_; omega; assumption) | (simp [go_sem]; done) | (simp [go_sem, *]; done))
    have t3 : w2.cell? ⟨w.heap.size + 1, 0, none⟩ = some (.int .i64 bx) := (hcw2 _ _ (by omega)).trans (by first | assumption | (refine (cell_alloc_at _ _ ?_).trans ?_; omega; assumption) | (simp [go_sem]; done) | (simp [go_sem, *]; done))
    have t4 : w2.cell? ⟨w.heap.size + 1, 1, none⟩ = some (.int .i64 ey) := (hcw2 _ _ (by omega)).trans (by first | assumption | (refine (cell_alloc_at _ _ ?_).trans ?_; omega; assumption) | (simp [go_sem]; done) | (simp [go_sem, *]; done))
    have t5 : w2.cell? ⟨w.heap.size + 1 + 1, 0, none⟩ = some (.int .i64 cx) := (hcw2 _ _ (by omega)).trans (by first | assumption | (refine (cell_alloc_at _ _ ?_).trans ?_; omega; assumption) | (simp [go_sem]; done) | (simp [go_sem, *]; done))
    have t6 : w2.cell? ⟨w.heap.size + 1 + 1, 1, none⟩ = some (.int .i64 cy) := (hcw2 _ _ (by omega)).trans (by first | assumption | (refine (cell_alloc_at _ _ ?_).trans ?_; omega; assumption) | (simp [go_sem]; done) | (simp [go_sem, *]; done))
    have t7 : w2.cell? ⟨w.heap.size + 1 + 1 + 1, 0, none⟩ = some (.int .i64 dx) := (hcw2 _ _ (by omega)).trans (by first | assumption | (refine (cell_alloc_at _ _ ?_).trans ?_; omega; assumption) | (simp [go_sem]; done) | (simp [go_sem, *]; done))
    have t8 : w2.cell? ⟨w.heap.size + 1 + 1 + 1, 1, none⟩ = some (.int .i64 dy) := (hcw2 _ _ (by omega)).trans (by first | assumption | (refine (cell_alloc_at _ _ ?_).trans ?_; omega; assumption) | (simp [go_sem]; done) | (simp [go_sem, *]; done))
    have t9 : w2.cell? ⟨w.heap.size + 1 + 1 + 1 + 1, 0, none⟩ = some (.int .i64 0) := (hcw2 _ _ (by omega)).trans (by first | assumption | (refine (cell_alloc_at _ _ ?_).trans ?_; omega; assumption) | (simp [go_sem]; done) | (simp [go_sem, *]; done))
    have t10 : w2.cell? ⟨w.heap.size + 1 + 1 + 1 + 1, 1, none⟩ = some (.int .i64 0) := (hcw2 _ _ (by omega)).trans (by first | assumption | (refine (cell_alloc_at _ _ ?_).trans ?_; omega; assumption) | (simp [go_sem]; done) | (simp [go_sem, *]; done))
    have tzq0 : w.heap.size < w2.heap.size := (by omega)
    have tzq1 : w.heap.size + 1 < w2.heap.size := (by omega)
    have tzq2 : w.heap.size + 1 + 1 < w2.heap.size := (by omega)
    have tzq3 : w.heap.size + 1 + 1 + 1 < w2.heap.size := (by omega)
    have tz : w.heap.size + 1 + 1 + 1 + 1 < w2.heap.size := (by omega)
    have ft40 : w2.frozen? ⟨w.heap.size + 1 + 1 + 1 + 1, 0, none⟩ = false := (hfw2 _ _ (by omega)).trans (by first | assumption | (refine (World.frozen?_alloc_old _ _ _ ?_).trans ?_; (simp; omega); assumption) | (simp [go_sem]; done) | (simp [go_sem, *]; done))
    have ft41 : w2.frozen? ⟨w.heap.size + 1 + 1 + 1 + 1, 1, none⟩ = false := (hfw2 _ _ (by omega)).trans (by first | assumption | (refine (World.frozen?_alloc_old _ _ _ ?_).trans ?_; (simp; omega); assumption) | (simp [go_sem]; done) | (simp [go_sem, *]; done))
    clear hcw2 hfw2 hzw2
    go_wp2_with fail
    refine (T1.out _).mono ?_
    rintro e w3 ⟨rfl, hbw3⟩
    have g3 : Below w.heap.size w w3 := (by repeat' (first | with_reducible assumption | with_reducible exact Below.refl _ _ | (with_reducible refine Below.setCell ?_ ?_ _) | (with_reducible refine Below.alloc ?_ ?_ _) | (with_reducible refine Below.drew ?_) | (with_reducible refine below_dr ?_ _) | (with_reducible refine Below.trans ?_ (Below.mono (by with_reducible assumption) ?_)) | omega | (simp; done) | (simp; omega)))
    obtain ⟨hcw3, hfw3⟩ := bcell hbw3
    have hzw3 := hbw3.size
    (try simp only [World.size_alloc] at hcw3 hfw3 hzw3)
    have u1 : w3.cell? ⟨w.heap.size, 0, none⟩ = some (.int .i64 ax) := (hcw3 _ _ (by omega)).trans (by first | assumption | (refine (cell_alloc_at _ _ ?_).trans ?_; omega; assumption) | (simp [go_sem]; done) | (simp [go_sem, *]; done))
    have u2 : w3.cell? ⟨w.heap.size, 1, none⟩ = some (.int .i64 ay) := (hcw3 _ _ (by omega)).trans (by first | assumption | (refine (cell_alloc_at _ _ ?_).trans ?_; omega; assumption) | (simp [go_sem]; done) | (simp [go_sem, *]; done))
    have u3 : w3.cell? ⟨w.heap.size + 1, 0, none⟩ = some (.int .i64 bx) := (hcw3 _ _ (by omega)).trans (by first | assumption | (refine (cell_alloc_at _ _ ?_).trans ?_; omega; assumption) | (simp [go_sem]; done) | (simp [go_sem, *]; done))
    have u4 : w3.cell? ⟨w.heap.size + 1, 1, none⟩ = some (.int .i64 ey) := (hcw3 _ _ (by omega)).trans (by first | assumption | (refine (cell_alloc_at _ _ ?_).trans ?_; omega; assumption) | (simp [go_sem]; done) | (simp [go_sem, *]; done))
    have u5 : w3.cell? ⟨w.heap.size + 1 + 1, 0, none⟩ = some (.int .i64 cx) := (hcw3 _ _ (by omega)).trans (by first | assumption | (refine (cell_alloc_at _ _ ?_).trans ?_; omega; assumption) | (simp [go_sem]; done) | (simp [go_sem, *]; done))
    have u6 : w3.cell? ⟨w.heap.size + 1 + 1, 1, none⟩ = some (.int .i64 cy) := (hcw3 _ _ (by omega)).trans (by first | assumption | (refine (cell_alloc_at _ _ ?_).trans ?_; omega; assumption) | (simp [go_sem]; done) | (simp [go_sem, *]; done))
    have u7 : w3.cell? ⟨w.heap.size + 1 + 1 + 1, 0, none⟩ = some (.int .i64 dx) := (hcw3 _ _ (by omega)).trans (by first | assumption | (refine (cell_alloc_at _ _ ?_).trans ?_; omega; assumption) | (simp [go_sem]; done) | (simp [go_sem, *]; done))
    have u8 : w3.cell? ⟨w.heap.size + 1 + 1 + 1, 1, none⟩ = some (.int .i64 dy) := (hcw3 _ _ (by omega)).trans (by first | assumption | (refine (cell_alloc_at _ _ ?_).trans ?_; omega; assumption) | (simp [go_sem]; done) | (simp [go_sem, *]; done))
    have u9 : w3.cell? ⟨w.heap.size + 1 + 1 + 1 + 1, 0, none⟩ = some (.int .i64 0) := (hcw3 _ _ (by omega)).trans (by first | assumption | (refine (cell_alloc_at _ _ ?_).trans ?_; omega; assumption) | (simp [go_sem]; done) | (simp [go_sem, *]; done))
    have u10 : w3.cell? ⟨w.heap.size + 1 + 1 + 1 + 1, 1, none⟩ = some (.int .i64 0) := (hcw3 _ _ (by omega)).trans (by first | assumption | (refine (cell_alloc_at _ _ ?_).trans ?_; omega; assumption) | (simp [go_sem]; done) | (simp [go_sem, *]; done))
    have uzq0 : w.heap.size < w3.heap.size := (by omega)
    have uzq1 : w.heap.size + 1 < w3.heap.size := (by omega)
    have uzq2 : w.heap.size + 1 + 1 < w3.heap.size := (by omega)
    have uzq3 : w.heap.size + 1 + 1 + 1 < w3.heap.size := (by omega)
    have uz : w.heap.size + 1 + 1 + 1 + 1 < w3.heap.size := (by omega)
    have fu40 : w3.frozen? ⟨w.heap.size + 1 + 1 + 1 + 1, 0, none⟩ = false := (hfw3 _ _ (by omega)).trans (by first | assumption | (refine (World.frozen?_alloc_old _ _ _ ?_).trans ?_; (simp; omega); assumption) | (simp [go_sem]; done) | (simp [go_sem, *]; done))
    have fu41 : w3.frozen? ⟨w.heap.size + 1 + 1 + 1 + 1, 1, none⟩ = false := (hfw3 _ _ (by omega)).trans (by first | assumption | (refine (World.frozen?_alloc_old _ _ _ ?_).trans ?_; (simp; omega); assumption) | (simp [go_sem]; done) | (simp [go_sem, *]; done))
    clear hcw3 hfw3 hzw3
    clear T0 T1 t1 t2 t3 t4 t5 t6 t7 t8 t9 t10
    go_upto_region 8 with fail
    have bx0 : AtL (w.heap.size + 1 + 1 + 1 + 1) [.int .i64 0, .int .i64 0] w3 := AtL.of2 u9 u10 uz
    have zz0 : w.heap.size < w3.heap.size := by omega
    have zz1 : w.heap.size + 1 < w3.heap.size := by omega
    go_cut [12] (fun sA wx => (∃ g, sA = .pointer (some ⟨g, 0, none⟩) ∧ w.heap.size + 1 + 1 + 1 + 1 < g ∧ AtL g [.int .i64 (ax + X), .int .i64 (ay + Y)] wx) ∧ Below w.heap.size w wx ∧ AtL (w.heap.size + 1 + 1 + 1 + 1) [.int .i64 0, .int .i64 0] wx ∧ wx.frozen? ⟨w.heap.size + 1 + 1 + 1 + 1, 0, none⟩ = false ∧ wx.frozen? ⟨w.heap.size + 1 + 1 + 1 + 1, 1, none⟩ = false)
    case first =>
      clear OK
      go_region_held3 (fun w' => (∀ b o, b < w3.heap.size → w'.cell? ⟨b, o, none⟩ = w3.cell? ⟨b, o, none⟩) ∧ (∀ b o, b < w3.heap.size → w'.frozen? ⟨b, o, none⟩ = w3.frozen? ⟨b, o, none⟩) ∧ w3.heap.size ≤ w'.heap.size)
        (first | ((try dsimp only); exact ⟨fun b o h => (by (repeat (first | with_reducible exact rfl | (with_reducible refine (cell_drew_at _ _).trans ?_) | (with_reducible refine (cell_set_at _ _ (by first | omega | (simp; done) | (simp; omega))).trans ?_) | (with_reducible refine (cell_alloc_at _ _ (by first | omega | (simp; done) | (simp; omega))).trans ?_) | (with_reducible refine (hcwF b o (by first | omega | (simp; done) | (simp; omega))).trans ?_) | (with_reducible refine (hcwG b o (by first | omega | (simp; done) | (simp; omega))).trans ?_)))), fun b o h => (by (repeat (first | with_reducible exact rfl | (with_reducible refine (frozen_drew_at _ _).trans ?_) | (with_reducible refine (World.frozen?_setCell _ _ _ _).trans ?_) | (with_reducible refine (frozen_alloc_at _ _ (by first | omega | (simp; done) | (simp; omega))).trans ?_) | (with_reducible refine (hfwF b o (by first | omega | (simp; done) | (simp; omega))).trans ?_) | (with_reducible refine (hfwG b o (by first | omega | (simp; done) | (simp; omega))).trans ?_)))), (by first | omega | (simp; done) | (simp; omega))⟩) | fail)
        (first
          | (go_at_call 100; (with_reducible refine (CX.out _).mono ?_); rintro e wF ⟨rfl, hbwF⟩; obtain ⟨hcwF, hfwF⟩ := bcell hbwF; have hzwF := hbwF.size; (try simp only [World.size_drew] at hcwF hfwF hzwF); (try simp only [World.size_alloc] at hcwF hfwF hzwF); (try have qw30wF : w3.heap.size < wF.heap.size := (by omega)); (try have qw31wF : w3.heap.size + 1 < wF.heap.size := (by omega)))
          | (go_at_call 100; (with_reducible refine (CY.out _).mono ?_); rintro e wG ⟨rfl, hbwG⟩; obtain ⟨hcwG, hfwG⟩ := bcell hbwG; have hzwG := hbwG.size; (try simp only [World.size_drew] at hcwG hfwG hzwG); (try simp only [World.size_alloc] at hcwG hfwG hzwG); (try have qw30wG : w3.heap.size < wG.heap.size := (by omega)); (try have qw31wG : w3.heap.size + 1 < wG.heap.size := (by omega)); (try have qwF0wG : wF.heap.size < wG.heap.size := (by omega)); (try have qwF1wG : wF.heap.size + 1 < wG.heap.size := (by omega))))
      all_goals
        go_wp2_with fail
        go_meet
      all_goals exact ⟨⟨_, rfl, by (try simp only [World.size_drew]); omega, by repeat' (first | ((with_reducible refine AtL.newAt ?_); (first | rfl | (simp; done))) | with_reducible assumption | with_reducible exact AtL.new _ _ _ | (with_reducible refine AtL.drew ?_) | (with_reducible apply AtL.store2) | (with_reducible refine AtL.alloc ?_ _) | (with_reducible refine AtL.far ?_ ?_ _ _) | (with_reducible refine AtL.below ?_ (by with_reducible assumption)) | omega | (simp; done) | (simp; omega))⟩, by repeat' (first | with_reducible assumption | with_reducible exact Below.refl _ _ | (with_reducible refine Below.setCell ?_ ?_ _) | (with_reducible refine Below.alloc ?_ ?_ _) | (with_reducible refine Below.drew ?_) | (with_reducible refine below_dr ?_ _) | (with_reducible refine Below.trans ?_ (Below.mono (by with_reducible assumption) ?_)) | omega | (simp; done) | (simp; omega)), by repeat' (first | ((with_reducible refine AtL.newAt ?_); (first | rfl | (simp; done))) | with_reducible assumption | with_reducible exact AtL.new _ _ _ | (with_reducible refine AtL.drew ?_) | (with_reducible apply AtL.store2) | (with_reducible refine AtL.alloc ?_ _) | (with_reducible refine AtL.far ?_ ?_ _ _) | (with_reducible refine AtL.below ?_ (by with_reducible assumption)) | omega | (simp; done) | (simp; omega)), by first | assumption | (simp [go_sem, *]; done), by first | assumption | (simp [go_sem, *]; done)⟩
    case rest =>
      obtain ⟨⟨g1, rfl, gz, at1⟩, bel, at0, f0, f1⟩ := hcut
      obtain ⟨W1, rfl⟩ : ∃ W : World, W = wc := ⟨_, rfl⟩
      clear CX CY g2 g3 u1 u2 u3 u4 u5 u6 u7 u8 u9 u10
      have k0 := at1.cell 0 rfl
      have k1 := at1.cell 1 rfl
      have kz := at1.lt
      have j0 := at0.cell 0 rfl
      have j1 := at0.cell 1 rfl
      have jz := at0.lt
      have hzz := bel.size
      have gn : ¬ g1 = w.heap.size + 1 + 1 + 1 + 1 := by omega
      have gn2 : ¬ w.heap.size + 1 + 1 + 1 + 1 = g1 := by omega
      go_wp2_with fail
      go_region_held3 (fun w' => (∀ b o, b < W1.heap.size → ¬ b = w.heap.size + 1 + 1 + 1 + 1 → w'.cell? ⟨b, o, none⟩ = W1.cell? ⟨b, o, none⟩) ∧ W1.heap.size ≤ w'.heap.size)
        (first | ((try dsimp only); exact ⟨fun b o h hn => (by (repeat (first | with_reducible exact rfl | (revert b o h hn; apply And.left; with_reducible assumption) | (with_reducible refine (cell_drew_at _ _).trans ?_) | (with_reducible refine (cell_set_ne _ _ hn).trans ?_) | (with_reducible refine (hcwO b o (by first | omega | (simp; done) | (simp; omega))).trans ?_)))), (by first | omega | (simp; done) | (simp; omega))⟩) | fail)
        (first
          | (go_at_call 61; (with_reducible refine (OK.out _).mono ?_); rintro e wO ⟨rfl, hbwO⟩; obtain ⟨hcwO, hfwO⟩ := bcell hbwO; have hzwO := hbwO.size; (try simp only [World.size_drew] at hcwO hfwO hzwO); (try simp only [World.size_alloc] at hcwO hfwO hzwO); have zO : w.heap.size + 1 + 1 + 1 + 1 < wO.heap.size := (by omega); have ywO0 : wO.cell? ⟨w.heap.size + 1 + 1 + 1 + 1, 0, none⟩ = some (.int .i64 0) := (by (repeat (first | with_reducible assumption | (with_reducible refine (cell_drew_at _ _).trans ?_) | (with_reducible refine (cell_set_at _ _ (by first | omega | (simp; done) | (simp; omega))).trans ?_) | (with_reducible refine (cell_alloc_at _ _ (by first | omega | (simp; done) | (simp; omega))).trans ?_) | (with_reducible refine (hcwO _ _ (by first | omega | (simp; done) | (simp; omega))).trans ?_)))); have ywO1 : wO.cell? ⟨w.heap.size + 1 + 1 + 1 + 1, 1, none⟩ = some (.int .i64 0) := (by (repeat (first | with_reducible assumption | (with_reducible refine (cell_drew_at _ _).trans ?_) | (with_reducible refine (cell_set_at _ _ (by first | omega | (simp; done) | (simp; omega))).trans ?_) | (with_reducible refine (cell_alloc_at _ _ (by first | omega | (simp; done) | (simp; omega))).trans ?_) | (with_reducible refine (hcwO _ _ (by first | omega | (simp; done) | (simp; omega))).trans ?_)))); have yfwO0 : wO.frozen? ⟨w.heap.size + 1 + 1 + 1 + 1, 0, none⟩ = false := (by (repeat (first | with_reducible assumption | (with_reducible refine (frozen_drew_at _ _).trans ?_) | (with_reducible refine (World.frozen?_setCell _ _ _ _).trans ?_) | (with_reducible refine (frozen_alloc_at _ _ (by first | omega | (simp; done) | (simp; omega))).trans ?_) | (with_reducible refine (hfwO _ _ (by first | omega | (simp; done) | (simp; omega))).trans ?_)))); have yfwO1 : wO.frozen? ⟨w.heap.size + 1 + 1 + 1 + 1, 1, none⟩ = false := (by (repeat (first | with_reducible assumption | (with_reducible refine (frozen_drew_at _ _).trans ?_) | (with_reducible refine (World.frozen?_setCell _ _ _ _).trans ?_) | (with_reducible refine (frozen_alloc_at _ _ (by first | omega | (simp; done) | (simp; omega))).trans ?_) | (with_reducible refine (hfwO _ _ (by first | omega | (simp; done) | (simp; omega))).trans ?_))))))
      all_goals
        have ra := AtL.of2 ywO0 ywO1 zO
        have rb := ra.store2 (a := .int .i64 (ax + X)) (b := .int .i64 (ay + Y))
        have r0 := rb.cell 0 rfl
        have r1 := rb.cell 1 rfl
        go_wp2
      all_goals refine bodyPost_ret (v := .tuple #[.agg #[.int .i64 (ax + X), .int .i64 (ay + Y)], .bool v]) (by simp [results, Try.results79, go_sem, r0, r1]) rfl ⟨rfl, ?_⟩
      all_goals repeat' (first | with_reducible assumption | with_reducible exact Below.refl _ _ | (with_reducible refine Below.setCell ?_ ?_ _) | (with_reducible refine Below.alloc ?_ ?_ _) | (with_reducible refine Below.drew ?_) | (with_reducible refine below_dr ?_ _) | (with_reducible refine Below.trans ?_ (Below.mono (by with_reducible assumption) ?_)) | omega | (simp; done) | (simp; omega))
set_option maxHeartbeats 12800000 in
theorem implLinesMeet_any (ax ay bx ey cx cy dx dy : Int) (w : World) :
    Calls Try.prog 51 #[.agg #[.int .i64 ax, .int .i64 ay], .agg #[.int .i64 bx, .int .i64 ey], .agg #[.int .i64 cx, .int .i64 cy], .agg #[.int .i64 dx, .int .i64 dy]] w (LmRet (lmP ax ay bx ey cx cy dx dy) (lmC ax ay bx ey cx cy dx dy) w) := by
  rcases hv : (okB ax ay && okB bx ey && okB cx cy && okB dx dy) with _ | _
  · have X := Lib.hid (lm_no hv)
    have HV := Lib.hid hv
    clear hv
    go_enter Try.func51, Try.ntmps51
    go_wp2_with fail
    refine (valid4 ax ay bx ey cx cy dx dy _ _ (by simp) (by simp [go_sem]) (by simp [go_sem]) (by simp [go_sem]) (by simp [go_sem]) (by simp [go_sem]) (by simp [go_sem]) (by simp [go_sem]) (by simp [go_sem])).mono ?_
    rw [HV.out]
    rintro e W0 ⟨rfl, hbW0⟩
    have g0 : Below w.heap.size w W0 := (by repeat' (first | with_reducible assumption | with_reducible exact Below.refl _ _ | (with_reducible refine Below.setCell ?_ ?_ _) | (with_reducible refine Below.alloc ?_ ?_ _) | (with_reducible refine Below.drew ?_) | (with_reducible refine below_dr ?_ _) | (with_reducible refine Below.trans ?_ (Below.mono (by with_reducible assumption) ?_)) | omega | (simp; done) | (simp; omega)))
    obtain ⟨hcW0, hfW0⟩ := bcell hbW0
    have hzW0 := hbW0.size
    (try simp only [World.size_alloc] at hcW0 hfW0 hzW0)
    have s1 : W0.cell? ⟨w.heap.size, 0, none⟩ = some (.int .i64 ax) := (hcW0 _ _ (by omega)).trans (by first | assumption | (refine (cell_alloc_at _ _ ?_).trans ?_; omega; assumption) | (simp [go_sem]; done) | (simp [go_sem, *]; done))
    have s2 : W0.cell? ⟨w.heap.size, 1, none⟩ = some (.int .i64 ay) := (hcW0 _ _ (by omega)).trans (by first | assumption | (refine (cell_alloc_at _ _ ?_).trans ?_; omega; assumption) | (simp [go_sem]; done) | (simp [go_sem, *]; done))
    have s3 : W0.cell? ⟨w.heap.size + 1, 0, none⟩ = some (.int .i64 bx) := (hcW0 _ _ (by omega)).trans (by first | assumption | (refine (cell_alloc_at _ _ ?_).trans ?_; omega; assumption) | (simp [go_sem]; done) | (simp [go_sem, *]; done))
    have s4 : W0.cell? ⟨w.heap.size + 1, 1, none⟩ = some (.int .i64 ey) := (hcW0 _ _ (by omega)).trans (by first | assumption | (refine (cell_alloc_at _ _ ?_).trans ?_; omega; assumption) | (simp [go_sem]; done) | (simp [go_sem, *]; done))
    have s5 : W0.cell? ⟨w.heap.size + 1 + 1, 0, none⟩ = some (.int .i64 cx) := (hcW0 _ _ (by omega)).trans (by first | assumption | (refine (cell_alloc_at _ _ ?_).trans ?_; omega; assumption) | (simp [go_sem]; done) | (simp [go_sem, *]; done))
    have s6 : W0.cell? ⟨w.heap.size + 1 + 1, 1, none⟩ = some (.int .i64 cy) := (hcW0 _ _ (by omega)).trans (by first | assumption | (refine (cell_alloc_at _ _ ?_).trans ?_; omega; assumption) | (simp [go_sem]; done) | (simp [go_sem, *]; done))
    have s7 : W0.cell? ⟨w.heap.size + 1 + 1 + 1, 0, none⟩ = some (.int .i64 dx) := (hcW0 _ _ (by omega)).trans (by first | assumption | (refine (cell_alloc_at _ _ ?_).trans ?_; omega; assumption) | (simp [go_sem]; done) | (simp [go_sem, *]; done))
    have s8 : W0.cell? ⟨w.heap.size + 1 + 1 + 1, 1, none⟩ = some (.int .i64 dy) := (hcW0 _ _ (by omega)).trans (by first | assumption | (refine (cell_alloc_at _ _ ?_).trans ?_; omega; assumption) | (simp [go_sem]; done) | (simp [go_sem, *]; done))
    have s9 : W0.cell? ⟨w.heap.size + 1 + 1 + 1 + 1, 0, none⟩ = some (.int .i64 0) := (hcW0 _ _ (by omega)).trans (by first | assumption | (refine (cell_alloc_at _ _ ?_).trans ?_; omega; assumption) | (simp [go_sem]; done) | (simp [go_sem, *]; done))
    have s10 : W0.cell? ⟨w.heap.size + 1 + 1 + 1 + 1, 1, none⟩ = some (.int .i64 0) := (hcW0 _ _ (by omega)).trans (by first | assumption | (refine (cell_alloc_at _ _ ?_).trans ?_; omega; assumption) | (simp [go_sem]; done) | (simp [go_sem, *]; done))
    have szq0 : w.heap.size < W0.heap.size := (by omega)
    have szq1 : w.heap.size + 1 < W0.heap.size := (by omega)
    have szq2 : w.heap.size + 1 + 1 < W0.heap.size := (by omega)
    have szq3 : w.heap.size + 1 + 1 + 1 < W0.heap.size := (by omega)
    have sz : w.heap.size + 1 + 1 + 1 + 1 < W0.heap.size := (by omega)
    have fs40 : W0.frozen? ⟨w.heap.size + 1 + 1 + 1 + 1, 0, none⟩ = false := (hfW0 _ _ (by omega)).trans (by first | assumption | (refine (World.frozen?_alloc_old _ _ _ ?_).trans ?_; (simp; omega); assumption) | (simp [go_sem]; done) | (simp [go_sem, *]; done))
    have fs41 : W0.frozen? ⟨w.heap.size + 1 + 1 + 1 + 1, 1, none⟩ = false := (hfW0 _ _ (by omega)).trans (by first | assumption | (refine (World.frozen?_alloc_old _ _ _ ?_).trans ?_; (simp; omega); assumption) | (simp [go_sem]; done) | (simp [go_sem, *]; done))
    clear hcW0 hfW0 hzW0
    go_wp2
    have ra := AtL.of2 s9 s10 sz
    have rb := ra.store2 (a := .int .i64 0) (b := .int .i64 0)
    have r0 := rb.cell 0 rfl
    have r1 := rb.cell 1 rfl
    refine bodyPost_ret (v := .tuple #[.agg #[.int .i64 0, .int .i64 0], .int .i64 1]) (by simp [results, Try.results51, go_sem, r0, r1]) rfl (LmRet.mk X.out.2 X.out.1 ?_)
    repeat' (first | with_reducible assumption | with_reducible exact Below.refl _ _ | (with_reducible refine Below.setCell ?_ ?_ _) | (with_reducible refine Below.alloc ?_ ?_ _) | (with_reducible refine Below.drew ?_) | (with_reducible refine below_dr ?_ _) | (with_reducible refine Below.trans ?_ (Below.mono (by with_reducible assumption) ?_)) | omega | (simp; done) | (simp; omega))
  have HV := Lib.hid hv
  obtain ⟨va, vb, vc, vd⟩ := and4f hv
  have T0 := Lib.hid (fun w => implTurn_any cx cy dx dy ax ay w)
  have T1 := Lib.hid (fun w => implTurn_any cx cy dx dy bx ey w)
  rw [← turnV_is vc vd va] at T0
  rw [← turnV_is vc vd vb] at T1
  by_cases ht : turnI cx cy dx dy ax ay = turnI cx cy dx dy bx ey
  · have X := Lib.hid (lm_par hv ht)
    have hteq : (turnI cx cy dx dy ax ay == turnI cx cy dx dy bx ey) = true := by simpa using ht
    clear hv va vb vc vd ht
    generalize turnI cx cy dx dy ax ay = t0 at *
    generalize turnI cx cy dx dy bx ey = t1 at *
    go_enter Try.func51, Try.ntmps51
    go_wp2_with fail
    refine (valid4 ax ay bx ey cx cy dx dy _ _ (by simp) (by simp [go_sem]) (by simp [go_sem]) (by simp [go_sem]) (by simp [go_sem]) (by simp [go_sem]) (by simp [go_sem]) (by simp [go_sem]) (by simp [go_sem])).mono ?_
    rw [HV.out]
    rintro e W0 ⟨rfl, hbW0⟩
    have g0 : Below w.heap.size w W0 := (by repeat' (first | with_reducible assumption | with_reducible exact Below.refl _ _ | (with_reducible refine Below.setCell ?_ ?_ _) | (with_reducible refine Below.alloc ?_ ?_ _) | (with_reducible refine Below.drew ?_) | (with_reducible refine below_dr ?_ _) | (with_reducible refine Below.trans ?_ (Below.mono (by with_reducible assumption) ?_)) | omega | (simp; done) | (simp; omega)))
    obtain ⟨hcW0, hfW0⟩ := bcell hbW0
    have hzW0 := hbW0.size
    (try simp only [World.size_alloc] at hcW0 hfW0 hzW0)
    have s1 : W0.cell? ⟨w.heap.size, 0, none⟩ = some (.int .i64 ax) := (hcW0 _ _ (by omega)).trans (by first | assumption | (refine (cell_alloc_at _ _ ?_).trans ?_; omega; assumption) | (simp [go_sem]; done) | (simp [go_sem, *]; done))
    have s2 : W0.cell? ⟨w.heap.size, 1, none⟩ = some (.int .i64 ay) := (hcW0 _ _ (by omega)).trans (by first | assumption | (refine (cell_alloc_at _ _ ?_).trans ?_; omega; assumption) | (simp [go_sem]; done) | (simp [go_sem, *]; done))
    have s3 : W0.cell? ⟨w.heap.size + 1, 0, none⟩ = some (.int .i64 bx) := (hcW0 _ _ (by omega)).trans (by first | assumption | (refine (cell_alloc_at _ _ ?_).trans ?_; omega; assumption) | (simp [go_sem]; done) | (simp [go_sem, *]; done))
    have s4 : W0.cell? ⟨w.heap.size + 1, 1, none⟩ = some (.int .i64 ey) := (hcW0 _ _ (by omega)).trans (by first | assumption | (refine (cell_alloc_at _ _ ?_).trans ?_; omega; assumption) | (simp [go_sem]; done) | (simp [go_sem, *]; done))
    have s5 : W0.cell? ⟨w.heap.size + 1 + 1, 0, none⟩ = some (.int .i64 cx) := (hcW0 _ _ (by omega)).trans (by first | assumption | (refine (cell_alloc_at _ _ ?_).trans ?_; omega; assumption) | (simp [go_sem]; done) | (simp [go_sem, *]; done))
    have s6 : W0.cell? ⟨w.heap.size + 1 + 1, 1, none⟩ = some (.int .i64 cy) := (hcW0 _ _ (by omega)).trans (by first | assumption | (refine (cell_alloc_at _ _ ?_).trans ?_; omega; assumption) | (simp [go_sem]; done) | (simp [go_sem, *]; done))
    have s7 : W0.cell? ⟨w.heap.size + 1 + 1 + 1, 0, none⟩ = some (.int .i64 dx) := (hcW0 _ _ (by omega)).trans (by first | assumption | (refine (cell_alloc_at _ _ ?_).trans ?_; omega; assumption) | (simp [go_sem]; done) | (simp [go_sem, *]; done))
    have s8 : W0.cell? ⟨w.heap.size + 1 + 1 + 1, 1, none⟩ = some (.int .i64 dy) := (hcW0 _ _ (by omega)).trans (by first | assumption | (refine (cell_alloc_at _ _ ?_).trans ?_; omega; assumption) | (simp [go_sem]; done) | (simp [go_sem, *]; done))
    have s9 : W0.cell? ⟨w.heap.size + 1 + 1 + 1 + 1, 0, none⟩ = some (.int .i64 0) := (hcW0 _ _ (by omega)).trans (by first | assumption | (refine (cell_alloc_at _ _ ?_).trans ?_; omega; assumption) | (simp [go_sem]; done) | (simp [go_sem, *]; done))
    have s10 : W0.cell? ⟨w.heap.size + 1 + 1 + 1 + 1, 1, none⟩ = some (.int .i64 0) := (hcW0 _ _ (by omega)).trans (by first | assumption | (refine (cell_alloc_at _ _ ?_).trans ?_; omega; assumption) | (simp [go_sem]; done) | (simp [go_sem, *]; done))
    have szq0 : w.heap.size < W0.heap.size := (by omega)
    have szq1 : w.heap.size + 1 < W0.heap.size := (by omega)
    have szq2 : w.heap.size + 1 + 1 < W0.heap.size := (by omega)
    have szq3 : w.heap.size + 1 + 1 + 1 < W0.heap.size := (by omega)
    have sz : w.heap.size + 1 + 1 + 1 + 1 < W0.heap.size := (by omega)
    have fs40 : W0.frozen? ⟨w.heap.size + 1 + 1 + 1 + 1, 0, none⟩ = false := (hfW0 _ _ (by omega)).trans (by first | assumption | (refine (World.frozen?_alloc_old _ _ _ ?_).trans ?_; (simp; omega); assumption) | (simp [go_sem]; done) | (simp [go_sem, *]; done))
    have fs41 : W0.frozen? ⟨w.heap.size + 1 + 1 + 1 + 1, 1, none⟩ = false := (hfW0 _ _ (by omega)).trans (by first | assumption | (refine (World.frozen?_alloc_old _ _ _ ?_).trans ?_; (simp; omega); assumption) | (simp [go_sem]; done) | (simp [go_sem, *]; done))
    clear hcW0 hfW0 hzW0
    go_wp2_with fail
    go_region_held3 (fun w' => (∀ b o, b < W0.heap.size → w'.cell? ⟨b, o, none⟩ = W0.cell? ⟨b, o, none⟩) ∧ W0.heap.size ≤ w'.heap.size)
      (first | ((try dsimp only); exact ⟨fun b o h => (by (repeat (first | with_reducible exact rfl | (with_reducible refine (cell_drew_at _ _).trans ?_) | (with_reducible refine (cell_set_at _ _ (by first | omega | (simp; done) | (simp; omega))).trans ?_) | (with_reducible refine (cell_alloc_at _ _ (by first | omega | (simp; done) | (simp; omega))).trans ?_) | (with_reducible refine (hcwA b o (by first | omega | (simp; done) | (simp; omega))).trans ?_) | (with_reducible refine (hcwB b o (by first | omega | (simp; done) | (simp; omega))).trans ?_)))), (by first | omega | (simp; done) | (simp; omega))⟩) | fail)
      (first
        | (go_at_call 81; (with_reducible refine (T0.out _).mono ?_); rintro e wA ⟨rfl, hbwA⟩; obtain ⟨hcwA, hfwA⟩ := bcell hbwA; have hzwA := hbwA.size; (try simp only [World.size_drew] at hcwA hfwA hzwA))
        | (go_at_call 81; (with_reducible refine (T1.out _).mono ?_); rintro e wB ⟨rfl, hbwB⟩; obtain ⟨hcwB, hfwB⟩ := bcell hbwB; have hzwB := hbwB.size; (try simp only [World.size_drew] at hcwB hfwB hzwB)))
    all_goals
      have hbT : Below W0.heap.size W0 wB := by repeat' (first | with_reducible assumption | with_reducible exact Below.refl _ _ | (with_reducible refine Below.setCell ?_ ?_ _) | (with_reducible refine Below.alloc ?_ ?_ _) | (with_reducible refine Below.drew ?_) | (with_reducible refine below_dr ?_ _) | (with_reducible refine Below.trans ?_ (Below.mono (by with_reducible assumption) ?_)) | omega | (simp; done) | (simp; omega))
      clear hbwA hbwB hcwA hfwA hzwA hcwB hfwB hzwB
      have hbwB := hbT
      clear hbT
      have gB : Below w.heap.size w wB := (by repeat' (first | with_reducible assumption | with_reducible exact Below.refl _ _ | (with_reducible refine Below.setCell ?_ ?_ _) | (with_reducible refine Below.alloc ?_ ?_ _) | (with_reducible refine Below.drew ?_) | (with_reducible refine below_dr ?_ _) | (with_reducible refine Below.trans ?_ (Below.mono (by with_reducible assumption) ?_)) | omega | (simp; done) | (simp; omega)))
      obtain ⟨hcwB, hfwB⟩ := bcell hbwB
      have hzwB := hbwB.size
      (try simp only [World.size_alloc] at hcwB hfwB hzwB)
      have v1 : wB.cell? ⟨w.heap.size, 0, none⟩ = some (.int .i64 ax) := (hcwB _ _ (by omega)).trans (by first | assumption | (refine (cell_alloc_at _ _ ?_).trans ?_; omega; assumption) | (simp [go_sem]; done) | (simp [go_sem, *]; done))
      have v2 : wB.cell? ⟨w.heap.size, 1, none⟩ = some (.int .i64 ay) := (hcwB _ _ (by omega)).trans (by first | assumption | (refine (cell_alloc_at _ _ ?_).trans ?_; omega; assumption) | (simp [go_sem]; done) | (simp [go_sem, *]; done))
      have v3 : wB.cell? ⟨w.heap.size + 1, 0, none⟩ = some (.int .i64 bx) := (hcwB _ _ (by omega)).trans (by first | assumption | (refine (cell_alloc_at _ _ ?_).trans ?_; omega; assumption) | (simp [go_sem]; done) | (simp [go_sem, *]; done))
      have v4 : wB.cell? ⟨w.heap.size + 1, 1, none⟩ = some (.int .i64 ey) := (hcwB _ _ (by omega)).trans (by first | assumption | (refine (cell_alloc_at _ _ ?_).trans ?_; omega; assumption) | (simp [go_sem]; done) | (simp [go_sem, *]; done))
      have v5 : wB.cell? ⟨w.heap.size + 1 + 1, 0, none⟩ = some (.int .i64 cx) := (hcwB _ _ (by omega)).trans (by first | assumption | (refine (cell_alloc_at _ _ ?_).trans ?_; omega; assumption) | (simp [go_sem]; done) | (simp [go_sem, *]; done))
      have v6 : wB.cell? ⟨w.heap.size + 1 + 1, 1, none⟩ = some (.int .i64 cy) := (hcwB _ _ (by omega)).trans (by first | assumption | (refine (cell_alloc_at _ _ ?_).trans ?_; omega; assumption) | (simp [go_sem]; done) | (simp [go_sem, *]; done))
      have v7 : wB.cell? ⟨w.heap.size + 1 + 1 + 1, 0, none⟩ = some (.int .i64 dx) := (hcwB _ _ (by omega)).trans (by first | assumption | (refine (cell_alloc_at _ _ ?_).trans ?_; omega; assumption) | (simp [go_sem]; done) | (simp [go_sem, *]; done))
      have v8 : wB.cell? ⟨w.heap.size + 1 + 1 + 1, 1, none⟩ = some (.int .i64 dy) := (hcwB _ _ (by omega)).trans (by first | assumption | (refine (cell_alloc_at _ _ ?_).trans ?_; omega; assumption) | (simp [go_sem]; done) | (simp [go_sem, *]; done))
      have v9 : wB.cell? ⟨w.heap.size + 1 + 1 + 1 + 1, 0, none⟩ = some (.int .i64 0) := (hcwB _ _ (by omega)).trans (by first | assumption | (refine (cell_alloc_at _ _ ?_).trans ?_; omega; assumption) | (simp [go_sem]; done) | (simp [go_sem, *]; done))
      have v10 : wB.cell? ⟨w.heap.size + 1 + 1 + 1 + 1, 1, none⟩ = some (.int .i64 0) := (hcwB _ _ (by omega)).trans (by first | assumption | (refine (cell_alloc_at _ _ ?_).trans ?_; omega; assumption) | (simp [go_sem]; done) | (simp [go_sem, *]; done))
      have vzq0 : w.heap.size < wB.heap.size := (by omega)
      have vzq1 : w.heap.size + 1 < wB.heap.size := (by omega)
      have vzq2 : w.heap.size + 1 + 1 < wB.heap.size := (by omega)
      have vzq3 : w.heap.size + 1 + 1 + 1 < wB.heap.size := (by omega)
      have vz : w.heap.size + 1 + 1 + 1 + 1 < wB.heap.size := (by omega)
      have fv40 : wB.frozen? ⟨w.heap.size + 1 + 1 + 1 + 1, 0, none⟩ = false := (hfwB _ _ (by omega)).trans (by first | assumption | (refine (World.frozen?_alloc_old _ _ _ ?_).trans ?_; (simp; omega); assumption) | (simp [go_sem]; done) | (simp [go_sem, *]; done))
      have fv41 : wB.frozen? ⟨w.heap.size + 1 + 1 + 1 + 1, 1, none⟩ = false := (hfwB _ _ (by omega)).trans (by first | assumption | (refine (World.frozen?_alloc_old _ _ _ ?_).trans ?_; (simp; omega); assumption) | (simp [go_sem]; done) | (simp [go_sem, *]; done))
      clear hcwB hfwB hzwB
      go_wp2
      have ra := AtL.of2 v9 v10 vz
      have rb := ra.store2 (a := .int .i64 0) (b := .int .i64 0)
      have r0 := rb.cell 0 rfl
      have r1 := rb.cell 1 rfl
      refine bodyPost_ret (v := .tuple #[.agg #[.int .i64 0, .int .i64 0], .int .i64 6]) (by simp [results, Try.results51, go_sem, r0, r1]) rfl (LmRet.mk X.out.2 X.out.1 ?_)
      repeat' (first | with_reducible assumption | with_reducible exact Below.refl _ _ | (with_reducible refine Below.setCell ?_ ?_ _) | (with_reducible refine Below.alloc ?_ ?_ _) | (with_reducible refine Below.drew ?_) | (with_reducible refine below_dr ?_ _) | (with_reducible refine Below.trans ?_ (Below.mono (by with_reducible assumption) ?_)) | omega | (simp; done) | (simp; omega))
  have N := Lib.hid (fun w => lineCrossing_any ax ay bx ey cx cy dx dy w va vb vc vd ht)
  have htne : (turnI cx cy dx dy ax ay == turnI cx cy dx dy bx ey) = false := by simpa using ht
  rw [show crI ax bx (turnI cx cy dx dy ax ay) (turnI cx cy dx dy ax ay - turnI cx cy dx dy bx ey) = (lnP ax ay bx ey cx cy dx dy).1 from rfl, show crI ay ey (turnI cx cy dx dy ax ay) (turnI cx cy dx dy ax ay - turnI cx cy dx dy bx ey) = (lnP ax ay bx ey cx cy dx dy).2 from rfl] at N
  have OK := Lib.hid (fun w => implValidPt_any (lnP ax ay bx ey cx cy dx dy).1 (lnP ax ay bx ey cx cy dx dy).2 w)
  rcases hk : okB (lnP ax ay bx ey cx cy dx dy).1 (lnP ax ay bx ey cx cy dx dy).2 with _ | _
  · have X := Lib.hid (lm_far hv ht hk)
    rw [hk] at OK
    clear ht hk hv
    generalize (lnP ax ay bx ey cx cy dx dy).1 = X1 at *
    generalize (lnP ax ay bx ey cx cy dx dy).2 = X2 at *
    generalize turnI cx cy dx dy ax ay = t0 at *
    generalize turnI cx cy dx dy bx ey = t1 at *
    clear va vb vc vd
    go_enter Try.func51, Try.ntmps51
    go_wp2_with fail
    refine (valid4 ax ay bx ey cx cy dx dy _ _ (by simp) (by simp [go_sem]) (by simp [go_sem]) (by simp [go_sem]) (by simp [go_sem]) (by simp [go_sem]) (by simp [go_sem]) (by simp [go_sem]) (by simp [go_sem])).mono ?_
    rw [HV.out]
    rintro e W0 ⟨rfl, hbW0⟩
    have g0 : Below w.heap.size w W0 := (by repeat' (first | with_reducible assumption | with_reducible exact Below.refl _ _ | (with_reducible refine Below.setCell ?_ ?_ _) | (with_reducible refine Below.alloc ?_ ?_ _) | (with_reducible refine Below.drew ?_) | (with_reducible refine below_dr ?_ _) | (with_reducible refine Below.trans ?_ (Below.mono (by with_reducible assumption) ?_)) | omega | (simp; done) | (simp; omega)))
    obtain ⟨hcW0, hfW0⟩ := bcell hbW0
    have hzW0 := hbW0.size
    (try simp only [World.size_alloc] at hcW0 hfW0 hzW0)
    have s1 : W0.cell? ⟨w.heap.size, 0, none⟩ = some (.int .i64 ax) := (hcW0 _ _ (by omega)).trans (by first | assumption | (refine (cell_alloc_at _ _ ?_).trans ?_; omega; assumption) | (simp [go_sem]; done) | (simp [go_sem, *]; done))
    have s2 : W0.cell? ⟨w.heap.size, 1, none⟩ = some (.int .i64 ay) := (hcW0 _ _ (by omega)).trans (by first | assumption | (refine (cell_alloc_at _ _ ?_).trans ?_; omega; assumption) | (simp [go_sem]; done) | (simp [go_sem, *]; done))
    have s3 : W0.cell? ⟨w.heap.size + 1, 0, none⟩ = some (.int .i64 bx) := (hcW0 _ _ (by omega)).trans (by first | assumption | (refine (cell_alloc_at _ _ ?_).trans ?_; omega; assumption) | (simp [go_sem]; done) | (simp [go_sem, *]; done))
    have s4 : W0.cell? ⟨w.heap.size + 1, 1, none⟩ = some (.int .i64 ey) := (hcW0 _ _ (by omega)).trans (by first | assumption | (refine (cell_alloc_at _ _ ?_).trans ?_; omega; assumption) | (simp [go_sem]; done) | (simp [go_sem, *]; done))
    have s5 : W0.cell? ⟨w.heap.size + 1 + 1, 0, none⟩ = some (.int .i64 cx) := (hcW0 _ _ (by omega)).trans (by first | assumption | (refine (cell_alloc_at _ _ ?_).trans ?_; omega; assumption) | (simp [go_sem]; done) | (simp [go_sem, *]; done))
    have s6 : W0.cell? ⟨w.heap.size + 1 + 1, 1, none⟩ = some (.int .i64 cy) := (hcW0 _ _ (by omega)).trans (by first | assumption | (refine (cell_alloc_at _ _ ?_).trans ?_; omega; assumption) | (simp [go_sem]; done) | (simp [go_sem, *]; done))
    have s7 : W0.cell? ⟨w.heap.size + 1 + 1 + 1, 0, none⟩ = some (.int .i64 dx) := (hcW0 _ _ (by omega)).trans (by first | assumption | (refine (cell_alloc_at _ _ ?_).trans ?_; omega; assumption) | (simp [go_sem]; done) | (simp [go_sem, *]; done))
    have s8 : W0.cell? ⟨w.heap.size + 1 + 1 + 1, 1, none⟩ = some (.int .i64 dy) := (hcW0 _ _ (by omega)).trans (by first | assumption | (refine (cell_alloc_at _ _ ?_).trans ?_; omega; assumption) | (simp [go_sem]; done) | (simp [go_sem, *]; done))
    have s9 : W0.cell? ⟨w.heap.size + 1 + 1 + 1 + 1, 0, none⟩ = some (.int .i64 0) := (hcW0 _ _ (by omega)).trans (by first | assumption | (refine (cell_alloc_at _ _ ?_).trans ?_; omega; assumption) | (simp [go_sem]; done) | (simp [go_sem, *]; done))
    have s10 : W0.cell? ⟨w.heap.size + 1 + 1 + 1 + 1, 1, none⟩ = some (.int .i64 0) := (hcW0 _ _ (by omega)).trans (by first | assumption | (refine (cell_alloc_at _ _ ?_).trans ?_; omega; assumption) | (simp [go_sem]; done) | (simp [go_sem, *]; done))
    have szq0 : w.heap.size < W0.heap.size := (by omega)
    have szq1 : w.heap.size + 1 < W0.heap.size := (by omega)
    have szq2 : w.heap.size + 1 + 1 < W0.heap.size := (by omega)
    have szq3 : w.heap.size + 1 + 1 + 1 < W0.heap.size := (by omega)
    have sz : w.heap.size + 1 + 1 + 1 + 1 < W0.heap.size := (by omega)
    have fs40 : W0.frozen? ⟨w.heap.size + 1 + 1 + 1 + 1, 0, none⟩ = false := (hfW0 _ _ (by omega)).trans (by first | assumption | (refine (World.frozen?_alloc_old _ _ _ ?_).trans ?_; (simp; omega); assumption) | (simp [go_sem]; done) | (simp [go_sem, *]; done))
    have fs41 : W0.frozen? ⟨w.heap.size + 1 + 1 + 1 + 1, 1, none⟩ = false := (hfW0 _ _ (by omega)).trans (by first | assumption | (refine (World.frozen?_alloc_old _ _ _ ?_).trans ?_; (simp; omega); assumption) | (simp [go_sem]; done) | (simp [go_sem, *]; done))
    clear hcW0 hfW0 hzW0
    go_wp2_with fail
    go_region_held3 (fun w' => (∀ b o, b < W0.heap.size → w'.cell? ⟨b, o, none⟩ = W0.cell? ⟨b, o, none⟩) ∧ W0.heap.size ≤ w'.heap.size)
      (first | ((try dsimp only); exact ⟨fun b o h => (by (repeat (first | with_reducible exact rfl | (with_reducible refine (cell_drew_at _ _).trans ?_) | (with_reducible refine (cell_set_at _ _ (by first | omega | (simp; done) | (simp; omega))).trans ?_) | (with_reducible refine (cell_alloc_at _ _ (by first | omega | (simp; done) | (simp; omega))).trans ?_) | (with_reducible refine (hcwA b o (by first | omega | (simp; done) | (simp; omega))).trans ?_) | (with_reducible refine (hcwB b o (by first | omega | (simp; done) | (simp; omega))).trans ?_)))), (by first | omega | (simp; done) | (simp; omega))⟩) | fail)
      (first
        | (go_at_call 81; (with_reducible refine (T0.out _).mono ?_); rintro e wA ⟨rfl, hbwA⟩; obtain ⟨hcwA, hfwA⟩ := bcell hbwA; have hzwA := hbwA.size; (try simp only [World.size_drew] at hcwA hfwA hzwA))
        | (go_at_call 81; (with_reducible refine (T1.out _).mono ?_); rintro e wB ⟨rfl, hbwB⟩; obtain ⟨hcwB, hfwB⟩ := bcell hbwB; have hzwB := hbwB.size; (try simp only [World.size_drew] at hcwB hfwB hzwB)))
    all_goals
      have hbT : Below W0.heap.size W0 wB := by repeat' (first | with_reducible assumption | with_reducible exact Below.refl _ _ | (with_reducible refine Below.setCell ?_ ?_ _) | (with_reducible refine Below.alloc ?_ ?_ _) | (with_reducible refine Below.drew ?_) | (with_reducible refine below_dr ?_ _) | (with_reducible refine Below.trans ?_ (Below.mono (by with_reducible assumption) ?_)) | omega | (simp; done) | (simp; omega))
      clear hbwA hbwB hcwA hfwA hzwA hcwB hfwB hzwB
      have hbwB := hbT
      clear hbT
      have gB : Below w.heap.size w wB := (by repeat' (first | with_reducible assumption | with_reducible exact Below.refl _ _ | (with_reducible refine Below.setCell ?_ ?_ _) | (with_reducible refine Below.alloc ?_ ?_ _) | (with_reducible refine Below.drew ?_) | (with_reducible refine below_dr ?_ _) | (with_reducible refine Below.trans ?_ (Below.mono (by with_reducible assumption) ?_)) | omega | (simp; done) | (simp; omega)))
      obtain ⟨hcwB, hfwB⟩ := bcell hbwB
      have hzwB := hbwB.size
      (try simp only [World.size_alloc] at hcwB hfwB hzwB)
      have v1 : wB.cell? ⟨w.heap.size, 0, none⟩ = some (.int .i64 ax) := (hcwB _ _ (by omega)).trans (by first | assumption | (refine (cell_alloc_at _ _ ?_).trans ?_; omega; assumption) | (simp [go_sem]; done) | (simp [go_sem, *]; done))
      have v2 : wB.cell? ⟨w.heap.size, 1, none⟩ = some (.int .i64 ay) := (hcwB _ _ (by omega)).trans (by first | assumption | (refine (cell_alloc_at _ _ ?_).trans ?_; omega; assumption) | (simp [go_sem]; done) | (simp [go_sem, *]; done))
      have v3 : wB.cell? ⟨w.heap.size + 1, 0, none⟩ = some (.int .i64 bx) := (hcwB _ _ (by omega)).trans (by first | assumption | (refine (cell_alloc_at _ _ ?_).trans ?_; omega; assumption) | (simp [go_sem]; done) | (simp [go_sem, *]; done))
      have v4 : wB.cell? ⟨w.heap.size + 1, 1, none⟩ = some (.int .i64 ey) := (hcwB _ _ (by omega)).trans (by first | assumption | (refine (cell_alloc_at _ _ ?_).trans ?_; omega; assumption) | (simp [go_sem]; done) | (simp [go_sem, *]; done))
      have v5 : wB.cell? ⟨w.heap.size + 1 + 1, 0, none⟩ = some (.int .i64 cx) := (hcwB _ _ (by omega)).trans (by first | assumption | (refine (cell_alloc_at _ _ ?_).trans ?_; omega; assumption) | (simp [go_sem]; done) | (simp [go_sem, *]; done))
      have v6 : wB.cell? ⟨w.heap.size + 1 + 1, 1, none⟩ = some (.int .i64 cy) := (hcwB _ _ (by omega)).trans (by first | assumption | (refine (cell_alloc_at _ _ ?_).trans ?_; omega; assumption) | (simp [go_sem]; done) | (simp [go_sem, *]; done))
      have v7 : wB.cell? ⟨w.heap.size + 1 + 1 + 1, 0, none⟩ = some (.int .i64 dx) := (hcwB _ _ (by omega)).trans (by first | assumption | (refine (cell_alloc_at _ _ ?_).trans ?_; omega; assumption) | (simp [go_sem]; done) | (simp [go_sem, *]; done))
      have v8 : wB.cell? ⟨w.heap.size + 1 + 1 + 1, 1, none⟩ = some (.int .i64 dy) := (hcwB _ _ (by omega)).trans (by first | assumption | (refine (cell_alloc_at _ _ ?_).trans ?_; omega; assumption) | (simp [go_sem]; done) | (simp [go_sem, *]; done))
      have v9 : wB.cell? ⟨w.heap.size + 1 + 1 + 1 + 1, 0, none⟩ = some (.int .i64 0) := (hcwB _ _ (by omega)).trans (by first | assumption | (refine (cell_alloc_at _ _ ?_).trans ?_; omega; assumption) | (simp [go_sem]; done) | (simp [go_sem, *]; done))
      have v10 : wB.cell? ⟨w.heap.size + 1 + 1 + 1 + 1, 1, none⟩ = some (.int .i64 0) := (hcwB _ _ (by omega)).trans (by first | assumption | (refine (cell_alloc_at _ _ ?_).trans ?_; omega; assumption) | (simp [go_sem]; done) | (simp [go_sem, *]; done))
      have vzq0 : w.heap.size < wB.heap.size := (by omega)
      have vzq1 : w.heap.size + 1 < wB.heap.size := (by omega)
      have vzq2 : w.heap.size + 1 + 1 < wB.heap.size := (by omega)
      have vzq3 : w.heap.size + 1 + 1 + 1 < wB.heap.size := (by omega)
      have vz : w.heap.size + 1 + 1 + 1 + 1 < wB.heap.size := (by omega)
      have fv40 : wB.frozen? ⟨w.heap.size + 1 + 1 + 1 + 1, 0, none⟩ = false := (hfwB _ _ (by omega)).trans (by first | assumption | (refine (World.frozen?_alloc_old _ _ _ ?_).trans ?_; (simp; omega); assumption) | (simp [go_sem]; done) | (simp [go_sem, *]; done))
      have fv41 : wB.frozen? ⟨w.heap.size + 1 + 1 + 1 + 1, 1, none⟩ = false := (hfwB _ _ (by omega)).trans (by first | assumption | (refine (World.frozen?_alloc_old _ _ _ ?_).trans ?_; (simp; omega); assumption) | (simp [go_sem]; done) | (simp [go_sem, *]; done))
      clear hcwB hfwB hzwB
      go_wp2_with fail
      refine (N.out _).mono ?_
      rintro e wL ⟨rfl, hbwL⟩
      have gL : Below w.heap.size w wL := (by repeat' (first | with_reducible assumption | with_reducible exact Below.refl _ _ | (with_reducible refine Below.setCell ?_ ?_ _) | (with_reducible refine Below.alloc ?_ ?_ _) | (with_reducible refine Below.drew ?_) | (with_reducible refine below_dr ?_ _) | (with_reducible refine Below.trans ?_ (Below.mono (by with_reducible assumption) ?_)) | omega | (simp; done) | (simp; omega)))
      obtain ⟨hcwL, hfwL⟩ := bcell hbwL
      have hzwL := hbwL.size
      (try simp only [World.size_alloc] at hcwL hfwL hzwL)
      have l1 : wL.cell? ⟨w.heap.size, 0, none⟩ = some (.int .i64 ax) := (hcwL _ _ (by omega)).trans (by first | assumption | (refine (cell_alloc_at _ _ ?_).trans ?_; omega; assumption) | (simp [go_sem]; done) | (simp [go_sem, *]; done))
      have l2 : wL.cell? ⟨w.heap.size, 1, none⟩ = some (.int .i64 ay) := (hcwL _ _ (by omega)).trans (by first | assumption | (refine (cell_alloc_at _ _ ?_).trans ?_; omega; assumption) | (simp [go_sem]; done) | (simp [go_sem, *]; done))
      have l3 : wL.cell? ⟨w.heap.size + 1, 0, none⟩ = some (.int .i64 bx) := (hcwL _ _ (by omega)).trans (by first | assumption | (refine (cell_alloc_at _ _ ?_).trans ?_; omega; assumption) | (simp [go_sem]; done) | (simp [go_sem, *]; done))
      have l4 : wL.cell? ⟨w.heap.size + 1, 1, none⟩ = some (.int .i64 ey) := (hcwL _ _ (by omega)).trans (by first | assumption | (refine (cell_alloc_at _ _ ?_).trans ?_; omega; assumption) | (simp [go_sem]; done) | (simp [go_sem, *]; done))
      have l5 : wL.cell? ⟨w.heap.size + 1 + 1, 0, none⟩ = some (.int .i64 cx) := (hcwL _ _ (by omega)).trans (by first | assumption | (refine (cell_alloc_at _ _ ?_).trans ?_; omega; assumption) | (simp [go_sem]; done) | (simp [go_sem, *]; done))
      have l6 : wL.cell? ⟨w.heap.size + 1 + 1, 1, none⟩ = some (.int .i64 cy) := (hcwL _ _ (by omega)).trans (by first | assumption | (refine (cell_alloc_at _ _ ?_).trans ?_; omega; assumption) | (simp [go_sem]; done) | (simp [go_sem, *]; done))
      have l7 : wL.cell? ⟨w.heap.size + 1 + 1 + 1, 0, none⟩ = some (.int .i64 dx) := (hcwL _ _ (by omega)).trans (by first | assumption | (refine (cell_alloc_at _ _ ?_).trans ?_; omega; assumption) | (simp [go_sem]; done) | (simp [go_sem, *]; done))
      have l8 : wL.cell? ⟨w.heap.size + 1 + 1 + 1, 1, none⟩ = some (.int .i64 dy) := (hcwL _ _ (by omega)).trans (by first | assumption | (refine (cell_alloc_at _ _ ?_).trans ?_; omega; assumption) | (simp [go_sem]; done) | (simp [go_sem, *]; done))
      have l9 : wL.cell? ⟨w.heap.size + 1 + 1 + 1 + 1, 0, none⟩ = some (.int .i64 0) := (hcwL _ _ (by omega)).trans (by first | assumption | (refine (cell_alloc_at _ _ ?_).trans ?_; omega; assumption) | (simp [go_sem]; done) | (simp [go_sem, *]; done))
      have l10 : wL.cell? ⟨w.heap.size + 1 + 1 + 1 + 1, 1, none⟩ = some (.int .i64 0) := (hcwL _ _ (by omega)).trans (by first | assumption | (refine (cell_alloc_at _ _ ?_).trans ?_; omega; assumption) | (simp [go_sem]; done) | (simp [go_sem, *]; done))
      have lzq0 : w.heap.size < wL.heap.size := (by omega)
      have lzq1 : w.heap.size + 1 < wL.heap.size := (by omega)
      have lzq2 : w.heap.size + 1 + 1 < wL.heap.size := (by omega)
      have lzq3 : w.heap.size + 1 + 1 + 1 < wL.heap.size := (by omega)
      have lz : w.heap.size + 1 + 1 + 1 + 1 < wL.heap.size := (by omega)
      have fl40 : wL.frozen? ⟨w.heap.size + 1 + 1 + 1 + 1, 0, none⟩ = false := (hfwL _ _ (by omega)).trans (by first | assumption | (refine (World.frozen?_alloc_old _ _ _ ?_).trans ?_; (simp; omega); assumption) | (simp [go_sem]; done) | (simp [go_sem, *]; done))
      have fl41 : wL.frozen? ⟨w.heap.size + 1 + 1 + 1 + 1, 1, none⟩ = false := (hfwL _ _ (by omega)).trans (by first | assumption | (refine (World.frozen?_alloc_old _ _ _ ?_).trans ?_; (simp; omega); assumption) | (simp [go_sem]; done) | (simp [go_sem, *]; done))
      clear hcwL hfwL hzwL
      go_wp2_with fail
      refine (OK.out _).mono ?_
      rintro e wK ⟨rfl, hbwK⟩
      have hcell : ∀ o v, (wL.alloc (.cells #[.int .i64 X1, .int .i64 X2] 29)).cell? ⟨wL.heap.size, o, none⟩ = some v → wK.cell? ⟨wL.heap.size, o, none⟩ = some v := fun o v h => (hbwK.cell (p := ⟨wL.heap.size, o, none⟩) (by simp)).trans h
      have m0 := hcell 0 (.int .i64 X1) (by simp [go_sem])
      have m1 := hcell 1 (.int .i64 X2) (by simp [go_sem])
      clear hcell
      have gK : Below w.heap.size w wK := (by repeat' (first | with_reducible assumption | with_reducible exact Below.refl _ _ | (with_reducible refine Below.setCell ?_ ?_ _) | (with_reducible refine Below.alloc ?_ ?_ _) | (with_reducible refine Below.drew ?_) | (with_reducible refine below_dr ?_ _) | (with_reducible refine Below.trans ?_ (Below.mono (by with_reducible assumption) ?_)) | omega | (simp; done) | (simp; omega)))
      obtain ⟨hcwK, hfwK⟩ := bcell hbwK
      have hzwK := hbwK.size
      (try simp only [World.size_alloc] at hcwK hfwK hzwK)
      have k1 : wK.cell? ⟨w.heap.size, 0, none⟩ = some (.int .i64 ax) := (hcwK _ _ (by omega)).trans (by first | assumption | (refine (cell_alloc_at _ _ ?_).trans ?_; omega; assumption) | (simp [go_sem]; done) | (simp [go_sem, *]; done))
      have k2 : wK.cell? ⟨w.heap.size, 1, none⟩ = some (.int .i64 ay) := (hcwK _ _ (by omega)).trans (by first | assumption | (refine (cell_alloc_at _ _ ?_).trans ?_; omega; assumption) | (simp [go_sem]; done) | (simp [go_sem, *]; done))
      have k3 : wK.cell? ⟨w.heap.size + 1, 0, none⟩ = some (.int .i64 bx) := (hcwK _ _ (by omega)).trans (by first | assumption | (refine (cell_alloc_at _ _ ?_).trans ?_; omega; assumption) | (simp [go_sem]; done) | (simp [go_sem, *]; done))
      have k4 : wK.cell? ⟨w.heap.size + 1, 1, none⟩ = some (.int .i64 ey) := (hcwK _ _ (by omega)).trans (by first | assumption | (refine (cell_alloc_at _ _ ?_).trans ?_; omega; assumption) | (simp [go_sem]; done) | (simp [go_sem, *]; done))
      have k5 : wK.cell? ⟨w.heap.size + 1 + 1, 0, none⟩ = some (.int .i64 cx) := (hcwK _ _ (by omega)).trans (by first | assumption | (refine (cell_alloc_at _ _ ?_).trans ?_; omega; assumption) | (simp [go_sem]; done) | (simp [go_sem, *]; done))
      have k6 : wK.cell? ⟨w.heap.size + 1 + 1, 1, none⟩ = some (.int .i64 cy) := (hcwK _ _ (by omega)).trans (by first | assumption | (refine (cell_alloc_at _ _ ?_).trans ?_; omega; assumption) | (simp [go_sem]; done) | (simp [go_sem, *]; done))
      have k7 : wK.cell? ⟨w.heap.size + 1 + 1 + 1, 0, none⟩ = some (.int .i64 dx) := (hcwK _ _ (by omega)).trans (by first | assumption | (refine (cell_alloc_at _ _ ?_).trans ?_; omega; assumption) | (simp [go_sem]; done) | (simp [go_sem, *]; done))
      have k8 : wK.cell? ⟨w.heap.size + 1 + 1 + 1, 1, none⟩ = some (.int .i64 dy) := (hcwK _ _ (by omega)).trans (by first | assumption | (refine (cell_alloc_at _ _ ?_).trans ?_; omega; assumption) | (simp [go_sem]; done) | (simp [go_sem, *]; done))
      have k9 : wK.cell? ⟨w.heap.size + 1 + 1 + 1 + 1, 0, none⟩ = some (.int .i64 0) := (hcwK _ _ (by omega)).trans (by first | assumption | (refine (cell_alloc_at _ _ ?_).trans ?_; omega; assumption) | (simp [go_sem]; done) | (simp [go_sem, *]; done))
      have k10 : wK.cell? ⟨w.heap.size + 1 + 1 + 1 + 1, 1, none⟩ = some (.int .i64 0) := (hcwK _ _ (by omega)).trans (by first | assumption | (refine (cell_alloc_at _ _ ?_).trans ?_; omega; assumption) | (simp [go_sem]; done) | (simp [go_sem, *]; done))
      have kzq0 : w.heap.size < wK.heap.size := (by omega)
      have kzq1 : w.heap.size + 1 < wK.heap.size := (by omega)
      have kzq2 : w.heap.size + 1 + 1 < wK.heap.size := (by omega)
      have kzq3 : w.heap.size + 1 + 1 + 1 < wK.heap.size := (by omega)
      have kz : w.heap.size + 1 + 1 + 1 + 1 < wK.heap.size := (by omega)
      have fk40 : wK.frozen? ⟨w.heap.size + 1 + 1 + 1 + 1, 0, none⟩ = false := (hfwK _ _ (by omega)).trans (by first | assumption | (refine (World.frozen?_alloc_old _ _ _ ?_).trans ?_; (simp; omega); assumption) | (simp [go_sem]; done) | (simp [go_sem, *]; done))
      have fk41 : wK.frozen? ⟨w.heap.size + 1 + 1 + 1 + 1, 1, none⟩ = false := (hfwK _ _ (by omega)).trans (by first | assumption | (refine (World.frozen?_alloc_old _ _ _ ?_).trans ?_; (simp; omega); assumption) | (simp [go_sem]; done) | (simp [go_sem, *]; done))
      clear hcwK hfwK hzwK
      go_wp2
      have ra := AtL.of2 k9 k10 kz
      have rb := ra.store2 (a := .int .i64 0) (b := .int .i64 0)
      have r0 := rb.cell 0 rfl
      have r1 := rb.cell 1 rfl
      refine bodyPost_ret (v := .tuple #[.agg #[.int .i64 0, .int .i64 0], .int .i64 6]) (by simp [results, Try.results51, go_sem, r0, r1]) rfl (LmRet.mk X.out.2 X.out.1 ?_)
      repeat' (first | with_reducible assumption | with_reducible exact Below.refl _ _ | (with_reducible refine Below.setCell ?_ ?_ _) | (with_reducible refine Below.alloc ?_ ?_ _) | (with_reducible refine Below.drew ?_) | (with_reducible refine below_dr ?_ _) | (with_reducible refine Below.trans ?_ (Below.mono (by with_reducible assumption) ?_)) | omega | (simp; done) | (simp; omega))
  · have X := Lib.hid (lm_yes hv ht hk)
    rw [hk] at OK
    clear ht hk hv
    rw [show lnP ax ay bx ey cx cy dx dy = ((lnP ax ay bx ey cx cy dx dy).1, (lnP ax ay bx ey cx cy dx dy).2) from rfl] at X
    generalize (lnP ax ay bx ey cx cy dx dy).1 = X1 at *
    generalize (lnP ax ay bx ey cx cy dx dy).2 = X2 at *
    generalize turnI cx cy dx dy ax ay = t0 at *
    generalize turnI cx cy dx dy bx ey = t1 at *
    clear va vb vc vd
    go_enter Try.func51, Try.ntmps51
    go_wp2_with fail
    refine (valid4 ax ay bx ey cx cy dx dy _ _ (by simp) (by simp [go_sem]) (by simp [go_sem]) (by simp [go_sem]) (by simp [go_sem]) (by simp [go_sem]) (by simp [go_sem]) (by simp [go_sem]) (by simp [go_sem])).mono ?_
    rw [HV.out]
    rintro e W0 ⟨rfl, hbW0⟩
    have g0 : Below w.heap.size w W0 := (by repeat' (first | with_reducible assumption | with_reducible exact Below.refl _ _ | (with_reducible refine Below.setCell ?_ ?_ _) | (with_reducible refine Below.alloc ?_ ?_ _) | (with_reducible refine Below.drew ?_) | (with_reducible refine below_dr ?_ _) | (with_reducible refine Below.trans ?_ (Below.mono (by with_reducible assumption) ?_)) | omega | (simp; done) | (simp; omega)))
    obtain ⟨hcW0, hfW0⟩ := bcell hbW0
    have hzW0 := hbW0.size
    (try simp only [World.size_alloc] at hcW0 hfW0 hzW0)
    have s1 : W0.cell? ⟨w.heap.size, 0, none⟩ = some (.int .i64 ax) := (hcW0 _ _ (by omega)).trans (by first | assumption | (refine (cell_alloc_at _ _ ?_).trans ?_; omega; assumption) | (simp [go_sem]; done) | (simp [go_sem, *]; done))
    have s2 : W0.cell? ⟨w.heap.size, 1, none⟩ = some (.int .i64 ay) := (hcW0 _ _ (by omega)).trans (by first | assumption | (refine (cell_alloc_at _ _ ?_).trans ?_; omega; assumption) | (simp [go_sem]; done) | (simp [go_sem, *]; done))
    have s3 : W0.cell? ⟨w.heap.size + 1, 0, none⟩ = some (.int .i64 bx) := (hcW0 _ _ (by omega)).trans (by first | assumption | (refine (cell_alloc_at _ _ ?_).trans ?_; omega; assumption) | (simp [go_sem]; done) | (simp [go_sem, *]; done))
    have s4 : W0.cell? ⟨w.heap.size + 1, 1, none⟩ = some (.int .i64 ey) := (hcW0 _ _ (by omega)).trans (by first | assumption | (refine (cell_alloc_at _ _ ?_).trans ?_; omega; assumption) | (simp [go_sem]; done) | (simp [go_sem, *]; done))
    have s5 : W0.cell? ⟨w.heap.size + 1 + 1, 0, none⟩ = some (.int .i64 cx) := (hcW0 _ _ (by omega)).trans (by first | assumption | (refine (cell_alloc_at _ _ ?_).trans ?_; omega; assumption) | (simp [go_sem]; done) | (simp [go_sem, *]; done))
    have s6 : W0.cell? ⟨w.heap.size + 1 + 1, 1, none⟩ = some (.int .i64 cy) := (hcW0 _ _ (by omega)).trans (by first | assumption | (refine (cell_alloc_at _ _ ?_).trans ?_; omega; assumption) | (simp [go_sem]; done) | (simp [go_sem, *]; done))
    have s7 : W0.cell? ⟨w.heap.size + 1 + 1 + 1, 0, none⟩ = some (.int .i64 dx) := (hcW0 _ _ (by omega)).trans (by first | assumption | (refine (cell_alloc_at _ _ ?_).trans ?_; omega; assumption) | (simp [go_sem]; done) | (simp [go_sem, *]; done))
    have s8 : W0.cell? ⟨w.heap.size + 1 + 1 + 1, 1, none⟩ = some (.int .i64 dy) := (hcW0 _ _ (by omega)).trans (by first | assumption | (refine (cell_alloc_at _ _ ?_).trans ?_; omega; assumption) | (simp [go_sem]; done) | (simp [go_sem, *]; done))
    have s9 : W0.cell? ⟨w.heap.size + 1 + 1 + 1 + 1, 0, none⟩ = some (.int .i64 0) := (hcW0 _ _ (by omega)).trans (by first | assumption | (refine (cell_alloc_at _ _ ?_).trans ?_; omega; assumption) | (simp [go_sem]; done) | (simp [go_sem, *]; done))
    have s10 : W0.cell? ⟨w.heap.size + 1 + 1 + 1 + 1, 1, none⟩ = some (.int .i64 0) := (hcW0 _ _ (by omega)).trans (by first | assumption | (refine (cell_alloc_at _ _ ?_).trans ?_; omega; assumption) | (simp [go_sem]; done) | (simp [go_sem, *]; done))
    have szq0 : w.heap.size < W0.heap.size := (by omega)
    have szq1 : w.heap.size + 1 < W0.heap.size := (by omega)
    have szq2 : w.heap.size + 1 + 1 < W0.heap.size := (by omega)
    have szq3 : w.heap.size + 1 + 1 + 1 < W0.heap.size := (by omega)
    have sz : w.heap.size + 1 + 1 + 1 + 1 < W0.heap.size := (by omega)
    have fs40 : W0.frozen? ⟨w.heap.size + 1 + 1 + 1 + 1, 0, none⟩ = false := (hfW0 _ _ (by omega)).trans (by first | assumption | (refine (World.frozen?_alloc_old _ _ _ ?_).trans ?_; (simp; omega); assumption) | (simp [go_sem]; done) | (simp [go_sem, *]; done))
    have fs41 : W0.frozen? ⟨w.heap.size + 1 + 1 + 1 + 1, 1, none⟩ = false := (hfW0 _ _ (by omega)).trans (by first | assumption | (refine (World.frozen?_alloc_old _ _ _ ?_).trans ?_; (simp; omega); assumption) | (simp [go_sem]; done) | (simp [go_sem, *]; done))
    clear hcW0 hfW0 hzW0
    go_wp2_with fail
    go_region_held3 (fun w' => (∀ b o, b < W0.heap.size → w'.cell? ⟨b, o, none⟩ = W0.cell? ⟨b, o, none⟩) ∧ W0.heap.size ≤ w'.heap.size)
      (first | ((try dsimp only); exact ⟨fun b o h => (by (repeat (first | with_reducible exact rfl | (with_reducible refine (cell_drew_at _ _).trans ?_) | (with_reducible refine (cell_set_at _ _ (by first | omega | (simp; done) | (simp; omega))).trans ?_) | (with_reducible refine (cell_alloc_at _ _ (by first | omega | (simp; done) | (simp; omega))).trans ?_) | (with_reducible refine (hcwA b o (by first | omega | (simp; done) | (simp; omega))).trans ?_) | (with_reducible refine (hcwB b o (by first | omega | (simp; done) | (simp; omega))).trans ?_)))), (by first | omega | (simp; done) | (simp; omega))⟩) | fail)
      (first
        | (go_at_call 81; (with_reducible refine (T0.out _).mono ?_); rintro e wA ⟨rfl, hbwA⟩; obtain ⟨hcwA, hfwA⟩ := bcell hbwA; have hzwA := hbwA.size; (try simp only [World.size_drew] at hcwA hfwA hzwA))
        | (go_at_call 81; (with_reducible refine (T1.out _).mono ?_); rintro e wB ⟨rfl, hbwB⟩; obtain ⟨hcwB, hfwB⟩ := bcell hbwB; have hzwB := hbwB.size; (try simp only [World.size_drew] at hcwB hfwB hzwB)))
    all_goals
      have hbT : Below W0.heap.size W0 wB := by repeat' (first | with_reducible assumption | with_reducible exact Below.refl _ _ | (with_reducible refine Below.setCell ?_ ?_ _) | (with_reducible refine Below.alloc ?_ ?_ _) | (with_reducible refine Below.drew ?_) | (with_reducible refine below_dr ?_ _) | (with_reducible refine Below.trans ?_ (Below.mono (by with_reducible assumption) ?_)) | omega | (simp; done) | (simp; omega))
      clear hbwA hbwB hcwA hfwA hzwA hcwB hfwB hzwB
      have hbwB := hbT
      clear hbT
      have gB : Below w.heap.size w wB := (by repeat' (first | with_reducible assumption | with_reducible exact Below.refl _ _ | (with_reducible refine Below.setCell ?_ ?_ _) | (with_reducible refine Below.alloc ?_ ?_ _) | (with_reducible refine Below.drew ?_) | (with_reducible refine below_dr ?_ _) | (with_reducible refine Below.trans ?_ (Below.mono (by with_reducible assumption) ?_)) | omega | (simp; done) | (simp; omega)))
      obtain ⟨hcwB, hfwB⟩ := bcell hbwB
      have hzwB := hbwB.size
      (try simp only [World.size_alloc] at hcwB hfwB hzwB)
      have v1 : wB.cell? ⟨w.heap.size, 0, none⟩ = some (.int .i64 ax) := (hcwB _ _ (by omega)).trans (by first | assumption | (refine (cell_alloc_at _ _ ?_).trans ?_; omega; assumption) | (simp [go_sem]; done) | (simp [go_sem, *]; done))
      have v2 : wB.cell? ⟨w.heap.size, 1, none⟩ = some (.int .i64 ay) := (hcwB _ _ (by omega)).trans (by first | assumption | (refine (cell_alloc_at _ _ ?_).trans ?_; omega; assumption) | (simp [go_sem]; done) | (simp [go_sem, *]; done))
      have v3 : wB.cell? ⟨w.heap.size + 1, 0, none⟩ = some (.int .i64 bx) := (hcwB _ _ (by omega)).trans (by first | assumption | (refine (cell_alloc_at _ _ ?_).trans ?_; omega; assumption) | (simp [go_sem]; done) | (simp [go_sem, *]; done))
      have v4 : wB.cell? ⟨w.heap.size + 1, 1, none⟩ = some (.int .i64 ey) := (hcwB _ _ (by omega)).trans (by first | assumption | (refine (cell_alloc_at _ _ ?_).trans ?_; omega; assumption) | (simp [go_sem]; done) | (simp [go_sem, *]; done))
      have v5 : wB.cell? ⟨w.heap.size + 1 + 1, 0, none⟩ = some (.int .i64 cx) := (hcwB _ _ (by omega)).trans (by first | assumption | (refine (cell_alloc_at _ _ ?_).trans ?_; omega; assumption) | (simp [go_sem]; done) | (simp [go_sem, *]; done))
      have v6 : wB.cell? ⟨w.heap.size + 1 + 1, 1, none⟩ = some (.int .i64 cy) := (hcwB _ _ (by omega)).trans (by first | assumption | (refine (cell_alloc_at _ _ ?_).trans ?_; omega; assumption) | (simp [go_sem]; done) | (simp [go_sem, *]; done))
      have v7 : wB.cell? ⟨w.heap.size + 1 + 1 + 1, 0, none⟩ = some (.int .i64 dx) := (hcwB _ _ (by omega)).trans (by first | assumption | (refine (cell_alloc_at _ _ ?_).trans ?_; omega; assumption) | (simp [go_sem]; done) | (simp [go_sem, *]; done))
      have v8 : wB.cell? ⟨w.heap.size + 1 + 1 + 1, 1, none⟩ = some (.int .i64 dy) := (hcwB _ _ (by omega)).trans (by first | assumption | (refine (cell_alloc_at _ _ ?_).trans ?_; omega; assumption) | (simp [go_sem]; done) | (simp [go_sem, *]; done))
      have v9 : wB.cell? ⟨w.heap.size + 1 + 1 + 1 + 1, 0, none⟩ = some (.int .i64 0) := (hcwB _ _ (by omega)).trans (by first | assumption | (refine (cell_alloc_at _ _ ?_).trans ?_; omega; assumption) | (simp [go_sem]; done) | (simp [go_sem, *]; done))
      have v10 : wB.cell? ⟨w.heap.size + 1 + 1 + 1 + 1, 1, none⟩ = some (.int .i64 0) := (hcwB _ _ (by omega)).trans (by first | assumption | (refine (cell_alloc_at _ _ ?_).trans ?_; omega; assumption) | (simp [go_sem]; done) | (simp [go_sem, *]; done))
      have vzq0 : w.heap.size < wB.heap.size := (by omega)
      have vzq1 : w.heap.size + 1 < wB.heap.size := (by omega)
      have vzq2 : w.heap.size + 1 + 1 < wB.heap.size := (by omega)
      have vzq3 : w.heap.size + 1 + 1 + 1 < wB.heap.size := (by omega)
      have vz : w.heap.size + 1 + 1 + 1 + 1 < wB.heap.size := (by omega)
      have fv40 : wB.frozen? ⟨w.heap.size + 1 + 1 + 1 + 1, 0, none⟩ = false := (hfwB _ _ (by omega)).trans (by first | assumption | (refine (World.frozen?_alloc_old _ _ _ ?_).trans ?_; (simp; omega); assumption) | (simp [go_sem]; done) | (simp [go_sem, *]; done))
      have fv41 : wB.frozen? ⟨w.heap.size + 1 + 1 + 1 + 1, 1, none⟩ = false := (hfwB _ _ (by omega)).trans (by first | assumption | (refine (World.frozen?_alloc_old _ _ _ ?_).trans ?_; (simp; omega); assumption) | (simp [go_sem]; done) | (simp [go_sem, *]; done))
      clear hcwB hfwB hzwB
      go_wp2_with fail
      refine (N.out _).mono ?_
      rintro e wL ⟨rfl, hbwL⟩
      have gL : Below w.heap.size w wL := (by repeat' (first | with_reducible assumption | with_reducible exact Below.refl _ _ | (with_reducible refine Below.setCell ?_ ?_ _) | (with_reducible refine Below.alloc ?_ ?_ _) | (with_reducible refine Below.drew ?_) | (with_reducible refine below_dr ?_ _) | (with_reducible refine Below.trans ?_ (Below.mono (by with_reducible assumption) ?_)) | omega | (simp; done) | (simp; omega)))
      obtain ⟨hcwL, hfwL⟩ := bcell hbwL
      have hzwL := hbwL.size
      (try simp only [World.size_alloc] at hcwL hfwL hzwL)
      have l1 : wL.cell? ⟨w.heap.size, 0, none⟩ = some (.int .i64 ax) := (hcwL _ _ (by omega)).trans (by first | assumption | (refine (cell_alloc_at _ _ ?_).trans ?_; omega; assumption) | (simp [go_sem]; done) | (simp [go_sem, *]; done))
      have l2 : wL.cell? ⟨w.heap.size, 1, none⟩ = some (.int .i64 ay) := (hcwL _ _ (by omega)).trans (by first | assumption | (refine (cell_alloc_at _ _ ?_).trans ?_; omega; assumption) | (simp [go_sem]; done) | (simp [go_sem, *]; done))
      have l3 : wL.cell? ⟨w.heap.size + 1, 0, none⟩ = some (.int .i64 bx) := (hcwL _ _ (by omega)).trans (by first | assumption | (refine (cell_alloc_at _ _ ?_).trans ?_; omega; assumption) | (simp [go_sem]; done) | (simp [go_sem, *]; done))
      have l4 : wL.cell? ⟨w.heap.size + 1, 1, none⟩ = some (.int .i64 ey) := (hcwL _ _ (by omega)).trans (by first | assumption | (refine (cell_alloc_at _ _ ?_).trans ?_; omega; assumption) | (simp [go_sem]; done) | (simp [go_sem, *]; done))
      have l5 : wL.cell? ⟨w.heap.size + 1 + 1, 0, none⟩ = some (.int .i64 cx) := (hcwL _ _ (by omega)).trans (by first | assumption | (refine (cell_alloc_at _ _ ?_).trans ?_; omega; assumption) | (simp [go_sem]; done) | (simp [go_sem, *]; done))
      have l6 : wL.cell? ⟨w.heap.size + 1 + 1, 1, none⟩ = some (.int .i64 cy) := (hcwL _ _ (by omega)).trans (by first | assumption | (refine (cell_alloc_at _ _ ?_).trans ?_; omega; assumption) | (simp [go_sem]; done) | (simp [go_sem, *]; done))
      have l7 : wL.cell? ⟨w.heap.size + 1 + 1 + 1, 0, none⟩ = some (.int .i64 dx) := (hcwL _ _ (by omega)).trans (by first | assumption | (refine (cell_alloc_at _ _ ?_).trans ?_; omega; assumption) | (simp [go_sem]; done) | (simp [go_sem, *]; done))
      have l8 : wL.cell? ⟨w.heap.size + 1 + 1 + 1, 1, none⟩ = some (.int .i64 dy) := (hcwL _ _ (by omega)).trans (by first | assumption | (refine (cell_alloc_at _ _ ?_).trans ?_; omega; assumption) | (simp [go_sem]; done) | (simp [go_sem, *]; done))
      have l9 : wL.cell? ⟨w.heap.size + 1 + 1 + 1 + 1, 0, none⟩ = some (.int .i64 0) := (hcwL _ _ (by omega)).trans (by first | assumption | (refine (cell_alloc_at _ _ ?_).trans ?_; omega; assumption) | (simp [go_sem]; done) | (simp [go_sem, *]; done))
      have l10 : wL.cell? ⟨w.heap.size + 1 + 1 + 1 + 1, 1, none⟩ = some (.int .i64 0) := (hcwL _ _ (by omega)).trans (by first | assumption | (refine (cell_alloc_at _ _ ?_).trans ?_; omega; assumption) | (simp [go_sem]; done) | (simp [go_sem, *]; done))
      have lzq0 : w.heap.size < wL.heap.size := (by omega)
      have lzq1 : w.heap.size + 1 < wL.heap.size := (by omega)
      have lzq2 : w.heap.size + 1 + 1 < wL.heap.size := (by omega)
      have lzq3 : w.heap.size + 1 + 1 + 1 < wL.heap.size := (by omega)
      have lz : w.heap.size + 1 + 1 + 1 + 1 < wL.heap.size := (by omega)
      have fl40 : wL.frozen? ⟨w.heap.size + 1 + 1 + 1 + 1, 0, none⟩ = false := (hfwL _ _ (by omega)).trans (by first | assumption | (refine (World.frozen?_alloc_old _ _ _ ?_).trans ?_; (simp; omega); assumption) | (simp [go_sem]; done) | (simp [go_sem, *]; done))
      have fl41 : wL.frozen? ⟨w.heap.size + 1 + 1 + 1 + 1, 1, none⟩ = false := (hfwL _ _ (by omega)).trans (by first | assumption | (refine (World.frozen?_alloc_old _ _ _ ?_).trans ?_; (simp; omega); assumption) | (simp [go_sem]; done) | (simp [go_sem, *]; done))
      clear hcwL hfwL hzwL
      go_wp2_with fail
      refine (OK.out _).mono ?_
      rintro e wK ⟨rfl, hbwK⟩
      have hcell : ∀ o v, (wL.alloc (.cells #[.int .i64 X1, .int .i64 X2] 29)).cell? ⟨wL.heap.size, o, none⟩ = some v → wK.cell? ⟨wL.heap.size, o, none⟩ = some v := fun o v h => (hbwK.cell (p := ⟨wL.heap.size, o, none⟩) (by simp)).trans h
      have m0 := hcell 0 (.int .i64 X1) (by simp [go_sem])
      have m1 := hcell 1 (.int .i64 X2) (by simp [go_sem])
      clear hcell
      have gK : Below w.heap.size w wK := (by repeat' (first | with_reducible assumption | with_reducible exact Below.refl _ _ | (with_reducible refine Below.setCell ?_ ?_ _) | (with_reducible refine Below.alloc ?_ ?_ _) | (with_reducible refine Below.drew ?_) | (with_reducible refine below_dr ?_ _) | (with_reducible refine Below.trans ?_ (Below.mono (by with_reducible assumption) ?_)) | omega | (simp; done) | (simp; omega)))
      obtain ⟨hcwK, hfwK⟩ := bcell hbwK
      have hzwK := hbwK.size
      (try simp only [World.size_alloc] at hcwK hfwK hzwK)
      have k1 : wK.cell? ⟨w.heap.size, 0, none⟩ = some (.int .i64 ax) := (hcwK _ _ (by omega)).trans (by first | assumption | (refine (cell_alloc_at _ _ ?_).trans ?_; omega; assumption) | (simp [go_sem]; done) | (simp [go_sem, *]; done))
      have k2 : wK.cell? ⟨w.heap.size, 1, none⟩ = some (.int .i64 ay) := (hcwK _ _ (by omega)).trans (by first | assumption | (refine (cell_alloc_at _ _ ?_).trans ?_; omega; assumption) | (simp [go_sem]; done) | (simp [go_sem, *]; done))
      have k3 : wK.cell? ⟨w.heap.size + 1, 0, none⟩ = some (.int .i64 bx) := (hcwK _ _ (by omega)).trans (by first | assumption | (refine (cell_alloc_at _ _ ?_).trans ?_; omega; assumption) | (simp [go_sem]; done) | (simp [go_sem, *]; done))
      have k4 : wK.cell? ⟨w.heap.size + 1, 1, none⟩ = some (.int .i64 ey) := (hcwK _ _ (by omega)).trans (by first | assumption | (refine (cell_alloc_at _ _ ?_).trans ?_; omega; assumption) | (simp [go_sem]; done) | (simp [go_sem, *]; done))
      have k5 : wK.cell? ⟨w.heap.size + 1 + 1, 0, none⟩ = some (.int .i64 cx) := (hcwK _ _ (by omega)).trans (by first | assumption | (refine (cell_alloc_at _ _ ?_).trans ?_; omega; assumption) | (simp [go_sem]; done) | (simp [go_sem, *]; done))
      have k6 : wK.cell? ⟨w.heap.size + 1 + 1, 1, none⟩ = some (.int .i64 cy) := (hcwK _ _ (by omega)).trans (by first | assumption | (refine (cell_alloc_at _ _ ?_).trans ?_; omega; assumption) | (simp [go_sem]; done) | (simp [go_sem, *]; done))
      have k7 : wK.cell? ⟨w.heap.size + 1 + 1 + 1, 0, none⟩ = some (.int .i64 dx) := (hcwK _ _ (by omega)).trans (by first | assumption | (refine (cell_alloc_at _ _ ?_).trans ?_; omega; assumption) | (simp [go_sem]; done) | (simp [go_sem, *]; done))
      have k8 : wK.cell? ⟨w.heap.size + 1 + 1 + 1, 1, none⟩ = some (.int .i64 dy) := (hcwK _ _ (by omega)).trans (by first | assumption | (refine (cell_alloc_at _ _ ?_).trans ?_; omega; assumption) | (simp [go_sem]; done) | (simp [go_sem, *]; done))
      have k9 : wK.cell? ⟨w.heap.size + 1 + 1 + 1 + 1, 0, none⟩ = some (.int .i64 0) := (hcwK _ _ (by omega)).trans (by first | assumption | (refine (cell_alloc_at _ _ ?_).trans ?_; omega; assumption) | (simp [go_sem]; done) | (simp [go_sem, *]; done))
      have k10 : wK.cell? ⟨w.heap.size + 1 + 1 + 1 + 1, 1, none⟩ = some (.int .i64 0) := (hcwK _ _ (by omega)).trans (by first | assumption | (refine (cell_alloc_at _ _ ?_).trans ?_; omega; assumption) | (simp [go_sem]; done) | (simp [go_sem, *]; done))
      have kzq0 : w.heap.size < wK.heap.size := (by omega)
      have kzq1 : w.heap.size + 1 < wK.heap.size := (by omega)
      have kzq2 : w.heap.size + 1 + 1 < wK.heap.size := (by omega)
      have kzq3 : w.heap.size + 1 + 1 + 1 < wK.heap.size := (by omega)
      have kz : w.heap.size + 1 + 1 + 1 + 1 < wK.heap.size := (by omega)
      have fk40 : wK.frozen? ⟨w.heap.size + 1 + 1 + 1 + 1, 0, none⟩ = false := (hfwK _ _ (by omega)).trans (by first | assumption | (refine (World.frozen?_alloc_old _ _ _ ?_).trans ?_; (simp; omega); assumption) | (simp [go_sem]; done) | (simp [go_sem, *]; done))
      have fk41 : wK.frozen? ⟨w.heap.size + 1 + 1 + 1 + 1, 1, none⟩ = false := (hfwK _ _ (by omega)).trans (by first | assumption | (refine (World.frozen?_alloc_old _ _ _ ?_).trans ?_; (simp; omega); assumption) | (simp [go_sem]; done) | (simp [go_sem, *]; done))
      clear hcwK hfwK hzwK
      go_wp2
      have ra := AtL.of2 k9 k10 kz
      have rb := ra.store2 (a := .int .i64 X1) (b := .int .i64 X2)
      have r0 := rb.cell 0 rfl
      have r1 := rb.cell 1 rfl
      refine bodyPost_ret (v := .tuple #[.agg #[.int .i64 X1, .int .i64 X2], .int .i64 0]) (by simp [results, Try.results51, go_sem, r0, r1]) rfl (LmRet.mk X.out.2 X.out.1 ?_)
      repeat' (first | with_reducible assumption | with_reducible exact Below.refl _ _ | (with_reducible refine Below.setCell ?_ ?_ _) | (with_reducible refine Below.alloc ?_ ?_ _) | (with_reducible refine Below.drew ?_) | (with_reducible refine below_dr ?_ _) | (with_reducible refine Below.trans ?_ (Below.mono (by with_reducible assumption) ?_)) | omega | (simp; done) | (simp; omega))
end Go.Proofs.Yticgomikfleabaa
