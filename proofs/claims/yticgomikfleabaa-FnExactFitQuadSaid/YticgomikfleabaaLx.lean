/- Walks: the point nearest to the crossing of two lines that are not parallel, the program's side. -/
import Derived.Test.YticgomikfleabaaPe
import Derived.Test.YticgomikfleabaaAw
namespace Go.Proofs.Yticgomikfleabaa
open Go.RowKit
theorem frozen_alloc_at (w : World) (o : Obj) {b i : Nat} (h : b < w.heap.size) : (w.alloc o).frozen? ⟨b, i, none⟩ = w.frozen? ⟨b, i, none⟩ := World.frozen?_alloc_old _ _ _ (by simp only; omega)

/-- The rounded quotient of a part of a way: n of m, both turned to be positive. -/
def partI (n m : Int) : Int := if m < 0 then -n else n
def wholeI (m : Int) : Int := if m < 0 then -m else m
def crI (a b n m : Int) : Int := a + near ((b - a) * partI n m) (wholeI m)
theorem cell_set_ne (w : World) (v : Value) {b i c j : Nat} (h : ¬ b = c) : (w.setCell ⟨c, j, none⟩ v).cell? ⟨b, i, none⟩ = w.cell? ⟨b, i, none⟩ := World.cell?_setCell_other w _ _ v (fun e => by injection e with e; omega)
theorem line_nums {t0 t1 : Int} (h : ¬ t0 = t1) (b0 : -549755813888 ≤ t0 ∧ t0 ≤ 549755813888) (b1 : -549755813888 ≤ t1 ∧ t1 ≤ 549755813888) :
    -549755813888 ≤ partI t0 (t0 - t1) ∧ partI t0 (t0 - t1) ≤ 549755813888 ∧ 1 ≤ wholeI (t0 - t1) ∧ wholeI (t0 - t1) ≤ 1099511627776 := by
  unfold partI wholeI; split <;> omega
theorem near_bound {v m : Int} (h0 : 1 ≤ m) (h1 : -288230376151711744 ≤ v) (h2 : v ≤ 288230376151711744) : -288230376151711745 ≤ near v m ∧ near v m ≤ 288230376151711745 := by
  unfold near
  constructor
  · apply (Int.le_ediv_iff_mul_le (by omega)).2; omega
  · have : (2 * v + m) / (2 * m) < 288230376151711746 := Int.ediv_lt_of_lt_mul (by omega) (by omega)
    omega
set_option maxHeartbeats 12800000 in
theorem lineCrossing_any (ax ay bx ey cx cy dx dy : Int) (w : World) (va : okB ax ay = true) (vb : okB bx ey = true) (vc : okB cx cy = true) (vd : okB dx dy = true) (h : ¬ turnI cx cy dx dy ax ay = turnI cx cy dx dy bx ey) :
    Calls Try.prog 82 #[.agg #[.int .i64 ax, .int .i64 ay], .agg #[.int .i64 bx, .int .i64 ey], .agg #[.int .i64 cx, .int .i64 cy], .agg #[.int .i64 dx, .int .i64 dy]] w fun e w' => e = .returned (.agg #[.int .i64 (crI ax bx (turnI cx cy dx dy ax ay) (turnI cx cy dx dy ax ay - turnI cx cy dx dy bx ey)), .int .i64 (crI ay ey (turnI cx cy dx dy ax ay) (turnI cx cy dx dy ax ay - turnI cx cy dx dy bx ey))]) ∧ Below w.heap.size w w' := by
  have T0 := Lib.hid (fun w => implTurn_any cx cy dx dy ax ay w)
  have T1 := Lib.hid (fun w => implTurn_any cx cy dx dy bx ey w)
  rw [← turnV_is vc vd va] at T0
  rw [← turnV_is vc vd vb] at T1
  have B0 := turn_bound vc vd va
  have B1 := turn_bound vc vd vb
  obtain ⟨a1, a2, a3, a4⟩ := okB_bounds va
  obtain ⟨b1, b2, b3, b4⟩ := okB_bounds vb
  have CMi := Lib.hid (fun w => minus_any bx ey ax ay w (by omega) (by omega) (by omega) (by omega))
  clear va vb vc vd
  generalize turnI cx cy dx dy ax ay = t0 at *
  generalize turnI cx cy dx dy bx ey = t1 at *
  obtain ⟨q1, q2, q3, q4⟩ := line_nums h B0 B1
  obtain ⟨m1, m2⟩ := mulB (a := bx - ax) (b := partI t0 (t0 - t1)) (A := 524288) (B := 549755813888) (by omega) (by omega) (by omega) (by omega)
  obtain ⟨m3, m4⟩ := mulB (a := ey - ay) (b := partI t0 (t0 - t1)) (A := 524288) (B := 549755813888) (by omega) (by omega) (by omega) (by omega)
  obtain ⟨n1, n2⟩ := near_bound (v := (bx - ax) * partI t0 (t0 - t1)) q3 (by omega) (by omega)
  obtain ⟨n3, n4⟩ := near_bound (v := (ey - ay) * partI t0 (t0 - t1)) q3 (by omega) (by omega)
  have CX := Lib.hid (fun w => implDR_any ((bx - ax) * partI t0 (t0 - t1)) (wholeI (t0 - t1)) w (by omega) (by omega) (by omega))
  have CY := Lib.hid (fun w => implDR_any ((ey - ay) * partI t0 (t0 - t1)) (wholeI (t0 - t1)) w (by omega) (by omega) (by omega))
  have e3 : IntKind.i64.wrap (t0 - t1) = t0 - t1 := IntWalk.i64_in _ (by omega)
  have e4 : IntKind.i64.wrap (-t0) = -t0 := IntWalk.i64_in _ (by omega)
  have e5 : IntKind.i64.wrap (-(t0 - t1)) = -(t0 - t1) := IntWalk.i64_in _ (by omega)
  have e6 : IntKind.i64.wrap ((bx - ax) * partI t0 (t0 - t1)) = (bx - ax) * partI t0 (t0 - t1) := IntWalk.i64_in _ (by omega)
  have e7 : IntKind.i64.wrap ((ey - ay) * partI t0 (t0 - t1)) = (ey - ay) * partI t0 (t0 - t1) := IntWalk.i64_in _ (by omega)
  have e8 : IntKind.i64.wrap (ax + near ((bx - ax) * partI t0 (t0 - t1)) (wholeI (t0 - t1))) = ax + near ((bx - ax) * partI t0 (t0 - t1)) (wholeI (t0 - t1)) := IntWalk.i64_in _ (by omega)
  have e9 : IntKind.i64.wrap (ay + near ((ey - ay) * partI t0 (t0 - t1)) (wholeI (t0 - t1))) = ay + near ((ey - ay) * partI t0 (t0 - t1)) (wholeI (t0 - t1)) := IntWalk.i64_in _ (by omega)
  unfold crI
  generalize near ((bx - ax) * partI t0 (t0 - t1)) (wholeI (t0 - t1)) = X at *
  generalize near ((ey - ay) * partI t0 (t0 - t1)) (wholeI (t0 - t1)) = Y at *
  clear q1 q2 q3 q4 n1 n2 n3 n4 m1 m2 m3 m4 a1 a2 a3 a4 b1 b2 b3 b4 B0 B1
  clear h
  by_cases hm : t0 - t1 < 0
  · have hp : partI t0 (t0 - t1) = -t0 := by unfold partI; rw [if_pos hm]
    have hq : wholeI (t0 - t1) = -(t0 - t1) := by unfold wholeI; rw [if_pos hm]
    rw [hp, hq] at CX CY
    rw [hp] at e6 e7
    have d1 : decide (t0 - t1 < 0) = true := by simpa using hm
    clear hp hq hm
    go_enter Try.func82, Try.ntmps82
    go_wp2_with fail
    refine (T0.out _).mono ?_
    rintro e w2 ⟨rfl, hbw2⟩
    have g2 : Below w.heap.size w w2 := (by repeat' (first | with_reducible assumption | with_reducible exact Below.refl _ _ | (with_reducible refine Below.setCell ?_ ?_ _) | (with_reducible refine Below.alloc ?_ ?_ _) | (with_reducible refine Below.drew ?_) | (with_reducible refine below_dr ?_ _) | (with_reducible refine Below.trans ?_ (Below.mono (by with_reducible assumption) ?_)) | omega | (simp; done) | (simp; omega)))
    obtain ⟨hcw2, hfw2⟩ := bcell hbw2
    have hzw2 := hbw2.size
    (try simp only [World.size_alloc] at hcw2 hfw2 hzw2)
    have t1 : w2.cell? ⟨w.heap.size, 0, none⟩ = some (.int .i64 ax) := (hcw2 _ _ (by omega)).trans (by first | assumption | (refine (cell_alloc_at _ _ ?_).trans ?_; omega; assumption) | (simp [go_sem]; done) | (simp [go_sem, *]; done))
    have t2 : w2.cell? ⟨w.heap.size, 1, none⟩ = some (.int .i64 ay) := (hcw2 _ _ (by omega)).trans (by first | assumption | (refine (cell_alloc_at _ _ ?_).trans ?_; omega; assumption) | (simp [go_sem]; done) | (simp [go_sem, *]; done))
    have t3 : w2.cell? ⟨w.heap.size + 1, 0, none⟩ = some (.int .i64 bx) := (hcw2 _ _ (by omega)).trans (by first | assumption | (refine (cell_alloc_at _ _ ?_).trans ?_; omega; assumption) | (simp [go_sem]; done) | (simp [go_sem, *]; done))
    have t4 : w2.cell? ⟨w.heap.size + 1, 1, none⟩ = some (.int .i64 ey) := (hcw2 _ _ (by omega)).trans (by first | assumption | (refine (cell_alloc_at _ _ ?_).trans ?_; omega; assumption) | (simp [go_sem]; done) | (simp [go_sem, *]; done))
    have t5 : w2.cell? ⟨w.heap.size + 1 + 1, 0, none⟩ = some (.int .i64 cx) := (hcw2 _ _ (by omega)).trans (by first | assumption | (refine (cell_alloc_at _ _ ?_).trans ?_; omega; assumption) | (simp [go_sem]; done) | (simp [go_sem, *]; done))
    have t6 : w2.cell? ⟨w.heap.size + 1 + 1, 1, none⟩ = some (.int .i64 cy) := (hcw2 _ _ (by omega)).trans (by first | assumption | (refine (cell_alloc_at _ _ ?_).trans ?_; omega; assumption) | (simp [go_sem]; done) | (simp [go_sem, *]; done))
    have t7 : w2.cell? ⟨w.heap.size + 1 + 1 + 1, 0, none⟩ = some (.int .i64 dx) := (hcw2 _ _ (by omega)).trans (by first | assumption | (refine (cell_alloc_at _ _ ?_).trans ?_; omega; assumption) | (simp [go_sem]; done) | (simp [go_sem, *]; done))
    have t8 : w2.cell? ⟨w.heap.size + 1 + 1 + 1, 1, none⟩ = some (.int .i64 dy) := (hcw2 _ _ (by omega)).trans (by first | assumption | (refine (cell_alloc_at _ _ ?_).trans ?_; omega; assumption) | (simp [go_sem]; done) | (simp [go_sem, *]; done))
    have t9 : w2.cell? ⟨w.heap.size + 1 + 1 + 1 + 1, 0, none⟩ = some (.int .i64 0) := (hcw2 _ _ (by omega)).trans (by first | assumption | (refine (cell_alloc_at _ _ ?_).trans ?_; omega; assumption) | (simp [go_sem]; done) | (simp [go_sem, *]; done))
    have t10 : w2.cell? ⟨w.heap.size + 1 + 1 + 1 + 1, 1, none⟩ = some (.int .i64 0) := (hcw2 _ _ (by omega)).trans (by first | assumption | (refine (cell_alloc_at _ _ ?_).trans ?_; omega; assumption) | (simp [go_sem]; done) | (simp [go_sem, *]; done))
    have tzq0 : w.heap.size < w2.heap.size := (by omega)
    have tzq1 : w.heap.size + 1 < w2.heap.size := (by omega)
    have tzq2 : w.heap.size + 1 + 1 < w2.heap.size := (by omega)
    have tzq3 : w.heap.size + 1 + 1 + 1 < w2.heap.size := (by omega)
    have tz : w.heap.size + 1 + 1 + 1 + 1 < w2.heap.size := (by omega)
    have ft40 : w2.frozen? ⟨w.heap.size + 1 + 1 + 1 + 1, 0, none⟩ = false := (hfw2 _ _ (by omega)).trans (by first | assumption | (refine (World.frozen?_alloc_old _ _ _ ?_).trans ?_; (simp; omega); assumption) | (simp [go_sem]; done) | (simp [go_sem, *]; done))
    have ft41 : w2.frozen? ⟨w.heap.size + 1 + 1 + 1 + 1, 1, none⟩ = false := (hfw2 _ _ (by omega)).trans (by first | assumption | (refine (World.frozen?_alloc_old _ _ _ ?_).trans ?_; (simp; omega); assumption) | (simp [go_sem]; done) | (simp [go_sem, *]; done))
    clear hcw2 hfw2 hzw2
    go_wp2_with fail
    refine (T1.out _).mono ?_
    rintro e w3 ⟨rfl, hbw3⟩
    have g3 : Below w.heap.size w w3 := (by repeat' (first | with_reducible assumption | with_reducible exact Below.refl _ _ | (with_reducible refine Below.setCell ?_ ?_ _) | (with_reducible refine Below.alloc ?_ ?_ _) | (with_reducible refine Below.drew ?_) | (with_reducible refine below_dr ?_ _) | (with_reducible refine Below.trans ?_ (Below.mono (by with_reducible assumption) ?_)) | omega | (simp; done) | (simp; omega)))
    obtain ⟨hcw3, hfw3⟩ := bcell hbw3
    have hzw3 := hbw3.size
    (try simp only [World.size_alloc] at hcw3 hfw3 hzw3)
    have u1 : w3.cell? ⟨w.heap.size, 0, none⟩ = some (.int .i64 ax) := (hcw3 _ _ (by omega)).trans (by first | assumption | (refine (cell_alloc_at _ _ ?_).trans ?_; omega; assumption) | (simp [go_sem]; done) | (simp [go_sem, *]; done))
    have u2 : w3.cell? ⟨w.heap.size, 1, none⟩ = some (.int .i64 ay) := (hcw3 _ _ (by omega)).trans (by first | assumption | (refine (cell_alloc_at _ _ ?_).trans ?_; omega; assumption) | (simp [go_sem]; done) | (simp [go_sem, *]; done))
    have u3 : w3.cell? ⟨w.heap.size + 1, 0, none⟩ = some (.int .i64 bx) := (hcw3 _ _ (by omega)).trans (by first | assumption | (refine (cell_alloc_at _ _ ?_).trans ?_; omega; assumption) | (simp [go_sem]; done) | (simp [go_sem, *]; done))
    have u4 : w3.cell? ⟨w.heap.size + 1, 1, none⟩ = some (.int .i64 ey) := (hcw3 _ _ (by omega)).trans (by first | assumption | (refine (cell_alloc_at _ _ ?_).trans ?_; omega; assumption) | (simp [go_sem]; done) | (simp [go_sem, *]; done))
    have u5 : w3.cell? ⟨w.heap.size + 1 + 1, 0, none⟩ = some (.int .i64 cx) := (hcw3 _ _ (by omega)).trans (by first | assumption | (refine (cell_alloc_at _ _ ?_).trans ?_; omega; assumption) | (simp [go_sem]; done) | (simp [go_sem, *]; done))
    have u6 : w3.cell? ⟨w.heap.size + 1 + 1, 1, none⟩ = some (.int .i64 cy) := (hcw3 _ _ (by omega)).trans (by first | assumption | (refine (cell_alloc_at _ _ ?_).trans ?_; omega; assumption) | (simp [go_sem]; done) | (simp [go_sem, *]; done))
    have u7 : w3.cell? ⟨w.heap.size + 1 + 1 + 1, 0, none⟩ = some (.int .i64 dx) := (hcw3 _ _ (by omega)).trans (by first | assumption | (refine (cell_alloc_at _ _ ?_).trans ?_; omega; assumption) | (simp [go_sem]; done) | (simp [go_sem, *]; done))
    have u8 : w3.cell? ⟨w.heap.size + 1 + 1 + 1, 1, none⟩ = some (.int .i64 dy) := (hcw3 _ _ (by omega)).trans (by first | assumption | (refine (cell_alloc_at _ _ ?_).trans ?_; omega; assumption) | (simp [go_sem]; done) | (simp [go_sem, *]; done))
    have u9 : w3.cell? ⟨w.heap.size + 1 + 1 + 1 + 1, 0, none⟩ = some (.int .i64 0) := (hcw3 _ _ (by omega)).trans (by first | assumption | (refine (cell_alloc_at _ _ ?_).trans ?_; omega; assumption) | (simp [go_sem]; done) | (simp [go_sem, *]; done))
    have u10 : w3.cell? ⟨w.heap.size + 1 + 1 + 1 + 1, 1, none⟩ = some (.int .i64 0) := (hcw3 _ _ (by omega)).trans (by first | assumption | (refine (cell_alloc_at _ _ ?_).trans ?_; omega; assumption) | (simp [go_sem]; done) | (simp [go_sem, *]; done))
    have uzq0 : w.heap.size < w3.heap.size := (by omega)
    have uzq1 : w.heap.size + 1 < w3.heap.size := (by omega)
    have uzq2 : w.heap.size + 1 + 1 < w3.heap.size := (by omega)
    have uzq3 : w.heap.size + 1 + 1 + 1 < w3.heap.size := (by omega)
    have uz : w.heap.size + 1 + 1 + 1 + 1 < w3.heap.size := (by omega)
    have fu40 : w3.frozen? ⟨w.heap.size + 1 + 1 + 1 + 1, 0, none⟩ = false := (hfw3 _ _ (by omega)).trans (by first | assumption | (refine (World.frozen?_alloc_old _ _ _ ?_).trans ?_; (simp; omega); assumption) | (simp [go_sem]; done) | (simp [go_sem, *]; done))
    have fu41 : w3.frozen? ⟨w.heap.size + 1 + 1 + 1 + 1, 1, none⟩ = false := (hfw3 _ _ (by omega)).trans (by first | assumption | (refine (World.frozen?_alloc_old _ _ _ ?_).trans ?_; (simp; omega); assumption) | (simp [go_sem]; done) | (simp [go_sem, *]; done))
    clear hcw3 hfw3 hzw3
    clear T0 T1 t2 t3 t4 t5 t6 t7 t8 t9 t10
    go_wp2_with fail
    refine (CMi.out _).mono ?_
    rintro e w4 ⟨rfl, hbw4⟩
    have g4 : Below w.heap.size w w4 := (by repeat' (first | with_reducible assumption | with_reducible exact Below.refl _ _ | (with_reducible refine Below.setCell ?_ ?_ _) | (with_reducible refine Below.alloc ?_ ?_ _) | (with_reducible refine Below.drew ?_) | (with_reducible refine below_dr ?_ _) | (with_reducible refine Below.trans ?_ (Below.mono (by with_reducible assumption) ?_)) | omega | (simp; done) | (simp; omega)))
    obtain ⟨hcw4, hfw4⟩ := bcell hbw4
    have hzw4 := hbw4.size
    (try simp only [World.size_alloc] at hcw4 hfw4 hzw4)
    have v1 : w4.cell? ⟨w.heap.size, 0, none⟩ = some (.int .i64 ax) := (hcw4 _ _ (by omega)).trans (by first | assumption | (refine (cell_alloc_at _ _ ?_).trans ?_; omega; assumption) | (simp [go_sem]; done) | (simp [go_sem, *]; done))
    have v2 : w4.cell? ⟨w.heap.size, 1, none⟩ = some (.int .i64 ay) := (hcw4 _ _ (by omega)).trans (by first | assumption | (refine (cell_alloc_at _ _ ?_).trans ?_; omega; assumption) | (simp [go_sem]; done) | (simp [go_sem, *]; done))
    have v3 : w4.cell? ⟨w.heap.size + 1, 0, none⟩ = some (.int .i64 bx) := (hcw4 _ _ (by omega)).trans (by first | assumption | (refine (cell_alloc_at _ _ ?_).trans ?_; omega; assumption) | (simp [go_sem]; done) | (simp [go_sem, *]; done))
    have v4 : w4.cell? ⟨w.heap.size + 1, 1, none⟩ = some (.int .i64 ey) := (hcw4 _ _ (by omega)).trans (by first | assumption | (refine (cell_alloc_at _ _ ?_).trans ?_; omega; assumption) | (simp [go_sem]; done) | (simp [go_sem, *]; done))
    have v5 : w4.cell? ⟨w.heap.size + 1 + 1, 0, none⟩ = some (.int .i64 cx) := (hcw4 _ _ (by omega)).trans (by first | assumption | (refine (cell_alloc_at _ _ ?_).trans ?_; omega; assumption) | (simp [go_sem]; done) | (simp [go_sem, *]; done))
    have v6 : w4.cell? ⟨w.heap.size + 1 + 1, 1, none⟩ = some (.int .i64 cy) := (hcw4 _ _ (by omega)).trans (by first | assumption | (refine (cell_alloc_at _ _ ?_).trans ?_; omega; assumption) | (simp [go_sem]; done) | (simp [go_sem, *]; done))
    have v7 : w4.cell? ⟨w.heap.size + 1 + 1 + 1, 0, none⟩ = some (.int .i64 dx) := (hcw4 _ _ (by omega)).trans (by first | assumption | (refine (cell_alloc_at _ _ ?_).trans ?_; omega; assumption) | (simp [go_sem]; done) | (simp [go_sem, *]; done))
    have v8 : w4.cell? ⟨w.heap.size + 1 + 1 + 1, 1, none⟩ = some (.int .i64 dy) := (hcw4 _ _ (by omega)).trans (by first | assumption | (refine (cell_alloc_at _ _ ?_).trans ?_; omega; assumption) | (simp [go_sem]; done) | (simp [go_sem, *]; done))
    have v9 : w4.cell? ⟨w.heap.size + 1 + 1 + 1 + 1, 0, none⟩ = some (.int .i64 0) := (hcw4 _ _ (by omega)).trans (by first | assumption | (refine (cell_alloc_at _ _ ?_).trans ?_; omega; assumption) | (simp [go_sem]; done) | (simp [go_sem, *]; done))
    have v10 : w4.cell? ⟨w.heap.size + 1 + 1 + 1 + 1, 1, none⟩ = some (.int .i64 0) := (hcw4 _ _ (by omega)).trans (by first | assumption | (refine (cell_alloc_at _ _ ?_).trans ?_; omega; assumption) | (simp [go_sem]; done) | (simp [go_sem, *]; done))
    have vzq0 : w.heap.size < w4.heap.size := (by omega)
    have vzq1 : w.heap.size + 1 < w4.heap.size := (by omega)
    have vzq2 : w.heap.size + 1 + 1 < w4.heap.size := (by omega)
    have vzq3 : w.heap.size + 1 + 1 + 1 < w4.heap.size := (by omega)
    have vz : w.heap.size + 1 + 1 + 1 + 1 < w4.heap.size := (by omega)
    have fv40 : w4.frozen? ⟨w.heap.size + 1 + 1 + 1 + 1, 0, none⟩ = false := (hfw4 _ _ (by omega)).trans (by first | assumption | (refine (World.frozen?_alloc_old _ _ _ ?_).trans ?_; (simp; omega); assumption) | (simp [go_sem]; done) | (simp [go_sem, *]; done))
    have fv41 : w4.frozen? ⟨w.heap.size + 1 + 1 + 1 + 1, 1, none⟩ = false := (hfw4 _ _ (by omega)).trans (by first | assumption | (refine (World.frozen?_alloc_old _ _ _ ?_).trans ?_; (simp; omega); assumption) | (simp [go_sem]; done) | (simp [go_sem, *]; done))
    clear hcw4 hfw4 hzw4
    clear CMi u1 u2 u3 u4 u5 u6 u7 u8 u9 u10
    go_upto_region 6 with fail
    generalize hW5 : w4.alloc (.cells #[.int .i64 (bx - ax), .int .i64 (ey - ay)] 29) = W5
    have g5 : Below w.heap.size w W5 := by rw [← hW5]; repeat' (first | with_reducible assumption | with_reducible exact Below.refl _ _ | (with_reducible refine Below.setCell ?_ ?_ _) | (with_reducible refine Below.alloc ?_ ?_ _) | (with_reducible refine Below.drew ?_) | (with_reducible refine below_dr ?_ _) | (with_reducible refine Below.trans ?_ (Below.mono (by with_reducible assumption) ?_)) | omega | (simp; done) | (simp; omega))
    have x0 : W5.cell? ⟨w.heap.size, 0, none⟩ = some (.int .i64 ax) := by rw [← hW5]; exact (cell_alloc_at _ _ (by omega)).trans v1
    have x1 : W5.cell? ⟨w.heap.size, 1, none⟩ = some (.int .i64 ay) := by rw [← hW5]; exact (cell_alloc_at _ _ (by omega)).trans v2
    have y0 : W5.cell? ⟨w4.heap.size, 0, none⟩ = some (.int .i64 (bx - ax)) := by rw [← hW5]; simp [go_sem]
    have y1 : W5.cell? ⟨w4.heap.size, 1, none⟩ = some (.int .i64 (ey - ay)) := by rw [← hW5]; simp [go_sem]
    have h0 : W5.cell? ⟨w.heap.size + 1 + 1 + 1 + 1, 0, none⟩ = some (.int .i64 0) := by rw [← hW5]; exact (cell_alloc_at _ _ (by omega)).trans v9
    have h1 : W5.cell? ⟨w.heap.size + 1 + 1 + 1 + 1, 1, none⟩ = some (.int .i64 0) := by rw [← hW5]; exact (cell_alloc_at _ _ (by omega)).trans v10
    have hf0 : W5.frozen? ⟨w.heap.size + 1 + 1 + 1 + 1, 0, none⟩ = false := by rw [← hW5]; exact (frozen_alloc_at _ _ (by omega)).trans fv40
    have hf1 : W5.frozen? ⟨w.heap.size + 1 + 1 + 1 + 1, 1, none⟩ = false := by rw [← hW5]; exact (frozen_alloc_at _ _ (by omega)).trans fv41
    have z5 : w4.heap.size < W5.heap.size := by rw [← hW5]; simp
    have zn : ¬ w4.heap.size = w.heap.size + 1 + 1 + 1 + 1 := by omega
    have zm : ¬ w.heap.size = w.heap.size + 1 + 1 + 1 + 1 := by omega
    have z0 : w.heap.size < W5.heap.size := by omega
    clear hW5 v1 v2 v3 v4 v5 v6 v7 v8 v9 v10
    have z6 : w.heap.size + 1 + 1 + 1 + 1 < W5.heap.size := by omega
    go_region_held3 (fun w' => (∀ b o, b < W5.heap.size → ¬ b = w.heap.size + 1 + 1 + 1 + 1 → w'.cell? ⟨b, o, none⟩ = W5.cell? ⟨b, o, none⟩) ∧ W5.heap.size ≤ w'.heap.size)
      (first | ((try dsimp only); exact ⟨fun b o h hn => (by (repeat (first | with_reducible exact rfl | (revert b o h hn; apply And.left; with_reducible assumption) | (with_reducible refine (cell_drew_at _ _).trans ?_) | (with_reducible refine (cell_set_ne _ _ hn).trans ?_) | (with_reducible refine (hcwF b o (by first | omega | (simp; done) | (simp; omega))).trans ?_)))), (by first | omega | (simp; done) | (simp; omega))⟩) | fail)
      (first
        | (go_at_call 107; (with_reducible refine (CX.out _).mono ?_); rintro e wF ⟨rfl, hbwF⟩; obtain ⟨hcwF, hfwF⟩ := bcell hbwF; have hzwF := hbwF.size; (try simp only [World.size_drew] at hcwF hfwF hzwF); have zF : w.heap.size + 1 + 1 + 1 + 1 < wF.heap.size := (by omega); have ywF0 : wF.cell? ⟨w.heap.size + 1 + 1 + 1 + 1, 0, none⟩ = some (.int .i64 0) := (by (repeat (first | with_reducible assumption | (with_reducible refine (cell_drew_at _ _).trans ?_) | (with_reducible refine (cell_set_at _ _ (by first | omega | (simp; done) | (simp; omega))).trans ?_) | (with_reducible refine (cell_alloc_at _ _ (by first | omega | (simp; done) | (simp; omega))).trans ?_) | (with_reducible refine (hcwF _ _ (by first | omega | (simp; done) | (simp; omega))).trans ?_)))); have ywF1 : wF.cell? ⟨w.heap.size + 1 + 1 + 1 + 1, 1, none⟩ = some (.int .i64 0) := (by (repeat (first | with_reducible assumption | (with_reducible refine (cell_drew_at _ _).trans ?_) | (with_reducible refine (cell_set_at _ _ (by first | omega | (simp; done) | (simp; omega))).trans ?_) | (with_reducible refine (cell_alloc_at _ _ (by first | omega | (simp; done) | (simp; omega))).trans ?_) | (with_reducible refine (hcwF _ _ (by first | omega | (simp; done) | (simp; omega))).trans ?_)))); have yfwF0 : wF.frozen? ⟨w.heap.size + 1 + 1 + 1 + 1, 0, none⟩ = false := (by (repeat (first | with_reducible assumption | (with_reducible refine (frozen_drew_at _ _).trans ?_) | (with_reducible refine (World.frozen?_setCell _ _ _ _).trans ?_) | (with_reducible refine (frozen_alloc_at _ _ (by first | omega | (simp; done) | (simp; omega))).trans ?_) | (with_reducible refine (hfwF _ _ (by first | omega | (simp; done) | (simp; omega))).trans ?_)))); have yfwF1 : wF.frozen? ⟨w.heap.size + 1 + 1 + 1 + 1, 1, none⟩ = false := (by (repeat (first | with_reducible assumption | (with_reducible refine (frozen_drew_at _ _).trans ?_) | (with_reducible refine (World.frozen?_setCell _ _ _ _).trans ?_) | (with_reducible refine (frozen_alloc_at _ _ (by first | omega | (simp; done) | (simp; omega))).trans ?_) | (with_reducible refine (hfwF _ _ (by first | omega | (simp; done) | (simp; omega))).trans ?_)))))
        | (go_at_call 107; (with_reducible refine (CY.out _).mono ?_); rintro e wF ⟨rfl, hbwF⟩; obtain ⟨hcwF, hfwF⟩ := bcell hbwF; have hzwF := hbwF.size; (try simp only [World.size_drew] at hcwF hfwF hzwF); have zF : w.heap.size + 1 + 1 + 1 + 1 < wF.heap.size := (by omega); have ywF0 : wF.cell? ⟨w.heap.size + 1 + 1 + 1 + 1, 0, none⟩ = some (.int .i64 0) := (by (repeat (first | with_reducible assumption | (with_reducible refine (cell_drew_at _ _).trans ?_) | (with_reducible refine (cell_set_at _ _ (by first | omega | (simp; done) | (simp; omega))).trans ?_) | (with_reducible refine (cell_alloc_at _ _ (by first | omega | (simp; done) | (simp; omega))).trans ?_) | (with_reducible refine (hcwF _ _ (by first | omega | (simp; done) | (simp; omega))).trans ?_)))); have ywF1 : wF.cell? ⟨w.heap.size + 1 + 1 + 1 + 1, 1, none⟩ = some (.int .i64 0) := (by (repeat (first | with_reducible assumption | (with_reducible refine (cell_drew_at _ _).trans ?_) | (with_reducible refine (cell_set_at _ _ (by first | omega | (simp; done) | (simp; omega))).trans ?_) | (with_reducible refine (cell_alloc_at _ _ (by first | omega | (simp; done) | (simp; omega))).trans ?_) | (with_reducible refine (hcwF _ _ (by first | omega | (simp; done) | (simp; omega))).trans ?_)))); have yfwF0 : wF.frozen? ⟨w.heap.size + 1 + 1 + 1 + 1, 0, none⟩ = false := (by (repeat (first | with_reducible assumption | (with_reducible refine (frozen_drew_at _ _).trans ?_) | (with_reducible refine (World.frozen?_setCell _ _ _ _).trans ?_) | (with_reducible refine (frozen_alloc_at _ _ (by first | omega | (simp; done) | (simp; omega))).trans ?_) | (with_reducible refine (hfwF _ _ (by first | omega | (simp; done) | (simp; omega))).trans ?_)))); have yfwF1 : wF.frozen? ⟨w.heap.size + 1 + 1 + 1 + 1, 1, none⟩ = false := (by (repeat (first | with_reducible assumption | (with_reducible refine (frozen_drew_at _ _).trans ?_) | (with_reducible refine (World.frozen?_setCell _ _ _ _).trans ?_) | (with_reducible refine (frozen_alloc_at _ _ (by first | omega | (simp; done) | (simp; omega))).trans ?_) | (with_reducible refine (hfwF _ _ (by first | omega | (simp; done) | (simp; omega))).trans ?_))))))
    all_goals
      have ra := AtL.of2 ywF0 ywF1 zF
      have rb := ra.store2 (a := .int .i64 (ax + X)) (b := .int .i64 (ay + Y))
      have r0 := rb.cell 0 rfl
      have r1 := rb.cell 1 rfl
      go_wp2
    all_goals refine bodyPost_ret (v := .agg #[.int .i64 (ax + X), .int .i64 (ay + Y)]) (by simp [results, Try.results82, go_sem, r0, r1]) rfl ⟨rfl, ?_⟩
    all_goals repeat' (first | with_reducible assumption | with_reducible exact Below.refl _ _ | (with_reducible refine Below.setCell ?_ ?_ _) | (with_reducible refine Below.alloc ?_ ?_ _) | (with_reducible refine Below.drew ?_) | (with_reducible refine below_dr ?_ _) | (with_reducible refine Below.trans ?_ (Below.mono (by with_reducible assumption) ?_)) | omega | (simp; done) | (simp; omega))
  · have hp : partI t0 (t0 - t1) = t0 := by unfold partI; rw [if_neg hm]
    have hq : wholeI (t0 - t1) = t0 - t1 := by unfold wholeI; rw [if_neg hm]
    rw [hp, hq] at CX CY
    rw [hp] at e6 e7
    have d1 : decide (t0 - t1 < 0) = false := by simpa using hm
    clear hp hq hm
    go_enter Try.func82, Try.ntmps82
    go_wp2_with fail
    refine (T0.out _).mono ?_
    rintro e w2 ⟨rfl, hbw2⟩
    have g2 : Below w.heap.size w w2 := (by repeat' (first | with_reducible assumption | with_reducible exact Below.refl _ _ | (with_reducible refine Below.setCell ?_ ?_ _) | (with_reducible refine Below.alloc ?_ ?_ _) | (with_reducible refine Below.drew ?_) | (with_reducible refine below_dr ?_ _) | (with_reducible refine Below.trans ?_ (Below.mono (by with_reducible assumption) ?_)) | omega | (simp; done) | (simp; omega)))
    obtain ⟨hcw2, hfw2⟩ := bcell hbw2
    have hzw2 := hbw2.size
    (try simp only [World.size_alloc] at hcw2 hfw2 hzw2)
    have t1 : w2.cell? ⟨w.heap.size, 0, none⟩ = some (.int .i64 ax) := (hcw2 _ _ (by omega)).trans (by first | assumption | (refine (cell_alloc_at _ _ ?_).trans ?_; omega; assumption) | (simp [go_sem]; done) | (simp [go_sem, *]; done))
    have t2 : w2.cell? ⟨w.heap.size, 1, none⟩ = some (.int .i64 ay) := (hcw2 _ _ (by omega)).trans (by first | assumption | (refine (cell_alloc_at _ _ ?_).trans ?_; omega; assumption) | (simp [go_sem]; done) | (simp [go_sem, *]; done))
    have t3 : w2.cell? ⟨w.heap.size + 1, 0, none⟩ = some (.int .i64 bx) := (hcw2 _ _ (by omega)).trans (by first | assumption | (refine (cell_alloc_at _ _ ?_).trans ?_; omega; assumption) | (simp [go_sem]; done) | (simp [go_sem, *]; done))
    have t4 : w2.cell? ⟨w.heap.size + 1, 1, none⟩ = some (.int .i64 ey) := (hcw2 _ _ (by omega)).trans (by first | assumption | (refine (cell_alloc_at _ _ ?_).trans ?_; omega; assumption) | (simp [go_sem]; done) | (simp [go_sem, *]; done))
    have t5 : w2.cell? ⟨w.heap.size + 1 + 1, 0, none⟩ = some (.int .i64 cx) := (hcw2 _ _ (by omega)).trans (by first | assumption | (refine (cell_alloc_at _ _ ?_).trans ?_; omega; assumption) | (simp [go_sem]; done) | (simp [go_sem, *]; done))
    have t6 : w2.cell? ⟨w.heap.size + 1 + 1, 1, none⟩ = some (.int .i64 cy) := (hcw2 _ _ (by omega)).trans (by first | assumption | (refine (cell_alloc_at _ _ ?_).trans ?_; omega; assumption) | (simp [go_sem]; done) | (simp [go_sem, *]; done))
    have t7 : w2.cell? ⟨w.heap.size + 1 + 1 + 1, 0, none⟩ = some (.int .i64 dx) := (hcw2 _ _ (by omega)).trans (by first | assumption | (refine (cell_alloc_at _ _ ?_).trans ?_; omega; assumption) | (simp [go_sem]; done) | (simp [go_sem, *]; done))
    have t8 : w2.cell? ⟨w.heap.size + 1 + 1 + 1, 1, none⟩ = some (.int .i64 dy) := (hcw2 _ _ (by omega)).trans (by first | assumption | (refine (cell_alloc_at _ _ ?_).trans ?_; omega; assumption) | (simp [go_sem]; done) | (simp [go_sem, *]; done))
    have t9 : w2.cell? ⟨w.heap.size + 1 + 1 + 1 + 1, 0, none⟩ = some (.int .i64 0) := (hcw2 _ _ (by omega)).trans (by first | assumption | (refine (cell_alloc_at _ _ ?_).trans ?_; omega; assumption) | (simp [go_sem]; done) | (simp [go_sem, *]; done))
    have t10 : w2.cell? ⟨w.heap.size + 1 + 1 + 1 + 1, 1, none⟩ = some (.int .i64 0) := (hcw2 _ _ (by omega)).trans (by first | assumption | (refine (cell_alloc_at _ _ ?_).trans ?_; omega; assumption) | (simp [go_sem]; done) | (simp [go_sem, *]; done))
    have tzq0 : w.heap.size < w2.heap.size := (by omega)
    have tzq1 : w.heap.size + 1 < w2.heap.size := (by omega)
    have tzq2 : w.heap.size + 1 + 1 < w2.heap.size := (by omega)
    have tzq3 : w.heap.size + 1 + 1 + 1 < w2.heap.size := (by omega)
    have tz : w.heap.size + 1 + 1 + 1 + 1 < w2.heap.size := (by omega)
    have ft40 : w2.frozen? ⟨w.heap.size + 1 + 1 + 1 + 1, 0, none⟩ = false := (hfw2 _ _ (by omega)).trans (by first | assumption | (refine (World.frozen?_alloc_old _ _ _ ?_).trans ?_; (simp; omega); assumption) | (simp [go_sem]; done) | (simp [go_sem, *]; done))
    have ft41 : w2.frozen? ⟨w.heap.size + 1 + 1 + 1 + 1, 1, none⟩ = false := (hfw2 _ _ (by omega)).trans (by first | assumption | (refine (World.frozen?_alloc_old _ _ _ ?_).trans ?_; (simp; omega); assumption) | (simp [go_sem]; done) | (simp [go_sem, *]; done))
    clear hcw2 hfw2 hzw2
    go_wp2_with fail
    refine (T1.out _).mono ?_
    rintro e w3 ⟨rfl, hbw3⟩
    have g3 : Below w.heap.size w w3 := (by repeat' (first | with_reducible assumption | with_reducible exact Below.refl _ _ | (with_reducible refine Below.setCell ?_ ?_ _) | (with_reducible refine Below.alloc ?_ ?_ _) | (with_reducible refine Below.drew ?_) | (with_reducible refine below_dr ?_ _) | (with_reducible refine Below.trans ?_ (Below.mono (by with_reducible assumption) ?_)) | omega | (simp; done) | (simp; omega)))
    obtain ⟨hcw3, hfw3⟩ := bcell hbw3
    have hzw3 := hbw3.size
    (try simp only [World.size_alloc] at hcw3 hfw3 hzw3)
    have u1 : w3.cell? ⟨w.heap.size, 0, none⟩ = some (.int .i64 ax) := (hcw3 _ _ (by omega)).trans (by first | assumption | (refine (cell_alloc_at _ _ ?_).trans ?_; omega; assumption) | (simp [go_sem]; done) | (simp [go_sem, *]; done))
    have u2 : w3.cell? ⟨w.heap.size, 1, none⟩ = some (.int .i64 ay) := (hcw3 _ _ (by omega)).trans (by first | assumption | (refine (cell_alloc_at _ _ ?_).trans ?_; omega; assumption) | (simp [go_sem]; done) | (simp [go_sem, *]; done))
    have u3 : w3.cell? ⟨w.heap.size + 1, 0, none⟩ = some (.int .i64 bx) := (hcw3 _ _ (by omega)).trans (by first | assumption | (refine (cell_alloc_at _ _ ?_).trans ?_; omega; assumption) | (simp [go_sem]; done) | (simp [go_sem, *]; done))
    have u4 : w3.cell? ⟨w.heap.size + 1, 1, none⟩ = some (.int .i64 ey) := (hcw3 _ _ (by omega)).trans (by first | assumption | (refine (cell_alloc_at _ _ ?_).trans ?_; omega; assumption) | (simp [go_sem]; done) | (simp [go_sem, *]; done))
    have u5 : w3.cell? ⟨w.heap.size + 1 + 1, 0, none⟩ = some (.int .i64 cx) := (hcw3 _ _ (by omega)).trans (by first | assumption | (refine (cell_alloc_at _ _ ?_).trans ?_; omega; assumption) | (simp [go_sem]; done) | (simp [go_sem, *]; done))
    have u6 : w3.cell? ⟨w.heap.size + 1 + 1, 1, none⟩ = some (.int .i64 cy) := (hcw3 _ _ (by omega)).trans (by first | assumption | (refine (cell_alloc_at _ _ ?_).trans ?_; omega; assumption) | (simp [go_sem]; done) | (simp [go_sem, *]; done))
    have u7 : w3.cell? ⟨w.heap.size + 1 + 1 + 1, 0, none⟩ = some (.int .i64 dx) := (hcw3 _ _ (by omega)).trans (by first | assumption | (refine (cell_alloc_at _ _ ?_).trans ?_; omega; assumption) | (simp [go_sem]; done) | (simp [go_sem, *]; done))
    have u8 : w3.cell? ⟨w.heap.size + 1 + 1 + 1, 1, none⟩ = some (.int .i64 dy) := (hcw3 _ _ (by omega)).trans (by first | assumption | (refine (cell_alloc_at _ _ ?_).trans ?_; omega; assumption) | (simp [go_sem]; done) | (simp [go_sem, *]; done))
    have u9 : w3.cell? ⟨w.heap.size + 1 + 1 + 1 + 1, 0, none⟩ = some (.int .i64 0) := (hcw3 _ _ (by omega)).trans (by first | assumption | (refine (cell_alloc_at _ _ ?_).trans ?_; omega; assumption) | (simp [go_sem]; done) | (simp [go_sem, *]; done))
    have u10 : w3.cell? ⟨w.heap.size + 1 + 1 + 1 + 1, 1, none⟩ = some (.int .i64 0) := (hcw3 _ _ (by omega)).trans (by first | assumption | (refine (cell_alloc_at _ _ ?_).trans ?_; omega; assumption) | (simp [go_sem]; done) | (simp [go_sem, *]; done))
    have uzq0 : w.heap.size < w3.heap.size := (by omega)
    have uzq1 : w.heap.size + 1 < w3.heap.size := (by omega)
    have uzq2 : w.heap.size + 1 + 1 < w3.heap.size := (by omega)
    have uzq3 : w.heap.size + 1 + 1 + 1 < w3.heap.size := (by omega)
    have uz : w.heap.size + 1 + 1 + 1 + 1 < w3.heap.size := (by omega)
    have fu40 : w3.frozen? ⟨w.heap.size + 1 + 1 + 1 + 1, 0, none⟩ = false := (hfw3 _ _ (by omega)).trans (by first | assumption | (refine (World.frozen?_alloc_old _ _ _ ?_).trans ?_; (simp; omega); assumption) | (simp [go_sem]; done) | (simp [go_sem, *]; done))
    have fu41 : w3.frozen? ⟨w.heap.size + 1 + 1 + 1 + 1, 1, none⟩ = false := (hfw3 _ _ (by omega)).trans (by first | assumption | (refine (World.frozen?_alloc_old _ _ _ ?_).trans ?_; (simp; omega); assumption) | (simp [go_sem]; done) | (simp [go_sem, *]; done))
    clear hcw3 hfw3 hzw3
    clear T0 T1 t2 t3 t4 t5 t6 t7 t8 t9 t10
    go_wp2_with fail
    refine (CMi.out _).mono ?_
    rintro e w4 ⟨rfl, hbw4⟩
    have g4 : Below w.heap.size w w4 := (by repeat' (first | with_reducible assumption | with_reducible exact Below.refl _ _ | (with_reducible refine Below.setCell ?_ ?_ _) | (with_reducible refine Below.alloc ?_ ?_ _) | (with_reducible refine Below.drew ?_) | (with_reducible refine below_dr ?_ _) | (with_reducible refine Below.trans ?_ (Below.mono (by with_reducible assumption) ?_)) | omega | (simp; done) | (simp; omega)))
    obtain ⟨hcw4, hfw4⟩ := bcell hbw4
    have hzw4 := hbw4.size
    (try simp only [World.size_alloc] at hcw4 hfw4 hzw4)
    have v1 : w4.cell? ⟨w.heap.size, 0, none⟩ = some (.int .i64 ax) := (hcw4 _ _ (by omega)).trans (by first | assumption | (refine (cell_alloc_at _ _ ?_).trans ?_; omega; assumption) | (simp [go_sem]; done) | (simp [go_sem, *]; done))
    have v2 : w4.cell? ⟨w.heap.size, 1, none⟩ = some (.int .i64 ay) := (hcw4 _ _ (by omega)).trans (by first | assumption | (refine (cell_alloc_at _ _ ?_).trans ?_; omega; assumption) | (simp [go_sem]; done) | (simp [go_sem, *]; done))
    have v3 : w4.cell? ⟨w.heap.size + 1, 0, none⟩ = some (.int .i64 bx) := (hcw4 _ _ (by omega)).trans (by first | assumption | (refine (cell_alloc_at _ _ ?_).trans ?_; omega; assumption) | (simp [go_sem]; done) | (simp [go_sem, *]; done))
    have v4 : w4.cell? ⟨w.heap.size + 1, 1, none⟩ = some (.int .i64 ey) := (hcw4 _ _ (by omega)).trans (by first | assumption | (refine (cell_alloc_at _ _ ?_).trans ?_; omega; assumption) | (simp [go_sem]; done) | (simp [go_sem, *]; done))
    have v5 : w4.cell? ⟨w.heap.size + 1 + 1, 0, none⟩ = some (.int .i64 cx) := (hcw4 _ _ (by omega)).trans (by first | assumption | (refine (cell_alloc_at _ _ ?_).trans ?_; omega; assumption) | (simp [go_sem]; done) | (simp [go_sem, *]; done))
    have v6 : w4.cell? ⟨w.heap.size + 1 + 1, 1, none⟩ = some (.int .i64 cy) := (hcw4 _ _ (by omega)).trans (by first | assumption | (refine (cell_alloc_at _ _ ?_).trans ?_; omega; assumption) | (simp [go_sem]; done) | (simp [go_sem, *]; done))
    have v7 : w4.cell? ⟨w.heap.size + 1 + 1 + 1, 0, none⟩ = some (.int .i64 dx) := (hcw4 _ _ (by omega)).trans (by first | assumption | (refine (cell_alloc_at _ _ ?_).trans ?_; omega; assumption) | (simp [go_sem]; done) | (simp [go_sem, *]; done))
    have v8 : w4.cell? ⟨w.heap.size + 1 + 1 + 1, 1, none⟩ = some (.int .i64 dy) := (hcw4 _ _ (by omega)).trans (by first | assumption | (refine (cell_alloc_at _ _ ?_).trans ?_; omega; assumption) | (simp [go_sem]; done) | (simp [go_sem, *]; done))
    have v9 : w4.cell? ⟨w.heap.size + 1 + 1 + 1 + 1, 0, none⟩ = some (.int .i64 0) := (hcw4 _ _ (by omega)).trans (by first | assumption | (refine (cell_alloc_at _ _ ?_).trans ?_; omega; assumption) | (simp [go_sem]; done) | (simp [go_sem, *]; done))
    have v10 : w4.cell? ⟨w.heap.size + 1 + 1 + 1 + 1, 1, none⟩ = some (.int .i64 0) := (hcw4 _ _ (by omega)).trans (by first | assumption | (refine (cell_alloc_at _ _ ?_).trans ?_; omega; assumption) | (simp [go_sem]; done) | (simp [go_sem, *]; done))
    have vzq0 : w.heap.size < w4.heap.size := (by omega)
    have vzq1 : w.heap.size + 1 < w4.heap.size := (by omega)
    have vzq2 : w.heap.size + 1 + 1 < w4.heap.size := (by omega)
    have vzq3 : w.heap.size + 1 + 1 + 1 < w4.heap.size := (by omega)
    have vz : w.heap.size + 1 + 1 + 1 + 1 < w4.heap.size := (by omega)
    have fv40 : w4.frozen? ⟨w.heap.size + 1 + 1 + 1 + 1, 0, none⟩ = false := (hfw4 _ _ (by omega)).trans (by first | assumption | (refine (World.frozen?_alloc_old _ _ _ ?_).trans ?_; (simp; omega); assumption) | (simp [go_sem]; done) | (simp [go_sem, *]; done))
    have fv41 : w4.frozen? ⟨w.heap.size + 1 + 1 + 1 + 1, 1, none⟩ = false := (hfw4 _ _ (by omega)).trans (by first | assumption | (refine (World.frozen?_alloc_old _ _ _ ?_).trans ?_; (simp; omega); assumption) | (simp [go_sem]; done) | (simp [go_sem, *]; done))
    clear hcw4 hfw4 hzw4
    clear CMi u1 u2 u3 u4 u5 u6 u7 u8 u9 u10
    go_upto_region 6 with fail
    generalize hW5 : w4.alloc (.cells #[.int .i64 (bx - ax), .int .i64 (ey - ay)] 29) = W5
    have g5 : Below w.heap.size w W5 := by rw [← hW5]; repeat' (first | with_reducible assumption | with_reducible exact Below.refl _ _ | (with_reducible refine Below.setCell ?_ ?_ _) | (with_reducible refine Below.alloc ?_ ?_ _) | (with_reducible refine Below.drew ?_) | (with_reducible refine below_dr ?_ _) | (with_reducible refine Below.trans ?_ (Below.mono (by with_reducible assumption) ?_)) | omega | (simp; done) | (simp; omega))
    have x0 : W5.cell? ⟨w.heap.size, 0, none⟩ = some (.int .i64 ax) := by rw [← hW5]; exact (cell_alloc_at _ _ (by omega)).trans v1
    have x1 : W5.cell? ⟨w.heap.size, 1, none⟩ = some (.int .i64 ay) := by rw [← hW5]; exact (cell_alloc_at _ _ (by omega)).trans v2
    have y0 : W5.cell? ⟨w4.heap.size, 0, none⟩ = some (.int .i64 (bx - ax)) := by rw [← hW5]; simp [go_sem]
    have y1 : W5.cell? ⟨w4.heap.size, 1, none⟩ = some (.int .i64 (ey - ay)) := by rw [← hW5]; simp [go_sem]
    have h0 : W5.cell? ⟨w.heap.size + 1 + 1 + 1 + 1, 0, none⟩ = some (.int .i64 0) := by rw [← hW5]; exact (cell_alloc_at _ _ (by omega)).trans v9
    have h1 : W5.cell? ⟨w.heap.size + 1 + 1 + 1 + 1, 1, none⟩ = some (.int .i64 0) := by rw [← hW5]; exact (cell_alloc_at _ _ (by omega)).trans v10
    have hf0 : W5.frozen? ⟨w.heap.size + 1 + 1 + 1 + 1, 0, none⟩ = false := by rw [← hW5]; exact (frozen_alloc_at _ _ (by omega)).trans fv40
    have hf1 : W5.frozen? ⟨w.heap.size + 1 + 1 + 1 + 1, 1, none⟩ = false := by rw [← hW5]; exact (frozen_alloc_at _ _ (by omega)).trans fv41
    have z5 : w4.heap.size < W5.heap.size := by rw [← hW5]; simp
    have zn : ¬ w4.heap.size = w.heap.size + 1 + 1 + 1 + 1 := by omega
    have zm : ¬ w.heap.size = w.heap.size + 1 + 1 + 1 + 1 := by omega
    have z0 : w.heap.size < W5.heap.size := by omega
    clear hW5 v1 v2 v3 v4 v5 v6 v7 v8 v9 v10
    have z6 : w.heap.size + 1 + 1 + 1 + 1 < W5.heap.size := by omega
    go_region_held3 (fun w' => (∀ b o, b < W5.heap.size → ¬ b = w.heap.size + 1 + 1 + 1 + 1 → w'.cell? ⟨b, o, none⟩ = W5.cell? ⟨b, o, none⟩) ∧ W5.heap.size ≤ w'.heap.size)
      (first | ((try dsimp only); exact ⟨fun b o h hn => (by (repeat (first | with_reducible exact rfl | (revert b o h hn; apply And.left; with_reducible assumption) | (with_reducible refine (cell_drew_at _ _).trans ?_) | (with_reducible refine (cell_set_ne _ _ hn).trans ?_) | (with_reducible refine (hcwF b o (by first | omega | (simp; done) | (simp; omega))).trans ?_)))), (by first | omega | (simp; done) | (simp; omega))⟩) | fail)
      (first
        | (go_at_call 107; (with_reducible refine (CX.out _).mono ?_); rintro e wF ⟨rfl, hbwF⟩; obtain ⟨hcwF, hfwF⟩ := bcell hbwF; have hzwF := hbwF.size; (try simp only [World.size_drew] at hcwF hfwF hzwF); have zF : w.heap.size + 1 + 1 + 1 + 1 < wF.heap.size := (by omega); have ywF0 : wF.cell? ⟨w.heap.size + 1 + 1 + 1 + 1, 0, none⟩ = some (.int .i64 0) := (by (repeat (first | with_reducible assumption | (with_reducible refine (cell_drew_at _ _).trans ?_) | (with_reducible refine (cell_set_at _ _ (by first | omega | (simp; done) | (simp; omega))).trans ?_) | (with_reducible refine (cell_alloc_at _ _ (by first | omega | (simp; done) | (simp; omega))).trans ?_) | (with_reducible refine (hcwF _ _ (by first | omega | (simp; done) | (simp; omega))).trans ?_)))); have ywF1 : wF.cell? ⟨w.heap.size + 1 + 1 + 1 + 1, 1, none⟩ = some (.int .i64 0) := (by (repeat (first | with_reducible assumption | (with_reducible refine (cell_drew_at _ _).trans ?_) | (with_reducible refine (cell_set_at _ _ (by first | omega | (simp; done) | (simp; omega))).trans ?_) | (with_reducible refine (cell_alloc_at _ _ (by first | omega | (simp; done) | (simp; omega))).trans ?_) | (with_reducible refine (hcwF _ _ (by first | omega | (simp; done) | (simp; omega))).trans ?_)))); have yfwF0 : wF.frozen? ⟨w.heap.size + 1 + 1 + 1 + 1, 0, none⟩ = false := (by (repeat (first | with_reducible assumption | (with_reducible refine (frozen_drew_at _ _).trans ?_) | (with_reducible refine (World.frozen?_setCell _ _ _ _).trans ?_) | (with_reducible refine (frozen_alloc_at _ _ (by first | omega | (simp; done) | (simp; omega))).trans ?_) | (with_reducible refine (hfwF _ _ (by first | omega | (simp; done) | (simp; omega))).trans ?_)))); have yfwF1 : wF.frozen? ⟨w.heap.size + 1 + 1 + 1 + 1, 1, none⟩ = false := (by (repeat (first | with_reducible assumption | (with_reducible refine (frozen_drew_at _ _).trans ?_) | (with_reducible refine (World.frozen?_setCell _ _ _ _).trans ?_) | (with_reducible refine (frozen_alloc_at _ _ (by first | omega | (simp; done) | (simp; omega))).trans ?_) | (with_reducible refine (hfwF _ _ (by first | omega | (simp; done) | (simp; omega))).trans ?_)))))
        | (go_at_call 107; (with_reducible refine (CY.out _).mono ?_); rintro e wF ⟨rfl, hbwF⟩; obtain ⟨hcwF, hfwF⟩ := bcell hbwF; have hzwF := hbwF.size; (try simp only [World.size_drew] at hcwF hfwF hzwF); have zF : w.heap.size + 1 + 1 + 1 + 1 < wF.heap.size := (by omega); have ywF0 : wF.cell? ⟨w.heap.size + 1 + 1 + 1 + 1, 0, none⟩ = some (.int .i64 0) := (by (repeat (first | with_reducible assumption | (with_reducible refine (cell_drew_at _ _).trans ?_) | (with_reducible refine (cell_set_at _ _ (by first | omega | (simp; done) | (simp; omega))).trans ?_) | (with_reducible refine (cell_alloc_at _ _ (by first | omega | (simp; done) | (simp; omega))).trans ?_) | (with_reducible refine (hcwF _ _ (by first | omega | (simp; done) | (simp; omega))).trans ?_)))); have ywF1 : wF.cell? ⟨w.heap.size + 1 + 1 + 1 + 1, 1, none⟩ = some (.int .i64 0) := (by (repeat (first | with_reducible assumption | (with_reducible refine (cell_drew_at _ _).trans ?_) | (with_reducible refine (cell_set_at _ _ (by first | omega | (simp; done) | (simp; omega))).trans ?_) | (with_reducible refine (cell_alloc_at _ _ (by first | omega | (simp; done) | (simp; omega))).trans ?_) | (with_reducible refine (hcwF _ _ (by first | omega | (simp; done) | (simp; omega))).trans ?_)))); have yfwF0 : wF.frozen? ⟨w.heap.size + 1 + 1 + 1 + 1, 0, none⟩ = false := (by (repeat (first | with_reducible assumption | (with_reducible refine (frozen_drew_at _ _).trans ?_) | (with_reducible refine (World.frozen?_setCell _ _ _ _).trans ?_) | (with_reducible refine (frozen_alloc_at _ _ (by first | omega | (simp; done) | (simp; omega))).trans ?_) | (with_reducible refine (hfwF _ _ (by first | omega | (simp; done) | (simp; omega))).trans ?_)))); have yfwF1 : wF.frozen? ⟨w.heap.size + 1 + 1 + 1 + 1, 1, none⟩ = false := (by (repeat (first | with_reducible assumption | (with_reducible refine (frozen_drew_at _ _).trans ?_) | (with_reducible refine (World.frozen?_setCell _ _ _ _).trans ?_) | (with_reducible refine (frozen_alloc_at _ _ (by first | omega | (simp; done) | (simp; omega))).trans ?_) | (with_reducible refine (hfwF _ _ (by first | omega | (simp; done) | (simp; omega))).trans ?_))))))
    all_goals
      have ra := AtL.of2 ywF0 ywF1 zF
      have rb := ra.store2 (a := .int .i64 (ax + X)) (b := .int .i64 (ay + Y))
      have r0 := rb.cell 0 rfl
      have r1 := rb.cell 1 rfl
      go_wp2
    all_goals refine bodyPost_ret (v := .agg #[.int .i64 (ax + X), .int .i64 (ay + Y)]) (by simp [results, Try.results82, go_sem, r0, r1]) rfl ⟨rfl, ?_⟩
    all_goals repeat' (first | with_reducible assumption | with_reducible exact Below.refl _ _ | (with_reducible refine Below.setCell ?_ ?_ _) | (with_reducible refine Below.alloc ?_ ?_ _) | (with_reducible refine Below.drew ?_) | (with_reducible refine below_dr ?_ _) | (with_reducible refine Below.trans ?_ (Below.mono (by with_reducible assumption) ?_)) | omega | (simp; done) | (simp; omega))
end Go.Proofs.Yticgomikfleabaa
