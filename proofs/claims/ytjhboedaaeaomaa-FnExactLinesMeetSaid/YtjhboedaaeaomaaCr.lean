/- Walks: the common point of two segments, the reference's side. -/
import Derived.Test.YtjhboedaaeaomaaMu2
namespace Go.Proofs.Ytjhboedaaeaomaa
open Go.RowKit
theorem frozen_alloc_at (w : World) (o : Obj) {b i : Nat} (h : b < w.heap.size) : (w.alloc o).frozen? ⟨b, i, none⟩ = w.frozen? ⟨b, i, none⟩ := World.frozen?_alloc_old _ _ _ (by simp only; omega)

/-- The rounded quotient of a part of a way: n of m, both turned to be positive. -/
def partI (n m : Int) : Int := if m < 0 then -n else n
def wholeI (m : Int) : Int := if m < 0 then -m else m
def crI (a b n m : Int) : Int := a + near ((b - a) * partI n m) (wholeI m)
theorem near_within {v n m : Int} (h0 : 0 < n) (h1 : n ≤ m) (h2 : -524288 ≤ v) (h3 : v ≤ 524288) : -524288 ≤ near (v * n) m ∧ near (v * n) m ≤ 524288 := by
  unfold near
  have k1 : v * n ≤ 524288 * m := by
    rcases Int.lt_or_le 0 v with h | h
    · have := Int.mul_le_mul h3 h1 (by omega) (by omega); omega
    · have := Int.mul_nonneg (show 0 ≤ -v by omega) (show 0 ≤ n by omega); have e : -v * n = -(v * n) := Int.neg_mul _ _; omega
  have k2 : -(524288 * m) ≤ v * n := by
    rcases Int.lt_or_le v 0 with h | h
    · have := Int.mul_le_mul (show -v ≤ 524288 by omega) h1 (by omega) (by omega); have e : -v * n = -(v * n) := Int.neg_mul _ _; omega
    · have := Int.mul_nonneg h (show 0 ≤ n by omega); omega
  constructor
  · apply (Int.le_ediv_iff_mul_le (by omega)).2; omega
  · have : (2 * (v * n) + m) / (2 * m) < 524289 := Int.ediv_lt_of_lt_mul (by omega) (by omega)
    omega
theorem cross_nums {t0 t1 : Int} (h : (0 < t0 ∧ t1 < 0) ∨ (t0 < 0 ∧ 0 < t1)) (b0 : -549755813888 ≤ t0 ∧ t0 ≤ 549755813888) (b1 : -549755813888 ≤ t1 ∧ t1 ≤ 549755813888) :
    0 < partI t0 (t0 - t1) ∧ partI t0 (t0 - t1) ≤ wholeI (t0 - t1) ∧ partI t0 (t0 - t1) ≤ 549755813888 ∧ wholeI (t0 - t1) ≤ 1099511627776 := by
  unfold partI wholeI; split <;> omega
set_option maxHeartbeats 6400000 in
theorem crossing_touch (ax ay bx ey cx cy dx dy : Int) (w : World) (va : okB ax ay = true) (vb : okB bx ey = true) (vc : okB cx cy = true) (vd : okB dx dy = true) {px py : Int} (he : endsF (bothB ax ay bx ey cx cy dx dy) [(ax, ay), (bx, ey), (cx, cy), (dx, dy)] = [(px, py)]) :
    Calls Try.prog 57 #[.agg #[.int .i64 ax, .int .i64 ay], .agg #[.int .i64 bx, .int .i64 ey], .agg #[.int .i64 cx, .int .i64 cy], .agg #[.int .i64 dx, .int .i64 dy]] w fun e w' => e = .returned (.agg #[.int .i64 px, .int .i64 py]) ∧ Below w.heap.size w w' := by
  have CE := Lib.hid (fun w => l03Ends_any ax ay bx ey cx cy dx dy w va vb vc vd)
  rw [he] at CE
  clear he va vb vc vd
  go_enter Try.func57, Try.ntmps57
  go_wp2_with fail
  refine (CE.out _).mono ?_
  rintro e w1 ⟨q, n, cap, rfl, hn, hr, hbw1⟩
  have g1 : Below w.heap.size w w1 := (by repeat' (first | with_reducible assumption | with_reducible exact Below.refl _ _ | (with_reducible refine Below.setCell ?_ ?_ _) | (with_reducible refine Below.alloc ?_ ?_ _) | (with_reducible refine Below.drew ?_) | (with_reducible refine below_dr ?_ _) | (with_reducible refine Below.trans ?_ (Below.mono (by with_reducible assumption) ?_)) | omega | (simp; done) | (simp; omega)))
  obtain ⟨hcw1, hfw1⟩ := bcell hbw1
  have hzw1 := hbw1.size
  (try simp only [World.size_alloc] at hcw1 hfw1 hzw1)
  have s1 : w1.cell? ⟨w.heap.size, 0, none⟩ = some (.int .i64 ax) := (hcw1 _ _ (by omega)).trans (by first | assumption | (refine (cell_alloc_at _ _ ?_).trans ?_; omega; assumption) | (simp [go_sem]; done) | (simp [go_sem, *]; done))
  have s2 : w1.cell? ⟨w.heap.size, 1, none⟩ = some (.int .i64 ay) := (hcw1 _ _ (by omega)).trans (by first | assumption | (refine (cell_alloc_at _ _ ?_).trans ?_; omega; assumption) | (simp [go_sem]; done) | (simp [go_sem, *]; done))
  have s3 : w1.cell? ⟨w.heap.size + 1, 0, none⟩ = some (.int .i64 bx) := (hcw1 _ _ (by omega)).trans (by first | assumption | (refine (cell_alloc_at _ _ ?_).trans ?_; omega; assumption) | (simp [go_sem]; done) | (simp [go_sem, *]; done))
  have s4 : w1.cell? ⟨w.heap.size + 1, 1, none⟩ = some (.int .i64 ey) := (hcw1 _ _ (by omega)).trans (by first | assumption | (refine (cell_alloc_at _ _ ?_).trans ?_; omega; assumption) | (simp [go_sem]; done) | (simp [go_sem, *]; done))
  have s5 : w1.cell? ⟨w.heap.size + 1 + 1, 0, none⟩ = some (.int .i64 cx) := (hcw1 _ _ (by omega)).trans (by first | assumption | (refine (cell_alloc_at _ _ ?_).trans ?_; omega; assumption) | (simp [go_sem]; done) | (simp [go_sem, *]; done))
  have s6 : w1.cell? ⟨w.heap.size + 1 + 1, 1, none⟩ = some (.int .i64 cy) := (hcw1 _ _ (by omega)).trans (by first | assumption | (refine (cell_alloc_at _ _ ?_).trans ?_; omega; assumption) | (simp [go_sem]; done) | (simp [go_sem, *]; done))
  have s7 : w1.cell? ⟨w.heap.size + 1 + 1 + 1, 0, none⟩ = some (.int .i64 dx) := (hcw1 _ _ (by omega)).trans (by first | assumption | (refine (cell_alloc_at _ _ ?_).trans ?_; omega; assumption) | (simp [go_sem]; done) | (simp [go_sem, *]; done))
  have s8 : w1.cell? ⟨w.heap.size + 1 + 1 + 1, 1, none⟩ = some (.int .i64 dy) := (hcw1 _ _ (by omega)).trans (by first | assumption | (refine (cell_alloc_at _ _ ?_).trans ?_; omega; assumption) | (simp [go_sem]; done) | (simp [go_sem, *]; done))
  have s9 : w1.cell? ⟨w.heap.size + 1 + 1 + 1 + 1, 0, none⟩ = some (.int .i64 0) := (hcw1 _ _ (by omega)).trans (by first | assumption | (refine (cell_alloc_at _ _ ?_).trans ?_; omega; assumption) | (simp [go_sem]; done) | (simp [go_sem, *]; done))
  have s10 : w1.cell? ⟨w.heap.size + 1 + 1 + 1 + 1, 1, none⟩ = some (.int .i64 0) := (hcw1 _ _ (by omega)).trans (by first | assumption | (refine (cell_alloc_at _ _ ?_).trans ?_; omega; assumption) | (simp [go_sem]; done) | (simp [go_sem, *]; done))
  have szq0 : w.heap.size < w1.heap.size := (by omega)
  have szq1 : w.heap.size + 1 < w1.heap.size := (by omega)
  have szq2 : w.heap.size + 1 + 1 < w1.heap.size := (by omega)
  have szq3 : w.heap.size + 1 + 1 + 1 < w1.heap.size := (by omega)
  have sz : w.heap.size + 1 + 1 + 1 + 1 < w1.heap.size := (by omega)
  have fs40 : w1.frozen? ⟨w.heap.size + 1 + 1 + 1 + 1, 0, none⟩ = false := (hfw1 _ _ (by omega)).trans (by first | assumption | (refine (World.frozen?_alloc_old _ _ _ ?_).trans ?_; (simp; omega); assumption) | (simp [go_sem]; done) | (simp [go_sem, *]; done))
  have fs41 : w1.frozen? ⟨w.heap.size + 1 + 1 + 1 + 1, 1, none⟩ = false := (hfw1 _ _ (by omega)).trans (by first | assumption | (refine (World.frozen?_alloc_old _ _ _ ?_).trans ?_; (simp; omega); assumption) | (simp [go_sem]; done) | (simp [go_sem, *]; done))
  clear hcw1 hfw1 hzw1
  obtain rfl : n = 1 := hn
  have k0 := hr.1 0 _ rfl
  have k1 := hr.1 1 _ rfl
  have kz := hr.2
  clear hr
  simp only at k0 k1
  go_wp2
  have ra := AtL.of2 s9 s10 sz
  have rb := ra.store2 (a := .int .i64 px) (b := .int .i64 py)
  have r0 := rb.cell 0 rfl
  have r1 := rb.cell 1 rfl
  refine bodyPost_ret (v := .agg #[.int .i64 px, .int .i64 py]) (by simp [results, Try.results57, go_sem, r0, r1]) rfl ⟨rfl, ?_⟩
  repeat' (first | with_reducible assumption | with_reducible exact Below.refl _ _ | (with_reducible refine Below.setCell ?_ ?_ _) | (with_reducible refine Below.alloc ?_ ?_ _) | (with_reducible refine Below.drew ?_) | (with_reducible refine below_dr ?_ _) | (with_reducible refine Below.trans ?_ (Below.mono (by with_reducible assumption) ?_)) | omega | (simp; done) | (simp; omega))
set_option maxHeartbeats 6400000 in
theorem crossing_inner (ax ay bx ey cx cy dx dy : Int) (w : World) (va : okB ax ay = true) (vb : okB bx ey = true) (vc : okB cx cy = true) (vd : okB dx dy = true) (he : endsF (bothB ax ay bx ey cx cy dx dy) [(ax, ay), (bx, ey), (cx, cy), (dx, dy)] = []) (h : (0 < turnI cx cy dx dy ax ay ∧ turnI cx cy dx dy bx ey < 0) ∨ (turnI cx cy dx dy ax ay < 0 ∧ 0 < turnI cx cy dx dy bx ey)) :
    Calls Try.prog 57 #[.agg #[.int .i64 ax, .int .i64 ay], .agg #[.int .i64 bx, .int .i64 ey], .agg #[.int .i64 cx, .int .i64 cy], .agg #[.int .i64 dx, .int .i64 dy]] w fun e w' => e = .returned (.agg #[.int .i64 (crI ax bx (turnI cx cy dx dy ax ay) (turnI cx cy dx dy ax ay - turnI cx cy dx dy bx ey)), .int .i64 (crI ay ey (turnI cx cy dx dy ax ay) (turnI cx cy dx dy ax ay - turnI cx cy dx dy bx ey))]) ∧ Below w.heap.size w w' := by
  have CE := Lib.hid (fun w => l03Ends_any ax ay bx ey cx cy dx dy w va vb vc vd)
  rw [he] at CE
  have T0 := Lib.hid (fun w => l03Turn_any cx cy dx dy ax ay w vc vd va)
  have T1 := Lib.hid (fun w => l03Turn_any cx cy dx dy bx ey w vc vd vb)
  have B0 := turn_bound vc vd va
  have B1 := turn_bound vc vd vb
  obtain ⟨a1, a2, a3, a4⟩ := okB_bounds va
  obtain ⟨b1, b2, b3, b4⟩ := okB_bounds vb
  clear he va vb vc vd
  generalize turnI cx cy dx dy ax ay = t0 at *
  generalize turnI cx cy dx dy bx ey = t1 at *
  obtain ⟨q1, q2, q3, q4⟩ := cross_nums h B0 B1
  obtain ⟨n1, n2⟩ := near_within (v := bx - ax) q1 q2 (by omega) (by omega)
  obtain ⟨n3, n4⟩ := near_within (v := ey - ay) q1 q2 (by omega) (by omega)
  obtain ⟨m1, m2⟩ := mulB (a := bx - ax) (b := partI t0 (t0 - t1)) (A := 524288) (B := 549755813888) (by omega) (by omega) (by omega) (by omega)
  obtain ⟨m3, m4⟩ := mulB (a := ey - ay) (b := partI t0 (t0 - t1)) (A := 524288) (B := 549755813888) (by omega) (by omega) (by omega) (by omega)
  have CX := Lib.hid (fun w => l03Round_any ((bx - ax) * partI t0 (t0 - t1)) (wholeI (t0 - t1)) w (by omega) (by omega) (by omega))
  have CY := Lib.hid (fun w => l03Round_any ((ey - ay) * partI t0 (t0 - t1)) (wholeI (t0 - t1)) w (by omega) (by omega) (by omega))
  have e1 : IntKind.i64.wrap (bx - ax) = bx - ax := IntWalk.i64_in _ (by omega)
  have e2 : IntKind.i64.wrap (ey - ay) = ey - ay := IntWalk.i64_in _ (by omega)
  have e3 : IntKind.i64.wrap (t0 - t1) = t0 - t1 := IntWalk.i64_in _ (by omega)
  have e4 : IntKind.i64.wrap (-t0) = -t0 := IntWalk.i64_in _ (by omega)
  have e5 : IntKind.i64.wrap (-(t0 - t1)) = -(t0 - t1) := IntWalk.i64_in _ (by omega)
  have e6 : IntKind.i64.wrap ((bx - ax) * partI t0 (t0 - t1)) = (bx - ax) * partI t0 (t0 - t1) := IntWalk.i64_in _ (by omega)
  have e7 : IntKind.i64.wrap ((ey - ay) * partI t0 (t0 - t1)) = (ey - ay) * partI t0 (t0 - t1) := IntWalk.i64_in _ (by omega)
  have e8 : IntKind.i64.wrap (ax + near ((bx - ax) * partI t0 (t0 - t1)) (wholeI (t0 - t1))) = ax + near ((bx - ax) * partI t0 (t0 - t1)) (wholeI (t0 - t1)) := IntWalk.i64_in _ (by omega)
  have e9 : IntKind.i64.wrap (ay + near ((ey - ay) * partI t0 (t0 - t1)) (wholeI (t0 - t1))) = ay + near ((ey - ay) * partI t0 (t0 - t1)) (wholeI (t0 - t1)) := IntWalk.i64_in _ (by omega)
  unfold crI
  generalize near ((bx - ax) * partI t0 (t0 - t1)) (wholeI (t0 - t1)) = X at *
  generalize near ((ey - ay) * partI t0 (t0 - t1)) (wholeI (t0 - t1)) = Y at *
  clear q1 q2 q3 q4 n1 n2 n3 n4 m1 m2 m3 m4 a1 a2 a3 a4 b1 b2 b3 b4 B0 B1
  by_cases hm : t0 - t1 < 0
  · have hp : partI t0 (t0 - t1) = -t0 := by unfold partI; rw [if_pos hm]
    have hq : wholeI (t0 - t1) = -(t0 - t1) := by unfold wholeI; rw [if_pos hm]
    rw [hp, hq] at CX CY
    rw [hp] at e6 e7
    have d1 : decide (t0 - t1 < 0) = true := by simpa using hm
    clear hp hq hm h
    go_enter Try.func57, Try.ntmps57
    go_wp2_with fail
    refine (CE.out _).mono ?_
    rintro e w1 ⟨q, n, cap, rfl, hn, hr, hbw1⟩
    have g1 : Below w.heap.size w w1 := (by repeat' (first | with_reducible assumption | with_reducible exact Below.refl _ _ | (with_reducible refine Below.setCell ?_ ?_ _) | (with_reducible refine Below.alloc ?_ ?_ _) | (with_reducible refine Below.drew ?_) | (with_reducible refine below_dr ?_ _) | (with_reducible refine Below.trans ?_ (Below.mono (by with_reducible assumption) ?_)) | omega | (simp; done) | (simp; omega)))
    obtain ⟨hcw1, hfw1⟩ := bcell hbw1
    have hzw1 := hbw1.size
    (try simp only [World.size_alloc] at hcw1 hfw1 hzw1)
    have s1 : w1.cell? ⟨w.heap.size, 0, none⟩ = some (.int .i64 ax) := (hcw1 _ _ (by omega)).trans (by first | assumption | (refine (cell_alloc_at _ _ ?_).trans ?_; omega; assumption) | (simp [go_sem]; done) | (simp [go_sem, *]; done))
    have s2 : w1.cell? ⟨w.heap.size, 1, none⟩ = some (.int .i64 ay) := (hcw1 _ _ (by omega)).trans (by first | assumption | (refine (cell_alloc_at _ _ ?_).trans ?_; omega; assumption) | (simp [go_sem]; done) | (simp [go_sem, *]; done))
    have s3 : w1.cell? ⟨w.heap.size + 1, 0, none⟩ = some (.int .i64 bx) := (hcw1 _ _ (by omega)).trans (by first | assumption | (refine (cell_alloc_at _ _ ?_).trans ?_; omega; assumption) | (simp [go_sem]; done) | (simp [go_sem, *]; done))
    have s4 : w1.cell? ⟨w.heap.size + 1, 1, none⟩ = some (.int .i64 ey) := (hcw1 _ _ (by omega)).trans (by first | assumption | (refine (cell_alloc_at _ _ ?_).trans ?_; omega; assumption) | (simp [go_sem]; done) | (simp [go_sem, *]; done))
    have s5 : w1.cell? ⟨w.heap.size + 1 + 1, 0, none⟩ = some (.int .i64 cx) := (hcw1 _ _ (by omega)).trans (by first | assumption | (refine (cell_alloc_at _ _ ?_).trans ?_; omega; assumption) | (simp [go_sem]; done) | (simp [go_sem, *]; done))
    have s6 : w1.cell? ⟨w.heap.size + 1 + 1, 1, none⟩ = some (.int .i64 cy) := (hcw1 _ _ (by omega)).trans (by first | assumption | (refine (cell_alloc_at _ _ ?_).trans ?_; omega; assumption) | (simp [go_sem]; done) | (simp [go_sem, *]; done))
    have s7 : w1.cell? ⟨w.heap.size + 1 + 1 + 1, 0, none⟩ = some (.int .i64 dx) := (hcw1 _ _ (by omega)).trans (by first | assumption | (refine (cell_alloc_at _ _ ?_).trans ?_; omega; assumption) | (simp [go_sem]; done) | (simp [go_sem, *]; done))
    have s8 : w1.cell? ⟨w.heap.size + 1 + 1 + 1, 1, none⟩ = some (.int .i64 dy) := (hcw1 _ _ (by omega)).trans (by first | assumption | (refine (cell_alloc_at _ _ ?_).trans ?_; omega; assumption) | (simp [go_sem]; done) | (simp [go_sem, *]; done))
    have s9 : w1.cell? ⟨w.heap.size + 1 + 1 + 1 + 1, 0, none⟩ = some (.int .i64 0) := (hcw1 _ _ (by omega)).trans (by first | assumption | (refine (cell_alloc_at _ _ ?_).trans ?_; omega; assumption) | (simp [go_sem]; done) | (simp [go_sem, *]; done))
    have s10 : w1.cell? ⟨w.heap.size + 1 + 1 + 1 + 1, 1, none⟩ = some (.int .i64 0) := (hcw1 _ _ (by omega)).trans (by first | assumption | (refine (cell_alloc_at _ _ ?_).trans ?_; omega; assumption) | (simp [go_sem]; done) | (simp [go_sem, *]; done))
    have szq0 : w.heap.size < w1.heap.size := (by omega)
    have szq1 : w.heap.size + 1 < w1.heap.size := (by omega)
    have szq2 : w.heap.size + 1 + 1 < w1.heap.size := (by omega)
    have szq3 : w.heap.size + 1 + 1 + 1 < w1.heap.size := (by omega)
    have sz : w.heap.size + 1 + 1 + 1 + 1 < w1.heap.size := (by omega)
    have fs40 : w1.frozen? ⟨w.heap.size + 1 + 1 + 1 + 1, 0, none⟩ = false := (hfw1 _ _ (by omega)).trans (by first | assumption | (refine (World.frozen?_alloc_old _ _ _ ?_).trans ?_; (simp; omega); assumption) | (simp [go_sem]; done) | (simp [go_sem, *]; done))
    have fs41 : w1.frozen? ⟨w.heap.size + 1 + 1 + 1 + 1, 1, none⟩ = false := (hfw1 _ _ (by omega)).trans (by first | assumption | (refine (World.frozen?_alloc_old _ _ _ ?_).trans ?_; (simp; omega); assumption) | (simp [go_sem]; done) | (simp [go_sem, *]; done))
    clear hcw1 hfw1 hzw1
    obtain rfl : n = 0 := hn
    clear hr
    go_wp2_with fail
    refine (T0.out _).mono ?_
    rintro e w2 ⟨rfl, hbw2⟩
    have g2 : Below w.heap.size w w2 := (by repeat' (first | with_reducible assumption | with_reducible exact Below.refl _ _ | (with_reducible refine Below.setCell ?_ ?_ _) | (with_reducible refine Below.alloc ?_ ?_ _) | (with_reducible refine Below.drew ?_) | (with_reducible refine below_dr ?_ _) | (with_reducible refine Below.trans ?_ (Below.mono (by with_reducible assumption) ?_)) | omega | (simp; done) | (simp; omega)))
    obtain ⟨hcw2, hfw2⟩ := bcell hbw2
    have hzw2 := hbw2.size
    (try simp only [World.size_alloc] at hcw2 hfw2 hzw2)
    have t1 : w2.cell? ⟨w.heap.size, 0, none⟩ = some (.int .i64 ax) := (hcw2 _ _ (by omega)).trans (by first | assumption | (refine (cell_alloc_at _ _ ?_).trans ?_; omega; assumption) | (simp [go_sem]; done) | (simp [go_sem, *]; done))
    have t2 : w2.cell? ⟨w.heap.size, 1, none⟩ = some (.int .i64 ay) := (hcw2 _ _ (by omega)).trans (by first | assumption | (refine (cell_alloc_at _ _ ?_).trans ?_; omega; assumption) | (simp [go_sem]; done) | (simp [go_sem, *]; done))
    have t3 : w2.cell? ⟨w.heap.size + 1, 0, none⟩ = some (.int .i64 bx) := (hcw2 _ _ (by omega)).trans (by first | assumption | (refine (cell_alloc_at _ _ ?_).trans ?_; omega; assumption) | (simp [go_sem]; done) | (simp [go_sem, *]; done))
    have t4 : w2.cell? ⟨w.heap.size + 1, 1, none⟩ = some (.int .i64 ey) := (hcw2 _ _ (by omega)).trans (by first | assumption | (refine (cell_alloc_at _ _ ?_).trans ?_; omega; assumption) | (simp [go_sem]; done) | (simp [go_sem, *]; done))
    have t5 : w2.cell? ⟨w.heap.size + 1 + 1, 0, none⟩ = some (.int .i64 cx) := (hcw2 _ _ (by omega)).trans (by first | assumption | (refine (cell_alloc_at _ _ ?_).trans ?_; omega; assumption) | (simp [go_sem]; done) | (simp [go_sem, *]; done))
    have t6 : w2.cell? ⟨w.heap.size + 1 + 1, 1, none⟩ = some (.int .i64 cy) := (hcw2 _ _ (by omega)).trans (by first | assumption | (refine (cell_alloc_at _ _ ?_).trans ?_; omega; assumption) | (simp [go_sem]; done) | (simp [go_sem, *]; done))
    have t7 : w2.cell? ⟨w.heap.size + 1 + 1 + 1, 0, none⟩ = some (.int .i64 dx) := (hcw2 _ _ (by omega)).trans (by first | assumption | (refine (cell_alloc_at _ _ ?_).trans ?_; omega; assumption) | (simp [go_sem]; done) | (simp [go_sem, *]; done))
    have t8 : w2.cell? ⟨w.heap.size + 1 + 1 + 1, 1, none⟩ = some (.int .i64 dy) := (hcw2 _ _ (by omega)).trans (by first | assumption | (refine (cell_alloc_at _ _ ?_).trans ?_; omega; assumption) | (simp [go_sem]; done) | (simp [go_sem, *]; done))
    have t9 : w2.cell? ⟨w.heap.size + 1 + 1 + 1 + 1, 0, none⟩ = some (.int .i64 0) := (hcw2 _ _ (by omega)).trans (by first | assumption | (refine (cell_alloc_at _ _ ?_).trans ?_; omega; assumption) | (simp [go_sem]; done) | (simp [go_sem, *]; done))
    have t10 : w2.cell? ⟨w.heap.size + 1 + 1 + 1 + 1, 1, none⟩ = some (.int .i64 0) := (hcw2 _ _ (by omega)).trans (by first | assumption | (refine (cell_alloc_at _ _ ?_).trans ?_; omega; assumption) | (simp [go_sem]; done) | (simp [go_sem, *]; done))
    have tzq0 : w.heap.size < w2.heap.size := (by omega)
    have tzq1 : w.heap.size + 1 < w2.heap.size := (by omega)
    have tzq2 : w.heap.size + 1 + 1 < w2.heap.size := (by omega)
    have tzq3 : w.heap.size + 1 + 1 + 1 < w2.heap.size := (by omega)
    have tz : w.heap.size + 1 + 1 + 1 + 1 < w2.heap.size := (by omega)
    have ft40 : w2.frozen? ⟨w.heap.size + 1 + 1 + 1 + 1, 0, none⟩ = false := (hfw2 _ _ (by omega)).trans (by first | assumption | (refine (World.frozen?_alloc_old _ _ _ ?_).trans ?_; (simp; omega); assumption) | (simp [go_sem]; done) | (simp [go_sem, *]; done))
    have ft41 : w2.frozen? ⟨w.heap.size + 1 + 1 + 1 + 1, 1, none⟩ = false := (hfw2 _ _ (by omega)).trans (by first | assumption | (refine (World.frozen?_alloc_old _ _ _ ?_).trans ?_; (simp; omega); assumption) | (simp [go_sem]; done) | (simp [go_sem, *]; done))
    clear hcw2 hfw2 hzw2
    go_wp2_with fail
    refine (T1.out _).mono ?_
    rintro e w3 ⟨rfl, hbw3⟩
    have g3 : Below w.heap.size w w3 := (by repeat' (first | with_reducible assumption | with_reducible exact Below.refl _ _ | (with_reducible refine Below.setCell ?_ ?_ _) | (with_reducible refine Below.alloc ?_ ?_ _) | (with_reducible refine Below.drew ?_) | (with_reducible refine below_dr ?_ _) | (with_reducible refine Below.trans ?_ (Below.mono (by with_reducible assumption) ?_)) | omega | (simp; done) | (simp; omega)))
    obtain ⟨hcw3, hfw3⟩ := bcell hbw3
    have hzw3 := hbw3.size
    (try simp only [World.size_alloc] at hcw3 hfw3 hzw3)
    have u1 : w3.cell? ⟨w.heap.size, 0, none⟩ = some (.int .i64 ax) := (hcw3 _ _ (by omega)).trans (by first | assumption | (refine (cell_alloc_at _ _ ?_).trans ?_; omega; assumption) | (simp [go_sem]; done) | (simp [go_sem, *]; done))
    have u2 : w3.cell? ⟨w.heap.size, 1, none⟩ = some (.int .i64 ay) := (hcw3 _ _ (by omega)).trans (by first | assumption | (refine (cell_alloc_at _ _ ?_).trans ?_; omega; assumption) | (simp [go_sem]; done) | (simp [go_sem, *]; done))
    have u3 : w3.cell? ⟨w.heap.size + 1, 0, none⟩ = some (.int .i64 bx) := (hcw3 _ _ (by omega)).trans (by first | assumption | (refine (cell_alloc_at _ _ ?_).trans ?_; omega; assumption) | (simp [go_sem]; done) | (simp [go_sem, *]; done))
    have u4 : w3.cell? ⟨w.heap.size + 1, 1, none⟩ = some (.int .i64 ey) := (hcw3 _ _ (by omega)).trans (by first | assumption | (refine (cell_alloc_at _ _ ?_).trans ?_; omega; assumption) | (simp [go_sem]; done) | (simp [go_sem, *]; done))
    have u5 : w3.cell? ⟨w.heap.size + 1 + 1, 0, none⟩ = some (.int .i64 cx) := (hcw3 _ _ (by omega)).trans (by first | assumption | (refine (cell_alloc_at _ _ ?_).trans ?_; omega; assumption) | (simp [go_sem]; done) | (simp [go_sem, *]; done))
    have u6 : w3.cell? ⟨w.heap.size + 1 + 1, 1, none⟩ = some (.int .i64 cy) := (hcw3 _ _ (by omega)).trans (by first | assumption | (refine (cell_alloc_at _ _ ?_).trans ?_; omega; assumption) | (simp [go_sem]; done) | (simp [go_sem, *]; done))
    have u7 : w3.cell? ⟨w.heap.size + 1 + 1 + 1, 0, none⟩ = some (.int .i64 dx) := (hcw3 _ _ (by omega)).trans (by first | assumption | (refine (cell_alloc_at _ _ ?_).trans ?_; omega; assumption) | (simp [go_sem]; done) | (simp [go_sem, *]; done))
    have u8 : w3.cell? ⟨w.heap.size + 1 + 1 + 1, 1, none⟩ = some (.int .i64 dy) := (hcw3 _ _ (by omega)).trans (by first | assumption | (refine (cell_alloc_at _ _ ?_).trans ?_; omega; assumption) | (simp [go_sem]; done) | (simp [go_sem, *]; done))
    have u9 : w3.cell? ⟨w.heap.size + 1 + 1 + 1 + 1, 0, none⟩ = some (.int .i64 0) := (hcw3 _ _ (by omega)).trans (by first | assumption | (refine (cell_alloc_at _ _ ?_).trans ?_; omega; assumption) | (simp [go_sem]; done) | (simp [go_sem, *]; done))
    have u10 : w3.cell? ⟨w.heap.size + 1 + 1 + 1 + 1, 1, none⟩ = some (.int .i64 0) := (hcw3 _ _ (by omega)).trans (by first | assumption | (refine (cell_alloc_at _ _ ?_).trans ?_; omega; assumption) | (simp [go_sem]; done) | (simp [go_sem, *]; done))
    have uzq0 : w.heap.size < w3.heap.size := (by omega)
    have uzq1 : w.heap.size + 1 < w3.heap.size := (by omega)
    have uzq2 : w.heap.size + 1 + 1 < w3.heap.size := (by omega)
    have uzq3 : w.heap.size + 1 + 1 + 1 < w3.heap.size := (by omega)
    have uz : w.heap.size + 1 + 1 + 1 + 1 < w3.heap.size := (by omega)
    have fu40 : w3.frozen? ⟨w.heap.size + 1 + 1 + 1 + 1, 0, none⟩ = false := (hfw3 _ _ (by omega)).trans (by first | assumption | (refine (World.frozen?_alloc_old _ _ _ ?_).trans ?_; (simp; omega); assumption) | (simp [go_sem]; done) | (simp [go_sem, *]; done))
    have fu41 : w3.frozen? ⟨w.heap.size + 1 + 1 + 1 + 1, 1, none⟩ = false := (hfw3 _ _ (by omega)).trans (by first | assumption | (refine (World.frozen?_alloc_old _ _ _ ?_).trans ?_; (simp; omega); assumption) | (simp [go_sem]; done) | (simp [go_sem, *]; done))
    clear hcw3 hfw3 hzw3
    clear T0 T1 CE s1 s2 s3 s4 s5 s6 s7 s8 s9 s10 t1 t2 t3 t4 t5 t6 t7 t8 t9 t10
    have zz0 : w.heap.size < w3.heap.size := by omega
    have zz1 : w.heap.size + 1 < w3.heap.size := by omega
    go_upto_region 9 with fail
    go_region_held3 (fun w' => (∀ b o, b < w.heap.size + 1 + 1 + 1 + 1 → w'.cell? ⟨b, o, none⟩ = w3.cell? ⟨b, o, none⟩) ∧ w3.heap.size ≤ w'.heap.size)
      (first | ((try dsimp only); exact ⟨fun b o h => (by (repeat (first | (revert b o h; apply And.left; with_reducible assumption) | with_reducible exact rfl | (with_reducible refine (cell_drew_at _ _).trans ?_) | (with_reducible refine (cell_set_at _ _ (by first | omega | (simp; done) | (simp; omega))).trans ?_) | (with_reducible refine (cell_alloc_at _ _ (by first | omega | (simp; done) | (simp; omega))).trans ?_) | (with_reducible refine (hcwF b o (by first | omega | (simp; done) | (simp; omega))).trans ?_)))), (by first | omega | (simp; done) | (simp; omega))⟩) | fail)
      (first
        | (go_at_call 81; (with_reducible refine (CX.out _).mono ?_); rintro e wF ⟨rfl, hbwF⟩; obtain ⟨hcwF, hfwF⟩ := bcell hbwF; have hzwF := hbwF.size; (try simp only [World.size_drew] at hcwF hfwF hzwF); have zF : w.heap.size + 1 + 1 + 1 + 1 < wF.heap.size := (by omega); have ywF0 : wF.cell? ⟨w.heap.size + 1 + 1 + 1 + 1, 0, none⟩ = some (.int .i64 0) := (by (repeat (first | with_reducible assumption | (with_reducible refine (cell_drew_at _ _).trans ?_) | (with_reducible refine (cell_set_at _ _ (by first | omega | (simp; done) | (simp; omega))).trans ?_) | (with_reducible refine (cell_alloc_at _ _ (by first | omega | (simp; done) | (simp; omega))).trans ?_) | (with_reducible refine (hcwF _ _ (by first | omega | (simp; done) | (simp; omega))).trans ?_)))); have ywF1 : wF.cell? ⟨w.heap.size + 1 + 1 + 1 + 1, 1, none⟩ = some (.int .i64 0) := (by (repeat (first | with_reducible assumption | (with_reducible refine (cell_drew_at _ _).trans ?_) | (with_reducible refine (cell_set_at _ _ (by first | omega | (simp; done) | (simp; omega))).trans ?_) | (with_reducible refine (cell_alloc_at _ _ (by first | omega | (simp; done) | (simp; omega))).trans ?_) | (with_reducible refine (hcwF _ _ (by first | omega | (simp; done) | (simp; omega))).trans ?_)))); have yfwF0 : wF.frozen? ⟨w.heap.size + 1 + 1 + 1 + 1, 0, none⟩ = false := (by (repeat (first | with_reducible assumption | (with_reducible refine (frozen_drew_at _ _).trans ?_) | (with_reducible refine (World.frozen?_setCell _ _ _ _).trans ?_) | (with_reducible refine (frozen_alloc_at _ _ (by first | omega | (simp; done) | (simp; omega))).trans ?_) | (with_reducible refine (hfwF _ _ (by first | omega | (simp; done) | (simp; omega))).trans ?_)))); have yfwF1 : wF.frozen? ⟨w.heap.size + 1 + 1 + 1 + 1, 1, none⟩ = false := (by (repeat (first | with_reducible assumption | (with_reducible refine (frozen_drew_at _ _).trans ?_) | (with_reducible refine (World.frozen?_setCell _ _ _ _).trans ?_) | (with_reducible refine (frozen_alloc_at _ _ (by first | omega | (simp; done) | (simp; omega))).trans ?_) | (with_reducible refine (hfwF _ _ (by first | omega | (simp; done) | (simp; omega))).trans ?_)))))
        | (go_at_call 81; (with_reducible refine (CY.out _).mono ?_); rintro e wF ⟨rfl, hbwF⟩; obtain ⟨hcwF, hfwF⟩ := bcell hbwF; have hzwF := hbwF.size; (try simp only [World.size_drew] at hcwF hfwF hzwF); have zF : w.heap.size + 1 + 1 + 1 + 1 < wF.heap.size := (by omega); have ywF0 : wF.cell? ⟨w.heap.size + 1 + 1 + 1 + 1, 0, none⟩ = some (.int .i64 0) := (by (repeat (first | with_reducible assumption | (with_reducible refine (cell_drew_at _ _).trans ?_) | (with_reducible refine (cell_set_at _ _ (by first | omega | (simp; done) | (simp; omega))).trans ?_) | (with_reducible refine (cell_alloc_at _ _ (by first | omega | (simp; done) | (simp; omega))).trans ?_) | (with_reducible refine (hcwF _ _ (by first | omega | (simp; done) | (simp; omega))).trans ?_)))); have ywF1 : wF.cell? ⟨w.heap.size + 1 + 1 + 1 + 1, 1, none⟩ = some (.int .i64 0) := (by (repeat (first | with_reducible assumption | (with_reducible refine (cell_drew_at _ _).trans ?_) | (with_reducible refine (cell_set_at _ _ (by first | omega | (simp; done) | (simp; omega))).trans ?_) | (with_reducible refine (cell_alloc_at _ _ (by first | omega | (simp; done) | (simp; omega))).trans ?_) | (with_reducible refine (hcwF _ _ (by first | omega | (simp; done) | (simp; omega))).trans ?_)))); have yfwF0 : wF.frozen? ⟨w.heap.size + 1 + 1 + 1 + 1, 0, none⟩ = false := (by (repeat (first | with_reducible assumption | (with_reducible refine (frozen_drew_at _ _).trans ?_) | (with_reducible refine (World.frozen?_setCell _ _ _ _).trans ?_) | (with_reducible refine (frozen_alloc_at _ _ (by first | omega | (simp; done) | (simp; omega))).trans ?_) | (with_reducible refine (hfwF _ _ (by first | omega | (simp; done) | (simp; omega))).trans ?_)))); have yfwF1 : wF.frozen? ⟨w.heap.size + 1 + 1 + 1 + 1, 1, none⟩ = false := (by (repeat (first | with_reducible assumption | (with_reducible refine (frozen_drew_at _ _).trans ?_) | (with_reducible refine (World.frozen?_setCell _ _ _ _).trans ?_) | (with_reducible refine (frozen_alloc_at _ _ (by first | omega | (simp; done) | (simp; omega))).trans ?_) | (with_reducible refine (hfwF _ _ (by first | omega | (simp; done) | (simp; omega))).trans ?_))))))
    all_goals
      have ra := AtL.of2 ywF0 ywF1 zF
      have rb := ra.store2 (a := .int .i64 (ax + X)) (b := .int .i64 (ay + Y))
      have r0 := rb.cell 0 rfl
      have r1 := rb.cell 1 rfl
      go_wp2
    all_goals refine bodyPost_ret (v := .agg #[.int .i64 (ax + X), .int .i64 (ay + Y)]) (by simp [results, Try.results57, go_sem, r0, r1]) rfl ⟨rfl, ?_⟩
    all_goals repeat' (first | with_reducible assumption | with_reducible exact Below.refl _ _ | (with_reducible refine Below.setCell ?_ ?_ _) | (with_reducible refine Below.alloc ?_ ?_ _) | (with_reducible refine Below.drew ?_) | (with_reducible refine below_dr ?_ _) | (with_reducible refine Below.trans ?_ (Below.mono (by with_reducible assumption) ?_)) | omega | (simp; done) | (simp; omega))
  · have hp : partI t0 (t0 - t1) = t0 := by unfold partI; rw [if_neg hm]
    have hq : wholeI (t0 - t1) = t0 - t1 := by unfold wholeI; rw [if_neg hm]
    rw [hp, hq] at CX CY
    rw [hp] at e6 e7
    have d1 : decide (t0 - t1 < 0) = false := by simpa using hm
    clear hp hq hm h
    go_enter Try.func57, Try.ntmps57
    go_wp2_with fail
    refine (CE.out _).mono ?_
    rintro e w1 ⟨q, n, cap, rfl, hn, hr, hbw1⟩
    have g1 : Below w.heap.size w w1 := (by repeat' (first | with_reducible assumption | with_reducible exact Below.refl _ _ | (with_reducible refine Below.setCell ?_ ?_ _) | (with_reducible refine Below.alloc ?_ ?_ _) | (with_reducible refine Below.drew ?_) | (with_reducible refine below_dr ?_ _) | (with_reducible refine Below.trans ?_ (Below.mono (by with_reducible assumption) ?_)) | omega | (simp; done) | (simp; omega)))
    obtain ⟨hcw1, hfw1⟩ := bcell hbw1
    have hzw1 := hbw1.size
    (try simp only [World.size_alloc] at hcw1 hfw1 hzw1)
    have s1 : w1.cell? ⟨w.heap.size, 0, none⟩ = some (.int .i64 ax) := (hcw1 _ _ (by omega)).trans (by first | assumption | (refine (cell_alloc_at _ _ ?_).trans ?_; omega; assumption) | (simp [go_sem]; done) | (simp [go_sem, *]; done))
    have s2 : w1.cell? ⟨w.heap.size, 1, none⟩ = some (.int .i64 ay) := (hcw1 _ _ (by omega)).trans (by first | assumption | (refine (cell_alloc_at _ _ ?_).trans ?_; omega; assumption) | (simp [go_sem]; done) | (simp [go_sem, *]; done))
    have s3 : w1.cell? ⟨w.heap.size + 1, 0, none⟩ = some (.int .i64 bx) := (hcw1 _ _ (by omega)).trans (by first | assumption | (refine (cell_alloc_at _ _ ?_).trans ?_; omega; assumption) | (simp [go_sem]; done) | (simp [go_sem, *]; done))
    have s4 : w1.cell? ⟨w.heap.size + 1, 1, none⟩ = some (.int .i64 ey) := (hcw1 _ _ (by omega)).trans (by first | assumption | (refine (cell_alloc_at _ _ ?_).trans ?_; omega; assumption) | (simp [go_sem]; done) | (simp [go_sem, *]; done))
    have s5 : w1.cell? ⟨w.heap.size + 1 + 1, 0, none⟩ = some (.int .i64 cx) := (hcw1 _ _ (by omega)).trans (by first | assumption | (refine (cell_alloc_at _ _ ?_).trans ?_; omega; assumption) | (simp [go_sem]; done) | (simp [go_sem, *]; done))
    have s6 : w1.cell? ⟨w.heap.size + 1 + 1, 1, none⟩ = some (.int .i64 cy) := (hcw1 _ _ (by omega)).trans (by first | assumption | (refine (cell_alloc_at _ _ ?_).trans ?_; omega; assumption) | (simp [go_sem]; done) | (simp [go_sem, *]; done))
    have s7 : w1.cell? ⟨w.heap.size + 1 + 1 + 1, 0, none⟩ = some (.int .i64 dx) := (hcw1 _ _ (by omega)).trans (by first | assumption | (refine (cell_alloc_at _ _ ?_).trans ?_; omega; assumption) | (simp [go_sem]; done) | (simp [go_sem, *]; done))
    have s8 : w1.cell? ⟨w.heap.size + 1 + 1 + 1, 1, none⟩ = some (.int .i64 dy) := (hcw1 _ _ (by omega)).trans (by first | assumption | (refine (cell_alloc_at _ _ ?_).trans ?_; omega; assumption) | (simp [go_sem]; done) | (simp [go_sem, *]; done))
    have s9 : w1.cell? ⟨w.heap.size + 1 + 1 + 1 + 1, 0, none⟩ = some (.int .i64 0) := (hcw1 _ _ (by omega)).trans (by first | assumption | (refine (cell_alloc_at _ _ ?_).trans ?_; omega; assumption) | (simp [go_sem]; done) | (simp [go_sem, *]; done))
    have s10 : w1.cell? ⟨w.heap.size + 1 + 1 + 1 + 1, 1, none⟩ = some (.int .i64 0) := (hcw1 _ _ (by omega)).trans (by first | assumption | (refine (cell_alloc_at _ _ ?_).trans ?_; omega; assumption) | (simp [go_sem]; done) | (simp [go_sem, *]; done))
    have szq0 : w.heap.size < w1.heap.size := (by omega)
    have szq1 : w.heap.size + 1 < w1.heap.size := (by omega)
    have szq2 : w.heap.size + 1 + 1 < w1.heap.size := (by omega)
    have szq3 : w.heap.size + 1 + 1 + 1 < w1.heap.size := (by omega)
    have sz : w.heap.size + 1 + 1 + 1 + 1 < w1.heap.size := (by omega)
    have fs40 : w1.frozen? ⟨w.heap.size + 1 + 1 + 1 + 1, 0, none⟩ = false := (hfw1 _ _ (by omega)).trans (by first | assumption | (refine (World.frozen?_alloc_old _ _ _ ?_).trans ?_; (simp; omega); assumption) | (simp [go_sem]; done) | (simp [go_sem, *]; done))
    have fs41 : w1.frozen? ⟨w.heap.size + 1 + 1 + 1 + 1, 1, none⟩ = false := (hfw1 _ _ (by omega)).trans (by first | assumption | (refine (World.frozen?_alloc_old _ _ _ ?_).trans ?_; (simp; omega); assumption) | (simp [go_sem]; done) | (simp [go_sem, *]; done))
    clear hcw1 hfw1 hzw1
    obtain rfl : n = 0 := hn
    clear hr
    go_wp2_with fail
    refine (T0.out _).mono ?_
    rintro e w2 ⟨rfl, hbw2⟩
    have g2 : Below w.heap.size w w2 := (by repeat' (first | with_reducible assumption | with_reducible exact Below.refl _ _ | (with_reducible refine Below.setCell ?_ ?_ _) | (with_reducible refine Below.alloc ?_ ?_ _) | (with_reducible refine Below.drew ?_) | (with_reducible refine below_dr ?_ _) | (with_reducible refine Below.trans ?_ (Below.mono (by with_reducible assumption) ?_)) | omega | (simp; done) | (simp; omega)))
    obtain ⟨hcw2, hfw2⟩ := bcell hbw2
    have hzw2 := hbw2.size
    (try simp only [World.size_alloc] at hcw2 hfw2 hzw2)
    have t1 : w2.cell? ⟨w.heap.size, 0, none⟩ = some (.int .i64 ax) := (hcw2 _ _ (by omega)).trans (by first | assumption | (refine (cell_alloc_at _ _ ?_).trans ?_; omega; assumption) | (simp [go_sem]; done) | (simp [go_sem, *]; done))
    have t2 : w2.cell? ⟨w.heap.size, 1, none⟩ = some (.int .i64 ay) := (hcw2 _ _ (by omega)).trans (by first | assumption | (refine (cell_alloc_at _ _ ?_).trans ?_; omega; assumption) | (simp [go_sem]; done) | (simp [go_sem, *]; done))
    have t3 : w2.cell? ⟨w.heap.size + 1, 0, none⟩ = some (.int .i64 bx) := (hcw2 _ _ (by omega)).trans (by first | assumption | (refine (cell_alloc_at _ _ ?_).trans ?_; omega; assumption) | (simp [go_sem]; done) | (simp [go_sem, *]; done))
    have t4 : w2.cell? ⟨w.heap.size + 1, 1, none⟩ = some (.int .i64 ey) := (hcw2 _ _ (by omega)).trans (by first | assumption | (refine (cell_alloc_at _ _ ?_).trans ?_; omega; assumption) | (simp [go_sem]; done) | (simp [go_sem, *]; done))
    have t5 : w2.cell? ⟨w.heap.size + 1 + 1, 0, none⟩ = some (.int .i64 cx) := (hcw2 _ _ (by omega)).trans (by first | assumption | (refine (cell_alloc_at _ _ ?_).trans ?_; omega; assumption) | (simp [go_sem]; done) | (simp [go_sem, *]; done))
    have t6 : w2.cell? ⟨w.heap.size + 1 + 1, 1, none⟩ = some (.int .i64 cy) := (hcw2 _ _ (by omega)).trans (by first | assumption | (refine (cell_alloc_at _ _ ?_).trans ?_; omega; assumption) | (simp [go_sem]; done) | (simp [go_sem, *]; done))
    have t7 : w2.cell? ⟨w.heap.size + 1 + 1 + 1, 0, none⟩ = some (.int .i64 dx) := (hcw2 _ _ (by omega)).trans (by first | assumption | (refine (cell_alloc_at _ _ ?_).trans ?_; omega; assumption) | (simp [go_sem]; done) | (simp [go_sem, *]; done))
    have t8 : w2.cell? ⟨w.heap.size + 1 + 1 + 1, 1, none⟩ = some (.int .i64 dy) := (hcw2 _ _ (by omega)).trans (by first | assumption | (refine (cell_alloc_at _ _ ?_).trans ?_; omega; assumption) | (simp [go_sem]; done) | (simp [go_sem, *]; done))
    have t9 : w2.cell? ⟨w.heap.size + 1 + 1 + 1 + 1, 0, none⟩ = some (.int .i64 0) := (hcw2 _ _ (by omega)).trans (by first | assumption | (refine (cell_alloc_at _ _ ?_).trans ?_; omega; assumption) | (simp [go_sem]; done) | (simp [go_sem, *]; done))
    have t10 : w2.cell? ⟨w.heap.size + 1 + 1 + 1 + 1, 1, none⟩ = some (.int .i64 0) := (hcw2 _ _ (by omega)).trans (by first | assumption | (refine (cell_alloc_at _ _ ?_).trans ?_; omega; assumption) | (simp [go_sem]; done) | (simp [go_sem, *]; done))
    have tzq0 : w.heap.size < w2.heap.size := (by omega)
    have tzq1 : w.heap.size + 1 < w2.heap.size := (by omega)
    have tzq2 : w.heap.size + 1 + 1 < w2.heap.size := (by omega)
    have tzq3 : w.heap.size + 1 + 1 + 1 < w2.heap.size := (by omega)
    have tz : w.heap.size + 1 + 1 + 1 + 1 < w2.heap.size := (by omega)
    have ft40 : w2.frozen? ⟨w.heap.size + 1 + 1 + 1 + 1, 0, none⟩ = false := (hfw2 _ _ (by omega)).trans (by first | assumption | (refine (World.frozen?_alloc_old _ _ _ ?_).trans ?_; (simp; omega); assumption) | (simp [go_sem]; done) | (simp [go_sem, *]; done))
    have ft41 : w2.frozen? ⟨w.heap.size + 1 + 1 + 1 + 1, 1, none⟩ = false := (hfw2 _ _ (by omega)).trans (by first | assumption | (refine (World.frozen?_alloc_old _ _ _ ?_).trans ?_; (simp; omega); assumption) | (simp [go_sem]; done) | (simp [go_sem, *]; done))
    clear hcw2 hfw2 hzw2
    go_wp2_with fail
    refine (T1.out _).mono ?_
    rintro e w3 ⟨rfl, hbw3⟩
    have g3 : Below w.heap.size w w3 := (by repeat' (first | with_reducible assumption | with_reducible exact Below.refl _ _ | (with_reducible refine Below.setCell ?_ ?_ _) | (with_reducible refine Below.alloc ?_ ?_ _) | (with_reducible refine Below.drew ?_) | (with_reducible refine below_dr ?_ _) | (with_reducible refine Below.trans ?_ (Below.mono (by with_reducible assumption) ?_)) | omega | (simp; done) | (simp; omega)))
    obtain ⟨hcw3, hfw3⟩ := bcell hbw3
    have hzw3 := hbw3.size
    (try simp only [World.size_alloc] at hcw3 hfw3 hzw3)
    have u1 : w3.cell? ⟨w.heap.size, 0, none⟩ = some (.int .i64 ax) := (hcw3 _ _ (by omega)).trans (by first | assumption | (refine (cell_alloc_at _ _ ?_).trans ?_; omega; assumption) | (simp [go_sem]; done) | (simp [go_sem, *]; done))
    have u2 : w3.cell? ⟨w.heap.size, 1, none⟩ = some (.int .i64 ay) := (hcw3 _ _ (by omega)).trans (by first | assumption | (refine (cell_alloc_at _ _ ?_).trans ?_; omega; assumption) | (simp [go_sem]; done) | (simp [go_sem, *]; done))
    have u3 : w3.cell? ⟨w.heap.size + 1, 0, none⟩ = some (.int .i64 bx) := (hcw3 _ _ (by omega)).trans (by first | assumption | (refine (cell_alloc_at _ _ ?_).trans ?_; omega; assumption) | (simp [go_sem]; done) | (simp [go_sem, *]; done))
    have u4 : w3.cell? ⟨w.heap.size + 1, 1, none⟩ = some (.int .i64 ey) := (hcw3 _ _ (by omega)).trans (by first | assumption | (refine (cell_alloc_at _ _ ?_).trans ?_; omega; assumption) | (simp [go_sem]; done) | (simp [go_sem, *]; done))
    have u5 : w3.cell? ⟨w.heap.size + 1 + 1, 0, none⟩ = some (.int .i64 cx) := (hcw3 _ _ (by omega)).trans (by first | assumption | (refine (cell_alloc_at _ _ ?_).trans ?_; omega; assumption) | (simp [go_sem]; done) | (simp [go_sem, *]; done))
    have u6 : w3.cell? ⟨w.heap.size + 1 + 1, 1, none⟩ = some (.int .i64 cy) := (hcw3 _ _ (by omega)).trans (by first | assumption | (refine (cell_alloc_at _ _ ?_).trans ?_; omega; assumption) | (simp [go_sem]; done) | (simp [go_sem, *]; done))
    have u7 : w3.cell? ⟨w.heap.size + 1 + 1 + 1, 0, none⟩ = some (.int .i64 dx) := (hcw3 _ _ (by omega)).trans (by first | assumption | (refine (cell_alloc_at _ _ ?_).trans ?_; omega; assumption) | (simp [go_sem]; done) | (simp [go_sem, *]; done))
    have u8 : w3.cell? ⟨w.heap.size + 1 + 1 + 1, 1, none⟩ = some (.int .i64 dy) := (hcw3 _ _ (by omega)).trans (by first | assumption | (refine (cell_alloc_at _ _ ?_).trans ?_; omega; assumption) | (simp [go_sem]; done) | (simp [go_sem, *]; done))
    have u9 : w3.cell? ⟨w.heap.size + 1 + 1 + 1 + 1, 0, none⟩ = some (.int .i64 0) := (hcw3 _ _ (by omega)).trans (by first | assumption | (refine (cell_alloc_at _ _ ?_).trans ?_; omega; assumption) | (simp [go_sem]; done) | (simp [go_sem, *]; done))
    have u10 : w3.cell? ⟨w.heap.size + 1 + 1 + 1 + 1, 1, none⟩ = some (.int .i64 0) := (hcw3 _ _ (by omega)).trans (by first | assumption | (refine (cell_alloc_at _ _ ?_).trans ?_; omega; assumption) | (simp [go_sem]; done) | (simp [go_sem, *]; done))
    have uzq0 : w.heap.size < w3.heap.size := (by omega)
    have uzq1 : w.heap.size + 1 < w3.heap.size := (by omega)
    have uzq2 : w.heap.size + 1 + 1 < w3.heap.size := (by omega)
    have uzq3 : w.heap.size + 1 + 1 + 1 < w3.heap.size := (by omega)
    have uz : w.heap.size + 1 + 1 + 1 + 1 < w3.heap.size := (by omega)
    have fu40 : w3.frozen? ⟨w.heap.size + 1 + 1 + 1 + 1, 0, none⟩ = false := (hfw3 _ _ (by omega)).trans (by first | assumption | (refine (World.frozen?_alloc_old _ _ _ ?_).trans ?_; (simp; omega); assumption) | (simp [go_sem]; done) | (simp [go_sem, *]; done))
    have fu41 : w3.frozen? ⟨w.heap.size + 1 + 1 + 1 + 1, 1, none⟩ = false := (hfw3 _ _ (by omega)).trans (by first | assumption | (refine (World.frozen?_alloc_old _ _ _ ?_).trans ?_; (simp; omega); assumption) | (simp [go_sem]; done) | (simp [go_sem, *]; done))
    clear hcw3 hfw3 hzw3
    clear T0 T1 CE s1 s2 s3 s4 s5 s6 s7 s8 s9 s10 t1 t2 t3 t4 t5 t6 t7 t8 t9 t10
    have zz0 : w.heap.size < w3.heap.size := by omega
    have zz1 : w.heap.size + 1 < w3.heap.size := by omega
    go_upto_region 9 with fail
    go_region_held3 (fun w' => (∀ b o, b < w.heap.size + 1 + 1 + 1 + 1 → w'.cell? ⟨b, o, none⟩ = w3.cell? ⟨b, o, none⟩) ∧ w3.heap.size ≤ w'.heap.size)
      (first | ((try dsimp only); exact ⟨fun b o h => (by (repeat (first | (revert b o h; apply And.left; with_reducible assumption) | with_reducible exact rfl | (with_reducible refine (cell_drew_at _ _).trans ?_) | (with_reducible refine (cell_set_at _ _ (by first | omega | (simp; done) | (simp; omega))).trans ?_) | (with_reducible refine (cell_alloc_at _ _ (by first | omega | (simp; done) | (simp; omega))).trans ?_) | (with_reducible refine (hcwF b o (by first | omega | (simp; done) | (simp; omega))).trans ?_)))), (by first | omega | (simp; done) | (simp; omega))⟩) | fail)
      (first
        | (go_at_call 81; (with_reducible refine (CX.out _).mono ?_); rintro e wF ⟨rfl, hbwF⟩; obtain ⟨hcwF, hfwF⟩ := bcell hbwF; have hzwF := hbwF.size; (try simp only [World.size_drew] at hcwF hfwF hzwF); have zF : w.heap.size + 1 + 1 + 1 + 1 < wF.heap.size := (by omega); have ywF0 : wF.cell? ⟨w.heap.size + 1 + 1 + 1 + 1, 0, none⟩ = some (.int .i64 0) := (by (repeat (first | with_reducible assumption | (with_reducible refine (cell_drew_at _ _).trans ?_) | (with_reducible refine (cell_set_at _ _ (by first | omega | (simp; done) | (simp; omega))).trans ?_) | (with_reducible refine (cell_alloc_at _ _ (by first | omega | (simp; done) | (simp; omega))).trans ?_) | (with_reducible refine (hcwF _ _ (by first | omega | (simp; done) | (simp; omega))).trans ?_)))); have ywF1 : wF.cell? ⟨w.heap.size + 1 + 1 + 1 + 1, 1, none⟩ = some (.int .i64 0) := (by (repeat (first | with_reducible assumption | (with_reducible refine (cell_drew_at _ _).trans ?_) | (with_reducible refine (cell_set_at _ _ (by first | omega | (simp; done) | (simp; omega))).trans ?_) | (with_reducible refine (cell_alloc_at _ _ (by first | omega | (simp; done) | (simp; omega))).trans ?_) | (with_reducible refine (hcwF _ _ (by first | omega | (simp; done) | (simp; omega))).trans ?_)))); have yfwF0 : wF.frozen? ⟨w.heap.size + 1 + 1 + 1 + 1, 0, none⟩ = false := (by (repeat (first | with_reducible assumption | (with_reducible refine (frozen_drew_at _ _).trans ?_) | (with_reducible refine (World.frozen?_setCell _ _ _ _).trans ?_) | (with_reducible refine (frozen_alloc_at _ _ (by first | omega | (simp; done) | (simp; omega))).trans ?_) | (with_reducible refine (hfwF _ _ (by first | omega | (simp; done) | (simp; omega))).trans ?_)))); have yfwF1 : wF.frozen? ⟨w.heap.size + 1 + 1 + 1 + 1, 1, none⟩ = false := (by (repeat (first | with_reducible assumption | (with_reducible refine (frozen_drew_at _ _).trans ?_) | (with_reducible refine (World.frozen?_setCell _ _ _ _).trans ?_) | (with_reducible refine (frozen_alloc_at _ _ (by first | omega | (simp; done) | (simp; omega))).trans ?_) | (with_reducible refine (hfwF _ _ (by first | omega | (simp; done) | (simp; omega))).trans ?_)))))
        | (go_at_call 81; (with_reducible refine (CY.out _).mono ?_); rintro e wF ⟨rfl, hbwF⟩; obtain ⟨hcwF, hfwF⟩ := bcell hbwF; have hzwF := hbwF.size; (try simp only [World.size_drew] at hcwF hfwF hzwF); have zF : w.heap.size + 1 + 1 + 1 + 1 < wF.heap.size := (by omega); have ywF0 : wF.cell? ⟨w.heap.size + 1 + 1 + 1 + 1, 0, none⟩ = some (.int .i64 0) := (by (repeat (first | with_reducible assumption | (with_reducible refine (cell_drew_at _ _).trans ?_) | (with_reducible refine (cell_set_at _ _ (by first | omega | (simp; done) | (simp; omega))).trans ?_) | (with_reducible refine (cell_alloc_at _ _ (by first | omega | (simp; done) | (simp; omega))).trans ?_) | (with_reducible refine (hcwF _ _ (by first | omega | (simp; done) | (simp; omega))).trans ?_)))); have ywF1 : wF.cell? ⟨w.heap.size + 1 + 1 + 1 + 1, 1, none⟩ = some (.int .i64 0) := (by (repeat (first | with_reducible assumption | (with_reducible refine (cell_drew_at _ _).trans ?_) | (with_reducible refine (cell_set_at _ _ (by first | omega | (simp; done) | (simp; omega))).trans ?_) | (with_reducible refine (cell_alloc_at _ _ (by first | omega | (simp; done) | (simp; omega))).trans ?_) | (with_reducible refine (hcwF _ _ (by first | omega | (simp; done) | (simp; omega))).trans ?_)))); have yfwF0 : wF.frozen? ⟨w.heap.size + 1 + 1 + 1 + 1, 0, none⟩ = false := (by (repeat (first | with_reducible assumption | (with_reducible refine (frozen_drew_at _ _).trans ?_) | (with_reducible refine (World.frozen?_setCell _ _ _ _).trans ?_) | (with_reducible refine (frozen_alloc_at _ _ (by first | omega | (simp; done) | (simp; omega))).trans ?_) | (with_reducible refine (hfwF _ _ (by first | omega | (simp; done) | (simp; omega))).trans ?_)))); have yfwF1 : wF.frozen? ⟨w.heap.size + 1 + 1 + 1 + 1, 1, none⟩ = false := (by (repeat (first | with_reducible assumption | (with_reducible refine (frozen_drew_at _ _).trans ?_) | (with_reducible refine (World.frozen?_setCell _ _ _ _).trans ?_) | (with_reducible refine (frozen_alloc_at _ _ (by first | omega | (simp; done) | (simp; omega))).trans ?_) | (with_reducible refine (hfwF _ _ (by first | omega | (simp; done) | (simp; omega))).trans ?_))))))
    all_goals
      have ra := AtL.of2 ywF0 ywF1 zF
      have rb := ra.store2 (a := .int .i64 (ax + X)) (b := .int .i64 (ay + Y))
      have r0 := rb.cell 0 rfl
      have r1 := rb.cell 1 rfl
      go_wp2
    all_goals refine bodyPost_ret (v := .agg #[.int .i64 (ax + X), .int .i64 (ay + Y)]) (by simp [results, Try.results57, go_sem, r0, r1]) rfl ⟨rfl, ?_⟩
    all_goals repeat' (first | with_reducible assumption | with_reducible exact Below.refl _ _ | (with_reducible refine Below.setCell ?_ ?_ _) | (with_reducible refine Below.alloc ?_ ?_ _) | (with_reducible refine Below.drew ?_) | (with_reducible refine below_dr ?_ _) | (with_reducible refine Below.trans ?_ (Below.mono (by with_reducible assumption) ?_)) | omega | (simp; done) | (simp; omega))
end Go.Proofs.Ytjhboedaaeaomaa
