/- Walks: second differences, sizes, bends, on both sides. -/
import Derived.Test.YticgomikfleabaaCa
import Derived.Test.YticgomikfleabaaCn
import Derived.Test.YticgomikfleabaaPv
import Derived.Lib.MinMax
namespace Go.Proofs.Yticgomikfleabaa
open Go.RowKit

set_option maxHeartbeats 400000 in
theorem l00MaxC_any (a b : Int) (w : World) :
    Calls Try.prog 99 #[.int .i64 a, .int .i64 b] w fun e w' => e = .returned (.int .i64 (max a b)) ∧ w = w' := by
  by_cases h : b < a
  · have H := Lib.hid (show a = max a b by omega)
    go_enter Try.func99, Try.ntmps99
    go_wp2
    go_ret
    exact ⟨ret_i64 H.out, rfl⟩
  · have H := Lib.hid (show b = max a b by omega)
    have h2 : decide (b < a) = false := by simpa using h
    go_enter Try.func99, Try.ntmps99
    go_wp2
    go_ret
    exact ⟨ret_i64 H.out, rfl⟩
set_option maxHeartbeats 800000 in
theorem l09Size_any (x y : Int) (w : World) (hx : -1048576 ≤ x ∧ x ≤ 1048576) (hy : -1048576 ≤ y ∧ y ≤ 1048576) :
    Calls Try.prog 93 #[.agg #[.int .i64 x, .int .i64 y]] w fun e w' => e = .returned (.int .i64 (szI x y)) ∧ Below w.heap.size w w' := by
  obtain ⟨x1, x2⟩ := hx
  obtain ⟨y1, y2⟩ := hy
  have M1 := Lib.hid (fun w => l00MaxC_any x (-x) w)
  have M2 := Lib.hid (fun w => l00MaxC_any y (-y) w)
  have k1 : 0 ≤ max x (-x) ∧ max x (-x) ≤ 1048576 := by omega
  have k2 : 0 ≤ max y (-y) ∧ max y (-y) ≤ 1048576 := by omega
  have H := Lib.hid (show max x (-x) + max y (-y) = szI x y from rfl)
  generalize max x (-x) = p at M1 k1 H
  generalize max y (-y) = q at M2 k2 H
  obtain ⟨p1, p2⟩ := k1
  obtain ⟨q1, q2⟩ := k2
  go_enter Try.func93, Try.ntmps93
  go_wp2_with fail
  go_quiet (first | (go_at_call 99; with_reducible exact Calls.quiet_of_same ((M1.out _).mono fun _ _ h => ⟨h.1, h.2.symm⟩)) | (go_at_call 99; with_reducible exact Calls.quiet_of_same ((M2.out _).mono fun _ _ h => ⟨h.1, h.2.symm⟩)))
  go_wp2
  go_ret
  exact ⟨ret_i64 H.out, by repeat' (first | with_reducible assumption | with_reducible exact Below.refl _ _ | (with_reducible refine Below.setCell ?_ ?_ _) | (with_reducible refine Below.alloc ?_ ?_ _) | (with_reducible refine Below.drew ?_) | (with_reducible refine below_dr ?_ _) | (with_reducible refine Below.trans ?_ (Below.mono (by with_reducible assumption) ?_)) | omega | (simp; done) | (simp; omega))⟩
set_option maxHeartbeats 800000 in
theorem implSize_any (x y : Int) (w : World) (hx : -1048576 ≤ x ∧ x ≤ 1048576) (hy : -1048576 ≤ y ∧ y ≤ 1048576) :
    Calls Try.prog 37 #[.agg #[.int .i64 x, .int .i64 y]] w fun e w' => e = .returned (.int .i64 (szI x y)) ∧ Below w.heap.size w w' := by
  obtain ⟨x1, x2⟩ := hx
  obtain ⟨y1, y2⟩ := hy
  have k1 : 0 ≤ max x (-x) ∧ max x (-x) ≤ 1048576 := by omega
  have k2 : 0 ≤ max y (-y) ∧ max y (-y) ≤ 1048576 := by omega
  have H := Lib.hid (show max x (-x) + max y (-y) = szI x y from rfl)
  obtain ⟨p1, p2⟩ := k1
  obtain ⟨q1, q2⟩ := k2
  go_enter Try.func37, Try.ntmps37
  go_wp2
  go_ret
  exact ⟨ret_i64 H.out, by repeat' (first | with_reducible assumption | with_reducible exact Below.refl _ _ | (with_reducible refine Below.setCell ?_ ?_ _) | (with_reducible refine Below.alloc ?_ ?_ _) | (with_reducible refine Below.drew ?_) | (with_reducible refine below_dr ?_ _) | (with_reducible refine Below.trans ?_ (Below.mono (by with_reducible assumption) ?_)) | omega | (simp; done) | (simp; omega))⟩
set_option maxHeartbeats 800000 in
theorem l09Second_any (a0 a1 b0 b1 c0 c1 : Int) (w : World) (h0 : okB a0 a1 = true) (h1 : okB b0 b1 = true) (h2 : okB c0 c1 = true) :
    Calls Try.prog 94 #[.agg #[.int .i64 a0, .int .i64 a1], .agg #[.int .i64 b0, .int .i64 b1], .agg #[.int .i64 c0, .int .i64 c1]] w fun e w' => e = .returned (.agg #[.int .i64 (a0 - 2 * b0 + c0), .int .i64 (a1 - 2 * b1 + c1)]) ∧ Below w.heap.size w w' := by
  obtain ⟨z01, z02, z03, z04⟩ := okB_bounds h0
  obtain ⟨z11, z12, z13, z14⟩ := okB_bounds h1
  obtain ⟨z21, z22, z23, z24⟩ := okB_bounds h2
  clear h0 h1 h2
  go_enter Try.func94, Try.ntmps94
  go_wp2
  refine bodyPost_ret (v := .agg #[.int .i64 (a0 - 2 * b0 + c0), .int .i64 (a1 - 2 * b1 + c1)]) (by simp [results, Try.results94, go_sem]) rfl ⟨rfl, ?_⟩
  repeat' (first | with_reducible assumption | with_reducible exact Below.refl _ _ | (with_reducible refine Below.setCell ?_ ?_ _) | (with_reducible refine Below.alloc ?_ ?_ _) | (with_reducible refine Below.drew ?_) | (with_reducible refine below_dr ?_ _) | (with_reducible refine Below.trans ?_ (Below.mono (by with_reducible assumption) ?_)) | omega | (simp; done) | (simp; omega))
set_option maxHeartbeats 1600000 in
theorem secDiff_any (a0 a1 b0 b1 c0 c1 : Int) (w : World) (h0 : okB a0 a1 = true) (h1 : okB b0 b1 = true) (h2 : okB c0 c1 = true) :
    Calls Try.prog 36 #[.agg #[.int .i64 a0, .int .i64 a1], .agg #[.int .i64 b0, .int .i64 b1], .agg #[.int .i64 c0, .int .i64 c1]] w fun e w' => e = .returned (.agg #[.int .i64 (a0 - 2 * b0 + c0), .int .i64 (a1 - 2 * b1 + c1)]) ∧ Below w.heap.size w w' := by
  obtain ⟨z01, z02, z03, z04⟩ := okB_bounds h0
  obtain ⟨z11, z12, z13, z14⟩ := okB_bounds h1
  obtain ⟨z21, z22, z23, z24⟩ := okB_bounds h2
  clear h0 h1 h2
  go_enter Try.func36, Try.ntmps36
  go_wp2_with fail
  generalize hW : ((((w.alloc (.cells #[.int .i64 a0, .int .i64 a1] 29)).alloc (.cells #[.int .i64 b0, .int .i64 b1] 29)).alloc (.cells #[.int .i64 c0, .int .i64 c1] 29)).alloc (.cells #[.int .i64 0, .int .i64 0] 29)) = W0
  have g0 : Below w.heap.size w W0 := by rw [← hW]; repeat' (first | assumption | exact Below.refl _ _ | (refine Below.setCell ?_ ?_ _) | (refine Below.alloc ?_ ?_ _) | (refine below_dr ?_ _) | exact Nat.le_refl _ | (simp; done) | (simp; omega))
  have s1 : W0.cell? ⟨w.heap.size, 0, none⟩ = some (.int .i64 a0) := by rw [← hW]; simp [go_sem]
  have s2 : W0.cell? ⟨w.heap.size, 1, none⟩ = some (.int .i64 a1) := by rw [← hW]; simp [go_sem]
  have s3 : W0.cell? ⟨w.heap.size + 1, 0, none⟩ = some (.int .i64 b0) := by rw [← hW]; simp [go_sem]
  have s4 : W0.cell? ⟨w.heap.size + 1, 1, none⟩ = some (.int .i64 b1) := by rw [← hW]; simp [go_sem]
  have s5 : W0.cell? ⟨w.heap.size + 1 + 1, 0, none⟩ = some (.int .i64 c0) := by rw [← hW]; simp [go_sem]
  have s6 : W0.cell? ⟨w.heap.size + 1 + 1, 1, none⟩ = some (.int .i64 c1) := by rw [← hW]; simp [go_sem]
  have s7 : W0.cell? ⟨w.heap.size + 1 + 1 + 1, 0, none⟩ = some (.int .i64 0) := by rw [← hW]; simp [go_sem]
  have s8 : W0.cell? ⟨w.heap.size + 1 + 1 + 1, 1, none⟩ = some (.int .i64 0) := by rw [← hW]; simp [go_sem]
  have f0 : W0.frozen? ⟨w.heap.size + 1 + 1 + 1, 0, none⟩ = false := by rw [← hW]; simp [go_sem]
  have f1 : W0.frozen? ⟨w.heap.size + 1 + 1 + 1, 1, none⟩ = false := by rw [← hW]; simp [go_sem]
  have sz : w.heap.size + 1 + 1 + 1 < W0.heap.size := by rw [← hW]; simp
  clear hW
  go_region_held3 (fun w' => w'.frozen? ⟨w.heap.size + 1 + 1 + 1, 0, none⟩ = false ∧ w'.frozen? ⟨w.heap.size + 1 + 1 + 1, 1, none⟩ = false ∧ w'.cell? ⟨w.heap.size, 0, none⟩ = some (.int .i64 a0) ∧ w'.cell? ⟨w.heap.size, 1, none⟩ = some (.int .i64 a1) ∧ w'.cell? ⟨w.heap.size + 1, 0, none⟩ = some (.int .i64 b0) ∧ w'.cell? ⟨w.heap.size + 1, 1, none⟩ = some (.int .i64 b1) ∧ w'.cell? ⟨w.heap.size + 1 + 1, 0, none⟩ = some (.int .i64 c0) ∧ w'.cell? ⟨w.heap.size + 1 + 1, 1, none⟩ = some (.int .i64 c1) ∧ w.heap.size + 1 + 1 + 1 < w'.heap.size)
    (first | ((try dsimp only); (repeat' apply And.intro); all_goals (first | assumption | omega | (simp (disch := first | omega | (simp; omega)) [*]; done) | (rw [cell_set_at _ _ (by first | omega | (simp; omega)), cell_set_at _ _ (by first | omega | (simp; omega))]; first | assumption | (simp (disch := first | omega | (simp; omega)) [*]; done)) | (simp; omega))) | fail)
    (first
      | (go_at_call 67; (with_reducible refine (times_g _ _ _ _ (by omega) (by omega)).mono ?_); rintro e wA ⟨rfl, hbwA⟩; obtain ⟨hcwA, hfwA⟩ := bcell hbwA; have hzwA := hbwA.size; (try simp only [World.size_drew] at hcwA hfwA hzwA); (try simp only [World.size_alloc] at hcwA hfwA hzwA); have qwA : w.heap.size + 1 + 1 + 1 < wA.heap.size := (by omega))
      | (go_at_call 66; (with_reducible refine (minus_g _ _ _ _ _ (by omega) (by omega)).mono ?_); rintro e wB ⟨rfl, hbwB⟩; obtain ⟨hcwB, hfwB⟩ := bcell hbwB; have hzwB := hbwB.size; (try simp only [World.size_drew] at hcwB hfwB hzwB); (try simp only [World.size_alloc] at hcwB hfwB hzwB); have qwB : w.heap.size + 1 + 1 + 1 < wB.heap.size := (by omega))
      | (go_at_call 68; (with_reducible refine (plus_g _ _ _ _ _ (by omega) (by omega)).mono ?_); rintro e wC ⟨rfl, hbwC⟩; obtain ⟨hcwC, hfwC⟩ := bcell hbwC; have hzwC := hbwC.size; (try simp only [World.size_drew] at hcwC hfwC hzwC); (try simp only [World.size_alloc] at hcwC hfwC hzwC); have qwC : w.heap.size + 1 + 1 + 1 < wC.heap.size := (by omega)))
  have ra := AtL.of2 s7 s8 sz
  have rb : AtL (w.heap.size + 1 + 1 + 1) [.int .i64 0, .int .i64 0] wC := by repeat' (first | with_reducible assumption | with_reducible exact AtL.new _ _ _ | (with_reducible refine AtL.drew ?_) | (with_reducible apply AtL.store2) | (with_reducible refine AtL.alloc ?_ _) | (with_reducible refine AtL.far ?_ ?_ _ _) | (with_reducible refine AtL.below ?_ (by with_reducible assumption)) | omega | (simp; done) | (simp; omega))
  have rc := rb.store2 (a := .int .i64 (a0 - 2 * b0 + c0)) (b := .int .i64 (a1 - 2 * b1 + c1))
  have r0 := rc.cell 0 rfl
  have r1 := rc.cell 1 rfl
  clear ra rb rc
  go_wp2
  refine bodyPost_ret (v := .agg #[.int .i64 (a0 - 2 * b0 + c0), .int .i64 (a1 - 2 * b1 + c1)]) (by simp [results, Try.results36, go_sem, r0, r1]) rfl ⟨rfl, ?_⟩
  repeat' (first | with_reducible assumption | with_reducible exact Below.refl _ _ | (with_reducible refine Below.setCell ?_ ?_ _) | (with_reducible refine Below.alloc ?_ ?_ _) | (with_reducible refine Below.drew ?_) | (with_reducible refine below_dr ?_ _) | (with_reducible refine Below.trans ?_ (Below.mono (by with_reducible assumption) ?_)) | omega | (simp; done) | (simp; omega))
end Go.Proofs.Yticgomikfleabaa
