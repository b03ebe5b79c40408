/- Walks: the pixels that a segment meets, the program's side. -/
import Derived.Test.YtnlhofepobkljaaIc
import Derived.Test.YtnlhofepobkljaaPs
import Derived.Test.YtnlhofepobkljaaBl
import Derived.Deep.RegionHeld3
namespace Go.Proofs.Ytnlhofepobkljaa
open Go.RowKit
set_option linter.unusedVariables false
set_option maxHeartbeats 1600000 in
theorem plusW_any (a b c d : Int) (w : World) (h1 : -1048576 ≤ a ∧ a ≤ 1048576) (h2 : -1048576 ≤ b ∧ b ≤ 1048576) (h3 : -1048576 ≤ c ∧ c ≤ 1048576) (h4 : -1048576 ≤ d ∧ d ≤ 1048576) :
    Calls Try.prog 114 #[.agg #[.int .i64 a, .int .i64 b], .agg #[.int .i64 c, .int .i64 d]] w fun e w' => e = .returned (.agg #[.int .i64 (a + c), .int .i64 (b + d)]) ∧ Below w.heap.size w w' := by
  obtain ⟨h1, k1⟩ := h1
  obtain ⟨h2, k2⟩ := h2
  obtain ⟨h3, k3⟩ := h3
  obtain ⟨h4, k4⟩ := h4
  go_enter Try.func114, Try.ntmps114
  go_wp2
  refine bodyPost_ret (v := .agg #[.int .i64 (a + c), .int .i64 (b + d)]) (by simp [results, Try.results114, go_sem]) rfl ⟨rfl, ?_⟩
  repeat' (first | with_reducible assumption | with_reducible exact Below.refl _ _ | (with_reducible refine Below.setCell ?_ ?_ _) | (with_reducible refine Below.alloc ?_ ?_ _) | (with_reducible refine Below.drew ?_) | (with_reducible refine below_dr ?_ _) | (with_reducible refine Below.trans ?_ (Below.mono (by with_reducible assumption) ?_)) | omega | (simp; done) | (simp; omega))
set_option maxHeartbeats 1600000 in
theorem times2_any (a b : Int) (w : World) (h1 : -1048576 ≤ a ∧ a ≤ 1048576) (h2 : -1048576 ≤ b ∧ b ≤ 1048576) :
    Calls Try.prog 110 #[.agg #[.int .i64 a, .int .i64 b], .int .i64 2] w fun e w' => e = .returned (.agg #[.int .i64 (2 * a), .int .i64 (2 * b)]) ∧ Below w.heap.size w w' := by
  obtain ⟨h1, k1⟩ := h1
  obtain ⟨h2, k2⟩ := h2
  go_enter Try.func110, Try.ntmps110
  go_wp2
  refine bodyPost_ret (v := .agg #[.int .i64 (2 * a), .int .i64 (2 * b)]) (by simp [results, Try.results110, go_sem]) rfl ⟨rfl, ?_⟩
  repeat' (first | with_reducible assumption | with_reducible exact Below.refl _ _ | (with_reducible refine Below.setCell ?_ ?_ _) | (with_reducible refine Below.alloc ?_ ?_ _) | (with_reducible refine Below.drew ?_) | (with_reducible refine below_dr ?_ _) | (with_reducible refine Below.trans ?_ (Below.mono (by with_reducible assumption) ?_)) | omega | (simp; done) | (simp; omega))
set_option maxHeartbeats 1600000 in
theorem crossW_any (a b c d : Int) (w : World) (h1 : -2097152 ≤ a ∧ a ≤ 2097152) (h2 : -2097152 ≤ b ∧ b ≤ 2097152) (h3 : -2097152 ≤ c ∧ c ≤ 2097152) (h4 : -2097152 ≤ d ∧ d ≤ 2097152) :
    Calls Try.prog 113 #[.agg #[.int .i64 a, .int .i64 b], .agg #[.int .i64 c, .int .i64 d]] w fun e w' => e = .returned (.int .i64 (a * d - b * c)) ∧ Below w.heap.size w w' := by
  have p1 := mulB (a := a) (b := d) (A := 2097152) (B := 2097152) h1.1 h1.2 h4.1 h4.2
  have p2 := mulB (a := b) (b := c) (A := 2097152) (B := 2097152) h2.1 h2.2 h3.1 h3.2
  clear h1 h2 h3 h4
  obtain ⟨p1, q1⟩ := p1
  obtain ⟨p2, q2⟩ := p2
  go_enter Try.func113, Try.ntmps113
  go_wp2
  go_ret
  exact ⟨rfl, by repeat' (first | with_reducible assumption | with_reducible exact Below.refl _ _ | (with_reducible refine Below.setCell ?_ ?_ _) | (with_reducible refine Below.alloc ?_ ?_ _) | (with_reducible refine Below.drew ?_) | (with_reducible refine below_dr ?_ _) | (with_reducible refine Below.trans ?_ (Below.mono (by with_reducible assumption) ?_)) | omega | (simp; done) | (simp; omega))⟩
def orJ (c d : Int) : Int := if c = 0 then d else c
theorem sgn_small (n : Int) : -1 ≤ sgnI n ∧ sgnI n ≤ 1 := by unfold sgnI; split <;> (try split) <;> omega
set_option maxHeartbeats 1600000 in
theorem orJ_any (c d : Int) (g : Nat) (w : World) (h0 : w.cell? ⟨g, 0, none⟩ = some (.int .i64 c)) (h1 : w.cell? ⟨g, 1, none⟩ = some (.int .i64 d)) :
    Calls Try.prog 111 #[.slice (some ⟨g, 0, none⟩) 2 2] w fun e w' => e = .returned (.int .i64 (orJ c d)) ∧ w = w' := by
  by_cases hc : c = 0
  · subst hc
    have H := Lib.hid (show d = orJ 0 d by simp [orJ])
    by_cases hd : d = 0
    · subst hd
      go_enter Try.func111, Try.ntmps111
      go_wp2
      refine wp_loop_rounds 3 ?_
      rw [rounds_succ]
      go_wp2
      rw [rounds_succ]
      go_wp2
      rw [rounds_succ]
      go_wp2
      go_ret
      exact ⟨ret_i64 H.out, rfl⟩
    · have e1 : (d != 0) = true := by simpa using hd
      clear hd
      go_enter Try.func111, Try.ntmps111
      go_wp2
      refine wp_loop_rounds 3 ?_
      rw [rounds_succ]
      go_wp2
      rw [rounds_succ]
      go_wp2
      go_ret
      exact ⟨ret_i64 H.out, rfl⟩
  · have H := Lib.hid (show c = orJ c d by simp [orJ, hc])
    have e1 : (c != 0) = true := by simpa using hc
    clear hc
    go_enter Try.func111, Try.ntmps111
    go_wp2
    refine wp_loop_rounds 3 ?_
    rw [rounds_succ]
    go_wp2
    go_ret
    exact ⟨ret_i64 H.out, rfl⟩
def cnX (k : Nat) : Int := [-1, 1, 1, -1].getD k 0
def cnY (k : Nat) : Int := [-1, -1, 1, 1].getD k 0
def sidesUp (dx dy qx qy : Int) (k : Nat) : Int := ((List.range k).map fun i => cornS dx dy qx qy (cnX i) (cnY i)).sum
theorem sidesUp_succ (dx dy qx qy : Int) (k : Nat) : sidesUp dx dy qx qy (k + 1) = sidesUp dx dy qx qy k + cornS dx dy qx qy (cnX k) (cnY k) := by
  unfold sidesUp; rw [List.range_succ, List.map_append, List.sum_append]; simp
theorem sidesUp_4 (dx dy qx qy : Int) : sidesUp dx dy qx qy 4 = sides dx dy qx qy := by
  rw [sidesUp_succ, sidesUp_succ, sidesUp_succ, sidesUp_succ]
  show 0 + _ + _ + _ + _ = _
  unfold sides
  rw [Int.zero_add]
  rfl
theorem cornS_b (dx dy qx qy cx cy : Int) : -1 ≤ cornS dx dy qx qy cx cy ∧ cornS dx dy qx qy cx cy ≤ 1 := by
  unfold cornS; split <;> exact sgn_small _
theorem sidesUp_b (dx dy qx qy : Int) (k : Nat) : -(k : Int) ≤ sidesUp dx dy qx qy k ∧ sidesUp dx dy qx qy k ≤ (k : Int) := by
  induction k with
  | zero => unfold sidesUp; simp
  | succ k h1 =>
    have h2 := cornS_b dx dy qx qy (cnX k) (cnY k)
    rw [sidesUp_succ]
    omega
end Go.Proofs.Ytnlhofepobkljaa
