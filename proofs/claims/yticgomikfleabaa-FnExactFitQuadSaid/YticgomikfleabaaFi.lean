/- Walks: the points along a curve, one by one: what the iterator gives. -/
import Derived.Test.YticgomikfleabaaFh
namespace Go.Proofs.Yticgomikfleabaa
open Go.RowKit Go.Shelf
set_option linter.unusedVariables false
attribute [local go_sem] Oper.semAt_some
def upP (f : Nat → APt) (k : Nat) : List APt := (List.range k).map f
theorem upP_succ (f : Nat → APt) (k : Nat) : upP f (k + 1) = upP f k ++ [f k] := by simp [upP, List.range_succ]
theorem upP_len (f : Nat → APt) (k : Nat) : (upP f k).length = k := by simp [upP]
theorem upP_pre (f : Nat → APt) {k n : Nat} (h : k ≤ n) : upP f k <+: upP f n := by
  obtain ⟨d, rfl⟩ : ∃ d, n = k + d := ⟨n - k, by omega⟩
  exact ⟨(List.range d).map (fun i => f (k + i)), by simp [upP, List.range_add]⟩
set_option maxRecDepth 100000 in
set_option maxHeartbeats 4000000 in
theorem along1Q_in (m0 m1 m2 m3 m4 m5 lv : Int) (N : Nat) (f : Nat → APt) (hN : N ≤ 64) (hshl : ∀ w, (Go.Op.shift .shl .i64 1 .i64 lv).run Try.prog w = .ok (.int .i64 (N : Int)) w)
    (AT : ∀ k : Nat, k ≤ N → ∀ w, Calls Try.prog 71 #[.agg #[.int .i64 m0, .int .i64 m1, .int .i64 m2, .int .i64 m3, .int .i64 m4, .int .i64 m5], .int .i64 (k : Int), .int .i64 (N : Int)] w fun e w' => e = .returned (.agg #[.int .i64 (f k).1, .int .i64 (f k).2]) ∧ Below w.heap.size w w')
    (l Bl Bb n₀ : Nat) (J Jx : List APt → World → Prop)
    (hY : ∀ pre x W, J pre W → pre.length < N + 1 → YieldAt Fence.wide 3 Try.prog l (encP x) W fun e W' => (e = .returned (.bool true) ∧ J (pre ++ [x]) W' ∧ Below n₀ W W') ∨ (e = .returned (.bool false) ∧ Jx (pre ++ [x]) W'))
    (W : World) (hl : W.cell? ⟨Bl, 0, none⟩ = some (.int .i64 lv)) (b0 : W.cell? ⟨Bb, 0, none⟩ = some (.int .i64 m0)) (b1 : W.cell? ⟨Bb, 1, none⟩ = some (.int .i64 m1)) (b2 : W.cell? ⟨Bb, 2, none⟩ = some (.int .i64 m2)) (b3 : W.cell? ⟨Bb, 3, none⟩ = some (.int .i64 m3)) (b4 : W.cell? ⟨Bb, 4, none⟩ = some (.int .i64 m4)) (b5 : W.cell? ⟨Bb, 5, none⟩ = some (.int .i64 m5)) (hBl : Bl < n₀) (hBb : Bb < n₀) (hn₀ : n₀ ≤ W.heap.size) (hJ : AbidesFrom W.heap.size J) (h0 : J [] W) :
    CallsIn Fence.wide 4 Try.prog 70 #[.func (.yield l) #[] #[], .pointer (some ⟨Bl, 0, none⟩), .pointer (some ⟨Bb, 0, none⟩)] W fun e W' => (∃ v, e = .returned v) ∧
      ((∃ ys, ys = upP f (N + 1) ∧ J ys W') ∨ (∃ pre, pre <+: upP f (N + 1) ∧ Jx pre W')) := by
  have CA := Lib.hid AT
  clear AT
  refine callsIn_of_wp Try.func70 rfl trivial ?_ rfl
  simp only [Try.ntmps70, List.size_toArray, List.length_cons, List.length_nil, Nat.reduceAdd, Nat.reduceSub, Array.replicate_succ, Array.replicate_zero, List.push_toArray, List.append_toArray, List.nil_append, List.cons_append]
  gi_wp2
  gi_loopw [10] (fun i wr => ∃ k : Nat, k ≤ N + 1 ∧ i = .int .i64 k ∧ J (upP f k) wr ∧ Below n₀ W wr) (fun i _ => N + 1 - (intOf i).toNat)
  case atStart => exact ⟨0, Nat.zero_le _, rfl, h0, Below.refl _ _⟩
  case round =>
    obtain ⟨k, hk, rfl, hJs, hnx⟩ := hrel
    have hsz := hnx.size
    have d0 := (hnx.cell (p := ⟨Bb, 0, none⟩) hBb).trans b0
    have d1 := (hnx.cell (p := ⟨Bb, 1, none⟩) hBb).trans b1
    have d2 := (hnx.cell (p := ⟨Bb, 2, none⟩) hBb).trans b2
    have d3 := (hnx.cell (p := ⟨Bb, 3, none⟩) hBb).trans b3
    have d4 := (hnx.cell (p := ⟨Bb, 4, none⟩) hBb).trans b4
    have d5 := (hnx.cell (p := ⟨Bb, 5, none⟩) hBb).trans b5
    by_cases hlt : k < N + 1
    · have hki : (k : Int) < (N : Int) + 1 := by omega
      gi_wp2_with (refine ⟨trivial, ?_⟩; gi_at_call 71; refine (callsIn_wide.2 (CA.out k (by omega) _)).mono ?_; rintro e w1 ⟨rfl, hb1⟩; obtain ⟨fn, tmps, assign, body, hy, hR⟩ := hY _ (f k) w1 (hJ _ _ _ none hJs (grown_of_below hb1) (fun r e => by cases e)) (by rw [upP_len]; exact hlt); simp only [encP] at hy)
      refine hR.mono ?_
      rintro e W3 (⟨rfl, hJ3, hk3⟩ | ⟨rfl, hJx3⟩)
      · gi_wp2
        go_roundw
        case rel => exact ⟨k + 1, by omega, by go_num, by rw [upP_succ]; exact hJ3, (hnx.trans (hb1.mono (by omega))).trans hk3⟩
        case measure => simp [intOf]; omega
      · gi_wp2
        refine bodyPost_ret (results_none rfl _ _ _) rfl ?_
        exact ⟨⟨_, rfl⟩, .inr ⟨upP f (k + 1), upP_pre f (by omega), by rw [upP_succ]; exact hJx3⟩⟩
    · obtain rfl : k = N + 1 := by omega
      gi_wp2
      go_end0
      exact ⟨⟨_, rfl⟩, .inl ⟨_, rfl, hJs⟩⟩
end Go.Proofs.Yticgomikfleabaa
