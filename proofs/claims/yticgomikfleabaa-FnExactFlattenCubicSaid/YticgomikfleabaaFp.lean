/- Walks: a cubic is flattened, both sides; the law on FlattenCubic: it returns true. -/
import Derived.Test.YticgomikfleabaaFm
import Derived.Test.YticgomikfleabaaCh
import Derived.Test.YticgomikfleabaaCu2
import Derived.Test.YticgomikfleabaaCw3
namespace Go.Proofs.Yticgomikfleabaa
open Go.RowKit Go.Shelf
set_option linter.unusedVariables false
set_option maxRecDepth 100000 in
set_option maxHeartbeats 4000000 in
theorem along1C_in (m0 m1 m2 m3 m4 m5 m6 m7 lv : Int) (N : Nat) (f : Nat → APt) (hN : N ≤ 64) (hshl : ∀ w, (Go.Op.shift .shl .i64 1 .i64 lv).run Try.prog w = .ok (.int .i64 (N : Int)) w)
    (AT : ∀ k : Nat, k ≤ N → ∀ w, Calls Try.prog 77 #[.agg #[.int .i64 m0, .int .i64 m1, .int .i64 m2, .int .i64 m3, .int .i64 m4, .int .i64 m5, .int .i64 m6, .int .i64 m7], .int .i64 (k : Int), .int .i64 (N : Int)] w fun e w' => e = .returned (.agg #[.int .i64 (f k).1, .int .i64 (f k).2]) ∧ Below w.heap.size w w')
    (l Bl Bb n₀ : Nat) (J Jx : List APt → World → Prop)
    (hY : ∀ pre x W, J pre W → pre.length < N + 1 → YieldAt Fence.wide 3 Try.prog l (encP x) W fun e W' => (e = .returned (.bool true) ∧ J (pre ++ [x]) W' ∧ Below n₀ W W') ∨ (e = .returned (.bool false) ∧ Jx (pre ++ [x]) W'))
    (W : World) (hl : W.cell? ⟨Bl, 0, none⟩ = some (.int .i64 lv)) (b0 : W.cell? ⟨Bb, 0, none⟩ = some (.int .i64 m0)) (b1 : W.cell? ⟨Bb, 1, none⟩ = some (.int .i64 m1)) (b2 : W.cell? ⟨Bb, 2, none⟩ = some (.int .i64 m2)) (b3 : W.cell? ⟨Bb, 3, none⟩ = some (.int .i64 m3)) (b4 : W.cell? ⟨Bb, 4, none⟩ = some (.int .i64 m4)) (b5 : W.cell? ⟨Bb, 5, none⟩ = some (.int .i64 m5)) (b6 : W.cell? ⟨Bb, 6, none⟩ = some (.int .i64 m6)) (b7 : W.cell? ⟨Bb, 7, none⟩ = some (.int .i64 m7)) (hBl : Bl < n₀) (hBb : Bb < n₀) (hn₀ : n₀ ≤ W.heap.size) (hJ : AbidesFrom W.heap.size J) (h0 : J [] W) :
    CallsIn Fence.wide 4 Try.prog 76 #[.func (.yield l) #[] #[], .pointer (some ⟨Bl, 0, none⟩), .pointer (some ⟨Bb, 0, none⟩)] W fun e W' => (∃ v, e = .returned v) ∧
      ((∃ ys, ys = upP f (N + 1) ∧ J ys W') ∨ (∃ pre, pre <+: upP f (N + 1) ∧ Jx pre W')) := by
  have CA := Lib.hid AT
  clear AT
  refine callsIn_of_wp Try.func76 rfl trivial ?_ rfl
  simp only [Try.ntmps76, List.size_toArray, List.length_cons, List.length_nil, Nat.reduceAdd, Nat.reduceSub, Array.replicate_succ, Array.replicate_zero, List.push_toArray, List.append_toArray, List.nil_append, List.cons_append]
  gi_wp2
  gi_loopw [10] (fun i wr => ∃ k : Nat, k ≤ N + 1 ∧ i = .int .i64 k ∧ J (upP f k) wr ∧ Below n₀ W wr) (fun i _ => N + 1 - (intOf i).toNat)
  case atStart => exact ⟨0, Nat.zero_le _, rfl, h0, Below.refl _ _⟩
  case round =>
    obtain ⟨k, hk, rfl, hJs, hnx⟩ := hrel
    have hsz := hnx.size
    have d0 := (hnx.cell (p := ⟨Bb, 0, none⟩) hBb).trans b0
    have d1 := (hnx.cell (p := ⟨Bb, 1, none⟩) hBb).trans b1
    have d2 := (hnx.cell (p := ⟨Bb, 2, none⟩) hBb).trans b2
    have d3 := (hnx.cell (p := ⟨Bb, 3, none⟩) hBb).trans b3
    have d4 := (hnx.cell (p := ⟨Bb, 4, none⟩) hBb).trans b4
    have d5 := (hnx.cell (p := ⟨Bb, 5, none⟩) hBb).trans b5
    have d6 := (hnx.cell (p := ⟨Bb, 6, none⟩) hBb).trans b6
    have d7 := (hnx.cell (p := ⟨Bb, 7, none⟩) hBb).trans b7
    by_cases hlt : k < N + 1
    · have hki : (k : Int) < (N : Int) + 1 := by omega
      gi_wp2_with (refine ⟨trivial, ?_⟩; gi_at_call 77; refine (callsIn_wide.2 (CA.out k (by omega) _)).mono ?_; rintro e w1 ⟨rfl, hb1⟩; obtain ⟨fn, tmps, assign, body, hy, hR⟩ := hY _ (f k) w1 (hJ _ _ _ none hJs (grown_of_below hb1) (fun r e => by cases e)) (by rw [upP_len]; exact hlt); simp only [encP] at hy)
      refine hR.mono ?_
      rintro e W3 (⟨rfl, hJ3, hk3⟩ | ⟨rfl, hJx3⟩)
      · gi_wp2
        go_roundw
        case rel => exact ⟨k + 1, by omega, by go_num, by rw [upP_succ]; exact hJ3, (hnx.trans (hb1.mono (by omega))).trans hk3⟩
        case measure => simp [intOf]; omega
      · gi_wp2
        refine bodyPost_ret (results_none rfl _ _ _) rfl ?_
        exact ⟨⟨_, rfl⟩, .inr ⟨upP f (k + 1), upP_pre f (by omega), by rw [upP_succ]; exact hJx3⟩⟩
    · obtain rfl : k = N + 1 := by omega
      gi_wp2
      go_end0
      exact ⟨⟨_, rfl⟩, .inl ⟨_, rfl, hJs⟩⟩
def crvC (m0 m1 m2 m3 m4 m5 m6 m7 n : Int) (k : Nat) : APt := (near (mixI m0 m2 m4 m6 k n) (n * n * n), near (mixI m1 m3 m5 m7 k n) (n * n * n))
def flCl (m0 m1 m2 m3 m4 m5 m6 m7 t : Int) : List APt := if lvC m0 m1 m2 m3 m4 m5 m6 m7 t = 0 then upP (crvC m0 m1 m2 m3 m4 m5 m6 m7 (pwN (lvV m0 m1 m2 m3 m4 m5 m6 m7 t))) (pwN (lvV m0 m1 m2 m3 m4 m5 m6 m7 t) + 1) else []
theorem lvV_in (m0 m1 m2 m3 m4 m5 m6 m7 t : Int) : 0 ≤ lvV m0 m1 m2 m3 m4 m5 m6 m7 t ∧ lvV m0 m1 m2 m3 m4 m5 m6 m7 t ≤ 6 := by
  unfold lvV
  rcases okC m0 m1 m2 m3 m4 m5 m6 m7 with _ | _
  · simp
  · simp only [cond_true]
    split
    · exact levV_in _ _
    · omega
theorem lvC_ok {m0 m1 m2 m3 m4 m5 m6 m7 t : Int} (h : lvC m0 m1 m2 m3 m4 m5 m6 m7 t = 0) : okC m0 m1 m2 m3 m4 m5 m6 m7 = true := by
  rcases hv : okC m0 m1 m2 m3 m4 m5 m6 m7 with _ | _
  · unfold lvC at h; rw [hv] at h; simp at h
  · rfl
theorem flCl_len (m0 m1 m2 m3 m4 m5 m6 m7 t : Int) : (flCl m0 m1 m2 m3 m4 m5 m6 m7 t).length ≤ 65 := by
  unfold flCl
  split
  · obtain ⟨L0, L6⟩ := lvV_in m0 m1 m2 m3 m4 m5 m6 m7 t
    obtain ⟨N1, N64, SH, SW⟩ := shl_one L0 L6
    rw [upP_len]; omega
  · simp
set_option maxHeartbeats 1600000 in
theorem along4_any (m0 m1 m2 m3 m4 m5 m6 m7 lv : Int) (w : World) :
    Calls Try.prog 46 #[.agg #[.int .i64 m0, .int .i64 m1, .int .i64 m2, .int .i64 m3, .int .i64 m4, .int .i64 m5, .int .i64 m6, .int .i64 m7], .int .i64 lv] w fun e w' => e = .returned (.func (.func 76) #[] #[.pointer (some ⟨w.heap.size + 1, 0, none⟩), .pointer (some ⟨w.heap.size, 0, none⟩)]) ∧ Below w.heap.size w w' ∧
      w'.cell? ⟨w.heap.size + 1, 0, none⟩ = some (.int .i64 lv) ∧ w'.cell? ⟨w.heap.size, 0, none⟩ = some (.int .i64 m0) ∧ w'.cell? ⟨w.heap.size, 1, none⟩ = some (.int .i64 m1) ∧ w'.cell? ⟨w.heap.size, 2, none⟩ = some (.int .i64 m2) ∧ w'.cell? ⟨w.heap.size, 3, none⟩ = some (.int .i64 m3) ∧ w'.cell? ⟨w.heap.size, 4, none⟩ = some (.int .i64 m4) ∧ w'.cell? ⟨w.heap.size, 5, none⟩ = some (.int .i64 m5) ∧ w'.cell? ⟨w.heap.size, 6, none⟩ = some (.int .i64 m6) ∧ w'.cell? ⟨w.heap.size, 7, none⟩ = some (.int .i64 m7) ∧ w.heap.size + 1 < w'.heap.size := by
  go_enter Try.func46, Try.ntmps46
  go_wp2
  go_ret
  exact ⟨rfl, by repeat' (first | with_reducible assumption | with_reducible exact Below.refl _ _ | (with_reducible refine Below.setCell ?_ ?_ _) | (with_reducible refine Below.alloc ?_ ?_ _) | (with_reducible refine Below.drew ?_) | (with_reducible refine below_dr ?_ _) | (with_reducible refine Below.trans ?_ (Below.mono (by with_reducible assumption) ?_)) | omega | (simp; done) | (simp; omega)), by simp [go_sem], by simp [go_sem], by simp [go_sem], by simp [go_sem], by simp [go_sem], by simp [go_sem], by simp [go_sem], by simp [go_sem], by simp [go_sem], by simp⟩
theorem enters_along4 : ∀ args w, (callFunc 76 args).run Try.prog w = .ok (.enter 76 args) w := enters_of Try.func76 (by kernel_rfl) rfl
theorem flat4_any (m0 m1 m2 m3 m4 m5 m6 m7 lv : Int) (N : Nat) (Bl Bb : Nat) (w : World) (hN1 : 1 ≤ N) (hN : N ≤ 64) (hshl : ∀ w, (Go.Op.shift .shl .i64 1 .i64 lv).run Try.prog w = .ok (.int .i64 (N : Int)) w) (hok : okC m0 m1 m2 m3 m4 m5 m6 m7 = true)
    (hl : w.cell? ⟨Bl, 0, none⟩ = some (.int .i64 lv)) (b0 : w.cell? ⟨Bb, 0, none⟩ = some (.int .i64 m0)) (b1 : w.cell? ⟨Bb, 1, none⟩ = some (.int .i64 m1)) (b2 : w.cell? ⟨Bb, 2, none⟩ = some (.int .i64 m2)) (b3 : w.cell? ⟨Bb, 3, none⟩ = some (.int .i64 m3)) (b4 : w.cell? ⟨Bb, 4, none⟩ = some (.int .i64 m4)) (b5 : w.cell? ⟨Bb, 5, none⟩ = some (.int .i64 m5)) (b6 : w.cell? ⟨Bb, 6, none⟩ = some (.int .i64 m6)) (b7 : w.cell? ⟨Bb, 7, none⟩ = some (.int .i64 m7)) (hBl : Bl < w.heap.size) (hBb : Bb < w.heap.size) :
    Calls Try.prog 38 #[.func (.func 76) #[] #[.pointer (some ⟨Bl, 0, none⟩), .pointer (some ⟨Bb, 0, none⟩)]] w fun e W' => ∃ A c, e = .returned (.slice A (upP (crvC m0 m1 m2 m3 m4 m5 m6 m7 N) (N + 1)).length c) ∧ W'.ownsRow w.heap.size 29 2 (.slice A (upP (crvC m0 m1 m2 m3 m4 m5 m6 m7 N) (N + 1)).length c) (upP (crvC m0 m1 m2 m3 m4 m5 m6 m7 N) (N + 1)).length (cellsF cPt (upP (crvC m0 m1 m2 m3 m4 m5 m6 m7 N) (N + 1))) ∧ Below w.heap.size w W' := by
  refine collect_any _ _ _ (by rw [upP_len]; omega) w enters_along4 (fun W hW => ?_)
  intro l J Jx W2 hW2 hJ hJx hY h0
  rw [upP_len] at hY
  have hWW : Below w.heap.size w W2 := hW.trans (hW2.mono hW.size)
  exact along1C_in m0 m1 m2 m3 m4 m5 m6 m7 lv N (crvC m0 m1 m2 m3 m4 m5 m6 m7 N) hN hshl (fun k hk w => at4_any m0 m1 m2 m3 m4 m5 m6 m7 (k : Int) (N : Int) w hok (by omega) (by omega) (by omega) (by omega)) l Bl Bb w.heap.size J Jx hY W2 ((hWW.cell (p := ⟨Bl, 0, none⟩) hBl).trans hl) ((hWW.cell (p := ⟨Bb, 0, none⟩) hBb).trans b0) ((hWW.cell (p := ⟨Bb, 1, none⟩) hBb).trans b1) ((hWW.cell (p := ⟨Bb, 2, none⟩) hBb).trans b2) ((hWW.cell (p := ⟨Bb, 3, none⟩) hBb).trans b3) ((hWW.cell (p := ⟨Bb, 4, none⟩) hBb).trans b4) ((hWW.cell (p := ⟨Bb, 5, none⟩) hBb).trans b5) ((hWW.cell (p := ⟨Bb, 6, none⟩) hBb).trans b6) ((hWW.cell (p := ⟨Bb, 7, none⟩) hBb).trans b7) hBl hBb hWW.size hJ h0
set_option maxRecDepth 100000 in
set_option maxHeartbeats 6400000 in
theorem specFlattenCubic_any (m0 m1 m2 m3 m4 m5 m6 m7 t : Int) (w0 : World) (i_t : -9223372036854775808 ≤ t ∧ t ≤ 9223372036854775807) :
    Calls Try.prog 13 #[.agg #[.int .i64 m0, .int .i64 m1, .int .i64 m2, .int .i64 m3, .int .i64 m4, .int .i64 m5, .int .i64 m6, .int .i64 m7], .int .i64 t] w0 (FlRet (flCl m0 m1 m2 m3 m4 m5 m6 m7 t) (.int .i64 (lvC m0 m1 m2 m3 m4 m5 m6 m7 t)) w0) := by
  have CL := Lib.hid (fun (b : Nat) (w : World) hb (c0 : w.cell? ⟨b, 0, none⟩ = some (.int .i64 m0)) (c1 : w.cell? ⟨b, 1, none⟩ = some (.int .i64 m1)) (c2 : w.cell? ⟨b, 2, none⟩ = some (.int .i64 m2)) (c3 : w.cell? ⟨b, 3, none⟩ = some (.int .i64 m3)) (c4 : w.cell? ⟨b, 4, none⟩ = some (.int .i64 m4)) (c5 : w.cell? ⟨b, 5, none⟩ = some (.int .i64 m5)) (c6 : w.cell? ⟨b, 6, none⟩ = some (.int .i64 m6)) (c7 : w.cell? ⟨b, 7, none⟩ = some (.int .i64 m7)) => l09For_any m0 m1 m2 m3 m4 m5 m6 m7 t b w hb c0 c1 c2 c3 c4 c5 c6 c7 i_t)
  unfold LvRet at CL
  obtain ⟨L0, L6⟩ := lvV_in m0 m1 m2 m3 m4 m5 m6 m7 t
  obtain ⟨N1, N64, SH, SW⟩ := shl_one L0 L6
  by_cases hc : lvC m0 m1 m2 m3 m4 m5 m6 m7 t = 0
  case neg =>
    rw [show flCl m0 m1 m2 m3 m4 m5 m6 m7 t = [] from if_neg hc]
    have hne : (lvC m0 m1 m2 m3 m4 m5 m6 m7 t != 0) = true := by simpa using hc
    clear hc N1 N64 SH SW
    generalize lvV m0 m1 m2 m3 m4 m5 m6 m7 t = lv at *
    generalize lvC m0 m1 m2 m3 m4 m5 m6 m7 t = cc at *
    go_enter Try.func13, Try.ntmps13
    go_wp2_with fail
    refine (CL.out _ _ (by simp) (by simp [go_sem]) (by simp [go_sem]) (by simp [go_sem]) (by simp [go_sem]) (by simp [go_sem]) (by simp [go_sem]) (by simp [go_sem]) (by simp [go_sem])).mono ?_
    rintro e w1 ⟨rfl, hb1⟩
    go_wp2
    refine bodyPost_ret (v := .tuple #[.slice none 0 0, .int .i64 cc]) (by simp [results, Try.results13, go_sem]) rfl (FlRet.nil (by repeat' (first | with_reducible assumption | with_reducible exact Below.refl _ _ | (with_reducible refine Below.setCell ?_ ?_ _) | (with_reducible refine Below.alloc ?_ ?_ _) | (with_reducible refine Below.drew ?_) | (with_reducible refine below_dr ?_ _) | (with_reducible refine Below.trans ?_ (Below.mono (by with_reducible assumption) ?_)) | omega | (simp; done) | (simp; omega))))
  have hok := lvC_ok hc
  rw [show flCl m0 m1 m2 m3 m4 m5 m6 m7 t = upP (crvC m0 m1 m2 m3 m4 m5 m6 m7 (pwN (lvV m0 m1 m2 m3 m4 m5 m6 m7 t))) (pwN (lvV m0 m1 m2 m3 m4 m5 m6 m7 t) + 1) from if_pos hc, hc]
  rw [hc] at CL
  clear hc
  generalize lvV m0 m1 m2 m3 m4 m5 m6 m7 t = lv at *
  obtain ⟨N, hN⟩ : ∃ N, N = pwN lv := ⟨_, rfl⟩
  rw [← hN] at N1 N64 SH SW ⊢
  clear hN SH
  have CA' : ∀ (k : Nat) (hk : k ≤ N) (b : Nat) (w : World) (hb : b < w.heap.size) (c0 : w.cell? ⟨b, 0, none⟩ = some (.int .i64 m0)) (c1 : w.cell? ⟨b, 1, none⟩ = some (.int .i64 m1)) (c2 : w.cell? ⟨b, 2, none⟩ = some (.int .i64 m2)) (c3 : w.cell? ⟨b, 3, none⟩ = some (.int .i64 m3)) (c4 : w.cell? ⟨b, 4, none⟩ = some (.int .i64 m4)) (c5 : w.cell? ⟨b, 5, none⟩ = some (.int .i64 m5)) (c6 : w.cell? ⟨b, 6, none⟩ = some (.int .i64 m6)) (c7 : w.cell? ⟨b, 7, none⟩ = some (.int .i64 m7)), Calls Try.prog 43 #[.pointer (some ⟨b, 0, none⟩), .int .i64 (k : Int), .int .i64 (N : Int)] w fun e w' => e = .returned (.agg #[.int .i64 (crvC m0 m1 m2 m3 m4 m5 m6 m7 N k).1, .int .i64 (crvC m0 m1 m2 m3 m4 m5 m6 m7 N k).2]) ∧ Below w.heap.size w w' :=
    fun k hk b w hb c0 c1 c2 c3 c4 c5 c6 c7 => l09At_any m0 m1 m2 m3 m4 m5 m6 m7 (k : Int) (N : Int) b w hb c0 c1 c2 c3 c4 c5 c6 c7 hok (by omega) (by omega) (by omega) (by omega)
  have CA := Lib.hid CA'
  clear CA' hok
  generalize crvC m0 m1 m2 m3 m4 m5 m6 m7 (N : Int) = f at CA ⊢
  obtain ⟨i0, hi0, hz0', hz1', hz2'⟩ := einfo_parts infoIP
  have HI0 := Lib.hid hi0
  have HZ0 := Lib.hid hz0'
  have HZ1 := Lib.hid hz1'
  have HZ2 := Lib.hid hz2'
  clear hi0 hz0' hz1' hz2'
  go_enter Try.func13, Try.ntmps13
  go_wp2_with fail
  refine (CL.out _ _ (by simp) (by simp [go_sem]) (by simp [go_sem]) (by simp [go_sem]) (by simp [go_sem]) (by simp [go_sem]) (by simp [go_sem]) (by simp [go_sem]) (by simp [go_sem])).mono ?_
  generalize hW : w0.alloc (.cells #[.int .i64 m0, .int .i64 m1, .int .i64 m2, .int .i64 m3, .int .i64 m4, .int .i64 m5, .int .i64 m6, .int .i64 m7] 40) = w
  have g0 : Below w0.heap.size w0 w := by rw [← hW]; repeat' (first | with_reducible assumption | with_reducible exact Below.refl _ _ | (with_reducible refine Below.setCell ?_ ?_ _) | (with_reducible refine Below.alloc ?_ ?_ _) | (with_reducible refine Below.drew ?_) | (with_reducible refine below_dr ?_ _) | (with_reducible refine Below.trans ?_ (Below.mono (by with_reducible assumption) ?_)) | omega | (simp; done) | (simp; omega))
  have c0 : w.cell? ⟨w0.heap.size, 0, none⟩ = some (.int .i64 m0) := by rw [← hW]; simp [go_sem]
  have c1 : w.cell? ⟨w0.heap.size, 1, none⟩ = some (.int .i64 m1) := by rw [← hW]; simp [go_sem]
  have c2 : w.cell? ⟨w0.heap.size, 2, none⟩ = some (.int .i64 m2) := by rw [← hW]; simp [go_sem]
  have c3 : w.cell? ⟨w0.heap.size, 3, none⟩ = some (.int .i64 m3) := by rw [← hW]; simp [go_sem]
  have c4 : w.cell? ⟨w0.heap.size, 4, none⟩ = some (.int .i64 m4) := by rw [← hW]; simp [go_sem]
  have c5 : w.cell? ⟨w0.heap.size, 5, none⟩ = some (.int .i64 m5) := by rw [← hW]; simp [go_sem]
  have c6 : w.cell? ⟨w0.heap.size, 6, none⟩ = some (.int .i64 m6) := by rw [← hW]; simp [go_sem]
  have c7 : w.cell? ⟨w0.heap.size, 7, none⟩ = some (.int .i64 m7) := by rw [← hW]; simp [go_sem]
  have hb : w0.heap.size < w.heap.size := by rw [← hW]; simp
  clear hW
  rintro e w1 ⟨rfl, hb1⟩
  have hz1 := hb1.size
  have d0 := (hb1.cell (p := ⟨w0.heap.size, 0, none⟩) hb).trans c0
  have d1 := (hb1.cell (p := ⟨w0.heap.size, 1, none⟩) hb).trans c1
  have d2 := (hb1.cell (p := ⟨w0.heap.size, 2, none⟩) hb).trans c2
  have d3 := (hb1.cell (p := ⟨w0.heap.size, 3, none⟩) hb).trans c3
  have d4 := (hb1.cell (p := ⟨w0.heap.size, 4, none⟩) hb).trans c4
  have d5 := (hb1.cell (p := ⟨w0.heap.size, 5, none⟩) hb).trans c5
  have d6 := (hb1.cell (p := ⟨w0.heap.size, 6, none⟩) hb).trans c6
  have d7 := (hb1.cell (p := ⟨w0.heap.size, 7, none⟩) hb).trans c7
  go_wp2_with fail
  rw [SW]
  go_loopw [8, 10] (fun s i wr => ∃ (k : Nat) (A' : Option Addr) (c' : Nat), k ≤ N + 1 ∧ i = .int .i64 (k : Int) ∧ s = .slice A' k c' ∧ OwP 29 wr w1.heap.size A' k c' (upP f k) ∧ Below w1.heap.size w1 wr) (fun _ i _ => N + 1 - (intOf i).toNat)
  case atStart => exact ⟨0, _, 0, Nat.zero_le _, rfl, rfl, OwP.new _ _ (by omega), by repeat' (first | with_reducible assumption | with_reducible exact Below.refl _ _ | (with_reducible refine Below.setCell ?_ ?_ _) | (with_reducible refine Below.alloc ?_ ?_ _) | (with_reducible refine Below.drew ?_) | (with_reducible refine below_dr ?_ _) | (with_reducible refine Below.trans ?_ (Below.mono (by with_reducible assumption) ?_)) | omega | (simp; done) | (simp; omega))⟩
  case round =>
    obtain ⟨k, A', c', hk, rfl, rfl, ow, hbl⟩ := hrel
    have zr := hbl.size
    have hbr : w0.heap.size < wr.heap.size := by omega
    have e0 := (hbl.cell (p := ⟨w0.heap.size, 0, none⟩) (by simp only; omega)).trans d0
    have e1 := (hbl.cell (p := ⟨w0.heap.size, 1, none⟩) (by simp only; omega)).trans d1
    have e2 := (hbl.cell (p := ⟨w0.heap.size, 2, none⟩) (by simp only; omega)).trans d2
    have e3 := (hbl.cell (p := ⟨w0.heap.size, 3, none⟩) (by simp only; omega)).trans d3
    have e4 := (hbl.cell (p := ⟨w0.heap.size, 4, none⟩) (by simp only; omega)).trans d4
    have e5 := (hbl.cell (p := ⟨w0.heap.size, 5, none⟩) (by simp only; omega)).trans d5
    have e6 := (hbl.cell (p := ⟨w0.heap.size, 6, none⟩) (by simp only; omega)).trans d6
    have e7 := (hbl.cell (p := ⟨w0.heap.size, 7, none⟩) (by simp only; omega)).trans d7
    by_cases hlt : k < N + 1
    case pos =>
      have hki : (k : Int) ≤ (N : Int) := by omega
      have C := Lib.hid (CA.out k (by omega) _ wr hbr e0 e1 e2 e3 e4 e5 e6 e7)
      have HS := Lib.hid (upP_succ f k)
      obtain ⟨⟨x, y⟩, hxy⟩ : ∃ p, p = f k := ⟨_, rfl⟩
      rw [← hxy] at C HS
      simp only at C
      clear hxy
      go_wp2_with fail
      refine C.out.mono ?_
      rintro e w2 ⟨rfl, hb2⟩
      have ow2 := ow.stays hb2
      have z2 := hb2.size
      have HMX := Lib.hid (show k + 1 ≤ maxLen by unfold maxLen; omega)
      have HBY := Lib.hid (show (k + 1) * 16 ≤ 140737488355328 by omega)
      have HRD := Lib.hid (preads_new w2 x y 29)
      have HOW := Lib.hid (show (w2.alloc (.cells #[.int .i64 x, .int .i64 y] 29)).ownsRow w1.heap.size 29 2 (.slice A' k c') k _ from (ow2.alloc _).2)
      have HRB := Lib.hid ow2.block
      have HBS := Lib.hid (show w1.heap.size ≤ (w2.alloc (.cells #[.int .i64 x, .int .i64 y] 29)).heap.size by simp; omega)
      clear d0 e0 d1 e1 d2 e2 d3 e3 d4 e4 d5 e5 d6 e6 d7 e7 CA
      go_wp2_with (at_builtin; refine wpList_append_any _ rfl (.tmp 28) (.tmp 32) _ rfl (w1.heap.size) 29 i0 _ 2 16 Try.underlying26 HI0.out HZ0.out HZ1.out HZ2.out rfl (by omega) (.slice A' k c') k _ rfl HOW.out _ (some ⟨w2.heap.size, 0, none⟩) 1 1 [.int .i64 x, .int .i64 y] rfl HRD.out (one_p x y) HMX.out HBY.out HBS.out ?_; intro v9 w9 hown9 hg9 hat9; obtain ⟨g9, cap9, rfl, _, _⟩ := hown9.form (by omega); have HOWN9 := Lib.hid hown9; have HG9 := Lib.hid hg9; clear hown9 hg9 hat9)
      have g9b : Below w1.heap.size w1 w9 := below_of_grown ((hbl.trans (hb2.mono (by omega))).alloc (by omega) (.cells #[.int .i64 x, .int .i64 y] 29)) HG9.out (by simp; omega) (fun q hq => by have := HRB.out q hq; omega)
      have ow9 : OwP 29 w9 w1.heap.size (some ⟨g9, 0, none⟩) (k + 1) cap9 (upP f k ++ [(x, y)]) := OwP.grown (by have := ow2.1; simp only [List.length_cons, List.length_nil]; omega) HOWN9.out
      go_roundw
      case rel => exact ⟨k + 1, _, _, by omega, by go_num, rfl, by rw [HS.out]; exact ow9, g9b⟩
      case measure => first | (simp [intOf]; done) | (simp [intOf]; omega)
    case neg =>
      obtain rfl : k = N + 1 := by omega
      go_wp2
      refine bodyPost_ret (v := .tuple #[.slice A' (N + 1) c', .int .i64 0]) (by simp [results, Try.results13, go_sem]) rfl ?_
      refine ⟨A', c', by rw [upP_len], ?_, by repeat' (first | with_reducible assumption | with_reducible exact Below.refl _ _ | (with_reducible refine Below.setCell ?_ ?_ _) | (with_reducible refine Below.alloc ?_ ?_ _) | (with_reducible refine Below.drew ?_) | (with_reducible refine below_dr ?_ _) | (with_reducible refine Below.trans ?_ (Below.mono (by with_reducible assumption) ?_)) | omega | (simp; done) | (simp; omega))⟩
      rw [upP_len]
      exact (ow.base_ (by omega)).2
set_option maxHeartbeats 3200000 in
theorem implFlattenCubic_any (m0 m1 m2 m3 m4 m5 m6 m7 t : Int) (w : World) (i_t : -9223372036854775808 ≤ t ∧ t ≤ 9223372036854775807) :
    Calls Try.prog 15 #[.agg #[.int .i64 m0, .int .i64 m1, .int .i64 m2, .int .i64 m3, .int .i64 m4, .int .i64 m5, .int .i64 m6, .int .i64 m7], .int .i64 t] w (FlRet (flCl m0 m1 m2 m3 m4 m5 m6 m7 t) (.int .i64 (lvC m0 m1 m2 m3 m4 m5 m6 m7 t)) w) := by
  have CL := Lib.hid (fun w => implLevelFor_any m0 m1 m2 m3 m4 m5 m6 m7 t w i_t)
  unfold LvRet at CL
  obtain ⟨L0, L6⟩ := lvV_in m0 m1 m2 m3 m4 m5 m6 m7 t
  obtain ⟨N1, N64, SH, SW⟩ := shl_one L0 L6
  by_cases hc : lvC m0 m1 m2 m3 m4 m5 m6 m7 t = 0
  case neg =>
    rw [show flCl m0 m1 m2 m3 m4 m5 m6 m7 t = [] from if_neg hc]
    have hne : (lvC m0 m1 m2 m3 m4 m5 m6 m7 t != 0) = true := by simpa using hc
    clear hc N1 N64 SH SW
    generalize lvV m0 m1 m2 m3 m4 m5 m6 m7 t = lv at *
    generalize lvC m0 m1 m2 m3 m4 m5 m6 m7 t = cc at *
    go_enter Try.func15, Try.ntmps15
    go_wp2_with fail
    refine (CL.out _).mono ?_
    rintro e w1 ⟨rfl, hb1⟩
    go_wp2
    refine bodyPost_ret (v := .tuple #[.slice none 0 0, .int .i64 cc]) (by simp [results, Try.results15, go_sem]) rfl (FlRet.nil (by repeat' (first | with_reducible assumption | with_reducible exact Below.refl _ _ | (with_reducible refine Below.setCell ?_ ?_ _) | (with_reducible refine Below.alloc ?_ ?_ _) | (with_reducible refine Below.drew ?_) | (with_reducible refine below_dr ?_ _) | (with_reducible refine Below.trans ?_ (Below.mono (by with_reducible assumption) ?_)) | omega | (simp; done) | (simp; omega))))
  have hok := lvC_ok hc
  rw [show flCl m0 m1 m2 m3 m4 m5 m6 m7 t = upP (crvC m0 m1 m2 m3 m4 m5 m6 m7 (pwN (lvV m0 m1 m2 m3 m4 m5 m6 m7 t))) (pwN (lvV m0 m1 m2 m3 m4 m5 m6 m7 t) + 1) from if_pos hc, hc]
  rw [hc] at CL
  clear hc SW
  generalize lvV m0 m1 m2 m3 m4 m5 m6 m7 t = lv at *
  obtain ⟨N, hN⟩ : ∃ N, N = pwN lv := ⟨_, rfl⟩
  rw [← hN] at N1 N64 SH ⊢
  clear hN
  have CF := Lib.hid (fun (Bl Bb : Nat) (w : World) hl b0 b1 b2 b3 b4 b5 b6 b7 hBl hBb => flat4_any m0 m1 m2 m3 m4 m5 m6 m7 lv N Bl Bb w N1 N64 SH hok hl b0 b1 b2 b3 b4 b5 b6 b7 hBl hBb)
  clear hok SH
  generalize upP (crvC m0 m1 m2 m3 m4 m5 m6 m7 (N : Int)) (N + 1) = l at *
  go_enter Try.func15, Try.ntmps15
  go_wp2_with fail
  refine (CL.out _).mono ?_
  rintro e w1 ⟨rfl, hbw1⟩
  have g1 : Below w.heap.size w w1 := (by repeat' (first | with_reducible assumption | with_reducible exact Below.refl _ _ | (with_reducible refine Below.setCell ?_ ?_ _) | (with_reducible refine Below.alloc ?_ ?_ _) | (with_reducible refine Below.drew ?_) | (with_reducible refine below_dr ?_ _) | (with_reducible refine Below.trans ?_ (Below.mono (by with_reducible assumption) ?_)) | omega | (simp; done) | (simp; omega)))
  obtain ⟨hcw1, hfw1⟩ := bcell hbw1
  have hzw1 := hbw1.size
  (try simp only [World.size_alloc] at hcw1 hfw1 hzw1)
  have s1 : w1.cell? ⟨w.heap.size, 0, none⟩ = some (.int .i64 m0) := (hcw1 _ _ (by omega)).trans (by first | assumption | (refine (cell_alloc_at _ _ ?_).trans ?_; omega; assumption) | (simp [go_sem]; done) | (simp [go_sem, *]; done))
  have s2 : w1.cell? ⟨w.heap.size, 1, none⟩ = some (.int .i64 m1) := (hcw1 _ _ (by omega)).trans (by first | assumption | (refine (cell_alloc_at _ _ ?_).trans ?_; omega; assumption) | (simp [go_sem]; done) | (simp [go_sem, *]; done))
  have s3 : w1.cell? ⟨w.heap.size, 2, none⟩ = some (.int .i64 m2) := (hcw1 _ _ (by omega)).trans (by first | assumption | (refine (cell_alloc_at _ _ ?_).trans ?_; omega; assumption) | (simp [go_sem]; done) | (simp [go_sem, *]; done))
  have s4 : w1.cell? ⟨w.heap.size, 3, none⟩ = some (.int .i64 m3) := (hcw1 _ _ (by omega)).trans (by first | assumption | (refine (cell_alloc_at _ _ ?_).trans ?_; omega; assumption) | (simp [go_sem]; done) | (simp [go_sem, *]; done))
  have s5 : w1.cell? ⟨w.heap.size, 4, none⟩ = some (.int .i64 m4) := (hcw1 _ _ (by omega)).trans (by first | assumption | (refine (cell_alloc_at _ _ ?_).trans ?_; omega; assumption) | (simp [go_sem]; done) | (simp [go_sem, *]; done))
  have s6 : w1.cell? ⟨w.heap.size, 5, none⟩ = some (.int .i64 m5) := (hcw1 _ _ (by omega)).trans (by first | assumption | (refine (cell_alloc_at _ _ ?_).trans ?_; omega; assumption) | (simp [go_sem]; done) | (simp [go_sem, *]; done))
  have s7 : w1.cell? ⟨w.heap.size, 6, none⟩ = some (.int .i64 m6) := (hcw1 _ _ (by omega)).trans (by first | assumption | (refine (cell_alloc_at _ _ ?_).trans ?_; omega; assumption) | (simp [go_sem]; done) | (simp [go_sem, *]; done))
  have s8 : w1.cell? ⟨w.heap.size, 7, none⟩ = some (.int .i64 m7) := (hcw1 _ _ (by omega)).trans (by first | assumption | (refine (cell_alloc_at _ _ ?_).trans ?_; omega; assumption) | (simp [go_sem]; done) | (simp [go_sem, *]; done))
  have sz : w.heap.size < w1.heap.size := (by omega)
  clear hcw1 hfw1 hzw1
  clear CL
  go_wp2_with fail
  refine (bezier4_any m0 m1 m2 m3 m4 m5 m6 m7 _).mono ?_
  rintro e w5 ⟨rfl, hbw5⟩
  have z5 := hbw5.size
  go_wp2_with fail
  refine (along4_any m0 m1 m2 m3 m4 m5 m6 m7 lv _).mono ?_
  rintro e w6 ⟨rfl, hbw6, k0, c0, c1, c2, c3, c4, c5, c6, c7, z6⟩
  have zz6 := hbw6.size
  go_wp2_with fail
  refine (CF.out _ _ _ k0 c0 c1 c2 c3 c4 c5 c6 c7 z6 (by omega)).mono ?_
  rintro e w7 ⟨A, k, rfl, ow, hbw7⟩
  have zz7 := hbw7.size
  go_wp2
  refine bodyPost_ret (v := .tuple #[.slice A l.length k, .int .i64 0]) (by simp [results, Try.results15, go_sem]) rfl ⟨A, k, rfl, own_base2 ow (by omega), by repeat' (first | with_reducible assumption | with_reducible exact Below.refl _ _ | (with_reducible refine Below.setCell ?_ ?_ _) | (with_reducible refine Below.alloc ?_ ?_ _) | (with_reducible refine Below.drew ?_) | (with_reducible refine below_dr ?_ _) | (with_reducible refine Below.trans ?_ (Below.mono (by with_reducible assumption) ?_)) | omega | (simp; done) | (simp; omega))⟩
set_option maxRecDepth 100000 in
set_option maxHeartbeats 6400000 in
theorem walk_FlattenCubic (m0 m1 m2 m3 m4 m5 m6 m7 t : Int) (w_m0 : (Lit.int .i64 m0).wf = true) (w_m1 : (Lit.int .i64 m1).wf = true) (w_m2 : (Lit.int .i64 m2).wf = true) (w_m3 : (Lit.int .i64 m3).wf = true) (w_m4 : (Lit.int .i64 m4).wf = true) (w_m5 : (Lit.int .i64 m5).wf = true) (w_m6 : (Lit.int .i64 m6).wf = true) (w_m7 : (Lit.int .i64 m7).wf = true) (w_t : (Lit.int .i64 t).wf = true) (w : World) :
    Calls Try.prog 4 #[.agg #[.int .i64 m0, .int .i64 m1, .int .i64 m2, .int .i64 m3, .int .i64 m4, .int .i64 m5, .int .i64 m6, .int .i64 m7], .int .i64 t] w fun e w' => e = .returned (.bool true) ∧ Below w.heap.size w w' := by
  have i_t := i64_bounds w_t
  clear w_m0 w_m1 w_m2 w_m3 w_m4 w_m5 w_m6 w_m7 w_t
  have C1 := Lib.hid (fun w => specFlattenCubic_any m0 m1 m2 m3 m4 m5 m6 m7 t w i_t)
  have C2 := Lib.hid (fun w => implFlattenCubic_any m0 m1 m2 m3 m4 m5 m6 m7 t w i_t)
  have hlen : (flCl m0 m1 m2 m3 m4 m5 m6 m7 t).length ≤ 1048576 := Nat.le_trans (flCl_len _ _ _ _ _ _ _ _ _) (by omega)
  unfold FlRet at C1 C2
  generalize flCl m0 m1 m2 m3 m4 m5 m6 m7 t = l at C1 C2 hlen
  generalize lvC m0 m1 m2 m3 m4 m5 m6 m7 t = cc at C1 C2
  have e_cc : (cc != cc) = false := by simp
  clear i_t
  obtain ⟨M, hM⟩ : ∃ M : Int, M = ((1 + 2 * l.length : Nat) : Int) := ⟨_, rfl⟩
  have hM0 : 0 ≤ M := by omega
  have HM := Lib.hid hM
  have e_M : (M != M) = false := by simp
  clear hM
  go_enter Try.func4, Try.ntmps4
  go_wp2_with fail
  generalize hW : (w.alloc (.cells #[.int .i64 m0, .int .i64 m1, .int .i64 m2, .int .i64 m3, .int .i64 m4, .int .i64 m5, .int .i64 m6, .int .i64 m7] 37)) = W0
  have bx_f0W0 : AtL (w.heap.size) [.int .i64 m0, .int .i64 m1, .int .i64 m2, .int .i64 m3, .int .i64 m4, .int .i64 m5, .int .i64 m6, .int .i64 m7] W0 := by rw [← hW]; repeat' (first | with_reducible assumption | with_reducible exact AtL.new _ _ _ | ((with_reducible refine AtL.newAt ?_); (first | rfl | (simp; done))) | (with_reducible refine AtL.drew ?_) | (with_reducible refine AtL.below ?_ (by with_reducible assumption)) | (with_reducible refine AtL.alloc ?_ _) | (with_reducible refine AtL.far ?_ ?_ _ _) | omega | (simp; done) | (simp; omega))
  have qW0 : w.heap.size ≤ W0.heap.size := by rw [← hW]; first | (simp; done) | (simp; omega)
  have bn : Below w.heap.size w W0 := by rw [← hW]; repeat' (first | with_reducible assumption | with_reducible exact Below.refl _ _ | (with_reducible refine Below.setCell ?_ ?_ _) | (with_reducible refine Below.alloc ?_ ?_ _) | (with_reducible refine Below.drew ?_) | (with_reducible refine below_dr ?_ _) | (with_reducible refine Below.trans ?_ (Below.mono (by with_reducible assumption) ?_)) | omega | (simp; done) | (simp; omega))
  have bW0 := Lib.hid bn
  clear hW bn
  have kbx_f00 := bx_f0W0.cell 0 rfl
  have kbx_f01 := bx_f0W0.cell 1 rfl
  have kbx_f02 := bx_f0W0.cell 2 rfl
  have kbx_f03 := bx_f0W0.cell 3 rfl
  have kbx_f04 := bx_f0W0.cell 4 rfl
  have kbx_f05 := bx_f0W0.cell 5 rfl
  have kbx_f06 := bx_f0W0.cell 6 rfl
  have kbx_f07 := bx_f0W0.cell 7 rfl
  have lbx_f0 := bx_f0W0.lt
  go_wp2_with fail
  clear kbx_f00 kbx_f01 kbx_f02 kbx_f03 kbx_f04 kbx_f05 kbx_f06 kbx_f07 lbx_f0
  refine (toCubic_any m0 m1 m2 m3 m4 m5 m6 m7 _).mono ?_
  rintro e wA0 ⟨rfl, hbwA0⟩
  have zwA0 := hbwA0.size
  (try simp only [World.size_setCell] at zwA0)
  (try simp only [World.size_drew] at zwA0)
  (try simp only [World.size_alloc] at zwA0)
  have qwA0 : w.heap.size ≤ wA0.heap.size := by omega
  have bx_f0wA0 : AtL (w.heap.size) [.int .i64 m0, .int .i64 m1, .int .i64 m2, .int .i64 m3, .int .i64 m4, .int .i64 m5, .int .i64 m6, .int .i64 m7] wA0 := by repeat' (first | with_reducible assumption | with_reducible exact AtL.new _ _ _ | ((with_reducible refine AtL.newAt ?_); (first | rfl | (simp; done))) | (with_reducible refine AtL.drew ?_) | (with_reducible refine AtL.below ?_ (by with_reducible assumption)) | (with_reducible refine AtL.alloc ?_ _) | (with_reducible refine AtL.far ?_ ?_ _ _) | omega | (simp; done) | (simp; omega))
  have bp := bW0.out
  have bn : Below w.heap.size w wA0 := by repeat' (first | with_reducible assumption | with_reducible exact Below.refl _ _ | (with_reducible refine Below.setCell ?_ ?_ _) | (with_reducible refine Below.alloc ?_ ?_ _) | (with_reducible refine Below.drew ?_) | (with_reducible refine below_dr ?_ _) | (with_reducible refine Below.trans ?_ (Below.mono (by with_reducible assumption) ?_)) | omega | (simp; done) | (simp; omega))
  have bwA0 := Lib.hid bn
  clear bn
  clear bp bW0
  clear hbwA0
  clear bx_f0W0
  go_wp2_with fail
  refine (C1.out _).mono ?_
  intro e wC hq
  obtain ⟨Aw, cw, rfl, oww, hbwC⟩ := hq
  have zwC := hbwC.size
  (try simp only [World.size_setCell] at zwC)
  (try simp only [World.size_drew] at zwC)
  (try simp only [World.size_alloc] at zwC)
  have qwC : w.heap.size ≤ wC.heap.size := by omega
  have bx_f0wC : AtL (w.heap.size) [.int .i64 m0, .int .i64 m1, .int .i64 m2, .int .i64 m3, .int .i64 m4, .int .i64 m5, .int .i64 m6, .int .i64 m7] wC := by repeat' (first | with_reducible assumption | with_reducible exact AtL.new _ _ _ | ((with_reducible refine AtL.newAt ?_); (first | rfl | (simp; done))) | (with_reducible refine AtL.drew ?_) | (with_reducible refine AtL.below ?_ (by with_reducible assumption)) | (with_reducible refine AtL.alloc ?_ _) | (with_reducible refine AtL.far ?_ ?_ _ _) | omega | (simp; done) | (simp; omega))
  have bp := bwA0.out
  have bn : Below w.heap.size w wC := by repeat' (first | with_reducible assumption | with_reducible exact Below.refl _ _ | (with_reducible refine Below.setCell ?_ ?_ _) | (with_reducible refine Below.alloc ?_ ?_ _) | (with_reducible refine Below.drew ?_) | (with_reducible refine below_dr ?_ _) | (with_reducible refine Below.trans ?_ (Below.mono (by with_reducible assumption) ?_)) | omega | (simp; done) | (simp; omega))
  have bwC := Lib.hid bn
  clear bn
  clear bp bwA0
  clear hbwC
  clear bx_f0wA0
  have r1wC : Rd cPt 2 wC (wC.heap.size) Aw l := Rd.of_own (fun a => cPt_len a) (by omega) oww (Nat.le_refl _)
  clear oww
  have kbx_f00 := bx_f0wC.cell 0 rfl
  have kbx_f01 := bx_f0wC.cell 1 rfl
  have kbx_f02 := bx_f0wC.cell 2 rfl
  have kbx_f03 := bx_f0wC.cell 3 rfl
  have kbx_f04 := bx_f0wC.cell 4 rfl
  have kbx_f05 := bx_f0wC.cell 5 rfl
  have kbx_f06 := bx_f0wC.cell 6 rfl
  have kbx_f07 := bx_f0wC.cell 7 rfl
  have lbx_f0 := bx_f0wC.lt
  go_wp2_with fail
  clear kbx_f00 kbx_f01 kbx_f02 kbx_f03 kbx_f04 kbx_f05 kbx_f06 kbx_f07 lbx_f0
  refine (toCubic_any m0 m1 m2 m3 m4 m5 m6 m7 _).mono ?_
  rintro e wX0 ⟨rfl, hbwX0⟩
  have zwX0 := hbwX0.size
  (try simp only [World.size_setCell] at zwX0)
  (try simp only [World.size_drew] at zwX0)
  (try simp only [World.size_alloc] at zwX0)
  have qwX0 : w.heap.size ≤ wX0.heap.size := by omega
  have bx_f0wX0 : AtL (w.heap.size) [.int .i64 m0, .int .i64 m1, .int .i64 m2, .int .i64 m3, .int .i64 m4, .int .i64 m5, .int .i64 m6, .int .i64 m7] wX0 := by repeat' (first | with_reducible assumption | with_reducible exact AtL.new _ _ _ | ((with_reducible refine AtL.newAt ?_); (first | rfl | (simp; done))) | (with_reducible refine AtL.drew ?_) | (with_reducible refine AtL.below ?_ (by with_reducible assumption)) | (with_reducible refine AtL.alloc ?_ _) | (with_reducible refine AtL.far ?_ ?_ _ _) | omega | (simp; done) | (simp; omega))
  have r1wX0 : Rd cPt 2 wX0 (wC.heap.size) Aw l := by repeat' (first | with_reducible assumption | (with_reducible refine Rd.drew ?_) | (with_reducible refine Rd.carry ?_ (by with_reducible assumption) ?_) | (with_reducible refine Rd.alloc ?_ ?_ _) | (with_reducible refine Rd.setCell ?_ ?_ _) | omega | (simp; done) | (simp; omega))
  have bp := bwC.out
  have bn : Below w.heap.size w wX0 := by repeat' (first | with_reducible assumption | with_reducible exact Below.refl _ _ | (with_reducible refine Below.setCell ?_ ?_ _) | (with_reducible refine Below.alloc ?_ ?_ _) | (with_reducible refine Below.drew ?_) | (with_reducible refine below_dr ?_ _) | (with_reducible refine Below.trans ?_ (Below.mono (by with_reducible assumption) ?_)) | omega | (simp; done) | (simp; omega))
  have bwX0 := Lib.hid bn
  clear bn
  clear bp bwC
  clear hbwX0
  clear bx_f0wC
  clear r1wC
  go_wp2_with fail
  have lt_X := bx_f0wX0.lt
  refine (C2.out _).mono ?_
  intro e wD hq
  obtain ⟨Ag, cg, rfl, owg, hbwD⟩ := hq
  have zwD := hbwD.size
  (try simp only [World.size_setCell] at zwD)
  (try simp only [World.size_drew] at zwD)
  (try simp only [World.size_alloc] at zwD)
  have qwD : w.heap.size ≤ wD.heap.size := by omega
  have bx_f0wD : AtL (w.heap.size) [.int .i64 m0, .int .i64 m1, .int .i64 m2, .int .i64 m3, .int .i64 m4, .int .i64 m5, .int .i64 m6, .int .i64 m7] wD := by repeat' (first | with_reducible assumption | with_reducible exact AtL.new _ _ _ | ((with_reducible refine AtL.newAt ?_); (first | rfl | (simp; done))) | (with_reducible refine AtL.drew ?_) | (with_reducible refine AtL.below ?_ (by with_reducible assumption)) | (with_reducible refine AtL.alloc ?_ _) | (with_reducible refine AtL.far ?_ ?_ _ _) | omega | (simp; done) | (simp; omega))
  have r1wD : Rd cPt 2 wD (wC.heap.size) Aw l := by repeat' (first | with_reducible assumption | (with_reducible refine Rd.drew ?_) | (with_reducible refine Rd.carry ?_ (by with_reducible assumption) ?_) | (with_reducible refine Rd.alloc ?_ ?_ _) | (with_reducible refine Rd.setCell ?_ ?_ _) | omega | (simp; done) | (simp; omega))
  have bp := bwX0.out
  have bn : Below w.heap.size w wD := by repeat' (first | with_reducible assumption | with_reducible exact Below.refl _ _ | (with_reducible refine Below.setCell ?_ ?_ _) | (with_reducible refine Below.alloc ?_ ?_ _) | (with_reducible refine Below.drew ?_) | (with_reducible refine below_dr ?_ _) | (with_reducible refine Below.trans ?_ (Below.mono (by with_reducible assumption) ?_)) | omega | (simp; done) | (simp; omega))
  have bwD := Lib.hid bn
  clear bn
  clear bp bwX0
  clear hbwD
  clear bx_f0wX0
  clear r1wX0
  have ogwD := own_base (base := wX0.heap.size) owg (by first | exact Nat.le_refl _ | (simp; done) | (simp; omega))
  clear owg
  have OBg := Lib.hid (fun r hr => own_block ogwD (q := r) hr)
  go_wp2_with fail
  refine (eqPtS_same l Ag Aw cg cw _ (by omega) ?_ ?_).mono ?_
  · refine Rd.of_own (fun a => cPt_len a) (by omega) (base := wX0.heap.size) (e := 29) (n := l.length) (c := cg) ?_ (Nat.le_refl _); (repeat' (first | with_reducible assumption | (with_reducible refine own_drew ?_) | (with_reducible refine own_stays ?_ (by with_reducible assumption)) | (with_reducible refine World.ownsRow.alloc ?_ _)))
  · refine Rd.more (B := wC.heap.size) ?_ (by (try simp only [World.size_drew]); (try simp only [World.size_alloc]); omega)
    repeat' (first | with_reducible assumption | (with_reducible refine Rd.drew ?_) | (with_reducible refine Rd.carry ?_ (by with_reducible assumption) ?_) | (with_reducible refine Rd.alloc ?_ ?_ _) | (with_reducible refine Rd.setCell ?_ ?_ _) | omega | (simp; done) | (simp; omega))
  rintro e wE ⟨rfl, hbwE⟩
  have zwE := hbwE.size
  (try simp only [World.size_setCell] at zwE)
  (try simp only [World.size_drew] at zwE)
  (try simp only [World.size_alloc] at zwE)
  have qwE : w.heap.size ≤ wE.heap.size := by omega
  have bx_f0wE : AtL (w.heap.size) [.int .i64 m0, .int .i64 m1, .int .i64 m2, .int .i64 m3, .int .i64 m4, .int .i64 m5, .int .i64 m6, .int .i64 m7] wE := by repeat' (first | with_reducible assumption | with_reducible exact AtL.new _ _ _ | ((with_reducible refine AtL.newAt ?_); (first | rfl | (simp; done))) | (with_reducible refine AtL.drew ?_) | (with_reducible refine AtL.below ?_ (by with_reducible assumption)) | (with_reducible refine AtL.alloc ?_ _) | (with_reducible refine AtL.far ?_ ?_ _ _) | omega | (simp; done) | (simp; omega))
  have r1wE : Rd cPt 2 wE (wC.heap.size) Aw l := by repeat' (first | with_reducible assumption | (with_reducible refine Rd.drew ?_) | (with_reducible refine Rd.carry ?_ (by with_reducible assumption) ?_) | (with_reducible refine Rd.alloc ?_ ?_ _) | (with_reducible refine Rd.setCell ?_ ?_ _) | omega | (simp; done) | (simp; omega))
  have ogwE : wE.ownsRow (wX0.heap.size) 29 2 (.slice Ag l.length cg) l.length (cellsF cPt l) := by repeat' (first | with_reducible assumption | (with_reducible refine own_drew ?_) | (with_reducible refine own_stays ?_ (by with_reducible assumption)) | (with_reducible refine World.ownsRow.alloc ?_ _))
  have bp := bwD.out
  have bn : Below w.heap.size w wE := by repeat' (first | with_reducible assumption | with_reducible exact Below.refl _ _ | (with_reducible refine Below.setCell ?_ ?_ _) | (with_reducible refine Below.alloc ?_ ?_ _) | (with_reducible refine Below.drew ?_) | (with_reducible refine below_dr ?_ _) | (with_reducible refine Below.trans ?_ (Below.mono (by with_reducible assumption) ?_)) | omega | (simp; done) | (simp; omega))
  have bwE := Lib.hid bn
  clear bn
  clear bp bwD
  clear hbwE
  clear bx_f0wD
  clear r1wD
  clear ogwD
  go_wp2_with fail
  refine (markPtS_any 1 l.length Ag cg (wX0.heap.size) (cellsF cPt l) _ (by omega) (by omega) (by repeat' (first | with_reducible assumption | (with_reducible refine own_drew ?_) | (with_reducible refine own_stays ?_ (by with_reducible assumption)) | (with_reducible refine World.ownsRow.alloc ?_ _)))).mono ?_
  rw [← HM.out]
  rintro e wK ⟨rfl, omwK, hg⟩
  have zwK := hg.size
  have qwK : w.heap.size ≤ wK.heap.size := by omega
  have bp := bwE.out
  have bn : Below w.heap.size w wK := by exact below_of_grown (by repeat' (first | with_reducible assumption | with_reducible exact Below.refl _ _ | (with_reducible refine Below.setCell ?_ ?_ _) | (with_reducible refine Below.alloc ?_ ?_ _) | (with_reducible refine Below.drew ?_) | (with_reducible refine below_dr ?_ _) | (with_reducible refine Below.trans ?_ (Below.mono (by with_reducible assumption) ?_)) | omega | (simp; done) | (simp; omega))) hg (by omega) (fun q hq => by have := OBg.out q hq; omega)
  have bwK := Lib.hid bn
  clear bn
  clear bp bwE
  have bx_f0wK : AtL (w.heap.size) [.int .i64 m0, .int .i64 m1, .int .i64 m2, .int .i64 m3, .int .i64 m4, .int .i64 m5, .int .i64 m6, .int .i64 m7] wK := AtL.grown (bx_f0wE) hg (fun q hq => by have := OBg.out q hq; omega)
  have r1wK : Rd cPt 2 wK (wC.heap.size) Aw l := Rd.grown2 r1wE hg (by omega) (fun q hq => by have := OBg.out q hq; omega)
  clear hg bx_f0wE r1wE ogwE
  go_wp2_with fail
  refine (heldPtS_any 1 l.length Ag cg _ (by omega) (by omega) ?_).mono ?_
  · refine Rd.of_own (fun a => cPt_len a) (by omega) (base := wX0.heap.size) (e := 29) (n := l.length) (c := cg) ?_ (Nat.le_refl _); (repeat' (first | with_reducible assumption | (with_reducible refine own_drew ?_) | (with_reducible refine own_stays ?_ (by with_reducible assumption)) | (with_reducible refine World.ownsRow.alloc ?_ _)))
  rw [← HM.out]
  rintro e wL ⟨rfl, hbwL⟩
  have zwL := hbwL.size
  (try simp only [World.size_setCell] at zwL)
  (try simp only [World.size_drew] at zwL)
  (try simp only [World.size_alloc] at zwL)
  have qwL : w.heap.size ≤ wL.heap.size := by omega
  have bx_f0wL : AtL (w.heap.size) [.int .i64 m0, .int .i64 m1, .int .i64 m2, .int .i64 m3, .int .i64 m4, .int .i64 m5, .int .i64 m6, .int .i64 m7] wL := by repeat' (first | with_reducible assumption | with_reducible exact AtL.new _ _ _ | ((with_reducible refine AtL.newAt ?_); (first | rfl | (simp; done))) | (with_reducible refine AtL.drew ?_) | (with_reducible refine AtL.below ?_ (by with_reducible assumption)) | (with_reducible refine AtL.alloc ?_ _) | (with_reducible refine AtL.far ?_ ?_ _ _) | omega | (simp; done) | (simp; omega))
  have r1wL : Rd cPt 2 wL (wC.heap.size) Aw l := by repeat' (first | with_reducible assumption | (with_reducible refine Rd.drew ?_) | (with_reducible refine Rd.carry ?_ (by with_reducible assumption) ?_) | (with_reducible refine Rd.alloc ?_ ?_ _) | (with_reducible refine Rd.setCell ?_ ?_ _) | omega | (simp; done) | (simp; omega))
  have omwL : wL.ownsRow (wX0.heap.size) 29 2 (.slice Ag l.length cg) l.length (cellsF cPt (marksPt 1 l.length)) := by repeat' (first | with_reducible assumption | (with_reducible refine own_drew ?_) | (with_reducible refine own_stays ?_ (by with_reducible assumption)) | (with_reducible refine World.ownsRow.alloc ?_ _))
  have bp := bwK.out
  have bn : Below w.heap.size w wL := by repeat' (first | with_reducible assumption | with_reducible exact Below.refl _ _ | (with_reducible refine Below.setCell ?_ ?_ _) | (with_reducible refine Below.alloc ?_ ?_ _) | (with_reducible refine Below.drew ?_) | (with_reducible refine below_dr ?_ _) | (with_reducible refine Below.trans ?_ (Below.mono (by with_reducible assumption) ?_)) | omega | (simp; done) | (simp; omega))
  have bwL := Lib.hid bn
  clear bn
  clear bp bwK
  clear hbwL
  clear bx_f0wK
  clear r1wK
  clear omwK
  have kbx_f00 := bx_f0wL.cell 0 rfl
  have kbx_f01 := bx_f0wL.cell 1 rfl
  have kbx_f02 := bx_f0wL.cell 2 rfl
  have kbx_f03 := bx_f0wL.cell 3 rfl
  have kbx_f04 := bx_f0wL.cell 4 rfl
  have kbx_f05 := bx_f0wL.cell 5 rfl
  have kbx_f06 := bx_f0wL.cell 6 rfl
  have kbx_f07 := bx_f0wL.cell 7 rfl
  have lbx_f0 := bx_f0wL.lt
  go_wp2_with fail
  clear kbx_f00 kbx_f01 kbx_f02 kbx_f03 kbx_f04 kbx_f05 kbx_f06 kbx_f07 lbx_f0
  refine (toCubic_any m0 m1 m2 m3 m4 m5 m6 m7 _).mono ?_
  rintro e wP0 ⟨rfl, hbwP0⟩
  have zwP0 := hbwP0.size
  (try simp only [World.size_setCell] at zwP0)
  (try simp only [World.size_drew] at zwP0)
  (try simp only [World.size_alloc] at zwP0)
  have qwP0 : w.heap.size ≤ wP0.heap.size := by omega
  have bx_f0wP0 : AtL (w.heap.size) [.int .i64 m0, .int .i64 m1, .int .i64 m2, .int .i64 m3, .int .i64 m4, .int .i64 m5, .int .i64 m6, .int .i64 m7] wP0 := by repeat' (first | with_reducible assumption | with_reducible exact AtL.new _ _ _ | ((with_reducible refine AtL.newAt ?_); (first | rfl | (simp; done))) | (with_reducible refine AtL.drew ?_) | (with_reducible refine AtL.below ?_ (by with_reducible assumption)) | (with_reducible refine AtL.alloc ?_ _) | (with_reducible refine AtL.far ?_ ?_ _ _) | omega | (simp; done) | (simp; omega))
  have r1wP0 : Rd cPt 2 wP0 (wC.heap.size) Aw l := by repeat' (first | with_reducible assumption | (with_reducible refine Rd.drew ?_) | (with_reducible refine Rd.carry ?_ (by with_reducible assumption) ?_) | (with_reducible refine Rd.alloc ?_ ?_ _) | (with_reducible refine Rd.setCell ?_ ?_ _) | omega | (simp; done) | (simp; omega))
  have omwP0 : wP0.ownsRow (wX0.heap.size) 29 2 (.slice Ag l.length cg) l.length (cellsF cPt (marksPt 1 l.length)) := by repeat' (first | with_reducible assumption | (with_reducible refine own_drew ?_) | (with_reducible refine own_stays ?_ (by with_reducible assumption)) | (with_reducible refine World.ownsRow.alloc ?_ _))
  have bp := bwL.out
  have bn : Below w.heap.size w wP0 := by repeat' (first | with_reducible assumption | with_reducible exact Below.refl _ _ | (with_reducible refine Below.setCell ?_ ?_ _) | (with_reducible refine Below.alloc ?_ ?_ _) | (with_reducible refine Below.drew ?_) | (with_reducible refine below_dr ?_ _) | (with_reducible refine Below.trans ?_ (Below.mono (by with_reducible assumption) ?_)) | omega | (simp; done) | (simp; omega))
  have bwP0 := Lib.hid bn
  clear bn
  clear bp bwL
  clear hbwP0
  clear bx_f0wL
  clear r1wL
  clear omwL
  go_wp2_with fail
  refine (C2.out _).mono ?_
  intro e wQ hq
  obtain ⟨Ah, ch, rfl, owh, hbwQ⟩ := hq
  have zwQ := hbwQ.size
  (try simp only [World.size_setCell] at zwQ)
  (try simp only [World.size_drew] at zwQ)
  (try simp only [World.size_alloc] at zwQ)
  have qwQ : w.heap.size ≤ wQ.heap.size := by omega
  have bx_f0wQ : AtL (w.heap.size) [.int .i64 m0, .int .i64 m1, .int .i64 m2, .int .i64 m3, .int .i64 m4, .int .i64 m5, .int .i64 m6, .int .i64 m7] wQ := by repeat' (first | with_reducible assumption | with_reducible exact AtL.new _ _ _ | ((with_reducible refine AtL.newAt ?_); (first | rfl | (simp; done))) | (with_reducible refine AtL.drew ?_) | (with_reducible refine AtL.below ?_ (by with_reducible assumption)) | (with_reducible refine AtL.alloc ?_ _) | (with_reducible refine AtL.far ?_ ?_ _ _) | omega | (simp; done) | (simp; omega))
  have r1wQ : Rd cPt 2 wQ (wC.heap.size) Aw l := by repeat' (first | with_reducible assumption | (with_reducible refine Rd.drew ?_) | (with_reducible refine Rd.carry ?_ (by with_reducible assumption) ?_) | (with_reducible refine Rd.alloc ?_ ?_ _) | (with_reducible refine Rd.setCell ?_ ?_ _) | omega | (simp; done) | (simp; omega))
  have omwQ : wQ.ownsRow (wX0.heap.size) 29 2 (.slice Ag l.length cg) l.length (cellsF cPt (marksPt 1 l.length)) := by repeat' (first | with_reducible assumption | (with_reducible refine own_drew ?_) | (with_reducible refine own_stays ?_ (by with_reducible assumption)) | (with_reducible refine World.ownsRow.alloc ?_ _))
  have bp := bwP0.out
  have bn : Below w.heap.size w wQ := by repeat' (first | with_reducible assumption | with_reducible exact Below.refl _ _ | (with_reducible refine Below.setCell ?_ ?_ _) | (with_reducible refine Below.alloc ?_ ?_ _) | (with_reducible refine Below.drew ?_) | (with_reducible refine below_dr ?_ _) | (with_reducible refine Below.trans ?_ (Below.mono (by with_reducible assumption) ?_)) | omega | (simp; done) | (simp; omega))
  have bwQ := Lib.hid bn
  clear bn
  clear bp bwP0
  clear hbwQ
  clear bx_f0wP0
  clear r1wP0
  clear omwP0
  have ohwQ := own_base (base := 0) owh (Nat.zero_le _)
  clear owh
  go_wp2_with fail
  refine (eqPtS_same l Ah Aw ch cw _ (by omega) ?_ ?_).mono ?_
  · refine Rd.of_own (fun a => cPt_len a) (by omega) (base := 0) (e := 29) (n := l.length) (c := ch) ?_ (Nat.le_refl _); (repeat' (first | with_reducible assumption | (with_reducible refine own_drew ?_) | (with_reducible refine own_stays ?_ (by with_reducible assumption)) | (with_reducible refine World.ownsRow.alloc ?_ _)))
  · refine Rd.more (B := wC.heap.size) ?_ (by (try simp only [World.size_drew]); (try simp only [World.size_alloc]); omega)
    repeat' (first | with_reducible assumption | (with_reducible refine Rd.drew ?_) | (with_reducible refine Rd.carry ?_ (by with_reducible assumption) ?_) | (with_reducible refine Rd.alloc ?_ ?_ _) | (with_reducible refine Rd.setCell ?_ ?_ _) | omega | (simp; done) | (simp; omega))
  rintro e wR ⟨rfl, hbwR⟩
  have zwR := hbwR.size
  (try simp only [World.size_setCell] at zwR)
  (try simp only [World.size_drew] at zwR)
  (try simp only [World.size_alloc] at zwR)
  have qwR : w.heap.size ≤ wR.heap.size := by omega
  have bx_f0wR : AtL (w.heap.size) [.int .i64 m0, .int .i64 m1, .int .i64 m2, .int .i64 m3, .int .i64 m4, .int .i64 m5, .int .i64 m6, .int .i64 m7] wR := by repeat' (first | with_reducible assumption | with_reducible exact AtL.new _ _ _ | ((with_reducible refine AtL.newAt ?_); (first | rfl | (simp; done))) | (with_reducible refine AtL.drew ?_) | (with_reducible refine AtL.below ?_ (by with_reducible assumption)) | (with_reducible refine AtL.alloc ?_ _) | (with_reducible refine AtL.far ?_ ?_ _ _) | omega | (simp; done) | (simp; omega))
  have r1wR : Rd cPt 2 wR (wC.heap.size) Aw l := by repeat' (first | with_reducible assumption | (with_reducible refine Rd.drew ?_) | (with_reducible refine Rd.carry ?_ (by with_reducible assumption) ?_) | (with_reducible refine Rd.alloc ?_ ?_ _) | (with_reducible refine Rd.setCell ?_ ?_ _) | omega | (simp; done) | (simp; omega))
  have omwR : wR.ownsRow (wX0.heap.size) 29 2 (.slice Ag l.length cg) l.length (cellsF cPt (marksPt 1 l.length)) := by repeat' (first | with_reducible assumption | (with_reducible refine own_drew ?_) | (with_reducible refine own_stays ?_ (by with_reducible assumption)) | (with_reducible refine World.ownsRow.alloc ?_ _))
  have ohwR : wR.ownsRow (0) 29 2 (.slice Ah l.length ch) l.length (cellsF cPt l) := by repeat' (first | with_reducible assumption | (with_reducible refine own_drew ?_) | (with_reducible refine own_stays ?_ (by with_reducible assumption)) | (with_reducible refine World.ownsRow.alloc ?_ _))
  have bp := bwQ.out
  have bn : Below w.heap.size w wR := by repeat' (first | with_reducible assumption | with_reducible exact Below.refl _ _ | (with_reducible refine Below.setCell ?_ ?_ _) | (with_reducible refine Below.alloc ?_ ?_ _) | (with_reducible refine Below.drew ?_) | (with_reducible refine below_dr ?_ _) | (with_reducible refine Below.trans ?_ (Below.mono (by with_reducible assumption) ?_)) | omega | (simp; done) | (simp; omega))
  have bwR := Lib.hid bn
  clear bn
  clear bp bwQ
  clear hbwR
  clear bx_f0wQ
  clear r1wQ
  clear omwQ
  clear ohwQ
  go_wp2_with fail
  refine (heldPtS_any 1 l.length Ag cg _ (by omega) (by omega) ?_).mono ?_
  · refine Rd.of_own (fun a => cPt_len a) (by omega) (base := wX0.heap.size) (e := 29) (n := l.length) (c := cg) ?_ (Nat.le_refl _); (repeat' (first | with_reducible assumption | (with_reducible refine own_drew ?_) | (with_reducible refine own_stays ?_ (by with_reducible assumption)) | (with_reducible refine World.ownsRow.alloc ?_ _)))
  rw [← HM.out]
  rintro e wV ⟨rfl, hbwV⟩
  have zwV := hbwV.size
  (try simp only [World.size_setCell] at zwV)
  (try simp only [World.size_drew] at zwV)
  (try simp only [World.size_alloc] at zwV)
  have qwV : w.heap.size ≤ wV.heap.size := by omega
  have bx_f0wV : AtL (w.heap.size) [.int .i64 m0, .int .i64 m1, .int .i64 m2, .int .i64 m3, .int .i64 m4, .int .i64 m5, .int .i64 m6, .int .i64 m7] wV := by repeat' (first | with_reducible assumption | with_reducible exact AtL.new _ _ _ | ((with_reducible refine AtL.newAt ?_); (first | rfl | (simp; done))) | (with_reducible refine AtL.drew ?_) | (with_reducible refine AtL.below ?_ (by with_reducible assumption)) | (with_reducible refine AtL.alloc ?_ _) | (with_reducible refine AtL.far ?_ ?_ _ _) | omega | (simp; done) | (simp; omega))
  have r1wV : Rd cPt 2 wV (wC.heap.size) Aw l := by repeat' (first | with_reducible assumption | (with_reducible refine Rd.drew ?_) | (with_reducible refine Rd.carry ?_ (by with_reducible assumption) ?_) | (with_reducible refine Rd.alloc ?_ ?_ _) | (with_reducible refine Rd.setCell ?_ ?_ _) | omega | (simp; done) | (simp; omega))
  have omwV : wV.ownsRow (wX0.heap.size) 29 2 (.slice Ag l.length cg) l.length (cellsF cPt (marksPt 1 l.length)) := by repeat' (first | with_reducible assumption | (with_reducible refine own_drew ?_) | (with_reducible refine own_stays ?_ (by with_reducible assumption)) | (with_reducible refine World.ownsRow.alloc ?_ _))
  have ohwV : wV.ownsRow (0) 29 2 (.slice Ah l.length ch) l.length (cellsF cPt l) := by repeat' (first | with_reducible assumption | (with_reducible refine own_drew ?_) | (with_reducible refine own_stays ?_ (by with_reducible assumption)) | (with_reducible refine World.ownsRow.alloc ?_ _))
  have bp := bwR.out
  have bn : Below w.heap.size w wV := by repeat' (first | with_reducible assumption | with_reducible exact Below.refl _ _ | (with_reducible refine Below.setCell ?_ ?_ _) | (with_reducible refine Below.alloc ?_ ?_ _) | (with_reducible refine Below.drew ?_) | (with_reducible refine below_dr ?_ _) | (with_reducible refine Below.trans ?_ (Below.mono (by with_reducible assumption) ?_)) | omega | (simp; done) | (simp; omega))
  have bwV := Lib.hid bn
  clear bn
  clear bp bwR
  clear hbwV
  clear bx_f0wR
  clear r1wR
  clear omwR
  clear ohwR
  go_wp2_with fail
  go_ret
  have bp := bwV.out
  exact ⟨rfl, by repeat' (first | with_reducible assumption | with_reducible exact Below.refl _ _ | (with_reducible refine Below.setCell ?_ ?_ _) | (with_reducible refine Below.alloc ?_ ?_ _) | (with_reducible refine Below.drew ?_) | (with_reducible refine below_dr ?_ _) | (with_reducible refine Below.trans ?_ (Below.mono (by with_reducible assumption) ?_)) | omega | (simp; done) | (simp; omega))⟩
end Go.Proofs.Yticgomikfleabaa
