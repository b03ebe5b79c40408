/- Walks: points of quadratics, the program's side. -/
import Derived.Test.YticgomikfleabaaCx0
import Derived.Test.YticgomikfleabaaCqt
namespace Go.Proofs.Yticgomikfleabaa
open Go.RowKit
theorem mix2X_bound {m0 m1 m2 m3 m4 m5 k n : Int} (hok : okQ m0 m1 m2 m3 m4 m5 = true) (hn0 : 1 ≤ n) (hn1 : n ≤ 64) (hk0 : 0 ≤ k) (hk1 : k ≤ n) : -17592186044416 ≤ mix2 m0 m2 m4 k n ∧ mix2 m0 m2 m4 k n ≤ 17592186044416 := by
  unfold okQ at hok
  simp only [Bool.and_eq_true] at hok
  obtain ⟨⟨h0, h1⟩, h2⟩ := hok
  obtain ⟨b00, b01, b02, b03⟩ := okB_bounds h0
  obtain ⟨b10, b11, b12, b13⟩ := okB_bounds h1
  obtain ⟨b20, b21, b22, b23⟩ := okB_bounds h2
  have hm : -64 ≤ n - k ∧ n - k ≤ 64 := by omega
  have hk : -64 ≤ k ∧ k ≤ 64 := by omega
  have a1 := mul_in hm hm 4096 rfl
  have a3 := mul_in a1 (show -262144 ≤ m0 ∧ m0 ≤ 262144 by omega) 1073741824 rfl
  have b1 : -128 ≤ 2 * (n - k) ∧ 2 * (n - k) ≤ 128 := by omega
  have b3 := mul_in b1 hk 8192 rfl
  have b4 := mul_in b3 (show -262144 ≤ m2 ∧ m2 ≤ 262144 by omega) 2147483648 rfl
  have d1 := mul_in hk hk 4096 rfl
  have d3 := mul_in d1 (show -262144 ≤ m4 ∧ m4 ≤ 262144 by omega) 1073741824 rfl
  unfold mix2
  omega
theorem mix2Y_bound {m0 m1 m2 m3 m4 m5 k n : Int} (hok : okQ m0 m1 m2 m3 m4 m5 = true) (hn0 : 1 ≤ n) (hn1 : n ≤ 64) (hk0 : 0 ≤ k) (hk1 : k ≤ n) : -17592186044416 ≤ mix2 m1 m3 m5 k n ∧ mix2 m1 m3 m5 k n ≤ 17592186044416 := by
  unfold okQ at hok
  simp only [Bool.and_eq_true] at hok
  obtain ⟨⟨h0, h1⟩, h2⟩ := hok
  obtain ⟨b00, b01, b02, b03⟩ := okB_bounds h0
  obtain ⟨b10, b11, b12, b13⟩ := okB_bounds h1
  obtain ⟨b20, b21, b22, b23⟩ := okB_bounds h2
  have hm : -64 ≤ n - k ∧ n - k ≤ 64 := by omega
  have hk : -64 ≤ k ∧ k ≤ 64 := by omega
  have a1 := mul_in hm hm 4096 rfl
  have a3 := mul_in a1 (show -262144 ≤ m1 ∧ m1 ≤ 262144 by omega) 1073741824 rfl
  have b1 : -128 ≤ 2 * (n - k) ∧ 2 * (n - k) ≤ 128 := by omega
  have b3 := mul_in b1 hk 8192 rfl
  have b4 := mul_in b3 (show -262144 ≤ m3 ∧ m3 ≤ 262144 by omega) 2147483648 rfl
  have d1 := mul_in hk hk 4096 rfl
  have d3 := mul_in d1 (show -262144 ≤ m5 ∧ m5 ≤ 262144 by omega) 1073741824 rfl
  unfold mix2
  omega
set_option maxRecDepth 100000 in
set_option maxHeartbeats 3200000 in
theorem scale3_any (m0 m1 m2 m3 m4 m5 n : Int) (w : World) (h1 : 1 ≤ n) (h2 : n ≤ 64) :
    Calls Try.prog 98 #[.agg #[.int .i64 m0, .int .i64 m1, .int .i64 m2, .int .i64 m3, .int .i64 m4, .int .i64 m5], .int .i64 n] w fun e w' => e = .returned (.int .i64 (n * n)) ∧ Below w.heap.size w w' := by
  have a1 := mul_in (x := n) (y := n) (A := 64) (B := 64) ⟨by omega, by omega⟩ ⟨by omega, by omega⟩ 4096 rfl
  have e1 : IntKind.i64.wrap (n * n) = n * n := IntWalk.i64_in _ (by omega)
  go_enter Try.func98, Try.ntmps98
  go_wp2_with fail
  generalize hW : w.alloc (.cells #[.int .i64 m0, .int .i64 m1, .int .i64 m2, .int .i64 m3, .int .i64 m4, .int .i64 m5] 82) = W0
  have g0 : Below w.heap.size w W0 := by rw [← hW]; repeat' (first | with_reducible assumption | with_reducible exact Below.refl _ _ | (with_reducible refine Below.setCell ?_ ?_ _) | (with_reducible refine Below.alloc ?_ ?_ _) | (with_reducible refine Below.drew ?_) | (with_reducible refine below_dr ?_ _) | (with_reducible refine Below.trans ?_ (Below.mono (by with_reducible assumption) ?_)) | omega | (simp; done) | (simp; omega))
  clear hW
  go_loopw [5, 10] (fun v i wr => ∃ j : Nat, j ≤ 2 ∧ i = .int .i64 j ∧ v = .int .i64 (([1, n, n * n] : List Int).getD j 0) ∧ wr = W0) (fun _ i _ => 2 - (intOf i).toNat)
  case atStart => exact ⟨0, by omega, rfl, rfl, rfl⟩
  case round =>
    obtain ⟨j, hj, rfl, rfl, rfl⟩ := hrel
    rcases (by omega : j = 0 ∨ j = 1 ∨ j = 2) with rfl | rfl | rfl
    · show _
      skip
      go_wp2_with fail
      go_roundw
      case rel => exact ⟨1, by omega, by go_num, by simp, by first | trivial | rfl⟩
      case measure => simp [intOf]
    · show _
      skip
      go_wp2_with fail
      go_roundw
      case rel => exact ⟨2, by omega, by go_num, by simp, by first | trivial | rfl⟩
      case measure => simp [intOf]
    · go_wp2_with fail
      go_ret
      exact ⟨rfl, g0⟩
set_option maxRecDepth 100000 in
set_option maxHeartbeats 6400000 in
theorem at3_any (m0 m1 m2 m3 m4 m5 k n : Int) (w : World) (hok : okQ m0 m1 m2 m3 m4 m5 = true) (hn0 : 1 ≤ n) (hn1 : n ≤ 64) (hk0 : 0 ≤ k) (hk1 : k ≤ n) :
    Calls Try.prog 71 #[.agg #[.int .i64 m0, .int .i64 m1, .int .i64 m2, .int .i64 m3, .int .i64 m4, .int .i64 m5], .int .i64 k, .int .i64 n] w fun e w' => e = .returned (.agg #[.int .i64 (near (mix2 m0 m2 m4 k n) (n * n)), .int .i64 (near (mix2 m1 m3 m5 k n) (n * n))]) ∧ Below w.heap.size w w' := by
  have CB := Lib.hid (fun w => blossom3_any m0 m1 m2 m3 m4 m5 k n 0 w hok hn0 hn1 hk0 hk1 (by omega))
  rw [cas2_mix n k m0 m2 m4, cas2_mix n k m1 m3 m5] at CB
  have CS := Lib.hid (fun w => scale3_any m0 m1 m2 m3 m4 m5 n w hn0 hn1)
  have hm1 : -17592186044416 ≤ mix2 m0 m2 m4 k n ∧ mix2 m0 m2 m4 k n ≤ 17592186044416 := mix2X_bound hok hn0 hn1 hk0 hk1
  have hm2 : -17592186044416 ≤ mix2 m1 m3 m5 k n ∧ mix2 m1 m3 m5 k n ≤ 17592186044416 := mix2Y_bound hok hn0 hn1 hk0 hk1
  have hp : 1 ≤ n * n ∧ n * n ≤ 262144 := by
    have a0 : 0 < n * n := Int.mul_pos (by omega) (by omega)
    have a1 := mul_in (x := n) (y := n) (A := 64) (B := 64) ⟨by omega, by omega⟩ ⟨by omega, by omega⟩ 4096 rfl
    omega
  have CO := Lib.hid (fun w => over_any (mix2 m0 m2 m4 k n) (mix2 m1 m3 m5 k n) (n * n) w (by omega) (by omega) hp.1 (by omega))
  clear hm1 hm2 hp hok hn0 hn1 hk0 hk1
  generalize near (mix2 m0 m2 m4 k n) (n * n) = x at CO ⊢
  generalize near (mix2 m1 m3 m5 k n) (n * n) = y at CO ⊢
  generalize mix2 m0 m2 m4 k n = u at CB CO
  generalize mix2 m1 m3 m5 k n = v at CB CO
  generalize n * n = d at CS CO
  go_enter Try.func71, Try.ntmps71
  go_wp2_with fail
  generalize hW : ((w.alloc (.cells #[.int .i64 m0, .int .i64 m1, .int .i64 m2, .int .i64 m3, .int .i64 m4, .int .i64 m5] 82)).alloc (.cells #[.int .i64 0, .int .i64 0] 29)) = W0
  have g0 : Below w.heap.size w W0 := by rw [← hW]; repeat' (first | assumption | exact Below.refl _ _ | (refine Below.setCell ?_ ?_ _) | (refine Below.alloc ?_ ?_ _) | (refine below_dr ?_ _) | exact Nat.le_refl _ | (simp; done) | (simp; omega))
  have s1 : W0.cell? ⟨w.heap.size, 0, none⟩ = some (.int .i64 m0) := by rw [← hW]; simp [go_sem]
  have s2 : W0.cell? ⟨w.heap.size, 1, none⟩ = some (.int .i64 m1) := by rw [← hW]; simp [go_sem]
  have s3 : W0.cell? ⟨w.heap.size, 2, none⟩ = some (.int .i64 m2) := by rw [← hW]; simp [go_sem]
  have s4 : W0.cell? ⟨w.heap.size, 3, none⟩ = some (.int .i64 m3) := by rw [← hW]; simp [go_sem]
  have s5 : W0.cell? ⟨w.heap.size, 4, none⟩ = some (.int .i64 m4) := by rw [← hW]; simp [go_sem]
  have s6 : W0.cell? ⟨w.heap.size, 5, none⟩ = some (.int .i64 m5) := by rw [← hW]; simp [go_sem]
  have s7 : W0.cell? ⟨w.heap.size + 1, 0, none⟩ = some (.int .i64 0) := by rw [← hW]; simp [go_sem]
  have s8 : W0.cell? ⟨w.heap.size + 1, 1, none⟩ = some (.int .i64 0) := by rw [← hW]; simp [go_sem]
  have f0 : W0.frozen? ⟨w.heap.size + 1, 0, none⟩ = false := by rw [← hW]; simp [go_sem]
  have f1 : W0.frozen? ⟨w.heap.size + 1, 1, none⟩ = false := by rw [← hW]; simp [go_sem]
  have sz : w.heap.size + 1 < W0.heap.size := by rw [← hW]; simp
  clear hW
  go_region_held3 (fun w' => w'.frozen? ⟨w.heap.size + 1, 0, none⟩ = false ∧ w'.frozen? ⟨w.heap.size + 1, 1, none⟩ = false ∧ w'.cell? ⟨w.heap.size, 0, none⟩ = some (.int .i64 m0) ∧ w'.cell? ⟨w.heap.size, 1, none⟩ = some (.int .i64 m1) ∧ w'.cell? ⟨w.heap.size, 2, none⟩ = some (.int .i64 m2) ∧ w'.cell? ⟨w.heap.size, 3, none⟩ = some (.int .i64 m3) ∧ w'.cell? ⟨w.heap.size, 4, none⟩ = some (.int .i64 m4) ∧ w'.cell? ⟨w.heap.size, 5, none⟩ = some (.int .i64 m5) ∧ w.heap.size + 1 < w'.heap.size)
    (first | ((try dsimp only); (repeat' apply And.intro); all_goals (first | assumption | omega | (simp (disch := first | omega | (simp; omega)) [*]; done) | (rw [cell_set_at _ _ (by first | omega | (simp; omega)), cell_set_at _ _ (by first | omega | (simp; omega))]; first | assumption | (simp (disch := first | omega | (simp; omega)) [*]; done)) | (simp; omega))) | fail)
    (first
      | (go_at_call 96; (with_reducible refine (CB.out _).mono ?_); rintro e wA ⟨rfl, hbwA⟩; obtain ⟨hcwA, hfwA⟩ := bcell hbwA; have hzwA := hbwA.size; (try simp only [World.size_drew] at hcwA hfwA hzwA); have qwA : w.heap.size + 1 < wA.heap.size := (by omega))
      | (go_at_call 98; (with_reducible refine (CS.out _).mono ?_); rintro e wA ⟨rfl, hbwA⟩; obtain ⟨hcwA, hfwA⟩ := bcell hbwA; have hzwA := hbwA.size; (try simp only [World.size_drew] at hcwA hfwA hzwA); have qwA : w.heap.size + 1 < wA.heap.size := (by omega))
      | (go_at_call 97; (with_reducible refine (CO.out _).mono ?_); rintro e wA ⟨rfl, hbwA⟩; obtain ⟨hcwA, hfwA⟩ := bcell hbwA; have hzwA := hbwA.size; (try simp only [World.size_drew] at hcwA hfwA hzwA); have qwA : w.heap.size + 1 < wA.heap.size := (by omega)))
  all_goals
    have ra := AtL.of2 s7 s8 sz
    have rb : AtL (w.heap.size + 1) [.int .i64 0, .int .i64 0] wA := by repeat' (first | with_reducible assumption | with_reducible exact AtL.new _ _ _ | (with_reducible refine AtL.drew ?_) | (with_reducible apply AtL.store2) | (with_reducible refine AtL.alloc ?_ _) | (with_reducible refine AtL.far ?_ ?_ _ _) | (with_reducible refine AtL.below ?_ (by with_reducible assumption)) | omega | (simp; done) | (simp; omega))
    have rc := rb.store2 (a := .int .i64 x) (b := .int .i64 y)
    have r0 := rc.cell 0 rfl
    have r1 := rc.cell 1 rfl
    clear ra rb rc
    go_wp2
    refine bodyPost_ret (v := .agg #[.int .i64 x, .int .i64 y]) (by simp [results, Try.results71, go_sem, r0, r1]) rfl ⟨rfl, ?_⟩
    repeat' (first | with_reducible assumption | with_reducible exact Below.refl _ _ | (with_reducible refine Below.setCell ?_ ?_ _) | (with_reducible refine Below.alloc ?_ ?_ _) | (with_reducible refine Below.drew ?_) | (with_reducible refine below_dr ?_ _) | (with_reducible refine Below.trans ?_ (Below.mono (by with_reducible assumption) ?_)) | omega | (simp; done) | (simp; omega))
set_option maxHeartbeats 1600000 in
theorem bezier3_any (m0 m1 m2 m3 m4 m5 : Int) (w : World) :
    Calls Try.prog 39 #[.agg #[.int .i64 m0, .int .i64 m1, .int .i64 m2, .int .i64 m3, .int .i64 m4, .int .i64 m5]] w fun e w' => e = .returned (.agg #[.int .i64 m0, .int .i64 m1, .int .i64 m2, .int .i64 m3, .int .i64 m4, .int .i64 m5]) ∧ Below w.heap.size w w' := by
  go_enter Try.func39, Try.ntmps39
  go_wp2
  refine bodyPost_ret (v := .agg #[.int .i64 m0, .int .i64 m1, .int .i64 m2, .int .i64 m3, .int .i64 m4, .int .i64 m5]) (by simp [results, Try.results39, go_sem]) rfl ⟨rfl, ?_⟩
  repeat' (first | with_reducible assumption | with_reducible exact Below.refl _ _ | (with_reducible refine Below.setCell ?_ ?_ _) | (with_reducible refine Below.alloc ?_ ?_ _) | (with_reducible refine Below.drew ?_) | (with_reducible refine below_dr ?_ _) | (with_reducible refine Below.trans ?_ (Below.mono (by with_reducible assumption) ?_)) | omega | (simp; done) | (simp; omega))
end Go.Proofs.Yticgomikfleabaa
