/- Walks: points of cubics, the program's side. -/
import Derived.Test.YticgomikfleabaaCx0
import Derived.Test.YticgomikfleabaaCs
namespace Go.Proofs.Yticgomikfleabaa
open Go.RowKit
theorem mixIX_bound {m0 m1 m2 m3 m4 m5 m6 m7 k n : Int} (hok : okC m0 m1 m2 m3 m4 m5 m6 m7 = true) (hn0 : 1 ≤ n) (hn1 : n ≤ 64) (hk0 : 0 ≤ k) (hk1 : k ≤ n) : -17592186044416 ≤ mixI m0 m2 m4 m6 k n ∧ mixI m0 m2 m4 m6 k n ≤ 17592186044416 := by
  unfold okC at hok
  simp only [Bool.and_eq_true] at hok
  obtain ⟨⟨⟨h0, h1⟩, h2⟩, h3⟩ := hok
  obtain ⟨b00, b01, b02, b03⟩ := okB_bounds h0
  obtain ⟨b10, b11, b12, b13⟩ := okB_bounds h1
  obtain ⟨b20, b21, b22, b23⟩ := okB_bounds h2
  obtain ⟨b30, b31, b32, b33⟩ := okB_bounds h3
  have hm : -64 ≤ n - k ∧ n - k ≤ 64 := by omega
  have hk : -64 ≤ k ∧ k ≤ 64 := by omega
  have a1 := mul_in hm hm 4096 rfl
  have a2 := mul_in a1 hm 262144 rfl
  have a3 := mul_in a2 (show -262144 ≤ m0 ∧ m0 ≤ 262144 by omega) 68719476736 rfl
  have b1 : -192 ≤ 3 * (n - k) ∧ 3 * (n - k) ≤ 192 := by omega
  have b2 := mul_in b1 hm 12288 rfl
  have b3 := mul_in b2 hk 786432 rfl
  have b4 := mul_in b3 (show -262144 ≤ m2 ∧ m2 ≤ 262144 by omega) 206158430208 rfl
  have c2 := mul_in b1 hk 12288 rfl
  have c3 := mul_in c2 hk 786432 rfl
  have c4 := mul_in c3 (show -262144 ≤ m4 ∧ m4 ≤ 262144 by omega) 206158430208 rfl
  have d1 := mul_in hk hk 4096 rfl
  have d2 := mul_in d1 hk 262144 rfl
  have d3 := mul_in d2 (show -262144 ≤ m6 ∧ m6 ≤ 262144 by omega) 68719476736 rfl
  unfold mixI
  omega
theorem mixIY_bound {m0 m1 m2 m3 m4 m5 m6 m7 k n : Int} (hok : okC m0 m1 m2 m3 m4 m5 m6 m7 = true) (hn0 : 1 ≤ n) (hn1 : n ≤ 64) (hk0 : 0 ≤ k) (hk1 : k ≤ n) : -17592186044416 ≤ mixI m1 m3 m5 m7 k n ∧ mixI m1 m3 m5 m7 k n ≤ 17592186044416 := by
  unfold okC at hok
  simp only [Bool.and_eq_true] at hok
  obtain ⟨⟨⟨h0, h1⟩, h2⟩, h3⟩ := hok
  obtain ⟨b00, b01, b02, b03⟩ := okB_bounds h0
  obtain ⟨b10, b11, b12, b13⟩ := okB_bounds h1
  obtain ⟨b20, b21, b22, b23⟩ := okB_bounds h2
  obtain ⟨b30, b31, b32, b33⟩ := okB_bounds h3
  have hm : -64 ≤ n - k ∧ n - k ≤ 64 := by omega
  have hk : -64 ≤ k ∧ k ≤ 64 := by omega
  have a1 := mul_in hm hm 4096 rfl
  have a2 := mul_in a1 hm 262144 rfl
  have a3 := mul_in a2 (show -262144 ≤ m1 ∧ m1 ≤ 262144 by omega) 68719476736 rfl
  have b1 : -192 ≤ 3 * (n - k) ∧ 3 * (n - k) ≤ 192 := by omega
  have b2 := mul_in b1 hm 12288 rfl
  have b3 := mul_in b2 hk 786432 rfl
  have b4 := mul_in b3 (show -262144 ≤ m3 ∧ m3 ≤ 262144 by omega) 206158430208 rfl
  have c2 := mul_in b1 hk 12288 rfl
  have c3 := mul_in c2 hk 786432 rfl
  have c4 := mul_in c3 (show -262144 ≤ m5 ∧ m5 ≤ 262144 by omega) 206158430208 rfl
  have d1 := mul_in hk hk 4096 rfl
  have d2 := mul_in d1 hk 262144 rfl
  have d3 := mul_in d2 (show -262144 ≤ m7 ∧ m7 ≤ 262144 by omega) 68719476736 rfl
  unfold mixI
  omega
set_option maxRecDepth 100000 in
set_option maxHeartbeats 3200000 in
theorem scale4_any (m0 m1 m2 m3 m4 m5 m6 m7 n : Int) (w : World) (h1 : 1 ≤ n) (h2 : n ≤ 64) :
    Calls Try.prog 103 #[.agg #[.int .i64 m0, .int .i64 m1, .int .i64 m2, .int .i64 m3, .int .i64 m4, .int .i64 m5, .int .i64 m6, .int .i64 m7], .int .i64 n] w fun e w' => e = .returned (.int .i64 (n * n * n)) ∧ Below w.heap.size w w' := by
  have a1 := mul_in (x := n) (y := n) (A := 64) (B := 64) ⟨by omega, by omega⟩ ⟨by omega, by omega⟩ 4096 rfl
  have e1 : IntKind.i64.wrap (n * n) = n * n := IntWalk.i64_in _ (by omega)
  have a2 := mul_in (y := n) (B := 64) a1 ⟨by omega, by omega⟩ 262144 rfl
  have e2 : IntKind.i64.wrap (n * n * n) = n * n * n := IntWalk.i64_in _ (by omega)
  go_enter Try.func103, Try.ntmps103
  go_wp2_with fail
  generalize hW : w.alloc (.cells #[.int .i64 m0, .int .i64 m1, .int .i64 m2, .int .i64 m3, .int .i64 m4, .int .i64 m5, .int .i64 m6, .int .i64 m7] 93) = W0
  have g0 : Below w.heap.size w W0 := by rw [← hW]; repeat' (first | with_reducible assumption | with_reducible exact Below.refl _ _ | (with_reducible refine Below.setCell ?_ ?_ _) | (with_reducible refine Below.alloc ?_ ?_ _) | (with_reducible refine Below.drew ?_) | (with_reducible refine below_dr ?_ _) | (with_reducible refine Below.trans ?_ (Below.mono (by with_reducible assumption) ?_)) | omega | (simp; done) | (simp; omega))
  clear hW
  go_loopw [5, 10] (fun v i wr => ∃ j : Nat, j ≤ 3 ∧ i = .int .i64 j ∧ v = .int .i64 (([1, n, n * n, n * n * n] : List Int).getD j 0) ∧ wr = W0) (fun _ i _ => 3 - (intOf i).toNat)
  case atStart => exact ⟨0, by omega, rfl, rfl, rfl⟩
  case round =>
    obtain ⟨j, hj, rfl, rfl, rfl⟩ := hrel
    rcases (by omega : j = 0 ∨ j = 1 ∨ j = 2 ∨ j = 3) with rfl | rfl | rfl | rfl
    · show _
      skip
      go_wp2_with fail
      go_roundw
      case rel => exact ⟨1, by omega, by go_num, by simp, by first | trivial | rfl⟩
      case measure => simp [intOf]
    · show _
      skip
      go_wp2_with fail
      go_roundw
      case rel => exact ⟨2, by omega, by go_num, by simp, by first | trivial | rfl⟩
      case measure => simp [intOf]
    · show _
      skip
      go_wp2_with fail
      go_roundw
      case rel => exact ⟨3, by omega, by go_num, by simp, by first | trivial | rfl⟩
      case measure => simp [intOf]
    · go_wp2_with fail
      go_ret
      exact ⟨rfl, g0⟩
set_option maxRecDepth 100000 in
set_option maxHeartbeats 6400000 in
theorem at4_any (m0 m1 m2 m3 m4 m5 m6 m7 k n : Int) (w : World) (hok : okC m0 m1 m2 m3 m4 m5 m6 m7 = true) (hn0 : 1 ≤ n) (hn1 : n ≤ 64) (hk0 : 0 ≤ k) (hk1 : k ≤ n) :
    Calls Try.prog 77 #[.agg #[.int .i64 m0, .int .i64 m1, .int .i64 m2, .int .i64 m3, .int .i64 m4, .int .i64 m5, .int .i64 m6, .int .i64 m7], .int .i64 k, .int .i64 n] w fun e w' => e = .returned (.agg #[.int .i64 (near (mixI m0 m2 m4 m6 k n) (n * n * n)), .int .i64 (near (mixI m1 m3 m5 m7 k n) (n * n * n))]) ∧ Below w.heap.size w w' := by
  have CB := Lib.hid (fun w => blossom4_any m0 m1 m2 m3 m4 m5 m6 m7 k n 0 w hok hn0 hn1 hk0 hk1 (by omega))
  rw [cas3_mix n k m0 m2 m4 m6, cas3_mix n k m1 m3 m5 m7] at CB
  have CS := Lib.hid (fun w => scale4_any m0 m1 m2 m3 m4 m5 m6 m7 n w hn0 hn1)
  have hm1 : -17592186044416 ≤ mixI m0 m2 m4 m6 k n ∧ mixI m0 m2 m4 m6 k n ≤ 17592186044416 := mixIX_bound hok hn0 hn1 hk0 hk1
  have hm2 : -17592186044416 ≤ mixI m1 m3 m5 m7 k n ∧ mixI m1 m3 m5 m7 k n ≤ 17592186044416 := mixIY_bound hok hn0 hn1 hk0 hk1
  have hp : 1 ≤ n * n * n ∧ n * n * n ≤ 262144 := by
    have a0 : 0 < n * n := Int.mul_pos (by omega) (by omega)
    have a1 := mul_in (x := n) (y := n) (A := 64) (B := 64) ⟨by omega, by omega⟩ ⟨by omega, by omega⟩ 4096 rfl
    have a3 : 0 < n * n * n := Int.mul_pos a0 (by omega)
    have a2 := mul_in (y := n) (B := 64) a1 ⟨by omega, by omega⟩ 262144 rfl
    omega
  have CO := Lib.hid (fun w => over_any (mixI m0 m2 m4 m6 k n) (mixI m1 m3 m5 m7 k n) (n * n * n) w (by omega) (by omega) hp.1 (by omega))
  clear hm1 hm2 hp hok hn0 hn1 hk0 hk1
  generalize near (mixI m0 m2 m4 m6 k n) (n * n * n) = x at CO ⊢
  generalize near (mixI m1 m3 m5 m7 k n) (n * n * n) = y at CO ⊢
  generalize mixI m0 m2 m4 m6 k n = u at CB CO
  generalize mixI m1 m3 m5 m7 k n = v at CB CO
  generalize n * n * n = d at CS CO
  go_enter Try.func77, Try.ntmps77
  go_wp2_with fail
  generalize hW : ((w.alloc (.cells #[.int .i64 m0, .int .i64 m1, .int .i64 m2, .int .i64 m3, .int .i64 m4, .int .i64 m5, .int .i64 m6, .int .i64 m7] 93)).alloc (.cells #[.int .i64 0, .int .i64 0] 29)) = W0
  have g0 : Below w.heap.size w W0 := by rw [← hW]; repeat' (first | assumption | exact Below.refl _ _ | (refine Below.setCell ?_ ?_ _) | (refine Below.alloc ?_ ?_ _) | (refine below_dr ?_ _) | exact Nat.le_refl _ | (simp; done) | (simp; omega))
  have s1 : W0.cell? ⟨w.heap.size, 0, none⟩ = some (.int .i64 m0) := by rw [← hW]; simp [go_sem]
  have s2 : W0.cell? ⟨w.heap.size, 1, none⟩ = some (.int .i64 m1) := by rw [← hW]; simp [go_sem]
  have s3 : W0.cell? ⟨w.heap.size, 2, none⟩ = some (.int .i64 m2) := by rw [← hW]; simp [go_sem]
  have s4 : W0.cell? ⟨w.heap.size, 3, none⟩ = some (.int .i64 m3) := by rw [← hW]; simp [go_sem]
  have s5 : W0.cell? ⟨w.heap.size, 4, none⟩ = some (.int .i64 m4) := by rw [← hW]; simp [go_sem]
  have s6 : W0.cell? ⟨w.heap.size, 5, none⟩ = some (.int .i64 m5) := by rw [← hW]; simp [go_sem]
  have s7 : W0.cell? ⟨w.heap.size, 6, none⟩ = some (.int .i64 m6) := by rw [← hW]; simp [go_sem]
  have s8 : W0.cell? ⟨w.heap.size, 7, none⟩ = some (.int .i64 m7) := by rw [← hW]; simp [go_sem]
  have s9 : W0.cell? ⟨w.heap.size + 1, 0, none⟩ = some (.int .i64 0) := by rw [← hW]; simp [go_sem]
  have s10 : W0.cell? ⟨w.heap.size + 1, 1, none⟩ = some (.int .i64 0) := by rw [← hW]; simp [go_sem]
  have f0 : W0.frozen? ⟨w.heap.size + 1, 0, none⟩ = false := by rw [← hW]; simp [go_sem]
  have f1 : W0.frozen? ⟨w.heap.size + 1, 1, none⟩ = false := by rw [← hW]; simp [go_sem]
  have sz : w.heap.size + 1 < W0.heap.size := by rw [← hW]; simp
  clear hW
  go_region_held3 (fun w' => w'.frozen? ⟨w.heap.size + 1, 0, none⟩ = false ∧ w'.frozen? ⟨w.heap.size + 1, 1, none⟩ = false ∧ w'.cell? ⟨w.heap.size, 0, none⟩ = some (.int .i64 m0) ∧ w'.cell? ⟨w.heap.size, 1, none⟩ = some (.int .i64 m1) ∧ w'.cell? ⟨w.heap.size, 2, none⟩ = some (.int .i64 m2) ∧ w'.cell? ⟨w.heap.size, 3, none⟩ = some (.int .i64 m3) ∧ w'.cell? ⟨w.heap.size, 4, none⟩ = some (.int .i64 m4) ∧ w'.cell? ⟨w.heap.size, 5, none⟩ = some (.int .i64 m5) ∧ w'.cell? ⟨w.heap.size, 6, none⟩ = some (.int .i64 m6) ∧ w'.cell? ⟨w.heap.size, 7, none⟩ = some (.int .i64 m7) ∧ w.heap.size + 1 < w'.heap.size)
    (first | ((try dsimp only); (repeat' apply And.intro); all_goals (first | assumption | omega | (simp (disch := first | omega | (simp; omega)) [*]; done) | (rw [cell_set_at _ _ (by first | omega | (simp; omega)), cell_set_at _ _ (by first | omega | (simp; omega))]; first | assumption | (simp (disch := first | omega | (simp; omega)) [*]; done)) | (simp; omega))) | fail)
    (first
      | (go_at_call 102; (with_reducible refine (CB.out _).mono ?_); rintro e wA ⟨rfl, hbwA⟩; obtain ⟨hcwA, hfwA⟩ := bcell hbwA; have hzwA := hbwA.size; (try simp only [World.size_drew] at hcwA hfwA hzwA); have qwA : w.heap.size + 1 < wA.heap.size := (by omega))
      | (go_at_call 103; (with_reducible refine (CS.out _).mono ?_); rintro e wA ⟨rfl, hbwA⟩; obtain ⟨hcwA, hfwA⟩ := bcell hbwA; have hzwA := hbwA.size; (try simp only [World.size_drew] at hcwA hfwA hzwA); have qwA : w.heap.size + 1 < wA.heap.size := (by omega))
      | (go_at_call 97; (with_reducible refine (CO.out _).mono ?_); rintro e wA ⟨rfl, hbwA⟩; obtain ⟨hcwA, hfwA⟩ := bcell hbwA; have hzwA := hbwA.size; (try simp only [World.size_drew] at hcwA hfwA hzwA); have qwA : w.heap.size + 1 < wA.heap.size := (by omega)))
  all_goals
    have ra := AtL.of2 s9 s10 sz
    have rb : AtL (w.heap.size + 1) [.int .i64 0, .int .i64 0] wA := by repeat' (first | with_reducible assumption | with_reducible exact AtL.new _ _ _ | (with_reducible refine AtL.drew ?_) | (with_reducible apply AtL.store2) | (with_reducible refine AtL.alloc ?_ _) | (with_reducible refine AtL.far ?_ ?_ _ _) | (with_reducible refine AtL.below ?_ (by with_reducible assumption)) | omega | (simp; done) | (simp; omega))
    have rc := rb.store2 (a := .int .i64 x) (b := .int .i64 y)
    have r0 := rc.cell 0 rfl
    have r1 := rc.cell 1 rfl
    clear ra rb rc
    go_wp2
    refine bodyPost_ret (v := .agg #[.int .i64 x, .int .i64 y]) (by simp [results, Try.results77, go_sem, r0, r1]) rfl ⟨rfl, ?_⟩
    repeat' (first | with_reducible assumption | with_reducible exact Below.refl _ _ | (with_reducible refine Below.setCell ?_ ?_ _) | (with_reducible refine Below.alloc ?_ ?_ _) | (with_reducible refine Below.drew ?_) | (with_reducible refine below_dr ?_ _) | (with_reducible refine Below.trans ?_ (Below.mono (by with_reducible assumption) ?_)) | omega | (simp; done) | (simp; omega))
set_option maxHeartbeats 1600000 in
theorem bezier4_any (m0 m1 m2 m3 m4 m5 m6 m7 : Int) (w : World) :
    Calls Try.prog 45 #[.agg #[.int .i64 m0, .int .i64 m1, .int .i64 m2, .int .i64 m3, .int .i64 m4, .int .i64 m5, .int .i64 m6, .int .i64 m7]] w fun e w' => e = .returned (.agg #[.int .i64 m0, .int .i64 m1, .int .i64 m2, .int .i64 m3, .int .i64 m4, .int .i64 m5, .int .i64 m6, .int .i64 m7]) ∧ Below w.heap.size w w' := by
  go_enter Try.func45, Try.ntmps45
  go_wp2
  refine bodyPost_ret (v := .agg #[.int .i64 m0, .int .i64 m1, .int .i64 m2, .int .i64 m3, .int .i64 m4, .int .i64 m5, .int .i64 m6, .int .i64 m7]) (by simp [results, Try.results45, go_sem]) rfl ⟨rfl, ?_⟩
  repeat' (first | with_reducible assumption | with_reducible exact Below.refl _ _ | (with_reducible refine Below.setCell ?_ ?_ _) | (with_reducible refine Below.alloc ?_ ?_ _) | (with_reducible refine Below.drew ?_) | (with_reducible refine below_dr ?_ _) | (with_reducible refine Below.trans ?_ (Below.mono (by with_reducible assumption) ?_)) | omega | (simp; done) | (simp; omega))
end Go.Proofs.Yticgomikfleabaa
