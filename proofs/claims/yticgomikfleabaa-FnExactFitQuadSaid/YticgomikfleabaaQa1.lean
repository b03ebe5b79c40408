/- Walks: points of quadratics, the reference's side. -/
import Derived.Test.YticgomikfleabaaCx0
namespace Go.Proofs.Yticgomikfleabaa
open Go.RowKit
set_option maxHeartbeats 1600000 in
theorem l10Mix_any (a b c k n : Int) (w : World) (hn0 : 1 ≤ n) (hn1 : n ≤ 64) (hk0 : 0 ≤ k) (hk1 : k ≤ n) (ha : -262144 ≤ a ∧ a ≤ 262144) (hb : -262144 ≤ b ∧ b ≤ 262144) (hc : -262144 ≤ c ∧ c ≤ 262144) :
    Calls Try.prog 95 #[.int .i64 a, .int .i64 b, .int .i64 c, .int .i64 k, .int .i64 n] w fun e w' => e = .returned (.int .i64 (near (mix2 a b c k n) (n * n))) ∧ Below w.heap.size w w' := by
  have hmix : mix2 a b c k n = (n - k) * (n - k) * a + 2 * (n - k) * k * b + k * k * c := rfl
  obtain ⟨m, hmm⟩ : ∃ m, m = n - k := ⟨_, rfl⟩
  rw [← hmm] at hmix
  have e0 : IntKind.i64.wrap (n - k) = m := by rw [hmm]; exact IntWalk.i64_in _ (by omega)
  have hm : -64 ≤ m ∧ m ≤ 64 := by omega
  have hk : -64 ≤ k ∧ k ≤ 64 := by omega
  have hn : -64 ≤ n ∧ n ≤ 64 := by omega
  have hpos : 1 ≤ n * n := by have h1 : 0 < n * n := Int.mul_pos (by omega) (by omega); omega
  have hq1 := mul_in hm hm 4096 rfl
  have hq3 := mul_in hq1 ha 1073741824 rfl
  have hq4 : -128 ≤ 2 * m ∧ 2 * m ≤ 128 := by omega
  have hq6 := mul_in hq4 hk 8192 rfl
  have hq7 := mul_in hq6 hb 2147483648 rfl
  have hqb := mul_in hk hk 4096 rfl
  have hqd := mul_in hqb hc 1073741824 rfl
  have hqe := mul_in hn hn 4096 rfl
  have w0 : IntKind.i64.wrap (m * m) = m * m := IntWalk.i64_in _ (by omega)
  have w1 : IntKind.i64.wrap (m * m * a) = m * m * a := IntWalk.i64_in _ (by omega)
  have w2 : IntKind.i64.wrap (2 * m) = 2 * m := IntWalk.i64_in _ (by omega)
  have w3 : IntKind.i64.wrap (2 * m * k) = 2 * m * k := IntWalk.i64_in _ (by omega)
  have w4 : IntKind.i64.wrap (2 * m * k * b) = 2 * m * k * b := IntWalk.i64_in _ (by omega)
  have w5 : IntKind.i64.wrap (k * k) = k * k := IntWalk.i64_in _ (by omega)
  have w6 : IntKind.i64.wrap (k * k * c) = k * k * c := IntWalk.i64_in _ (by omega)
  have w7 : IntKind.i64.wrap (n * n) = n * n := IntWalk.i64_in _ (by omega)
  have w8 : IntKind.i64.wrap (m * m * a + 2 * m * k * b) = m * m * a + 2 * m * k * b := IntWalk.i64_in _ (by omega)
  have w9 : IntKind.i64.wrap (m * m * a + 2 * m * k * b + k * k * c) = m * m * a + 2 * m * k * b + k * k * c := IntWalk.i64_in _ (by omega)
  have CR := Lib.hid (fun w => l03Round_any (m * m * a + 2 * m * k * b + k * k * c) (n * n) w (by omega) hpos (by omega))
  rw [hmix]
  clear hmix hpos hm hk hn ha hb hc hmm hn0 hn1 hk0 hk1 hq1 hq3 hq4 hq6 hq7 hqb hqd hqe
  generalize near (m * m * a + 2 * m * k * b + k * k * c) (n * n) = R at CR ⊢
  go_enter Try.func95, Try.ntmps95
  go_wp2_with fail
  refine (CR.out _).mono ?_
  rintro e w1 ⟨rfl, hb1⟩
  go_wp2
  go_ret
  exact ⟨rfl, by repeat' (first | with_reducible assumption | with_reducible exact Below.refl _ _ | (with_reducible refine Below.setCell ?_ ?_ _) | (with_reducible refine Below.alloc ?_ ?_ _) | (with_reducible refine Below.drew ?_) | (with_reducible refine below_dr ?_ _) | (with_reducible refine Below.trans ?_ (Below.mono (by with_reducible assumption) ?_)) | omega | (simp; done) | (simp; omega))⟩
set_option maxRecDepth 100000 in
set_option maxHeartbeats 6400000 in
theorem l10At_any (m0 m1 m2 m3 m4 m5 k n : Int) (b : Nat) (w : World) (hb : b < w.heap.size) (c0 : w.cell? ⟨b, 0, none⟩ = some (.int .i64 m0)) (c1 : w.cell? ⟨b, 1, none⟩ = some (.int .i64 m1)) (c2 : w.cell? ⟨b, 2, none⟩ = some (.int .i64 m2)) (c3 : w.cell? ⟨b, 3, none⟩ = some (.int .i64 m3)) (c4 : w.cell? ⟨b, 4, none⟩ = some (.int .i64 m4)) (c5 : w.cell? ⟨b, 5, none⟩ = some (.int .i64 m5)) (hok : okQ m0 m1 m2 m3 m4 m5 = true) (hn0 : 1 ≤ n) (hn1 : n ≤ 64) (hk0 : 0 ≤ k) (hk1 : k ≤ n) :
    Calls Try.prog 64 #[.pointer (some ⟨b, 0, none⟩), .int .i64 k, .int .i64 n] w fun e w' => e = .returned (.agg #[.int .i64 (near (mix2 m0 m2 m4 k n) (n * n)), .int .i64 (near (mix2 m1 m3 m5 k n) (n * n))]) ∧ Below w.heap.size w w' := by
  unfold okQ at hok
  simp only [Bool.and_eq_true] at hok
  obtain ⟨⟨h0, h1⟩, h2⟩ := hok
  obtain ⟨b00, b01, b02, b03⟩ := okB_bounds h0
  obtain ⟨b10, b11, b12, b13⟩ := okB_bounds h1
  obtain ⟨b20, b21, b22, b23⟩ := okB_bounds h2
  have C1 := Lib.hid (fun w => l10Mix_any m0 m2 m4 k n w hn0 hn1 hk0 hk1 ⟨b00, b01⟩ ⟨b10, b11⟩ ⟨b20, b21⟩)
  have C2 := Lib.hid (fun w => l10Mix_any m1 m3 m5 k n w hn0 hn1 hk0 hk1 ⟨b02, b03⟩ ⟨b12, b13⟩ ⟨b22, b23⟩)
  clear h0 h1 h2 hn0 hn1 hk0 hk1 b00 b01 b02 b03 b10 b11 b12 b13 b20 b21 b22 b23
  generalize near (mix2 m0 m2 m4 k n) (n * n) = x at C1 ⊢
  generalize near (mix2 m1 m3 m5 k n) (n * n) = y at C2 ⊢
  go_enter Try.func64, Try.ntmps64
  go_wp2_with fail
  generalize hW : (w.alloc (.cells #[.int .i64 0, .int .i64 0] 29)) = W0
  have g0 : Below w.heap.size w W0 := by rw [← hW]; repeat' (first | assumption | exact Below.refl _ _ | (refine Below.setCell ?_ ?_ _) | (refine Below.alloc ?_ ?_ _) | (refine below_dr ?_ _) | exact Nat.le_refl _ | (simp; done) | (simp; omega))
  have s1 : W0.cell? ⟨w.heap.size, 0, none⟩ = some (.int .i64 0) := by rw [← hW]; simp [go_sem]
  have s2 : W0.cell? ⟨w.heap.size, 1, none⟩ = some (.int .i64 0) := by rw [← hW]; simp [go_sem]
  have f0 : W0.frozen? ⟨w.heap.size, 0, none⟩ = false := by rw [← hW]; simp [go_sem]
  have f1 : W0.frozen? ⟨w.heap.size, 1, none⟩ = false := by rw [← hW]; simp [go_sem]
  have sz : w.heap.size < W0.heap.size := by rw [← hW]; simp
  have d0 : W0.cell? ⟨b, 0, none⟩ = some (.int .i64 m0) := by rw [← hW]; exact (cell_alloc_at _ _ hb).trans c0
  have d1 : W0.cell? ⟨b, 1, none⟩ = some (.int .i64 m1) := by rw [← hW]; exact (cell_alloc_at _ _ hb).trans c1
  have d2 : W0.cell? ⟨b, 2, none⟩ = some (.int .i64 m2) := by rw [← hW]; exact (cell_alloc_at _ _ hb).trans c2
  have d3 : W0.cell? ⟨b, 3, none⟩ = some (.int .i64 m3) := by rw [← hW]; exact (cell_alloc_at _ _ hb).trans c3
  have d4 : W0.cell? ⟨b, 4, none⟩ = some (.int .i64 m4) := by rw [← hW]; exact (cell_alloc_at _ _ hb).trans c4
  have d5 : W0.cell? ⟨b, 5, none⟩ = some (.int .i64 m5) := by rw [← hW]; exact (cell_alloc_at _ _ hb).trans c5
  have zb : b < W0.heap.size := by omega
  clear hW c0 c1 c2 c3 c4 c5
  go_region_held3 (fun w' => w'.frozen? ⟨w.heap.size, 0, none⟩ = false ∧ w'.frozen? ⟨w.heap.size, 1, none⟩ = false ∧ w'.cell? ⟨b, 0, none⟩ = some (.int .i64 m0) ∧ w'.cell? ⟨b, 1, none⟩ = some (.int .i64 m1) ∧ w'.cell? ⟨b, 2, none⟩ = some (.int .i64 m2) ∧ w'.cell? ⟨b, 3, none⟩ = some (.int .i64 m3) ∧ w'.cell? ⟨b, 4, none⟩ = some (.int .i64 m4) ∧ w'.cell? ⟨b, 5, none⟩ = some (.int .i64 m5) ∧ b < w'.heap.size ∧ w.heap.size < w'.heap.size)
    (first | ((try dsimp only); (repeat' apply And.intro); all_goals (first | assumption | omega | (simp (disch := first | omega | (simp; omega)) [*]; done) | (rw [cell_set_at _ _ (by first | omega | (simp; omega)), cell_set_at _ _ (by first | omega | (simp; omega))]; first | assumption | (simp (disch := first | omega | (simp; omega)) [*]; done)) | (simp; omega))) | fail)
    (first
      | (go_at_call 95; (first | (with_reducible refine (C1.out _).mono ?_) | (with_reducible refine (C2.out _).mono ?_)); rintro e wA ⟨rfl, hbwA⟩; obtain ⟨hcwA, hfwA⟩ := bcell hbwA; have hzwA := hbwA.size; (try simp only [World.size_drew] at hcwA hfwA hzwA); have qwA : w.heap.size < wA.heap.size := (by omega); have qbA : b < wA.heap.size := (by omega)))
  have ra := AtL.of2 s1 s2 sz
  have rb : AtL (w.heap.size) [.int .i64 0, .int .i64 0] wA := by repeat' (first | with_reducible assumption | with_reducible exact AtL.new _ _ _ | (with_reducible refine AtL.drew ?_) | (with_reducible apply AtL.store2) | (with_reducible refine AtL.alloc ?_ _) | (with_reducible refine AtL.far ?_ ?_ _ _) | (with_reducible refine AtL.below ?_ (by with_reducible assumption)) | omega | (simp; done) | (simp; omega))
  have rc := rb.store2 (a := .int .i64 x) (b := .int .i64 y)
  have r0 := rc.cell 0 rfl
  have r1 := rc.cell 1 rfl
  clear ra rb rc
  go_wp2
  refine bodyPost_ret (v := .agg #[.int .i64 x, .int .i64 y]) (by simp [results, Try.results64, go_sem, r0, r1]) rfl ⟨rfl, ?_⟩
  repeat' (first | with_reducible assumption | with_reducible exact Below.refl _ _ | (with_reducible refine Below.setCell ?_ ?_ _) | (with_reducible refine Below.alloc ?_ ?_ _) | (with_reducible refine Below.drew ?_) | (with_reducible refine below_dr ?_ _) | (with_reducible refine Below.trans ?_ (Below.mono (by with_reducible assumption) ?_)) | omega | (simp; done) | (simp; omega))
end Go.Proofs.Yticgomikfleabaa
