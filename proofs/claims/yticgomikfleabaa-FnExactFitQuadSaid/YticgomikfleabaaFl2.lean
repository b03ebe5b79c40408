/- Walks: a quadratic is flattened: the reference's function, the program's function. -/
import Derived.Test.YticgomikfleabaaFk
namespace Go.Proofs.Yticgomikfleabaa
open Go.RowKit Go.Shelf
set_option linter.unusedVariables false
theorem own_base2 {w : World} {base base' : Nat} {e : TypeId} {s n : Nat} {v : Value} {xs : List Value} (h : w.ownsRow base' e s v n xs) (hb : base ≤ base') : w.ownsRow base e s v n xs := eown_base h hb
set_option maxHeartbeats 3200000 in
theorem specFlattenQuad_any (m0 m1 m2 m3 m4 m5 t : Int) (w : World) (i_t : -9223372036854775808 ≤ t ∧ t ≤ 9223372036854775807) :
    Calls Try.prog 7 #[.agg #[.int .i64 m0, .int .i64 m1, .int .i64 m2, .int .i64 m3, .int .i64 m4, .int .i64 m5], .int .i64 t] w (FlRet (flQl m0 m1 m2 m3 m4 m5 t) (.int .i64 (flQc m0 m1 m2 m3 m4 m5 t)) w) := by
  rcases hv : okQ m0 m1 m2 m3 m4 m5 with _ | _
  · obtain ⟨hl, hc⟩ := fl_no (t := t) hv
    rw [hl, hc]
    have HV := Lib.hid hv
    clear hv hl hc
    go_enter Try.func7, Try.ntmps7
    go_wp2_with fail
    generalize hW : w.alloc (.cells #[.int .i64 m0, .int .i64 m1, .int .i64 m2, .int .i64 m3, .int .i64 m4, .int .i64 m5] 31) = W0
    have g0 : Below w.heap.size w W0 := by rw [← hW]; repeat' (first | with_reducible assumption | with_reducible exact Below.refl _ _ | (with_reducible refine Below.setCell ?_ ?_ _) | (with_reducible refine Below.alloc ?_ ?_ _) | (with_reducible refine Below.drew ?_) | (with_reducible refine below_dr ?_ _) | (with_reducible refine Below.trans ?_ (Below.mono (by with_reducible assumption) ?_)) | omega | (simp; done) | (simp; omega))
    have b0 : W0.cell? ⟨w.heap.size, 0, none⟩ = some (.int .i64 m0) := by rw [← hW]; simp [go_sem]
    have b1 : W0.cell? ⟨w.heap.size, 1, none⟩ = some (.int .i64 m1) := by rw [← hW]; simp [go_sem]
    have b2 : W0.cell? ⟨w.heap.size, 2, none⟩ = some (.int .i64 m2) := by rw [← hW]; simp [go_sem]
    have b3 : W0.cell? ⟨w.heap.size, 3, none⟩ = some (.int .i64 m3) := by rw [← hW]; simp [go_sem]
    have b4 : W0.cell? ⟨w.heap.size, 4, none⟩ = some (.int .i64 m4) := by rw [← hW]; simp [go_sem]
    have b5 : W0.cell? ⟨w.heap.size, 5, none⟩ = some (.int .i64 m5) := by rw [← hW]; simp [go_sem]
    have bz : w.heap.size < W0.heap.size := by rw [← hW]; simp
    clear hW
    refine (l10Quad_any m0 m1 m2 m3 m4 m5 _ _ bz b0 b1 b2 b3 b4 b5).mono ?_
    rw [HV.out]; rintro e w1 ⟨rfl, hbw1⟩
    go_wp2
    refine bodyPost_ret (v := .tuple #[.slice none 0 0, .int .i64 1]) (by simp [results, Try.results7, go_sem]) rfl (FlRet.nil (by repeat' (first | with_reducible assumption | with_reducible exact Below.refl _ _ | (with_reducible refine Below.setCell ?_ ?_ _) | (with_reducible refine Below.alloc ?_ ?_ _) | (with_reducible refine Below.drew ?_) | (with_reducible refine below_dr ?_ _) | (with_reducible refine Below.trans ?_ (Below.mono (by with_reducible assumption) ?_)) | omega | (simp; done) | (simp; omega))))
  by_cases ht : t < 1 ∨ 262144 < t
  · obtain ⟨hl, hc⟩ := fl_tol hv ht
    rw [hl, hc]
    have HV := Lib.hid hv
    have HT := Lib.hid ht
    clear hv hl hc ht
    go_enter Try.func7, Try.ntmps7
    go_wp2_with fail
    generalize hW : w.alloc (.cells #[.int .i64 m0, .int .i64 m1, .int .i64 m2, .int .i64 m3, .int .i64 m4, .int .i64 m5] 31) = W0
    have g0 : Below w.heap.size w W0 := by rw [← hW]; repeat' (first | with_reducible assumption | with_reducible exact Below.refl _ _ | (with_reducible refine Below.setCell ?_ ?_ _) | (with_reducible refine Below.alloc ?_ ?_ _) | (with_reducible refine Below.drew ?_) | (with_reducible refine below_dr ?_ _) | (with_reducible refine Below.trans ?_ (Below.mono (by with_reducible assumption) ?_)) | omega | (simp; done) | (simp; omega))
    have b0 : W0.cell? ⟨w.heap.size, 0, none⟩ = some (.int .i64 m0) := by rw [← hW]; simp [go_sem]
    have b1 : W0.cell? ⟨w.heap.size, 1, none⟩ = some (.int .i64 m1) := by rw [← hW]; simp [go_sem]
    have b2 : W0.cell? ⟨w.heap.size, 2, none⟩ = some (.int .i64 m2) := by rw [← hW]; simp [go_sem]
    have b3 : W0.cell? ⟨w.heap.size, 3, none⟩ = some (.int .i64 m3) := by rw [← hW]; simp [go_sem]
    have b4 : W0.cell? ⟨w.heap.size, 4, none⟩ = some (.int .i64 m4) := by rw [← hW]; simp [go_sem]
    have b5 : W0.cell? ⟨w.heap.size, 5, none⟩ = some (.int .i64 m5) := by rw [← hW]; simp [go_sem]
    have bz : w.heap.size < W0.heap.size := by rw [← hW]; simp
    clear hW
    refine (l10Quad_any m0 m1 m2 m3 m4 m5 _ _ bz b0 b1 b2 b3 b4 b5).mono ?_
    rw [HV.out]; rintro e w1 ⟨rfl, hbw1⟩
    go_wp2_with fail
    refine (l09Tol_no _ _ HT.out).mono ?_
    rintro e w2 ⟨rfl, rfl⟩
    go_wp2
    refine bodyPost_ret (v := .tuple #[.slice none 0 0, .int .i64 2]) (by simp [results, Try.results7, go_sem]) rfl (FlRet.nil (by repeat' (first | with_reducible assumption | with_reducible exact Below.refl _ _ | (with_reducible refine Below.setCell ?_ ?_ _) | (with_reducible refine Below.alloc ?_ ?_ _) | (with_reducible refine Below.drew ?_) | (with_reducible refine below_dr ?_ _) | (with_reducible refine Below.trans ?_ (Below.mono (by with_reducible assumption) ?_)) | omega | (simp; done) | (simp; omega))))
  have t1 : 1 ≤ t := by omega
  have t2 : t ≤ 262144 := by omega
  clear ht
  have HV := Lib.hid hv
  have FL := Lib.hid (fun (b : Nat) (w : World) (hb : b < w.heap.size) (c0 : w.cell? ⟨b, 0, none⟩ = some (.int .i64 m0)) (c1 : w.cell? ⟨b, 1, none⟩ = some (.int .i64 m1)) (c2 : w.cell? ⟨b, 2, none⟩ = some (.int .i64 m2)) (c3 : w.cell? ⟨b, 3, none⟩ = some (.int .i64 m3)) (c4 : w.cell? ⟨b, 4, none⟩ = some (.int .i64 m4)) (c5 : w.cell? ⟨b, 5, none⟩ = some (.int .i64 m5)) => l10Flat_any m0 m1 m2 m3 m4 m5 t b w hb c0 c1 c2 c3 c4 c5 hv t1 t2)
  rcases hB : lvB (szQ m0 m1 m2 m3 m4 m5) t with _ | _
  · obtain ⟨hl, hc⟩ := fl_big hv t1 t2 hB
    rw [hl, hc]
    rw [hB] at FL
    clear hv hl hc hB
    go_enter Try.func7, Try.ntmps7
    go_wp2_with fail
    generalize hW : w.alloc (.cells #[.int .i64 m0, .int .i64 m1, .int .i64 m2, .int .i64 m3, .int .i64 m4, .int .i64 m5] 31) = W0
    have g0 : Below w.heap.size w W0 := by rw [← hW]; repeat' (first | with_reducible assumption | with_reducible exact Below.refl _ _ | (with_reducible refine Below.setCell ?_ ?_ _) | (with_reducible refine Below.alloc ?_ ?_ _) | (with_reducible refine Below.drew ?_) | (with_reducible refine below_dr ?_ _) | (with_reducible refine Below.trans ?_ (Below.mono (by with_reducible assumption) ?_)) | omega | (simp; done) | (simp; omega))
    have b0 : W0.cell? ⟨w.heap.size, 0, none⟩ = some (.int .i64 m0) := by rw [← hW]; simp [go_sem]
    have b1 : W0.cell? ⟨w.heap.size, 1, none⟩ = some (.int .i64 m1) := by rw [← hW]; simp [go_sem]
    have b2 : W0.cell? ⟨w.heap.size, 2, none⟩ = some (.int .i64 m2) := by rw [← hW]; simp [go_sem]
    have b3 : W0.cell? ⟨w.heap.size, 3, none⟩ = some (.int .i64 m3) := by rw [← hW]; simp [go_sem]
    have b4 : W0.cell? ⟨w.heap.size, 4, none⟩ = some (.int .i64 m4) := by rw [← hW]; simp [go_sem]
    have b5 : W0.cell? ⟨w.heap.size, 5, none⟩ = some (.int .i64 m5) := by rw [← hW]; simp [go_sem]
    have bz : w.heap.size < W0.heap.size := by rw [← hW]; simp
    clear hW
    refine (l10Quad_any m0 m1 m2 m3 m4 m5 _ _ bz b0 b1 b2 b3 b4 b5).mono ?_
    rw [HV.out]; rintro e w1 ⟨rfl, hbw1⟩
    have zw1 := hbw1.size
    have gw1 : Below w.heap.size w w1 := by repeat' (first | with_reducible assumption | with_reducible exact Below.refl _ _ | (with_reducible refine Below.setCell ?_ ?_ _) | (with_reducible refine Below.alloc ?_ ?_ _) | (with_reducible refine Below.drew ?_) | (with_reducible refine below_dr ?_ _) | (with_reducible refine Below.trans ?_ (Below.mono (by with_reducible assumption) ?_)) | omega | (simp; done) | (simp; omega))
    have lw1 : w.heap.size < w1.heap.size := by omega
    have d0 := (hbw1.cell (p := ⟨w.heap.size, 0, none⟩) bz).trans b0
    have d1 := (hbw1.cell (p := ⟨w.heap.size, 1, none⟩) bz).trans b1
    have d2 := (hbw1.cell (p := ⟨w.heap.size, 2, none⟩) bz).trans b2
    have d3 := (hbw1.cell (p := ⟨w.heap.size, 3, none⟩) bz).trans b3
    have d4 := (hbw1.cell (p := ⟨w.heap.size, 4, none⟩) bz).trans b4
    have d5 := (hbw1.cell (p := ⟨w.heap.size, 5, none⟩) bz).trans b5
    go_wp2_with fail
    refine (l09Tol_yes _ _ t1 t2).mono ?_
    rintro e w2 ⟨rfl, rfl⟩
    go_wp2_with fail
    refine (FL.out _ _ lw1 d0 d1 d2 d3 d4 d5).mono ?_
    rintro e w3 ⟨A, k, rfl, ow, hb3⟩
    go_wp2
    refine bodyPost_ret (v := .tuple #[.slice none 0 0, .int .i64 5]) (by simp [results, Try.results7, go_sem]) rfl (FlRet.nil (by repeat' (first | with_reducible assumption | with_reducible exact Below.refl _ _ | (with_reducible refine Below.setCell ?_ ?_ _) | (with_reducible refine Below.alloc ?_ ?_ _) | (with_reducible refine Below.drew ?_) | (with_reducible refine below_dr ?_ _) | (with_reducible refine Below.trans ?_ (Below.mono (by with_reducible assumption) ?_)) | omega | (simp; done) | (simp; omega))))
  · have hc := (fl_yes hv t1 t2 hB).2
    rw [hc]
    rw [hB] at FL
    clear hv hc hB
    generalize flQl m0 m1 m2 m3 m4 m5 t = l at *
    go_enter Try.func7, Try.ntmps7
    go_wp2_with fail
    generalize hW : w.alloc (.cells #[.int .i64 m0, .int .i64 m1, .int .i64 m2, .int .i64 m3, .int .i64 m4, .int .i64 m5] 31) = W0
    have g0 : Below w.heap.size w W0 := by rw [← hW]; repeat' (first | with_reducible assumption | with_reducible exact Below.refl _ _ | (with_reducible refine Below.setCell ?_ ?_ _) | (with_reducible refine Below.alloc ?_ ?_ _) | (with_reducible refine Below.drew ?_) | (with_reducible refine below_dr ?_ _) | (with_reducible refine Below.trans ?_ (Below.mono (by with_reducible assumption) ?_)) | omega | (simp; done) | (simp; omega))
    have b0 : W0.cell? ⟨w.heap.size, 0, none⟩ = some (.int .i64 m0) := by rw [← hW]; simp [go_sem]
    have b1 : W0.cell? ⟨w.heap.size, 1, none⟩ = some (.int .i64 m1) := by rw [← hW]; simp [go_sem]
    have b2 : W0.cell? ⟨w.heap.size, 2, none⟩ = some (.int .i64 m2) := by rw [← hW]; simp [go_sem]
    have b3 : W0.cell? ⟨w.heap.size, 3, none⟩ = some (.int .i64 m3) := by rw [← hW]; simp [go_sem]
    have b4 : W0.cell? ⟨w.heap.size, 4, none⟩ = some (.int .i64 m4) := by rw [← hW]; simp [go_sem]
    have b5 : W0.cell? ⟨w.heap.size, 5, none⟩ = some (.int .i64 m5) := by rw [← hW]; simp [go_sem]
    have bz : w.heap.size < W0.heap.size := by rw [← hW]; simp
    clear hW
    refine (l10Quad_any m0 m1 m2 m3 m4 m5 _ _ bz b0 b1 b2 b3 b4 b5).mono ?_
    rw [HV.out]; rintro e w1 ⟨rfl, hbw1⟩
    have zw1 := hbw1.size
    have gw1 : Below w.heap.size w w1 := by repeat' (first | with_reducible assumption | with_reducible exact Below.refl _ _ | (with_reducible refine Below.setCell ?_ ?_ _) | (with_reducible refine Below.alloc ?_ ?_ _) | (with_reducible refine Below.drew ?_) | (with_reducible refine below_dr ?_ _) | (with_reducible refine Below.trans ?_ (Below.mono (by with_reducible assumption) ?_)) | omega | (simp; done) | (simp; omega))
    have lw1 : w.heap.size < w1.heap.size := by omega
    have d0 := (hbw1.cell (p := ⟨w.heap.size, 0, none⟩) bz).trans b0
    have d1 := (hbw1.cell (p := ⟨w.heap.size, 1, none⟩) bz).trans b1
    have d2 := (hbw1.cell (p := ⟨w.heap.size, 2, none⟩) bz).trans b2
    have d3 := (hbw1.cell (p := ⟨w.heap.size, 3, none⟩) bz).trans b3
    have d4 := (hbw1.cell (p := ⟨w.heap.size, 4, none⟩) bz).trans b4
    have d5 := (hbw1.cell (p := ⟨w.heap.size, 5, none⟩) bz).trans b5
    go_wp2_with fail
    refine (l09Tol_yes _ _ t1 t2).mono ?_
    rintro e w2 ⟨rfl, rfl⟩
    go_wp2_with fail
    refine (FL.out _ _ lw1 d0 d1 d2 d3 d4 d5).mono ?_
    rintro e w3 ⟨A, k, rfl, ow, hb3⟩
    go_wp2
    refine bodyPost_ret (v := .tuple #[.slice A l.length k, .int .i64 0]) (by simp [results, Try.results7, go_sem]) rfl ⟨A, k, rfl, own_base2 ow (by omega), by repeat' (first | with_reducible assumption | with_reducible exact Below.refl _ _ | (with_reducible refine Below.setCell ?_ ?_ _) | (with_reducible refine Below.alloc ?_ ?_ _) | (with_reducible refine Below.drew ?_) | (with_reducible refine below_dr ?_ _) | (with_reducible refine Below.trans ?_ (Below.mono (by with_reducible assumption) ?_)) | omega | (simp; done) | (simp; omega))⟩
set_option maxHeartbeats 1600000 in
theorem along3_any (m0 m1 m2 m3 m4 m5 lv : Int) (w : World) :
    Calls Try.prog 40 #[.agg #[.int .i64 m0, .int .i64 m1, .int .i64 m2, .int .i64 m3, .int .i64 m4, .int .i64 m5], .int .i64 lv] w fun e w' => e = .returned (.func (.func 70) #[] #[.pointer (some ⟨w.heap.size + 1, 0, none⟩), .pointer (some ⟨w.heap.size, 0, none⟩)]) ∧ Below w.heap.size w w' ∧
      w'.cell? ⟨w.heap.size + 1, 0, none⟩ = some (.int .i64 lv) ∧ w'.cell? ⟨w.heap.size, 0, none⟩ = some (.int .i64 m0) ∧ w'.cell? ⟨w.heap.size, 1, none⟩ = some (.int .i64 m1) ∧ w'.cell? ⟨w.heap.size, 2, none⟩ = some (.int .i64 m2) ∧ w'.cell? ⟨w.heap.size, 3, none⟩ = some (.int .i64 m3) ∧ w'.cell? ⟨w.heap.size, 4, none⟩ = some (.int .i64 m4) ∧ w'.cell? ⟨w.heap.size, 5, none⟩ = some (.int .i64 m5) ∧ w.heap.size + 1 < w'.heap.size := by
  go_enter Try.func40, Try.ntmps40
  go_wp2
  go_ret
  exact ⟨rfl, by repeat' (first | with_reducible assumption | with_reducible exact Below.refl _ _ | (with_reducible refine Below.setCell ?_ ?_ _) | (with_reducible refine Below.alloc ?_ ?_ _) | (with_reducible refine Below.drew ?_) | (with_reducible refine below_dr ?_ _) | (with_reducible refine Below.trans ?_ (Below.mono (by with_reducible assumption) ?_)) | omega | (simp; done) | (simp; omega)), by simp [go_sem], by simp [go_sem], by simp [go_sem], by simp [go_sem], by simp [go_sem], by simp [go_sem], by simp [go_sem], by simp⟩
theorem enters_along3 : ∀ args w, (callFunc 70 args).run Try.prog w = .ok (.enter 70 args) w := enters_of Try.func70 (by kernel_rfl) rfl
theorem flat3_any (m0 m1 m2 m3 m4 m5 lv : Int) (N : Nat) (Bl Bb : Nat) (w : World) (hN1 : 1 ≤ N) (hN : N ≤ 64) (hshl : ∀ w, (Go.Op.shift .shl .i64 1 .i64 lv).run Try.prog w = .ok (.int .i64 (N : Int)) w) (hok : okQ m0 m1 m2 m3 m4 m5 = true)
    (hl : w.cell? ⟨Bl, 0, none⟩ = some (.int .i64 lv)) (b0 : w.cell? ⟨Bb, 0, none⟩ = some (.int .i64 m0)) (b1 : w.cell? ⟨Bb, 1, none⟩ = some (.int .i64 m1)) (b2 : w.cell? ⟨Bb, 2, none⟩ = some (.int .i64 m2)) (b3 : w.cell? ⟨Bb, 3, none⟩ = some (.int .i64 m3)) (b4 : w.cell? ⟨Bb, 4, none⟩ = some (.int .i64 m4)) (b5 : w.cell? ⟨Bb, 5, none⟩ = some (.int .i64 m5)) (hBl : Bl < w.heap.size) (hBb : Bb < w.heap.size) :
    Calls Try.prog 38 #[.func (.func 70) #[] #[.pointer (some ⟨Bl, 0, none⟩), .pointer (some ⟨Bb, 0, none⟩)]] w fun e W' => ∃ A c, e = .returned (.slice A (upP (crvQ m0 m1 m2 m3 m4 m5 N) (N + 1)).length c) ∧ W'.ownsRow w.heap.size 29 2 (.slice A (upP (crvQ m0 m1 m2 m3 m4 m5 N) (N + 1)).length c) (upP (crvQ m0 m1 m2 m3 m4 m5 N) (N + 1)).length (cellsF cPt (upP (crvQ m0 m1 m2 m3 m4 m5 N) (N + 1))) ∧ Below w.heap.size w W' := by
  refine collect_any _ _ _ (by rw [upP_len]; omega) w enters_along3 (fun W hW => ?_)
  intro l J Jx W2 hW2 hJ hJx hY h0
  rw [upP_len] at hY
  have hWW : Below w.heap.size w W2 := hW.trans (hW2.mono hW.size)
  exact along1Q_in m0 m1 m2 m3 m4 m5 lv N (crvQ m0 m1 m2 m3 m4 m5 N) hN hshl (fun k hk w => at3_any m0 m1 m2 m3 m4 m5 (k : Int) (N : Int) w hok (by omega) (by omega) (by omega) (by omega)) l Bl Bb w.heap.size J Jx hY W2 ((hWW.cell (p := ⟨Bl, 0, none⟩) hBl).trans hl) ((hWW.cell (p := ⟨Bb, 0, none⟩) hBb).trans b0) ((hWW.cell (p := ⟨Bb, 1, none⟩) hBb).trans b1) ((hWW.cell (p := ⟨Bb, 2, none⟩) hBb).trans b2) ((hWW.cell (p := ⟨Bb, 3, none⟩) hBb).trans b3) ((hWW.cell (p := ⟨Bb, 4, none⟩) hBb).trans b4) ((hWW.cell (p := ⟨Bb, 5, none⟩) hBb).trans b5) hBl hBb hWW.size hJ h0
set_option maxHeartbeats 6400000 in
theorem implFlattenQuad_any (m0 m1 m2 m3 m4 m5 t : Int) (w : World) (i_t : -9223372036854775808 ≤ t ∧ t ≤ 9223372036854775807) :
    Calls Try.prog 9 #[.agg #[.int .i64 m0, .int .i64 m1, .int .i64 m2, .int .i64 m3, .int .i64 m4, .int .i64 m5], .int .i64 t] w (FlRet (flQl m0 m1 m2 m3 m4 m5 t) (.int .i64 (flQc m0 m1 m2 m3 m4 m5 t)) w) := by
  rcases hv : okQ m0 m1 m2 m3 m4 m5 with _ | _
  · obtain ⟨hl, hc⟩ := fl_no (t := t) hv
    rw [hl, hc]
    have HV := Lib.hid hv
    clear hv hl hc
    go_enter Try.func9, Try.ntmps9
    go_wp2_with fail
    refine (implQuad_any m0 m1 m2 m3 m4 m5 _).mono ?_
    rw [HV.out]; rintro e w1 ⟨rfl, hbw1⟩
    go_wp2
    refine bodyPost_ret (v := .tuple #[.slice none 0 0, .int .i64 1]) (by simp [results, Try.results9, go_sem]) rfl (FlRet.nil (by repeat' (first | with_reducible assumption | with_reducible exact Below.refl _ _ | (with_reducible refine Below.setCell ?_ ?_ _) | (with_reducible refine Below.alloc ?_ ?_ _) | (with_reducible refine Below.drew ?_) | (with_reducible refine below_dr ?_ _) | (with_reducible refine Below.trans ?_ (Below.mono (by with_reducible assumption) ?_)) | omega | (simp; done) | (simp; omega))))
  obtain ⟨h0, h1, h2⟩ := okQ_parts hv
  obtain ⟨z01, z02, z03, z04⟩ := okB_bounds h0
  obtain ⟨z11, z12, z13, z14⟩ := okB_bounds h1
  obtain ⟨z21, z22, z23, z24⟩ := okB_bounds h2
  have C1 := Lib.hid (fun w => secDiff_any m0 m1 m2 m3 m4 m5 w h0 h1 h2)
  rw [show m0 - 2 * m2 + m4 = secI m0 m2 m4 from rfl, show m1 - 2 * m3 + m5 = secI m1 m3 m5 from rfl] at C1
  have C2 := Lib.hid (fun w => implSize_any (secI m0 m2 m4) (secI m1 m3 m5) w (secI_bound (by omega) (by omega) (by omega) (by omega) (by omega) (by omega)) (secI_bound (by omega) (by omega) (by omega) (by omega) (by omega) (by omega)))
  rw [show szI (secI m0 m2 m4) (secI m1 m3 m5) = szQ m0 m1 m2 m3 m4 m5 from rfl] at C2
  clear h0 h1 h2 z01 z02 z03 z04 z11 z12 z13 z14 z21 z22 z23 z24
  generalize secI m0 m2 m4 = s1 at C1 C2
  generalize secI m1 m3 m5 = s2 at C1 C2
  by_cases ht : t < 1 ∨ 262144 < t
  · obtain ⟨hl, hc⟩ := fl_tol hv ht
    rw [hl, hc]
    have LL := Lib.hid (fun w => leastLevel_no (szQ m0 m1 m2 m3 m4 m5) t w ht)
    have HV := Lib.hid hv
    clear hv hl hc ht
    generalize szQ m0 m1 m2 m3 m4 m5 = B at *
    go_enter Try.func9, Try.ntmps9
    go_wp2_with fail
    refine (implQuad_any m0 m1 m2 m3 m4 m5 _).mono ?_
    rw [HV.out]; rintro e w1 ⟨rfl, hbw1⟩
    have g1 : Below w.heap.size w w1 := (by repeat' (first | with_reducible assumption | with_reducible exact Below.refl _ _ | (with_reducible refine Below.setCell ?_ ?_ _) | (with_reducible refine Below.alloc ?_ ?_ _) | (with_reducible refine Below.drew ?_) | (with_reducible refine below_dr ?_ _) | (with_reducible refine Below.trans ?_ (Below.mono (by with_reducible assumption) ?_)) | omega | (simp; done) | (simp; omega)))
    obtain ⟨hcw1, hfw1⟩ := bcell hbw1
    have hzw1 := hbw1.size
    (try simp only [World.size_alloc] at hcw1 hfw1 hzw1)
    have s1 : w1.cell? ⟨w.heap.size, 0, none⟩ = some (.int .i64 m0) := (hcw1 _ _ (by omega)).trans (by first | assumption | (refine (cell_alloc_at _ _ ?_).trans ?_; omega; assumption) | (simp [go_sem]; done) | (simp [go_sem, *]; done))
    have s2 : w1.cell? ⟨w.heap.size, 1, none⟩ = some (.int .i64 m1) := (hcw1 _ _ (by omega)).trans (by first | assumption | (refine (cell_alloc_at _ _ ?_).trans ?_; omega; assumption) | (simp [go_sem]; done) | (simp [go_sem, *]; done))
    have s3 : w1.cell? ⟨w.heap.size, 2, none⟩ = some (.int .i64 m2) := (hcw1 _ _ (by omega)).trans (by first | assumption | (refine (cell_alloc_at _ _ ?_).trans ?_; omega; assumption) | (simp [go_sem]; done) | (simp [go_sem, *]; done))
    have s4 : w1.cell? ⟨w.heap.size, 3, none⟩ = some (.int .i64 m3) := (hcw1 _ _ (by omega)).trans (by first | assumption | (refine (cell_alloc_at _ _ ?_).trans ?_; omega; assumption) | (simp [go_sem]; done) | (simp [go_sem, *]; done))
    have s5 : w1.cell? ⟨w.heap.size, 4, none⟩ = some (.int .i64 m4) := (hcw1 _ _ (by omega)).trans (by first | assumption | (refine (cell_alloc_at _ _ ?_).trans ?_; omega; assumption) | (simp [go_sem]; done) | (simp [go_sem, *]; done))
    have s6 : w1.cell? ⟨w.heap.size, 5, none⟩ = some (.int .i64 m5) := (hcw1 _ _ (by omega)).trans (by first | assumption | (refine (cell_alloc_at _ _ ?_).trans ?_; omega; assumption) | (simp [go_sem]; done) | (simp [go_sem, *]; done))
    have sz : w.heap.size < w1.heap.size := (by omega)
    clear hcw1 hfw1 hzw1
    go_wp2_with fail
    refine (C1.out _).mono ?_
    rintro e w2 ⟨rfl, hbw2⟩
    have g2 : Below w.heap.size w w2 := (by repeat' (first | with_reducible assumption | with_reducible exact Below.refl _ _ | (with_reducible refine Below.setCell ?_ ?_ _) | (with_reducible refine Below.alloc ?_ ?_ _) | (with_reducible refine Below.drew ?_) | (with_reducible refine below_dr ?_ _) | (with_reducible refine Below.trans ?_ (Below.mono (by with_reducible assumption) ?_)) | omega | (simp; done) | (simp; omega)))
    obtain ⟨hcw2, hfw2⟩ := bcell hbw2
    have hzw2 := hbw2.size
    (try simp only [World.size_alloc] at hcw2 hfw2 hzw2)
    have t1 : w2.cell? ⟨w.heap.size, 0, none⟩ = some (.int .i64 m0) := (hcw2 _ _ (by omega)).trans (by first | assumption | (refine (cell_alloc_at _ _ ?_).trans ?_; omega; assumption) | (simp [go_sem]; done) | (simp [go_sem, *]; done))
    have t2 : w2.cell? ⟨w.heap.size, 1, none⟩ = some (.int .i64 m1) := (hcw2 _ _ (by omega)).trans (by first | assumption | (refine (cell_alloc_at _ _ ?_).trans ?_; omega; assumption) | (simp [go_sem]; done) | (simp [go_sem, *]; done))
    have t3 : w2.cell? ⟨w.heap.size, 2, none⟩ = some (.int .i64 m2) := (hcw2 _ _ (by omega)).trans (by first | assumption | (refine (cell_alloc_at _ _ ?_).trans ?_; omega; assumption) | (simp [go_sem]; done) | (simp [go_sem, *]; done))
    have t4 : w2.cell? ⟨w.heap.size, 3, none⟩ = some (.int .i64 m3) := (hcw2 _ _ (by omega)).trans (by first | assumption | (refine (cell_alloc_at _ _ ?_).trans ?_; omega; assumption) | (simp [go_sem]; done) | (simp [go_sem, *]; done))
    have t5 : w2.cell? ⟨w.heap.size, 4, none⟩ = some (.int .i64 m4) := (hcw2 _ _ (by omega)).trans (by first | assumption | (refine (cell_alloc_at _ _ ?_).trans ?_; omega; assumption) | (simp [go_sem]; done) | (simp [go_sem, *]; done))
    have t6 : w2.cell? ⟨w.heap.size, 5, none⟩ = some (.int .i64 m5) := (hcw2 _ _ (by omega)).trans (by first | assumption | (refine (cell_alloc_at _ _ ?_).trans ?_; omega; assumption) | (simp [go_sem]; done) | (simp [go_sem, *]; done))
    have tz : w.heap.size < w2.heap.size := (by omega)
    clear hcw2 hfw2 hzw2
    go_wp2_with fail
    refine (C2.out _).mono ?_
    rintro e w3 ⟨rfl, hbw3⟩
    have g3 : Below w.heap.size w w3 := (by repeat' (first | with_reducible assumption | with_reducible exact Below.refl _ _ | (with_reducible refine Below.setCell ?_ ?_ _) | (with_reducible refine Below.alloc ?_ ?_ _) | (with_reducible refine Below.drew ?_) | (with_reducible refine below_dr ?_ _) | (with_reducible refine Below.trans ?_ (Below.mono (by with_reducible assumption) ?_)) | omega | (simp; done) | (simp; omega)))
    obtain ⟨hcw3, hfw3⟩ := bcell hbw3
    have hzw3 := hbw3.size
    (try simp only [World.size_alloc] at hcw3 hfw3 hzw3)
    have u1 : w3.cell? ⟨w.heap.size, 0, none⟩ = some (.int .i64 m0) := (hcw3 _ _ (by omega)).trans (by first | assumption | (refine (cell_alloc_at _ _ ?_).trans ?_; omega; assumption) | (simp [go_sem]; done) | (simp [go_sem, *]; done))
    have u2 : w3.cell? ⟨w.heap.size, 1, none⟩ = some (.int .i64 m1) := (hcw3 _ _ (by omega)).trans (by first | assumption | (refine (cell_alloc_at _ _ ?_).trans ?_; omega; assumption) | (simp [go_sem]; done) | (simp [go_sem, *]; done))
    have u3 : w3.cell? ⟨w.heap.size, 2, none⟩ = some (.int .i64 m2) := (hcw3 _ _ (by omega)).trans (by first | assumption | (refine (cell_alloc_at _ _ ?_).trans ?_; omega; assumption) | (simp [go_sem]; done) | (simp [go_sem, *]; done))
    have u4 : w3.cell? ⟨w.heap.size, 3, none⟩ = some (.int .i64 m3) := (hcw3 _ _ (by omega)).trans (by first | assumption | (refine (cell_alloc_at _ _ ?_).trans ?_; omega; assumption) | (simp [go_sem]; done) | (simp [go_sem, *]; done))
    have u5 : w3.cell? ⟨w.heap.size, 4, none⟩ = some (.int .i64 m4) := (hcw3 _ _ (by omega)).trans (by first | assumption | (refine (cell_alloc_at _ _ ?_).trans ?_; omega; assumption) | (simp [go_sem]; done) | (simp [go_sem, *]; done))
    have u6 : w3.cell? ⟨w.heap.size, 5, none⟩ = some (.int .i64 m5) := (hcw3 _ _ (by omega)).trans (by first | assumption | (refine (cell_alloc_at _ _ ?_).trans ?_; omega; assumption) | (simp [go_sem]; done) | (simp [go_sem, *]; done))
    have uz : w.heap.size < w3.heap.size := (by omega)
    clear hcw3 hfw3 hzw3
    go_wp2_with fail
    refine (LL.out _).mono ?_
    rintro e w4 ⟨rfl, hbw4⟩
    have g4 : Below w.heap.size w w4 := (by repeat' (first | with_reducible assumption | with_reducible exact Below.refl _ _ | (with_reducible refine Below.setCell ?_ ?_ _) | (with_reducible refine Below.alloc ?_ ?_ _) | (with_reducible refine Below.drew ?_) | (with_reducible refine below_dr ?_ _) | (with_reducible refine Below.trans ?_ (Below.mono (by with_reducible assumption) ?_)) | omega | (simp; done) | (simp; omega)))
    obtain ⟨hcw4, hfw4⟩ := bcell hbw4
    have hzw4 := hbw4.size
    (try simp only [World.size_alloc] at hcw4 hfw4 hzw4)
    have v1 : w4.cell? ⟨w.heap.size, 0, none⟩ = some (.int .i64 m0) := (hcw4 _ _ (by omega)).trans (by first | assumption | (refine (cell_alloc_at _ _ ?_).trans ?_; omega; assumption) | (simp [go_sem]; done) | (simp [go_sem, *]; done))
    have v2 : w4.cell? ⟨w.heap.size, 1, none⟩ = some (.int .i64 m1) := (hcw4 _ _ (by omega)).trans (by first | assumption | (refine (cell_alloc_at _ _ ?_).trans ?_; omega; assumption) | (simp [go_sem]; done) | (simp [go_sem, *]; done))
    have v3 : w4.cell? ⟨w.heap.size, 2, none⟩ = some (.int .i64 m2) := (hcw4 _ _ (by omega)).trans (by first | assumption | (refine (cell_alloc_at _ _ ?_).trans ?_; omega; assumption) | (simp [go_sem]; done) | (simp [go_sem, *]; done))
    have v4 : w4.cell? ⟨w.heap.size, 3, none⟩ = some (.int .i64 m3) := (hcw4 _ _ (by omega)).trans (by first | assumption | (refine (cell_alloc_at _ _ ?_).trans ?_; omega; assumption) | (simp [go_sem]; done) | (simp [go_sem, *]; done))
    have v5 : w4.cell? ⟨w.heap.size, 4, none⟩ = some (.int .i64 m4) := (hcw4 _ _ (by omega)).trans (by first | assumption | (refine (cell_alloc_at _ _ ?_).trans ?_; omega; assumption) | (simp [go_sem]; done) | (simp [go_sem, *]; done))
    have v6 : w4.cell? ⟨w.heap.size, 5, none⟩ = some (.int .i64 m5) := (hcw4 _ _ (by omega)).trans (by first | assumption | (refine (cell_alloc_at _ _ ?_).trans ?_; omega; assumption) | (simp [go_sem]; done) | (simp [go_sem, *]; done))
    have vz : w.heap.size < w4.heap.size := (by omega)
    clear hcw4 hfw4 hzw4
    go_wp2
    refine bodyPost_ret (v := .tuple #[.slice none 0 0, .int .i64 2]) (by simp [results, Try.results9, go_sem]) rfl (FlRet.nil (by repeat' (first | with_reducible assumption | with_reducible exact Below.refl _ _ | (with_reducible refine Below.setCell ?_ ?_ _) | (with_reducible refine Below.alloc ?_ ?_ _) | (with_reducible refine Below.drew ?_) | (with_reducible refine below_dr ?_ _) | (with_reducible refine Below.trans ?_ (Below.mono (by with_reducible assumption) ?_)) | omega | (simp; done) | (simp; omega))))
  have t1 : 1 ≤ t := by omega
  have t2 : t ≤ 262144 := by omega
  clear ht
  have LL := Lib.hid (fun w => leastLevel_any (szQ m0 m1 m2 m3 m4 m5) t w t1 t2)
  unfold LevRet at LL
  rcases hB : lvB (szQ m0 m1 m2 m3 m4 m5) t with _ | _
  · obtain ⟨hl, hc⟩ := fl_big hv t1 t2 hB
    rw [hl, hc]
    rw [levC_no (by unfold lvB at hB; simpa using hB)] at LL
    have HV := Lib.hid hv
    clear hv hl hc hB
    generalize levV (szQ m0 m1 m2 m3 m4 m5) t = lv at *
    generalize szQ m0 m1 m2 m3 m4 m5 = B at *
    go_enter Try.func9, Try.ntmps9
    go_wp2_with fail
    refine (implQuad_any m0 m1 m2 m3 m4 m5 _).mono ?_
    rw [HV.out]; rintro e w1 ⟨rfl, hbw1⟩
    have g1 : Below w.heap.size w w1 := (by repeat' (first | with_reducible assumption | with_reducible exact Below.refl _ _ | (with_reducible refine Below.setCell ?_ ?_ _) | (with_reducible refine Below.alloc ?_ ?_ _) | (with_reducible refine Below.drew ?_) | (with_reducible refine below_dr ?_ _) | (with_reducible refine Below.trans ?_ (Below.mono (by with_reducible assumption) ?_)) | omega | (simp; done) | (simp; omega)))
    obtain ⟨hcw1, hfw1⟩ := bcell hbw1
    have hzw1 := hbw1.size
    (try simp only [World.size_alloc] at hcw1 hfw1 hzw1)
    have s1 : w1.cell? ⟨w.heap.size, 0, none⟩ = some (.int .i64 m0) := (hcw1 _ _ (by omega)).trans (by first | assumption | (refine (cell_alloc_at _ _ ?_).trans ?_; omega; assumption) | (simp [go_sem]; done) | (simp [go_sem, *]; done))
    have s2 : w1.cell? ⟨w.heap.size, 1, none⟩ = some (.int .i64 m1) := (hcw1 _ _ (by omega)).trans (by first | assumption | (refine (cell_alloc_at _ _ ?_).trans ?_; omega; assumption) | (simp [go_sem]; done) | (simp [go_sem, *]; done))
    have s3 : w1.cell? ⟨w.heap.size, 2, none⟩ = some (.int .i64 m2) := (hcw1 _ _ (by omega)).trans (by first | assumption | (refine (cell_alloc_at _ _ ?_).trans ?_; omega; assumption) | (simp [go_sem]; done) | (simp [go_sem, *]; done))
    have s4 : w1.cell? ⟨w.heap.size, 3, none⟩ = some (.int .i64 m3) := (hcw1 _ _ (by omega)).trans (by first | assumption | (refine (cell_alloc_at _ _ ?_).trans ?_; omega; assumption) | (simp [go_sem]; done) | (simp [go_sem, *]; done))
    have s5 : w1.cell? ⟨w.heap.size, 4, none⟩ = some (.int .i64 m4) := (hcw1 _ _ (by omega)).trans (by first | assumption | (refine (cell_alloc_at _ _ ?_).trans ?_; omega; assumption) | (simp [go_sem]; done) | (simp [go_sem, *]; done))
    have s6 : w1.cell? ⟨w.heap.size, 5, none⟩ = some (.int .i64 m5) := (hcw1 _ _ (by omega)).trans (by first | assumption | (refine (cell_alloc_at _ _ ?_).trans ?_; omega; assumption) | (simp [go_sem]; done) | (simp [go_sem, *]; done))
    have sz : w.heap.size < w1.heap.size := (by omega)
    clear hcw1 hfw1 hzw1
    go_wp2_with fail
    refine (C1.out _).mono ?_
    rintro e w2 ⟨rfl, hbw2⟩
    have g2 : Below w.heap.size w w2 := (by repeat' (first | with_reducible assumption | with_reducible exact Below.refl _ _ | (with_reducible refine Below.setCell ?_ ?_ _) | (with_reducible refine Below.alloc ?_ ?_ _) | (with_reducible refine Below.drew ?_) | (with_reducible refine below_dr ?_ _) | (with_reducible refine Below.trans ?_ (Below.mono (by with_reducible assumption) ?_)) | omega | (simp; done) | (simp; omega)))
    obtain ⟨hcw2, hfw2⟩ := bcell hbw2
    have hzw2 := hbw2.size
    (try simp only [World.size_alloc] at hcw2 hfw2 hzw2)
    have t1 : w2.cell? ⟨w.heap.size, 0, none⟩ = some (.int .i64 m0) := (hcw2 _ _ (by omega)).trans (by first | assumption | (refine (cell_alloc_at _ _ ?_).trans ?_; omega; assumption) | (simp [go_sem]; done) | (simp [go_sem, *]; done))
    have t2 : w2.cell? ⟨w.heap.size, 1, none⟩ = some (.int .i64 m1) := (hcw2 _ _ (by omega)).trans (by first | assumption | (refine (cell_alloc_at _ _ ?_).trans ?_; omega; assumption) | (simp [go_sem]; done) | (simp [go_sem, *]; done))
    have t3 : w2.cell? ⟨w.heap.size, 2, none⟩ = some (.int .i64 m2) := (hcw2 _ _ (by omega)).trans (by first | assumption | (refine (cell_alloc_at _ _ ?_).trans ?_; omega; assumption) | (simp [go_sem]; done) | (simp [go_sem, *]; done))
    have t4 : w2.cell? ⟨w.heap.size, 3, none⟩ = some (.int .i64 m3) := (hcw2 _ _ (by omega)).trans (by first | assumption | (refine (cell_alloc_at _ _ ?_).trans ?_; omega; assumption) | (simp [go_sem]; done) | (simp [go_sem, *]; done))
    have t5 : w2.cell? ⟨w.heap.size, 4, none⟩ = some (.int .i64 m4) := (hcw2 _ _ (by omega)).trans (by first | assumption | (refine (cell_alloc_at _ _ ?_).trans ?_; omega; assumption) | (simp [go_sem]; done) | (simp [go_sem, *]; done))
    have t6 : w2.cell? ⟨w.heap.size, 5, none⟩ = some (.int .i64 m5) := (hcw2 _ _ (by omega)).trans (by first | assumption | (refine (cell_alloc_at _ _ ?_).trans ?_; omega; assumption) | (simp [go_sem]; done) | (simp [go_sem, *]; done))
    have tz : w.heap.size < w2.heap.size := (by omega)
    clear hcw2 hfw2 hzw2
    go_wp2_with fail
    refine (C2.out _).mono ?_
    rintro e w3 ⟨rfl, hbw3⟩
    have g3 : Below w.heap.size w w3 := (by repeat' (first | with_reducible assumption | with_reducible exact Below.refl _ _ | (with_reducible refine Below.setCell ?_ ?_ _) | (with_reducible refine Below.alloc ?_ ?_ _) | (with_reducible refine Below.drew ?_) | (with_reducible refine below_dr ?_ _) | (with_reducible refine Below.trans ?_ (Below.mono (by with_reducible assumption) ?_)) | omega | (simp; done) | (simp; omega)))
    obtain ⟨hcw3, hfw3⟩ := bcell hbw3
    have hzw3 := hbw3.size
    (try simp only [World.size_alloc] at hcw3 hfw3 hzw3)
    have u1 : w3.cell? ⟨w.heap.size, 0, none⟩ = some (.int .i64 m0) := (hcw3 _ _ (by omega)).trans (by first | assumption | (refine (cell_alloc_at _ _ ?_).trans ?_; omega; assumption) | (simp [go_sem]; done) | (simp [go_sem, *]; done))
    have u2 : w3.cell? ⟨w.heap.size, 1, none⟩ = some (.int .i64 m1) := (hcw3 _ _ (by omega)).trans (by first | assumption | (refine (cell_alloc_at _ _ ?_).trans ?_; omega; assumption) | (simp [go_sem]; done) | (simp [go_sem, *]; done))
    have u3 : w3.cell? ⟨w.heap.size, 2, none⟩ = some (.int .i64 m2) := (hcw3 _ _ (by omega)).trans (by first | assumption | (refine (cell_alloc_at _ _ ?_).trans ?_; omega; assumption) | (simp [go_sem]; done) | (simp [go_sem, *]; done))
    have u4 : w3.cell? ⟨w.heap.size, 3, none⟩ = some (.int .i64 m3) := (hcw3 _ _ (by omega)).trans (by first | assumption | (refine (cell_alloc_at _ _ ?_).trans ?_; omega; assumption) | (simp [go_sem]; done) | (simp [go_sem, *]; done))
    have u5 : w3.cell? ⟨w.heap.size, 4, none⟩ = some (.int .i64 m4) := (hcw3 _ _ (by omega)).trans (by first | assumption | (refine (cell_alloc_at _ _ ?_).trans ?_; omega; assumption) | (simp [go_sem]; done) | (simp [go_sem, *]; done))
    have u6 : w3.cell? ⟨w.heap.size, 5, none⟩ = some (.int .i64 m5) := (hcw3 _ _ (by omega)).trans (by first | assumption | (refine (cell_alloc_at _ _ ?_).trans ?_; omega; assumption) | (simp [go_sem]; done) | (simp [go_sem, *]; done))
    have uz : w.heap.size < w3.heap.size := (by omega)
    clear hcw3 hfw3 hzw3
    go_wp2_with fail
    refine (LL.out _).mono ?_
    rintro e w4 ⟨rfl, hbw4⟩
    have g4 : Below w.heap.size w w4 := (by repeat' (first | with_reducible assumption | with_reducible exact Below.refl _ _ | (with_reducible refine Below.setCell ?_ ?_ _) | (with_reducible refine Below.alloc ?_ ?_ _) | (with_reducible refine Below.drew ?_) | (with_reducible refine below_dr ?_ _) | (with_reducible refine Below.trans ?_ (Below.mono (by with_reducible assumption) ?_)) | omega | (simp; done) | (simp; omega)))
    obtain ⟨hcw4, hfw4⟩ := bcell hbw4
    have hzw4 := hbw4.size
    (try simp only [World.size_alloc] at hcw4 hfw4 hzw4)
    have v1 : w4.cell? ⟨w.heap.size, 0, none⟩ = some (.int .i64 m0) := (hcw4 _ _ (by omega)).trans (by first | assumption | (refine (cell_alloc_at _ _ ?_).trans ?_; omega; assumption) | (simp [go_sem]; done) | (simp [go_sem, *]; done))
    have v2 : w4.cell? ⟨w.heap.size, 1, none⟩ = some (.int .i64 m1) := (hcw4 _ _ (by omega)).trans (by first | assumption | (refine (cell_alloc_at _ _ ?_).trans ?_; omega; assumption) | (simp [go_sem]; done) | (simp [go_sem, *]; done))
    have v3 : w4.cell? ⟨w.heap.size, 2, none⟩ = some (.int .i64 m2) := (hcw4 _ _ (by omega)).trans (by first | assumption | (refine (cell_alloc_at _ _ ?_).trans ?_; omega; assumption) | (simp [go_sem]; done) | (simp [go_sem, *]; done))
    have v4 : w4.cell? ⟨w.heap.size, 3, none⟩ = some (.int .i64 m3) := (hcw4 _ _ (by omega)).trans (by first | assumption | (refine (cell_alloc_at _ _ ?_).trans ?_; omega; assumption) | (simp [go_sem]; done) | (simp [go_sem, *]; done))
    have v5 : w4.cell? ⟨w.heap.size, 4, none⟩ = some (.int .i64 m4) := (hcw4 _ _ (by omega)).trans (by first | assumption | (refine (cell_alloc_at _ _ ?_).trans ?_; omega; assumption) | (simp [go_sem]; done) | (simp [go_sem, *]; done))
    have v6 : w4.cell? ⟨w.heap.size, 5, none⟩ = some (.int .i64 m5) := (hcw4 _ _ (by omega)).trans (by first | assumption | (refine (cell_alloc_at _ _ ?_).trans ?_; omega; assumption) | (simp [go_sem]; done) | (simp [go_sem, *]; done))
    have vz : w.heap.size < w4.heap.size := (by omega)
    clear hcw4 hfw4 hzw4
    go_wp2
    refine bodyPost_ret (v := .tuple #[.slice none 0 0, .int .i64 5]) (by simp [results, Try.results9, go_sem]) rfl (FlRet.nil (by repeat' (first | with_reducible assumption | with_reducible exact Below.refl _ _ | (with_reducible refine Below.setCell ?_ ?_ _) | (with_reducible refine Below.alloc ?_ ?_ _) | (with_reducible refine Below.drew ?_) | (with_reducible refine below_dr ?_ _) | (with_reducible refine Below.trans ?_ (Below.mono (by with_reducible assumption) ?_)) | omega | (simp; done) | (simp; omega))))
  obtain ⟨hl, hc⟩ := fl_yes hv t1 t2 hB
  rw [hl, hc]
  unfold flN
  rw [levC_yes (by unfold lvB at hB; simpa using hB)] at LL
  obtain ⟨L0, L6⟩ := levV_in (szQ m0 m1 m2 m3 m4 m5) t
  obtain ⟨N1, N64, SH, SW⟩ := shl_one L0 L6
  clear hl hc hB SW L0 L6
  generalize levV (szQ m0 m1 m2 m3 m4 m5) t = lv at *
  obtain ⟨N, hN⟩ : ∃ N, N = pwN lv := ⟨_, rfl⟩
  rw [← hN] at N1 N64 SH ⊢
  clear hN
  have CF := Lib.hid (fun (Bl Bb : Nat) (w : World) hl b0 b1 b2 b3 b4 b5 hBl hBb => flat3_any m0 m1 m2 m3 m4 m5 lv N Bl Bb w N1 N64 SH hv hl b0 b1 b2 b3 b4 b5 hBl hBb)
  have HV := Lib.hid hv
  clear hv SH
  generalize szQ m0 m1 m2 m3 m4 m5 = B at *
  generalize upP (crvQ m0 m1 m2 m3 m4 m5 (N : Int)) (N + 1) = l at *
  go_enter Try.func9, Try.ntmps9
  go_wp2_with fail
  refine (implQuad_any m0 m1 m2 m3 m4 m5 _).mono ?_
  rw [HV.out]; rintro e w1 ⟨rfl, hbw1⟩
  have g1 : Below w.heap.size w w1 := (by repeat' (first | with_reducible assumption | with_reducible exact Below.refl _ _ | (with_reducible refine Below.setCell ?_ ?_ _) | (with_reducible refine Below.alloc ?_ ?_ _) | (with_reducible refine Below.drew ?_) | (with_reducible refine below_dr ?_ _) | (with_reducible refine Below.trans ?_ (Below.mono (by with_reducible assumption) ?_)) | omega | (simp; done) | (simp; omega)))
  obtain ⟨hcw1, hfw1⟩ := bcell hbw1
  have hzw1 := hbw1.size
  (try simp only [World.size_alloc] at hcw1 hfw1 hzw1)
  have s1 : w1.cell? ⟨w.heap.size, 0, none⟩ = some (.int .i64 m0) := (hcw1 _ _ (by omega)).trans (by first | assumption | (refine (cell_alloc_at _ _ ?_).trans ?_; omega; assumption) | (simp [go_sem]; done) | (simp [go_sem, *]; done))
  have s2 : w1.cell? ⟨w.heap.size, 1, none⟩ = some (.int .i64 m1) := (hcw1 _ _ (by omega)).trans (by first | assumption | (refine (cell_alloc_at _ _ ?_).trans ?_; omega; assumption) | (simp [go_sem]; done) | (simp [go_sem, *]; done))
  have s3 : w1.cell? ⟨w.heap.size, 2, none⟩ = some (.int .i64 m2) := (hcw1 _ _ (by omega)).trans (by first | assumption | (refine (cell_alloc_at _ _ ?_).trans ?_; omega; assumption) | (simp [go_sem]; done) | (simp [go_sem, *]; done))
  have s4 : w1.cell? ⟨w.heap.size, 3, none⟩ = some (.int .i64 m3) := (hcw1 _ _ (by omega)).trans (by first | assumption | (refine (cell_alloc_at _ _ ?_).trans ?_; omega; assumption) | (simp [go_sem]; done) | (simp [go_sem, *]; done))
  have s5 : w1.cell? ⟨w.heap.size, 4, none⟩ = some (.int .i64 m4) := (hcw1 _ _ (by omega)).trans (by first | assumption | (refine (cell_alloc_at _ _ ?_).trans ?_; omega; assumption) | (simp [go_sem]; done) | (simp [go_sem, *]; done))
  have s6 : w1.cell? ⟨w.heap.size, 5, none⟩ = some (.int .i64 m5) := (hcw1 _ _ (by omega)).trans (by first | assumption | (refine (cell_alloc_at _ _ ?_).trans ?_; omega; assumption) | (simp [go_sem]; done) | (simp [go_sem, *]; done))
  have sz : w.heap.size < w1.heap.size := (by omega)
  clear hcw1 hfw1 hzw1
  go_wp2_with fail
  refine (C1.out _).mono ?_
  rintro e w2 ⟨rfl, hbw2⟩
  have g2 : Below w.heap.size w w2 := (by repeat' (first | with_reducible assumption | with_reducible exact Below.refl _ _ | (with_reducible refine Below.setCell ?_ ?_ _) | (with_reducible refine Below.alloc ?_ ?_ _) | (with_reducible refine Below.drew ?_) | (with_reducible refine below_dr ?_ _) | (with_reducible refine Below.trans ?_ (Below.mono (by with_reducible assumption) ?_)) | omega | (simp; done) | (simp; omega)))
  obtain ⟨hcw2, hfw2⟩ := bcell hbw2
  have hzw2 := hbw2.size
  (try simp only [World.size_alloc] at hcw2 hfw2 hzw2)
  have t1 : w2.cell? ⟨w.heap.size, 0, none⟩ = some (.int .i64 m0) := (hcw2 _ _ (by omega)).trans (by first | assumption | (refine (cell_alloc_at _ _ ?_).trans ?_; omega; assumption) | (simp [go_sem]; done) | (simp [go_sem, *]; done))
  have t2 : w2.cell? ⟨w.heap.size, 1, none⟩ = some (.int .i64 m1) := (hcw2 _ _ (by omega)).trans (by first | assumption | (refine (cell_alloc_at _ _ ?_).trans ?_; omega; assumption) | (simp [go_sem]; done) | (simp [go_sem, *]; done))
  have t3 : w2.cell? ⟨w.heap.size, 2, none⟩ = some (.int .i64 m2) := (hcw2 _ _ (by omega)).trans (by first | assumption | (refine (cell_alloc_at _ _ ?_).trans ?_; omega; assumption) | (simp [go_sem]; done) | (simp [go_sem, *]; done))
  have t4 : w2.cell? ⟨w.heap.size, 3, none⟩ = some (.int .i64 m3) := (hcw2 _ _ (by omega)).trans (by first | assumption | (refine (cell_alloc_at _ _ ?_).trans ?_; omega; assumption) | (simp [go_sem]; done) | (simp [go_sem, *]; done))
  have t5 : w2.cell? ⟨w.heap.size, 4, none⟩ = some (.int .i64 m4) := (hcw2 _ _ (by omega)).trans (by first | assumption | (refine (cell_alloc_at _ _ ?_).trans ?_; omega; assumption) | (simp [go_sem]; done) | (simp [go_sem, *]; done))
  have t6 : w2.cell? ⟨w.heap.size, 5, none⟩ = some (.int .i64 m5) := (hcw2 _ _ (by omega)).trans (by first | assumption | (refine (cell_alloc_at _ _ ?_).trans ?_; omega; assumption) | (simp [go_sem]; done) | (simp [go_sem, *]; done))
  have tz : w.heap.size < w2.heap.size := (by omega)
  clear hcw2 hfw2 hzw2
  go_wp2_with fail
  refine (C2.out _).mono ?_
  rintro e w3 ⟨rfl, hbw3⟩
  have g3 : Below w.heap.size w w3 := (by repeat' (first | with_reducible assumption | with_reducible exact Below.refl _ _ | (with_reducible refine Below.setCell ?_ ?_ _) | (with_reducible refine Below.alloc ?_ ?_ _) | (with_reducible refine Below.drew ?_) | (with_reducible refine below_dr ?_ _) | (with_reducible refine Below.trans ?_ (Below.mono (by with_reducible assumption) ?_)) | omega | (simp; done) | (simp; omega)))
  obtain ⟨hcw3, hfw3⟩ := bcell hbw3
  have hzw3 := hbw3.size
  (try simp only [World.size_alloc] at hcw3 hfw3 hzw3)
  have u1 : w3.cell? ⟨w.heap.size, 0, none⟩ = some (.int .i64 m0) := (hcw3 _ _ (by omega)).trans (by first | assumption | (refine (cell_alloc_at _ _ ?_).trans ?_; omega; assumption) | (simp [go_sem]; done) | (simp [go_sem, *]; done))
  have u2 : w3.cell? ⟨w.heap.size, 1, none⟩ = some (.int .i64 m1) := (hcw3 _ _ (by omega)).trans (by first | assumption | (refine (cell_alloc_at _ _ ?_).trans ?_; omega; assumption) | (simp [go_sem]; done) | (simp [go_sem, *]; done))
  have u3 : w3.cell? ⟨w.heap.size, 2, none⟩ = some (.int .i64 m2) := (hcw3 _ _ (by omega)).trans (by first | assumption | (refine (cell_alloc_at _ _ ?_).trans ?_; omega; assumption) | (simp [go_sem]; done) | (simp [go_sem, *]; done))
  have u4 : w3.cell? ⟨w.heap.size, 3, none⟩ = some (.int .i64 m3) := (hcw3 _ _ (by omega)).trans (by first | assumption | (refine (cell_alloc_at _ _ ?_).trans ?_; omega; assumption) | (simp [go_sem]; done) | (simp [go_sem, *]; done))
  have u5 : w3.cell? ⟨w.heap.size, 4, none⟩ = some (.int .i64 m4) := (hcw3 _ _ (by omega)).trans (by first | assumption | (refine (cell_alloc_at _ _ ?_).trans ?_; omega; assumption) | (simp [go_sem]; done) | (simp [go_sem, *]; done))
  have u6 : w3.cell? ⟨w.heap.size, 5, none⟩ = some (.int .i64 m5) := (hcw3 _ _ (by omega)).trans (by first | assumption | (refine (cell_alloc_at _ _ ?_).trans ?_; omega; assumption) | (simp [go_sem]; done) | (simp [go_sem, *]; done))
  have uz : w.heap.size < w3.heap.size := (by omega)
  clear hcw3 hfw3 hzw3
  go_wp2_with fail
  refine (LL.out _).mono ?_
  rintro e w4 ⟨rfl, hbw4⟩
  have g4 : Below w.heap.size w w4 := (by repeat' (first | with_reducible assumption | with_reducible exact Below.refl _ _ | (with_reducible refine Below.setCell ?_ ?_ _) | (with_reducible refine Below.alloc ?_ ?_ _) | (with_reducible refine Below.drew ?_) | (with_reducible refine below_dr ?_ _) | (with_reducible refine Below.trans ?_ (Below.mono (by with_reducible assumption) ?_)) | omega | (simp; done) | (simp; omega)))
  obtain ⟨hcw4, hfw4⟩ := bcell hbw4
  have hzw4 := hbw4.size
  (try simp only [World.size_alloc] at hcw4 hfw4 hzw4)
  have v1 : w4.cell? ⟨w.heap.size, 0, none⟩ = some (.int .i64 m0) := (hcw4 _ _ (by omega)).trans (by first | assumption | (refine (cell_alloc_at _ _ ?_).trans ?_; omega; assumption) | (simp [go_sem]; done) | (simp [go_sem, *]; done))
  have v2 : w4.cell? ⟨w.heap.size, 1, none⟩ = some (.int .i64 m1) := (hcw4 _ _ (by omega)).trans (by first | assumption | (refine (cell_alloc_at _ _ ?_).trans ?_; omega; assumption) | (simp [go_sem]; done) | (simp [go_sem, *]; done))
  have v3 : w4.cell? ⟨w.heap.size, 2, none⟩ = some (.int .i64 m2) := (hcw4 _ _ (by omega)).trans (by first | assumption | (refine (cell_alloc_at _ _ ?_).trans ?_; omega; assumption) | (simp [go_sem]; done) | (simp [go_sem, *]; done))
  have v4 : w4.cell? ⟨w.heap.size, 3, none⟩ = some (.int .i64 m3) := (hcw4 _ _ (by omega)).trans (by first | assumption | (refine (cell_alloc_at _ _ ?_).trans ?_; omega; assumption) | (simp [go_sem]; done) | (simp [go_sem, *]; done))
  have v5 : w4.cell? ⟨w.heap.size, 4, none⟩ = some (.int .i64 m4) := (hcw4 _ _ (by omega)).trans (by first | assumption | (refine (cell_alloc_at _ _ ?_).trans ?_; omega; assumption) | (simp [go_sem]; done) | (simp [go_sem, *]; done))
  have v6 : w4.cell? ⟨w.heap.size, 5, none⟩ = some (.int .i64 m5) := (hcw4 _ _ (by omega)).trans (by first | assumption | (refine (cell_alloc_at _ _ ?_).trans ?_; omega; assumption) | (simp [go_sem]; done) | (simp [go_sem, *]; done))
  have vz : w.heap.size < w4.heap.size := (by omega)
  clear hcw4 hfw4 hzw4
  clear C1 C2 LL
  go_wp2_with fail
  refine (bezier3_any m0 m1 m2 m3 m4 m5 _).mono ?_
  rintro e w5 ⟨rfl, hbw5⟩
  have z5 := hbw5.size
  go_wp2_with fail
  refine (along3_any m0 m1 m2 m3 m4 m5 lv _).mono ?_
  rintro e w6 ⟨rfl, hbw6, k0, c0, c1, c2, c3, c4, c5, z6⟩
  have zz6 := hbw6.size
  go_wp2_with fail
  refine (CF.out _ _ _ k0 c0 c1 c2 c3 c4 c5 z6 (by omega)).mono ?_
  rintro e w7 ⟨A, k, rfl, ow, hbw7⟩
  have zz7 := hbw7.size
  go_wp2
  refine bodyPost_ret (v := .tuple #[.slice A l.length k, .int .i64 0]) (by simp [results, Try.results9, go_sem]) rfl ⟨A, k, rfl, own_base2 ow (by omega), by repeat' (first | with_reducible assumption | with_reducible exact Below.refl _ _ | (with_reducible refine Below.setCell ?_ ?_ _) | (with_reducible refine Below.alloc ?_ ?_ _) | (with_reducible refine Below.drew ?_) | (with_reducible refine below_dr ?_ _) | (with_reducible refine Below.trans ?_ (Below.mono (by with_reducible assumption) ?_)) | omega | (simp; done) | (simp; omega))⟩
end Go.Proofs.Yticgomikfleabaa
