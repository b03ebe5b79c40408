/- Walks: the text of a map, on both sides. -/
import Derived.Test.YtjlmoadnbbeloaaDoorQe
import Derived.Test.YtjlmoadnbbeloaaDoorQb
import Derived.Test.YtjlmoadnbbeloaaDoorW5
import Derived.Test.YtjlmoadnbbeloaaDoorWTz
import Derived.Test.YtjlmoadnbbeloaaDoorBl
import Derived.Test.YtjlmoadnbbeloaaDoorJj
namespace Go.Proofs.YtjlmoadnbbeloaaDoor
open Go.RowKit
set_option linter.unusedVariables false
def mTx (N D : Nat → Int) (i : Nat) : ByteArray := textOf (N i) (D i)
/-- The texts of k parts, a blank between them. -/
def mapB (N D : Nat → Int) (k : Nat) : ByteArray := joinB ⟨#[32]⟩ ((List.range k).map (mTx N D))
def mapT (N D : Nat → Int) : ByteArray := if allV N D 6 = true then mapB N D 6 else ⟨#[]⟩
theorem mapT_t {N D : Nat → Int} (h : allV N D 6 = true) : mapT N D = mapB N D 6 := by unfold mapT; rw [if_pos h]
theorem mapT_f {N D : Nat → Int} (h : allV N D 6 = false) : mapT N D = ⟨#[]⟩ := by unfold mapT; rw [h]; rfl
theorem mapB_step {N D : Nat → Int} {k : Nat} (h : 0 < k) : mapB N D (k + 1) = mapB N D k ++ ⟨#[32]⟩ ++ mTx N D k := by
  unfold mapB; rw [List.range_succ, List.map_append]; exact joinB_snoc _ (by simpa using h) _
theorem fracB_size {n d : Int} (hn : (-9223372036854775808 ≤ n ∧ n ≤ 9223372036854775807)) (hd : (-9223372036854775808 ≤ d ∧ d ≤ 9223372036854775807)) : (textOf n d).size ≤ 43 := by
  have := decB_size hn
  have := decB_size hd
  unfold textOf
  split
  · unfold fracB
    split
    · omega
    · simp only [size_app]
      have : (⟨#[47]⟩ : ByteArray).size = 1 := rfl
      omega
  · exact Nat.zero_le _
theorem mapB_size {N D : Nat → Int} {k : Nat} (hk : k ≤ 6) (hN : ∀ i, i < 6 → -9223372036854775808 ≤ N i ∧ N i ≤ 9223372036854775807) (hD : ∀ i, i < 6 → -9223372036854775808 ≤ D i ∧ D i ≤ 9223372036854775807) : (mapB N D k).size ≤ k * 44 := by
  have h2 := joinB_size ⟨#[32]⟩ ((List.range k).map (mTx N D)) 43 (fun y hy => by
    obtain ⟨i, hi, rfl⟩ := List.mem_map.1 hy
    have := List.mem_range.1 hi
    exact fracB_size (hN i (by omega)) (hD i (by omega)))
  rw [List.length_map, List.length_range] at h2
  exact h2
set_option maxRecDepth 100000 in
set_option maxHeartbeats 3200000 in
theorem l04Text_fn (N D : Nat → Int) (b : Nat) (w : World) (c0 : w.cell? ⟨b, 0, none⟩ = some (.int .i64 (N 0))) (c1 : w.cell? ⟨b, 1, none⟩ = some (.int .i64 (D 0))) (c2 : w.cell? ⟨b, 2, none⟩ = some (.int .i64 (N 1))) (c3 : w.cell? ⟨b, 3, none⟩ = some (.int .i64 (D 1))) (c4 : w.cell? ⟨b, 4, none⟩ = some (.int .i64 (N 2))) (c5 : w.cell? ⟨b, 5, none⟩ = some (.int .i64 (D 2))) (c6 : w.cell? ⟨b, 6, none⟩ = some (.int .i64 (N 3))) (c7 : w.cell? ⟨b, 7, none⟩ = some (.int .i64 (D 3))) (c8 : w.cell? ⟨b, 8, none⟩ = some (.int .i64 (N 4))) (c9 : w.cell? ⟨b, 9, none⟩ = some (.int .i64 (D 4))) (c10 : w.cell? ⟨b, 10, none⟩ = some (.int .i64 (N 5))) (c11 : w.cell? ⟨b, 11, none⟩ = some (.int .i64 (D 5))) (hN : ∀ i, i < 6 → -9223372036854775808 ≤ N i ∧ N i ≤ 9223372036854775807) (hD : ∀ i, i < 6 → -9223372036854775808 ≤ D i ∧ D i ≤ 9223372036854775807) :
    Calls Tryd.prog 30 #[.pointer (some ⟨b, 0, none⟩)] w fun e w' => e = .returned (.string (mapB N D 6)) ∧ Below w.heap.size w w' := by
  have HN := Lib.hid hN
  have HD := Lib.hid hD
  have C := Lib.hid (l04List_any N D b w c0 c1 c2 c3 c4 c5 c6 c7 c8 c9 c10 c11)
  clear hN hD c0 c1 c2 c3 c4 c5 c6 c7 c8 c9 c10 c11
  go_enter Tryd.func30, Tryd.ntmps30
  go_wp2_with fail
  refine C.out.mono ?_
  rintro e w1 ⟨rfl, n, rfl⟩
  go_wp2_with fail
  generalize hW : (w.alloc (.cells #[.int .i64 (N 0), .int .i64 (D 0), .int .i64 (N 1), .int .i64 (D 1), .int .i64 (N 2), .int .i64 (D 2), .int .i64 (N 3), .int .i64 (D 3), .int .i64 (N 4), .int .i64 (D 4), .int .i64 (N 5), .int .i64 (D 5)] 27)).drewN n = W0
  have g0 : Below w.heap.size w W0 := by rw [← hW]; repeat' (first | with_reducible assumption | with_reducible exact Below.refl _ _ | (with_reducible refine Below.setCell ?_ ?_ _) | (with_reducible refine Below.alloc ?_ ?_ _) | (with_reducible refine Below.drew ?_) | (with_reducible refine below_dr ?_ _) | (with_reducible refine Below.trans ?_ (Below.mono (by with_reducible assumption) ?_)) | omega | (simp; done) | (simp; omega))
  have zl : w.heap.size < W0.heap.size := by rw [← hW]; simp
  have hcells : ∀ k, k < 6 → W0.cell? ⟨w.heap.size, k * 2, none⟩ = some (.int .i64 (N k)) ∧ W0.cell? ⟨w.heap.size, k * 2 + 1, none⟩ = some (.int .i64 (D k)) := by
    intro k hk
    rw [← hW]
    match k, hk with
    | 0, _ => exact ⟨by simp [go_sem], by simp [go_sem]⟩
    | 1, _ => exact ⟨by simp [go_sem], by simp [go_sem]⟩
    | 2, _ => exact ⟨by simp [go_sem], by simp [go_sem]⟩
    | 3, _ => exact ⟨by simp [go_sem], by simp [go_sem]⟩
    | 4, _ => exact ⟨by simp [go_sem], by simp [go_sem]⟩
    | 5, _ => exact ⟨by simp [go_sem], by simp [go_sem]⟩
  clear hW C
  have HC := Lib.hid hcells
  clear hcells
  go_loopw [4, 5] (fun s i wr => (∃ k : Nat, k ≤ 6 ∧ i = .int .i64 (k : Int) ∧ s = .string (mapB N D k) ∧ Below w.heap.size w wr) ∧ Below W0.heap.size W0 wr) (fun _ i _ => 6 - (intOf i).toNat)
  case atStart => exact ⟨⟨0, by omega, rfl, rfl, g0⟩, Below.refl _ _⟩
  case round =>
    obtain ⟨⟨k, hk, rfl, rfl, hbl⟩, hbw⟩ := hrel
    by_cases hlt : k < 6
    · have c1 := (hbw.cell (p := ⟨w.heap.size, k * 2, none⟩) zl).trans (HC.out k hlt).1
      have c2 := (hbw.cell (p := ⟨w.heap.size, k * 2 + 1, none⟩) zl).trans (HC.out k hlt).2
      have hz := hbl.size
      have hz2 := hbw.size
      have hgw : w.heap.size < wr.heap.size := by omega
      have CT := Lib.hid (show ∀ w, Calls Tryd.prog 68 #[.agg #[.int .i64 (N k), .int .i64 (D k)]] w (fun e w' => e = .returned (.string (mTx N D k)) ∧ Below w.heap.size w w') from fun w => specFracText_any _ _ w (HN.out k hlt) (HD.out k hlt))
      have ht : (mTx N D k).size ≤ 43 := fracB_size (HN.out k hlt) (HD.out k hlt)
      have hs := mapB_size (N := N) (D := D) (k := k) (by omega) HN.out HD.out
      have HS := Lib.hid (show ∀ u, (k = 0 → u = mTx N D k) → (0 < k → u = mapB N D k ++ ⟨#[32]⟩ ++ mTx N D k) → u = mapB N D (k + 1) from by
        intro u h0 h1
        rcases Nat.eq_zero_or_pos k with hk0 | hk0
        · rw [h0 hk0]; subst hk0; rfl
        · rw [h1 hk0, mapB_step hk0])
      have hki : (k : Int) < 6 := by omega
      generalize mTx N D k = t at CT ht HS
      by_cases hk0 : k = 0
      · subst hk0
        have f1 : (9223372036854775807 < t.size) = False := by simp only [eq_iff_iff, iff_false]; omega
        clear hs
        simp only [Nat.zero_mul, Nat.zero_add] at c1 c2
        rw [show mapB N D 0 = ⟨#[]⟩ from rfl]
        go_wp2_with fail
        refine (CT.out _).mono ?_
        rintro e w1 ⟨rfl, hb1⟩
        go_wp2_with fail
        go_roundw
        case rel => exact ⟨⟨0 + 1, by omega, by go_num, by congr 1; exact HS.out _ (fun _ => by first | rfl | (simp; done) | (apply byt_ext; simp)) (fun h => by omega), by repeat' (first | with_reducible assumption | with_reducible exact Below.refl _ _ | (with_reducible refine Below.setCell ?_ ?_ _) | (with_reducible refine Below.alloc ?_ ?_ _) | (with_reducible refine Below.drew ?_) | (with_reducible refine below_dr ?_ _) | (with_reducible refine Below.trans ?_ (Below.mono (by with_reducible assumption) ?_)) | omega | (simp; done) | (simp; omega))⟩, by repeat' (first | with_reducible assumption | with_reducible exact Below.refl _ _ | (with_reducible refine Below.setCell ?_ ?_ _) | (with_reducible refine Below.alloc ?_ ?_ _) | (with_reducible refine Below.drew ?_) | (with_reducible refine below_dr ?_ _) | (with_reducible refine Below.trans ?_ (Below.mono (by with_reducible assumption) ?_)) | omega | (simp; done) | (simp; omega))⟩
        case measure => first | (simp [intOf]; done) | (simp [intOf]; omega)
      · have hkp : (0 : Int) < (k : Int) := by omega
        have hkn : 0 < k := by omega
        generalize mapB N D k = S at hs HS ⊢
        have f1 : (9223372036854775807 < S.size + 1) = False := by simp only [eq_iff_iff, iff_false]; omega
        have f2 : (9223372036854775807 < S.size + 1 + t.size) = False := by simp only [eq_iff_iff, iff_false]; omega
        go_wp2_with fail
        refine (CT.out _).mono ?_
        rintro e w1 ⟨rfl, hb1⟩
        go_wp2_with fail
        go_roundw
        case rel => exact ⟨⟨k + 1, by omega, by go_num, by congr 1; exact HS.out _ (fun h => absurd h hk0) (fun _ => rfl), by repeat' (first | with_reducible assumption | with_reducible exact Below.refl _ _ | (with_reducible refine Below.setCell ?_ ?_ _) | (with_reducible refine Below.alloc ?_ ?_ _) | (with_reducible refine Below.drew ?_) | (with_reducible refine below_dr ?_ _) | (with_reducible refine Below.trans ?_ (Below.mono (by with_reducible assumption) ?_)) | omega | (simp; done) | (simp; omega))⟩, by repeat' (first | with_reducible assumption | with_reducible exact Below.refl _ _ | (with_reducible refine Below.setCell ?_ ?_ _) | (with_reducible refine Below.alloc ?_ ?_ _) | (with_reducible refine Below.drew ?_) | (with_reducible refine below_dr ?_ _) | (with_reducible refine Below.trans ?_ (Below.mono (by with_reducible assumption) ?_)) | omega | (simp; done) | (simp; omega))⟩
        case measure => first | (simp [intOf]; done) | (simp [intOf]; omega)
    · obtain rfl : k = 6 := by omega
      go_wp2_with fail
      go_ret
      exact ⟨rfl, hbl⟩
set_option maxRecDepth 100000 in
set_option maxHeartbeats 3200000 in
theorem specMapText_fn (N D : Nat → Int) (w : World) (hN : ∀ i, i < 6 → -9223372036854775808 ≤ N i ∧ N i ≤ 9223372036854775807) (hD : ∀ i, i < 6 → -9223372036854775808 ≤ D i ∧ D i ≤ 9223372036854775807) :
    Calls Tryd.prog 8 #[.agg #[.int .i64 (N 0), .int .i64 (D 0), .int .i64 (N 1), .int .i64 (D 1), .int .i64 (N 2), .int .i64 (D 2), .int .i64 (N 3), .int .i64 (D 3), .int .i64 (N 4), .int .i64 (D 4), .int .i64 (N 5), .int .i64 (D 5)]] w fun e w' => e = .returned (.string (mapT N D)) ∧ Below w.heap.size w w' := by
  have CV := Lib.hid (fun b w c0 c1 c2 c3 c4 c5 c6 c7 c8 c9 c10 c11 => l04Ok_fn N D b w c0 c1 c2 c3 c4 c5 c6 c7 c8 c9 c10 c11 hN hD)
  have CT := Lib.hid (fun b w c0 c1 c2 c3 c4 c5 c6 c7 c8 c9 c10 c11 => l04Text_fn N D b w c0 c1 c2 c3 c4 c5 c6 c7 c8 c9 c10 c11 hN hD)
  clear hN hD
  rcases hv : allV N D 6 with _ | _
  · rw [hv] at CV
    rw [mapT_f hv]
    clear hv CT
    go_enter Tryd.func8, Tryd.ntmps8
    go_wp2_with fail
    refine (CV.out _ _ (by simp [go_sem]) (by simp [go_sem]) (by simp [go_sem]) (by simp [go_sem]) (by simp [go_sem]) (by simp [go_sem]) (by simp [go_sem]) (by simp [go_sem]) (by simp [go_sem]) (by simp [go_sem]) (by simp [go_sem]) (by simp [go_sem])).mono ?_
    rintro e w1 ⟨rfl, hb1⟩
    have at1 : AtL w.heap.size [.int .i64 (N 0), .int .i64 (D 0), .int .i64 (N 1), .int .i64 (D 1), .int .i64 (N 2), .int .i64 (D 2), .int .i64 (N 3), .int .i64 (D 3), .int .i64 (N 4), .int .i64 (D 4), .int .i64 (N 5), .int .i64 (D 5)] w1 := (AtL.new w _ _).below hb1
    have g1 : Below w.heap.size w w1 := by repeat' (first | with_reducible assumption | with_reducible exact Below.refl _ _ | (with_reducible refine Below.setCell ?_ ?_ _) | (with_reducible refine Below.alloc ?_ ?_ _) | (with_reducible refine Below.drew ?_) | (with_reducible refine below_dr ?_ _) | (with_reducible refine Below.trans ?_ (Below.mono (by with_reducible assumption) ?_)) | omega | (simp; done) | (simp; omega))
    clear hb1
    go_wp2_with fail
    go_ret
    exact ⟨rfl, g1⟩
  · rw [hv] at CV
    rw [mapT_t hv]
    clear hv
    generalize mapB N D 6 = T at *
    go_enter Tryd.func8, Tryd.ntmps8
    go_wp2_with fail
    refine (CV.out _ _ (by simp [go_sem]) (by simp [go_sem]) (by simp [go_sem]) (by simp [go_sem]) (by simp [go_sem]) (by simp [go_sem]) (by simp [go_sem]) (by simp [go_sem]) (by simp [go_sem]) (by simp [go_sem]) (by simp [go_sem]) (by simp [go_sem])).mono ?_
    rintro e w1 ⟨rfl, hb1⟩
    have at1 : AtL w.heap.size [.int .i64 (N 0), .int .i64 (D 0), .int .i64 (N 1), .int .i64 (D 1), .int .i64 (N 2), .int .i64 (D 2), .int .i64 (N 3), .int .i64 (D 3), .int .i64 (N 4), .int .i64 (D 4), .int .i64 (N 5), .int .i64 (D 5)] w1 := (AtL.new w _ _).below hb1
    have g1 : Below w.heap.size w w1 := by repeat' (first | with_reducible assumption | with_reducible exact Below.refl _ _ | (with_reducible refine Below.setCell ?_ ?_ _) | (with_reducible refine Below.alloc ?_ ?_ _) | (with_reducible refine Below.drew ?_) | (with_reducible refine below_dr ?_ _) | (with_reducible refine Below.trans ?_ (Below.mono (by with_reducible assumption) ?_)) | omega | (simp; done) | (simp; omega))
    clear hb1
    have lw := at1.lt
    have k0 := at1.cell 0 rfl
    have k1 := at1.cell 1 rfl
    have k2 := at1.cell 2 rfl
    have k3 := at1.cell 3 rfl
    have k4 := at1.cell 4 rfl
    have k5 := at1.cell 5 rfl
    have k6 := at1.cell 6 rfl
    have k7 := at1.cell 7 rfl
    have k8 := at1.cell 8 rfl
    have k9 := at1.cell 9 rfl
    have k10 := at1.cell 10 rfl
    have k11 := at1.cell 11 rfl
    go_wp2_with fail
    refine (CT.out _ _ k0 k1 k2 k3 k4 k5 k6 k7 k8 k9 k10 k11).mono ?_
    rintro e w2 ⟨rfl, hb2⟩
    go_wp2_with fail
    go_ret
    exact ⟨rfl, by repeat' (first | with_reducible assumption | with_reducible exact Below.refl _ _ | (with_reducible refine Below.setCell ?_ ?_ _) | (with_reducible refine Below.alloc ?_ ?_ _) | (with_reducible refine Below.drew ?_) | (with_reducible refine below_dr ?_ _) | (with_reducible refine Below.trans ?_ (Below.mono (by with_reducible assumption) ?_)) | omega | (simp; done) | (simp; omega))⟩
end Go.Proofs.YtjlmoadnbbeloaaDoor
