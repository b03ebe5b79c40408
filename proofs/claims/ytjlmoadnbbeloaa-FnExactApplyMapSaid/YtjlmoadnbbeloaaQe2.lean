/- Walks: which maps are valid, the reference's side. -/
import Derived.Test.YtjlmoadnbbeloaaQf2
namespace Go.Proofs.Ytjlmoadnbbeloaa
open Go.RowKit
set_option maxRecDepth 100000 in
set_option maxHeartbeats 1600000 in
theorem l04List_any (N D : Nat → Int) (b : Nat) (w : World) (c0 : w.cell? ⟨b, 0, none⟩ = some (.int .i64 (N 0))) (c1 : w.cell? ⟨b, 1, none⟩ = some (.int .i64 (D 0))) (c2 : w.cell? ⟨b, 2, none⟩ = some (.int .i64 (N 1))) (c3 : w.cell? ⟨b, 3, none⟩ = some (.int .i64 (D 1))) (c4 : w.cell? ⟨b, 4, none⟩ = some (.int .i64 (N 2))) (c5 : w.cell? ⟨b, 5, none⟩ = some (.int .i64 (D 2))) (c6 : w.cell? ⟨b, 6, none⟩ = some (.int .i64 (N 3))) (c7 : w.cell? ⟨b, 7, none⟩ = some (.int .i64 (D 3))) (c8 : w.cell? ⟨b, 8, none⟩ = some (.int .i64 (N 4))) (c9 : w.cell? ⟨b, 9, none⟩ = some (.int .i64 (D 4))) (c10 : w.cell? ⟨b, 10, none⟩ = some (.int .i64 (N 5))) (c11 : w.cell? ⟨b, 11, none⟩ = some (.int .i64 (D 5))) :
    Calls Try.prog 58 #[.pointer (some ⟨b, 0, none⟩)] w fun e w' => e = .returned (.slice (some ⟨w.heap.size, 0, none⟩) 6 6) ∧ ∃ n, w' = (w.alloc (.cells #[.int .i64 (N 0), .int .i64 (D 0), .int .i64 (N 1), .int .i64 (D 1), .int .i64 (N 2), .int .i64 (D 2), .int .i64 (N 3), .int .i64 (D 3), .int .i64 (N 4), .int .i64 (D 4), .int .i64 (N 5), .int .i64 (D 5)] 26)).drewN n := by
  go_enter Try.func58, Try.ntmps58
  go_wp2_with fail
  go_still_tail 24, (by kernel_rfl)
  go_wp2
  go_ret
  exact ⟨rfl, 1, rfl⟩
set_option maxHeartbeats 1600000 in
theorem l04Ok_fn (N D : Nat → Int) (b : Nat) (w : World) (c0 : w.cell? ⟨b, 0, none⟩ = some (.int .i64 (N 0))) (c1 : w.cell? ⟨b, 1, none⟩ = some (.int .i64 (D 0))) (c2 : w.cell? ⟨b, 2, none⟩ = some (.int .i64 (N 1))) (c3 : w.cell? ⟨b, 3, none⟩ = some (.int .i64 (D 1))) (c4 : w.cell? ⟨b, 4, none⟩ = some (.int .i64 (N 2))) (c5 : w.cell? ⟨b, 5, none⟩ = some (.int .i64 (D 2))) (c6 : w.cell? ⟨b, 6, none⟩ = some (.int .i64 (N 3))) (c7 : w.cell? ⟨b, 7, none⟩ = some (.int .i64 (D 3))) (c8 : w.cell? ⟨b, 8, none⟩ = some (.int .i64 (N 4))) (c9 : w.cell? ⟨b, 9, none⟩ = some (.int .i64 (D 4))) (c10 : w.cell? ⟨b, 10, none⟩ = some (.int .i64 (N 5))) (c11 : w.cell? ⟨b, 11, none⟩ = some (.int .i64 (D 5))) (hN : ∀ i, i < 6 → -9223372036854775808 ≤ N i ∧ N i ≤ 9223372036854775807) (hD : ∀ i, i < 6 → -9223372036854775808 ≤ D i ∧ D i ≤ 9223372036854775807) :
    Calls Try.prog 22 #[.pointer (some ⟨b, 0, none⟩)] w fun e w' => e = .returned (.bool (allV N D 6)) ∧ Below w.heap.size w w' := by
  have HN := Lib.hid hN
  have HD := Lib.hid hD
  have C := Lib.hid (l04List_any N D b w c0 c1 c2 c3 c4 c5 c6 c7 c8 c9 c10 c11)
  clear hN hD c0 c1 c2 c3 c4 c5 c6 c7 c8 c9 c10 c11
  go_enter Try.func22, Try.ntmps22
  go_wp2_with fail
  refine C.out.mono ?_
  rintro e w1 ⟨rfl, n, rfl⟩
  go_wp2
  generalize hW : (w.alloc (.cells #[.int .i64 (N 0), .int .i64 (D 0), .int .i64 (N 1), .int .i64 (D 1), .int .i64 (N 2), .int .i64 (D 2), .int .i64 (N 3), .int .i64 (D 3), .int .i64 (N 4), .int .i64 (D 4), .int .i64 (N 5), .int .i64 (D 5)] 26)).drewN n = W0
  have g0 : Below w.heap.size w W0 := by rw [← hW]; repeat' (first | with_reducible assumption | with_reducible exact Below.refl _ _ | (with_reducible refine Below.setCell ?_ ?_ _) | (with_reducible refine Below.alloc ?_ ?_ _) | (with_reducible refine Below.drew ?_) | (with_reducible refine below_dr ?_ _) | (with_reducible refine Below.trans ?_ (Below.mono (by with_reducible assumption) ?_)) | omega | (simp; done) | (simp; omega))
  have zl : w.heap.size < W0.heap.size := by rw [← hW]; simp
  have hcells : ∀ k, k < 6 → W0.cell? ⟨w.heap.size, k * 2, none⟩ = some (.int .i64 (N k)) ∧ W0.cell? ⟨w.heap.size, k * 2 + 1, none⟩ = some (.int .i64 (D k)) := by
    intro k hk
    rw [← hW]
    match k, hk with
    | 0, _ => exact ⟨by simp [go_sem], by simp [go_sem]⟩
    | 1, _ => exact ⟨by simp [go_sem], by simp [go_sem]⟩
    | 2, _ => exact ⟨by simp [go_sem], by simp [go_sem]⟩
    | 3, _ => exact ⟨by simp [go_sem], by simp [go_sem]⟩
    | 4, _ => exact ⟨by simp [go_sem], by simp [go_sem]⟩
    | 5, _ => exact ⟨by simp [go_sem], by simp [go_sem]⟩
  clear hW C
  have HC := Lib.hid hcells
  clear hcells
  go_loopw [4] (fun i wr => VRel N D 6 w i wr ∧ Below W0.heap.size W0 wr) (fun i _ => 6 - (intOf i).toNat)
  case atStart => exact ⟨⟨0, by omega, rfl, rfl, g0⟩, Below.refl _ _⟩
  case round =>
    obtain ⟨⟨k, hk, rfl, ha, hbl⟩, hbw⟩ := hrel
    have HA := Lib.hid ha
    clear ha
    by_cases hlt : k < 6
    · have c1 := (hbw.cell (p := ⟨w.heap.size, k * 2, none⟩) zl).trans (HC.out k hlt).1
      have c2 := (hbw.cell (p := ⟨w.heap.size, k * 2 + 1, none⟩) zl).trans (HC.out k hlt).2
      have hz := hbl.size
      have hz2 := hbw.size
      rcases hv : validB (N k) (D k) with _ | _
      · have HV := Lib.hid hv
        clear hv
        go_wp2_with (go_at_call 59; refine (l02Ok_val _ (HN.out k hlt) (HD.out k hlt) HV.out).mono ?_; rintro e w2 hq; obtain ⟨rfl, hbw2⟩ := hq.below)
        go_ret
        exact ⟨ret_bool (allV_no hlt HV.out), by repeat' (first | with_reducible assumption | with_reducible exact Below.refl _ _ | (with_reducible refine Below.setCell ?_ ?_ _) | (with_reducible refine Below.alloc ?_ ?_ _) | (with_reducible refine Below.drew ?_) | (with_reducible refine below_dr ?_ _) | (with_reducible refine Below.trans ?_ (Below.mono (by with_reducible assumption) ?_)) | omega | (simp; done) | (simp; omega))⟩
      · have HV := Lib.hid hv
        clear hv
        go_wp2_with (go_at_call 59; refine (l02Ok_val _ (HN.out k hlt) (HD.out k hlt) HV.out).mono ?_; rintro e w2 hq; obtain ⟨rfl, hbw2⟩ := hq.below)
        go_roundw
        case rel => exact ⟨⟨k + 1, by omega, by go_num, allV_yes HA.out HV.out, by repeat' (first | with_reducible assumption | with_reducible exact Below.refl _ _ | (with_reducible refine Below.setCell ?_ ?_ _) | (with_reducible refine Below.alloc ?_ ?_ _) | (with_reducible refine Below.drew ?_) | (with_reducible refine below_dr ?_ _) | (with_reducible refine Below.trans ?_ (Below.mono (by with_reducible assumption) ?_)) | omega | (simp; done) | (simp; omega))⟩, by repeat' (first | with_reducible assumption | with_reducible exact Below.refl _ _ | (with_reducible refine Below.setCell ?_ ?_ _) | (with_reducible refine Below.alloc ?_ ?_ _) | (with_reducible refine Below.drew ?_) | (with_reducible refine below_dr ?_ _) | (with_reducible refine Below.trans ?_ (Below.mono (by with_reducible assumption) ?_)) | omega | (simp; done) | (simp; omega))⟩
        case measure => simp [intOf]; omega
    · obtain rfl : k = 6 := by omega
      go_wp2
      go_ret
      exact ⟨ret_bool HA.out.symm, hbl⟩
theorem l04Ok_any (m0 m1 m2 m3 m4 m5 m6 m7 m8 m9 m10 m11 : Int) (b : Nat) (w : World) (c0 : w.cell? ⟨b, 0, none⟩ = some (.int .i64 m0)) (c1 : w.cell? ⟨b, 1, none⟩ = some (.int .i64 m1)) (c2 : w.cell? ⟨b, 2, none⟩ = some (.int .i64 m2)) (c3 : w.cell? ⟨b, 3, none⟩ = some (.int .i64 m3)) (c4 : w.cell? ⟨b, 4, none⟩ = some (.int .i64 m4)) (c5 : w.cell? ⟨b, 5, none⟩ = some (.int .i64 m5)) (c6 : w.cell? ⟨b, 6, none⟩ = some (.int .i64 m6)) (c7 : w.cell? ⟨b, 7, none⟩ = some (.int .i64 m7)) (c8 : w.cell? ⟨b, 8, none⟩ = some (.int .i64 m8)) (c9 : w.cell? ⟨b, 9, none⟩ = some (.int .i64 m9)) (c10 : w.cell? ⟨b, 10, none⟩ = some (.int .i64 m10)) (c11 : w.cell? ⟨b, 11, none⟩ = some (.int .i64 m11)) (h0 : -9223372036854775808 ≤ m0 ∧ m0 ≤ 9223372036854775807) (h1 : -9223372036854775808 ≤ m1 ∧ m1 ≤ 9223372036854775807) (h2 : -9223372036854775808 ≤ m2 ∧ m2 ≤ 9223372036854775807) (h3 : -9223372036854775808 ≤ m3 ∧ m3 ≤ 9223372036854775807) (h4 : -9223372036854775808 ≤ m4 ∧ m4 ≤ 9223372036854775807) (h5 : -9223372036854775808 ≤ m5 ∧ m5 ≤ 9223372036854775807) (h6 : -9223372036854775808 ≤ m6 ∧ m6 ≤ 9223372036854775807) (h7 : -9223372036854775808 ≤ m7 ∧ m7 ≤ 9223372036854775807) (h8 : -9223372036854775808 ≤ m8 ∧ m8 ≤ 9223372036854775807) (h9 : -9223372036854775808 ≤ m9 ∧ m9 ≤ 9223372036854775807) (h10 : -9223372036854775808 ≤ m10 ∧ m10 ≤ 9223372036854775807) (h11 : -9223372036854775808 ≤ m11 ∧ m11 ≤ 9223372036854775807) :
    Calls Try.prog 22 #[.pointer (some ⟨b, 0, none⟩)] w fun e w' => e = .returned (.bool (validA m0 m1 m2 m3 m4 m5 m6 m7 m8 m9 m10 m11)) ∧ Below w.heap.size w w' := by
  have h := l04Ok_fn (fun i => [m0, m2, m4, m6, m8, m10].getD i 0) (fun i => [m1, m3, m5, m7, m9, m11].getD i 0) b w c0 c1 c2 c3 c4 c5 c6 c7 c8 c9 c10 c11 (by
    intro i hi
    match i, hi with
    | 0, _ => exact h0
    | 1, _ => exact h2
    | 2, _ => exact h4
    | 3, _ => exact h6
    | 4, _ => exact h8
    | 5, _ => exact h10) (by
    intro i hi
    match i, hi with
    | 0, _ => exact h1
    | 1, _ => exact h3
    | 2, _ => exact h5
    | 3, _ => exact h7
    | 4, _ => exact h9
    | 5, _ => exact h11)
  rw [allV_is] at h
  exact h
end Go.Proofs.Ytjlmoadnbbeloaa
