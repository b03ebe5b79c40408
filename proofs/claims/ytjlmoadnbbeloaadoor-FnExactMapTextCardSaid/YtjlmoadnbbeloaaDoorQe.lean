/- Walks: which maps are valid, the reference's side. -/
import Derived.Test.YtjlmoadnbbeloaaDoorQd
namespace Go.Proofs.YtjlmoadnbbeloaaDoor
open Go.RowKit
set_option maxRecDepth 100000 in
set_option maxHeartbeats 1600000 in
theorem l04List_any (N D : Nat → Int) (b : Nat) (w : World) (c0 : w.cell? ⟨b, 0, none⟩ = some (.int .i64 (N 0))) (c1 : w.cell? ⟨b, 1, none⟩ = some (.int .i64 (D 0))) (c2 : w.cell? ⟨b, 2, none⟩ = some (.int .i64 (N 1))) (c3 : w.cell? ⟨b, 3, none⟩ = some (.int .i64 (D 1))) (c4 : w.cell? ⟨b, 4, none⟩ = some (.int .i64 (N 2))) (c5 : w.cell? ⟨b, 5, none⟩ = some (.int .i64 (D 2))) (c6 : w.cell? ⟨b, 6, none⟩ = some (.int .i64 (N 3))) (c7 : w.cell? ⟨b, 7, none⟩ = some (.int .i64 (D 3))) (c8 : w.cell? ⟨b, 8, none⟩ = some (.int .i64 (N 4))) (c9 : w.cell? ⟨b, 9, none⟩ = some (.int .i64 (D 4))) (c10 : w.cell? ⟨b, 10, none⟩ = some (.int .i64 (N 5))) (c11 : w.cell? ⟨b, 11, none⟩ = some (.int .i64 (D 5))) :
    Calls Tryd.prog 66 #[.pointer (some ⟨b, 0, none⟩)] w fun e w' => e = .returned (.slice (some ⟨w.heap.size, 0, none⟩) 6 6) ∧ ∃ n, w' = (w.alloc (.cells #[.int .i64 (N 0), .int .i64 (D 0), .int .i64 (N 1), .int .i64 (D 1), .int .i64 (N 2), .int .i64 (D 2), .int .i64 (N 3), .int .i64 (D 3), .int .i64 (N 4), .int .i64 (D 4), .int .i64 (N 5), .int .i64 (D 5)] 27)).drewN n := by
  go_enter Tryd.func66, Tryd.ntmps66
  go_wp2_with fail
  go_still_tail 24, (by kernel_rfl)
  go_wp2
  go_ret
  exact ⟨rfl, 1, rfl⟩
set_option maxHeartbeats 1600000 in
theorem l04Ok_fn (N D : Nat → Int) (b : Nat) (w : World) (c0 : w.cell? ⟨b, 0, none⟩ = some (.int .i64 (N 0))) (c1 : w.cell? ⟨b, 1, none⟩ = some (.int .i64 (D 0))) (c2 : w.cell? ⟨b, 2, none⟩ = some (.int .i64 (N 1))) (c3 : w.cell? ⟨b, 3, none⟩ = some (.int .i64 (D 1))) (c4 : w.cell? ⟨b, 4, none⟩ = some (.int .i64 (N 2))) (c5 : w.cell? ⟨b, 5, none⟩ = some (.int .i64 (D 2))) (c6 : w.cell? ⟨b, 6, none⟩ = some (.int .i64 (N 3))) (c7 : w.cell? ⟨b, 7, none⟩ = some (.int .i64 (D 3))) (c8 : w.cell? ⟨b, 8, none⟩ = some (.int .i64 (N 4))) (c9 : w.cell? ⟨b, 9, none⟩ = some (.int .i64 (D 4))) (c10 : w.cell? ⟨b, 10, none⟩ = some (.int .i64 (N 5))) (c11 : w.cell? ⟨b, 11, none⟩ = some (.int .i64 (D 5))) (hN : ∀ i, i < 6 → -9223372036854775808 ≤ N i ∧ N i ≤ 9223372036854775807) (hD : ∀ i, i < 6 → -9223372036854775808 ≤ D i ∧ D i ≤ 9223372036854775807) :
    Calls Tryd.prog 29 #[.pointer (some ⟨b, 0, none⟩)] w fun e w' => e = .returned (.bool (allV N D 6)) ∧ Below w.heap.size w w' := by
  have HN := Lib.hid hN
  have HD := Lib.hid hD
  have C := Lib.hid (l04List_any N D b w c0 c1 c2 c3 c4 c5 c6 c7 c8 c9 c10 c11)
  clear hN hD c0 c1 c2 c3 c4 c5 c6 c7 c8 c9 c10 c11
  go_enter Tryd.func29, Tryd.ntmps29
  go_wp2_with fail
  refine C.out.mono ?_
  rintro e w1 ⟨rfl, n, rfl⟩
  go_wp2
  generalize hW : (w.alloc (.cells #[.int .i64 (N 0), .int .i64 (D 0), .int .i64 (N 1), .int .i64 (D 1), .int .i64 (N 2), .int .i64 (D 2), .int .i64 (N 3), .int .i64 (D 3), .int .i64 (N 4), .int .i64 (D 4), .int .i64 (N 5), .int .i64 (D 5)] 27)).drewN n = W0
  have g0 : Below w.heap.size w W0 := by rw [← hW]; repeat' (first | with_reducible assumption | with_reducible exact Below.refl _ _ | (with_reducible refine Below.setCell ?_ ?_ _) | (with_reducible refine Below.alloc ?_ ?_ _) | (with_reducible refine Below.drew ?_) | (with_reducible refine below_dr ?_ _) | (with_reducible refine Below.trans ?_ (Below.mono (by with_reducible assumption) ?_)) | omega | (simp; done) | (simp; omega))
  have zl : w.heap.size < W0.heap.size := by rw [← hW]; simp
  have hcells : ∀ k, k < 6 → W0.cell? ⟨w.heap.size, k * 2, none⟩ = some (.int .i64 (N k)) ∧ W0.cell? ⟨w.heap.size, k * 2 + 1, none⟩ = some (.int .i64 (D k)) := by
    intro k hk
    rw [← hW]
    match k, hk with
    | 0, _ => exact ⟨by simp [go_sem], by simp [go_sem]⟩
    | 1, _ => exact ⟨by simp [go_sem], by simp [go_sem]⟩
    | 2, _ => exact ⟨by simp [go_sem], by simp [go_sem]⟩
    | 3, _ => exact ⟨by simp [go_sem], by simp [go_sem]⟩
    | 4, _ => exact ⟨by simp [go_sem], by simp [go_sem]⟩
    | 5, _ => exact ⟨by simp [go_sem], by simp [go_sem]⟩
  clear hW C
  have HC := Lib.hid hcells
  clear hcells
  go_loopw [4] (fun i wr => VRel N D 6 w i wr ∧ Below W0.heap.size W0 wr) (fun i _ => 6 - (intOf i).toNat)
  case atStart => exact ⟨⟨0, by omega, rfl, rfl, g0⟩, Below.refl _ _⟩
  case round =>
    obtain ⟨⟨k, hk, rfl, ha, hbl⟩, hbw⟩ := hrel
    have HA := Lib.hid ha
    clear ha
    by_cases hlt : k < 6
    · have c1 := (hbw.cell (p := ⟨w.heap.size, k * 2, none⟩) zl).trans (HC.out k hlt).1
      have c2 := (hbw.cell (p := ⟨w.heap.size, k * 2 + 1, none⟩) zl).trans (HC.out k hlt).2
      have hz := hbl.size
      have hz2 := hbw.size
      rcases hv : validB (N k) (D k) with _ | _
      · have HV := Lib.hid hv
        clear hv
        go_wp2_with (go_at_call 67; refine (l02Ok_val _ (HN.out k hlt) (HD.out k hlt) HV.out).mono ?_; rintro e w2 hq; obtain ⟨rfl, hbw2⟩ := hq.below)
        go_ret
        exact ⟨ret_bool (allV_no hlt HV.out), by repeat' (first | with_reducible assumption | with_reducible exact Below.refl _ _ | (with_reducible refine Below.setCell ?_ ?_ _) | (with_reducible refine Below.alloc ?_ ?_ _) | (with_reducible refine Below.drew ?_) | (with_reducible refine below_dr ?_ _) | (with_reducible refine Below.trans ?_ (Below.mono (by with_reducible assumption) ?_)) | omega | (simp; done) | (simp; omega))⟩
      · have HV := Lib.hid hv
        clear hv
        go_wp2_with (go_at_call 67; refine (l02Ok_val _ (HN.out k hlt) (HD.out k hlt) HV.out).mono ?_; rintro e w2 hq; obtain ⟨rfl, hbw2⟩ := hq.below)
        go_roundw
        case rel => exact ⟨⟨k + 1, by omega, by go_num, allV_yes HA.out HV.out, by repeat' (first | with_reducible assumption | with_reducible exact Below.refl _ _ | (with_reducible refine Below.setCell ?_ ?_ _) | (with_reducible refine Below.alloc ?_ ?_ _) | (with_reducible refine Below.drew ?_) | (with_reducible refine below_dr ?_ _) | (with_reducible refine Below.trans ?_ (Below.mono (by with_reducible assumption) ?_)) | omega | (simp; done) | (simp; omega))⟩, by repeat' (first | with_reducible assumption | with_reducible exact Below.refl _ _ | (with_reducible refine Below.setCell ?_ ?_ _) | (with_reducible refine Below.alloc ?_ ?_ _) | (with_reducible refine Below.drew ?_) | (with_reducible refine below_dr ?_ _) | (with_reducible refine Below.trans ?_ (Below.mono (by with_reducible assumption) ?_)) | omega | (simp; done) | (simp; omega))⟩
        case measure => simp [intOf]; omega
    · obtain rfl : k = 6 := by omega
      go_wp2
      go_ret
      exact ⟨ret_bool HA.out.symm, hbl⟩
end Go.Proofs.YtjlmoadnbbeloaaDoor
