/- Walks: which maps are valid, on both sides. -/
import Derived.Test.YtjlmoadnbbeloaaW4
import Derived.Deep.RegionHeld3
import Derived.Deep.DeepCutAuto
import Derived.StillTailTactics
import Derived.Outline
namespace Go.Proofs.Ytjlmoadnbbeloaa
open Go.RowKit

def allV (N D : Nat → Int) (n : Nat) : Bool := (List.range n).all fun i => validB (N i) (D i)
theorem allV_yes {N D : Nat → Int} {k : Nat} (h : allV N D k = true) (h2 : validB (N k) (D k) = true) : allV N D (k + 1) = true := by
  unfold allV at *; rw [List.range_succ, List.all_append, h]; simp [h2]
theorem allV_no {N D : Nat → Int} {k n : Nat} (hk : k < n) (h2 : validB (N k) (D k) = false) : false = allV N D n := by
  unfold allV; symm; rw [List.all_eq_false]; exact ⟨k, by simpa using hk, by simp [h2]⟩
def VRel (N D : Nat → Int) (n : Nat) (w : World) (i : Value) (wr : World) : Prop := ∃ k : Nat, k ≤ n ∧ i = .int .i64 k ∧ allV N D k = true ∧ Below w.heap.size w wr
set_option maxHeartbeats 800000 in
theorem parts_any (N D : Nat → Int) (w : World) :
    Calls Try.prog 61 #[.agg #[.int .i64 (N 0), .int .i64 (D 0), .int .i64 (N 1), .int .i64 (D 1), .int .i64 (N 2), .int .i64 (D 2), .int .i64 (N 3), .int .i64 (D 3), .int .i64 (N 4), .int .i64 (D 4), .int .i64 (N 5), .int .i64 (D 5)]] w fun e w' => e = .returned (.agg #[.int .i64 (N 0), .int .i64 (D 0), .int .i64 (N 1), .int .i64 (D 1), .int .i64 (N 2), .int .i64 (D 2), .int .i64 (N 3), .int .i64 (D 3), .int .i64 (N 4), .int .i64 (D 4), .int .i64 (N 5), .int .i64 (D 5)]) ∧ Below w.heap.size w w' := by
  go_enter Try.func61, Try.ntmps61
  go_wp2
  refine bodyPost_ret (v := .agg #[.int .i64 (N 0), .int .i64 (D 0), .int .i64 (N 1), .int .i64 (D 1), .int .i64 (N 2), .int .i64 (D 2), .int .i64 (N 3), .int .i64 (D 3), .int .i64 (N 4), .int .i64 (D 4), .int .i64 (N 5), .int .i64 (D 5)]) (by simp [results, Try.results61, go_sem]) rfl ⟨rfl, ?_⟩
  repeat' (first | with_reducible assumption | with_reducible exact Below.refl _ _ | (with_reducible refine Below.setCell ?_ ?_ _) | (with_reducible refine Below.alloc ?_ ?_ _) | (with_reducible refine Below.drew ?_) | (with_reducible refine below_dr ?_ _) | (with_reducible refine Below.trans ?_ (Below.mono (by with_reducible assumption) ?_)) | omega | (simp; done) | (simp; omega))
set_option maxRecDepth 100000 in
theorem idx_any (N D : Nat → Int) (k : Nat) (hk : k < 6) : ∀ w, (Instr.index 109 (.agg #[.int .i64 (N 0), .int .i64 (D 0), .int .i64 (N 1), .int .i64 (D 1), .int .i64 (N 2), .int .i64 (D 2), .int .i64 (N 3), .int .i64 (D 3), .int .i64 (N 4), .int .i64 (D 4), .int .i64 (N 5), .int .i64 (D 5)]) (.int .i64 (k : Int))).run Try.prog w = .ok (.agg #[.int .i64 (N k), .int .i64 (D k)]) w := by
  match k, hk with
  | 0, _ => exact fun _ => by kernel_rfl
  | 1, _ => exact fun _ => by kernel_rfl
  | 2, _ => exact fun _ => by kernel_rfl
  | 3, _ => exact fun _ => by kernel_rfl
  | 4, _ => exact fun _ => by kernel_rfl
  | 5, _ => exact fun _ => by kernel_rfl
set_option maxHeartbeats 1600000 in
theorem implValidAffine_fn (N D : Nat → Int) (w : World) (hN : ∀ i, i < 6 → -9223372036854775808 ≤ N i ∧ N i ≤ 9223372036854775807) (hD : ∀ i, i < 6 → -9223372036854775808 ≤ D i ∧ D i ≤ 9223372036854775807) :
    Calls Try.prog 25 #[.agg #[.int .i64 (N 0), .int .i64 (D 0), .int .i64 (N 1), .int .i64 (D 1), .int .i64 (N 2), .int .i64 (D 2), .int .i64 (N 3), .int .i64 (D 3), .int .i64 (N 4), .int .i64 (D 4), .int .i64 (N 5), .int .i64 (D 5)]] w fun e w' => e = .returned (.bool (allV N D 6)) ∧ Below w.heap.size w w' := by
  have HN := Lib.hid hN
  have HD := Lib.hid hD
  clear hN hD
  go_enter Try.func25, Try.ntmps25
  go_wp2_with fail
  refine (parts_any N D _).mono ?_
  rintro e w1 ⟨rfl, hbw1⟩
  have g1 : Below w.heap.size w w1 := by repeat' (first | with_reducible assumption | with_reducible exact Below.refl _ _ | (with_reducible refine Below.setCell ?_ ?_ _) | (with_reducible refine Below.alloc ?_ ?_ _) | (with_reducible refine Below.drew ?_) | (with_reducible refine below_dr ?_ _) | (with_reducible refine Below.trans ?_ (Below.mono (by with_reducible assumption) ?_)) | omega | (simp; done) | (simp; omega))
  clear hbw1
  go_wp2_with fail
  go_loopw [7] (fun i wr => VRel N D 6 w i wr) (fun i _ => 6 - (intOf i).toNat)
  case atStart => exact ⟨0, by omega, rfl, rfl, g1⟩
  case round =>
    obtain ⟨k, hk, rfl, ha, hbl⟩ := hrel
    have HA := Lib.hid ha
    clear ha
    by_cases hlt : k < 6
    · have hi := idx_any N D k hlt
      have hz := hbl.size
      rcases hv : validB (N k) (D k) with _ | _
      · have HV := Lib.hid hv
        clear hv
        go_wp2_with (go_at_call 62; refine (implValidFrac_val _ (HN.out k hlt) (HD.out k hlt) HV.out).mono ?_; rintro e w2 hq; obtain ⟨rfl, hbw2⟩ := hq.below)
        go_ret
        exact ⟨ret_bool (allV_no hlt HV.out), by repeat' (first | with_reducible assumption | with_reducible exact Below.refl _ _ | (with_reducible refine Below.setCell ?_ ?_ _) | (with_reducible refine Below.alloc ?_ ?_ _) | (with_reducible refine Below.drew ?_) | (with_reducible refine below_dr ?_ _) | (with_reducible refine Below.trans ?_ (Below.mono (by with_reducible assumption) ?_)) | omega | (simp; done) | (simp; omega))⟩
      · have HV := Lib.hid hv
        clear hv
        go_wp2_with (go_at_call 62; refine (implValidFrac_val _ (HN.out k hlt) (HD.out k hlt) HV.out).mono ?_; rintro e w2 hq; obtain ⟨rfl, hbw2⟩ := hq.below)
        go_roundw
        case rel => exact ⟨k + 1, by omega, by go_num, allV_yes HA.out HV.out, by repeat' (first | with_reducible assumption | with_reducible exact Below.refl _ _ | (with_reducible refine Below.setCell ?_ ?_ _) | (with_reducible refine Below.alloc ?_ ?_ _) | (with_reducible refine Below.drew ?_) | (with_reducible refine below_dr ?_ _) | (with_reducible refine Below.trans ?_ (Below.mono (by with_reducible assumption) ?_)) | omega | (simp; done) | (simp; omega))⟩
        case measure => simp [intOf]; omega
    · obtain rfl : k = 6 := by omega
      go_wp2
      go_ret
      exact ⟨ret_bool HA.out.symm, hbl⟩
end Go.Proofs.Ytjlmoadnbbeloaa
