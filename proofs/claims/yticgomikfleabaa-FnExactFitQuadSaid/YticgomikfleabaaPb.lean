/- Walks: a row of points that are all valid. -/
import Derived.Test.YticgomikfleabaaPa
namespace Go.Proofs.Yticgomikfleabaa
open Go.RowKit

def okAll (X Y : Nat → Int) (n : Nat) : Bool := (List.range n).all fun i => okB (X i) (Y i)
theorem okAll_yes {X Y : Nat → Int} {k : Nat} (h : okAll X Y k = true) (h2 : okB (X k) (Y k) = true) : okAll X Y (k + 1) = true := by
  unfold okAll at *; rw [List.range_succ, List.all_append, h]; simp [h2]
theorem okAll_no {X Y : Nat → Int} {k n : Nat} (hk : k < n) (h2 : okB (X k) (Y k) = false) : false = okAll X Y n := by
  unfold okAll; symm; rw [List.all_eq_false]; exact ⟨k, by simpa using hk, by simp [h2]⟩
def VRel (X Y : Nat → Int) (n : Nat) (w : World) (i : Value) (wr : World) : Prop := ∃ k : Nat, k ≤ n ∧ i = .int .i64 k ∧ okAll X Y k = true ∧ Below w.heap.size w wr

set_option maxHeartbeats 1600000 in
theorem validPts_any (X Y : Nat → Int) (b n : Nat) (w : World) (hn : n ≤ 8) (hb : b < w.heap.size) (hc : ∀ i, i < n → w.cell? ⟨b, i * 2, none⟩ = some (.int .i64 (X i)) ∧ w.cell? ⟨b, i * 2 + 1, none⟩ = some (.int .i64 (Y i))) :
    Calls Try.prog 65 #[.slice (some ⟨b, 0, none⟩) n n] w fun e w' => e = .returned (.bool (okAll X Y n)) ∧ Below w.heap.size w w' := by
  have HC := Lib.hid hc
  clear hc
  go_enter Try.func65, Try.ntmps65
  go_wp2
  go_loopw [7] (fun i wr => VRel X Y n w i wr) (fun i _ => n - (intOf i).toNat)
  case atStart => exact ⟨0, Nat.zero_le _, rfl, rfl, Below.refl _ _⟩
  case round =>
    obtain ⟨k, hk, rfl, ha, hbl⟩ := hrel
    have HA := Lib.hid ha
    clear ha
    by_cases hlt : k < n
    · have c1 : wr.cell? ⟨b, k * 2, none⟩ = some (.int .i64 (X k)) := (hbl.cell (p := ⟨b, k * 2, none⟩) hb).trans (HC.out k hlt).1
      have c2 : wr.cell? ⟨b, k * 2 + 1, none⟩ = some (.int .i64 (Y k)) := (hbl.cell (p := ⟨b, k * 2 + 1, none⟩) hb).trans (HC.out k hlt).2
      have hz := hbl.size
      rcases hv : okB (X k) (Y k) with _ | _
      · have HV := Lib.hid hv
        clear hv
        go_wp2_with (go_at_call 83; refine (implValidPt_any _ _ _).mono ?_; rw [HV.out]; rintro e w1 ⟨rfl, hb1⟩)
        go_ret
        exact ⟨ret_bool (okAll_no hlt HV.out), (hbl.alloc hz _).trans (hb1.mono (by simp; omega))⟩
      · have HV := Lib.hid hv
        clear hv
        go_wp2_with (go_at_call 83; refine (implValidPt_any _ _ _).mono ?_; rw [HV.out]; rintro e w1 ⟨rfl, hb1⟩)
        go_roundw
        case rel => exact ⟨k + 1, by omega, by go_num, okAll_yes HA.out HV.out, (hbl.alloc hz _).trans (hb1.mono (by simp; omega))⟩
        case measure => simp [intOf]; omega
    · obtain rfl : k = n := by omega
      go_wp2
      go_ret
      exact ⟨ret_bool HA.out.symm, hbl⟩

theorem valid2 (x0 y0 x1 y1 : Int) (b : Nat) (w : World) (hb : b < w.heap.size) (h0 : w.cell? ⟨b, 0, none⟩ = some (.int .i64 x0)) (k0 : w.cell? ⟨b, 1, none⟩ = some (.int .i64 y0)) (h1 : w.cell? ⟨b, 2, none⟩ = some (.int .i64 x1)) (k1 : w.cell? ⟨b, 3, none⟩ = some (.int .i64 y1)) :
    Calls Try.prog 65 #[.slice (some ⟨b, 0, none⟩) 2 2] w fun e w' => e = .returned (.bool (okB x0 y0 && okB x1 y1)) ∧ Below w.heap.size w w' := by
  have h := validPts_any (fun i => [x0, x1].getD i 0) (fun i => [y0, y1].getD i 0) b 2 w (by omega) hb (by
    intro i hi
    match i, hi with
    | 0, _ => exact ⟨h0, k0⟩
    | 1, _ => exact ⟨h1, k1⟩)
  simpa [okAll, List.range_succ] using h
theorem valid3 (x0 y0 x1 y1 x2 y2 : Int) (b : Nat) (w : World) (hb : b < w.heap.size) (h0 : w.cell? ⟨b, 0, none⟩ = some (.int .i64 x0)) (k0 : w.cell? ⟨b, 1, none⟩ = some (.int .i64 y0)) (h1 : w.cell? ⟨b, 2, none⟩ = some (.int .i64 x1)) (k1 : w.cell? ⟨b, 3, none⟩ = some (.int .i64 y1)) (h2 : w.cell? ⟨b, 4, none⟩ = some (.int .i64 x2)) (k2 : w.cell? ⟨b, 5, none⟩ = some (.int .i64 y2)) :
    Calls Try.prog 65 #[.slice (some ⟨b, 0, none⟩) 3 3] w fun e w' => e = .returned (.bool (okB x0 y0 && okB x1 y1 && okB x2 y2)) ∧ Below w.heap.size w w' := by
  have h := validPts_any (fun i => [x0, x1, x2].getD i 0) (fun i => [y0, y1, y2].getD i 0) b 3 w (by omega) hb (by
    intro i hi
    match i, hi with
    | 0, _ => exact ⟨h0, k0⟩
    | 1, _ => exact ⟨h1, k1⟩
    | 2, _ => exact ⟨h2, k2⟩)
  simpa [okAll, List.range_succ, Bool.and_assoc] using h
theorem valid4 (x0 y0 x1 y1 x2 y2 x3 y3 : Int) (b : Nat) (w : World) (hb : b < w.heap.size) (h0 : w.cell? ⟨b, 0, none⟩ = some (.int .i64 x0)) (k0 : w.cell? ⟨b, 1, none⟩ = some (.int .i64 y0)) (h1 : w.cell? ⟨b, 2, none⟩ = some (.int .i64 x1)) (k1 : w.cell? ⟨b, 3, none⟩ = some (.int .i64 y1)) (h2 : w.cell? ⟨b, 4, none⟩ = some (.int .i64 x2)) (k2 : w.cell? ⟨b, 5, none⟩ = some (.int .i64 y2)) (h3 : w.cell? ⟨b, 6, none⟩ = some (.int .i64 x3)) (k3 : w.cell? ⟨b, 7, none⟩ = some (.int .i64 y3)) :
    Calls Try.prog 65 #[.slice (some ⟨b, 0, none⟩) 4 4] w fun e w' => e = .returned (.bool (okB x0 y0 && okB x1 y1 && okB x2 y2 && okB x3 y3)) ∧ Below w.heap.size w w' := by
  have h := validPts_any (fun i => [x0, x1, x2, x3].getD i 0) (fun i => [y0, y1, y2, y3].getD i 0) b 4 w (by omega) hb (by
    intro i hi
    match i, hi with
    | 0, _ => exact ⟨h0, k0⟩
    | 1, _ => exact ⟨h1, k1⟩
    | 2, _ => exact ⟨h2, k2⟩
    | 3, _ => exact ⟨h3, k3⟩)
  simpa [okAll, List.range_succ, Bool.and_assoc] using h

end Go.Proofs.Yticgomikfleabaa
