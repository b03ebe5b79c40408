/- Walks: parts of a pixel as a text: PixelsText, both sides; the law. -/
import Derived.Test.YtdikenapnncmfaaDoorPxq
namespace Go.Proofs.YtdikenapnncmfaaDoor.Pix
open Go.RowKit
set_option linter.unusedVariables false
theorem i64m {n : Int} (h : -9223372036854775808 ≤ n ∧ n ≤ 9223372036854775807) : IntKind.i64.wrap n = n := IntWalk.i64_in _ h
theorem nil_app (a : ByteArray) : (⟨#[]⟩ : ByteArray) ++ a = a := by
  show ByteArray.empty ++ a = a
  simp
theorem ret_s {a b : ByteArray} (h : a = b) : Ending.returned (.string a) = .returned (.string b) := by rw [h]
set_option maxHeartbeats 800000 in
theorem isRounded_yes (v : Int) (w : World) (h : ptI v) :
    Calls Tryd.prog 28 #[.int .i64 v] w fun e w' => e = .returned (.bool true) ∧ Below w.heap.size w w' := by
  unfold ptI at h
  obtain ⟨h1, h2⟩ := h
  go_enter Tryd.func28, Tryd.ntmps28
  go_wp2_with (fail)
  go_ret
  exact ⟨rfl, by repeat' (first | assumption | exact Below.refl _ _ | (refine Below.setCell ?_ ?_ _) | (refine Below.alloc ?_ ?_ _) | (refine below_dr ?_ _) | exact Nat.le_refl _ | (simp; done) | (simp; omega))⟩
set_option maxHeartbeats 800000 in
theorem isRounded_no (v : Int) (w : World) (h : ¬ ptI v) :
    Calls Tryd.prog 28 #[.int .i64 v] w fun e w' => e = .returned (.bool false) ∧ Below w.heap.size w w' := by
  unfold ptI at h
  by_cases h1 : -1099511627776 ≤ v
  · have h2 : 1099511627776 < v := by omega
    have h3 : decide (v ≤ 1099511627776) = false := by simp; omega
    clear h
    go_enter Tryd.func28, Tryd.ntmps28
    go_wp2_with (fail)
    go_ret
    exact ⟨rfl, by repeat' (first | assumption | exact Below.refl _ _ | (refine Below.setCell ?_ ?_ _) | (refine Below.alloc ?_ ?_ _) | (refine below_dr ?_ _) | exact Nat.le_refl _ | (simp; done) | (simp; omega))⟩
  · have h3 : decide (-1099511627776 ≤ v) = false := by simp; omega
    clear h
    go_enter Tryd.func28, Tryd.ntmps28
    go_wp2_with (fail)
    go_ret
    exact ⟨rfl, by repeat' (first | assumption | exact Below.refl _ _ | (refine Below.setCell ?_ ?_ _) | (refine Below.alloc ?_ ?_ _) | (refine below_dr ?_ _) | exact Nat.le_refl _ | (simp; done) | (simp; omega))⟩
set_option maxHeartbeats 1600000 in
theorem implPixels_nn (v : Int) (w : World) (h : ptI v) (hn : 0 ≤ v) (ht : Lib.TabIs Tryd.prog w "internal/strconv.uint64pow10" .u64 Lib.pow10Tab) :
    Calls Tryd.prog 14 #[.int .i64 v] w fun e w' => e = .returned (.string (pxB v)) ∧ Below w.heap.size w w' := by
  have CR := Lib.hid (fun w => isRounded_yes v w h)
  unfold ptI at h
  have t1 : (v).tmod 64 = (v) % 64 := Int.tmod_eq_emod_of_nonneg (by omega)
  have t2 : (v).tdiv 64 = (v) / 64 := Int.tdiv_eq_ediv_of_nonneg (by omega)
  have r0 : 0 ≤ (v) % 64 ∧ (v) % 64 < 64 := by omega
  have C1 := Lib.hid (show ∀ w1, Below w.heap.size w w1 → Calls Tryd.prog 33 #[.int .i64 (v / 64)] w1 fun e w' => e = .returned (.string (dcB (v / 64))) ∧ Below w1.heap.size w1 w' from fun w1 hb => implDecimal_any _ w1 (by omega) (by omega) (Joins.tab_stays gPow ht hb (Nat.le_refl _)))
  have C2 := Lib.hid (show ∀ w1, Below w.heap.size w w1 → Calls Tryd.prog 33 #[.int .i64 (100 + v % 64)] w1 fun e w' => e = .returned (.string (dcB (100 + v % 64))) ∧ Below w1.heap.size w1 w' from fun w1 hb => implDecimal_any _ w1 (by omega) (by omega) (Joins.tab_stays gPow ht hb (Nat.le_refl _)))
  have hd := dc_small ⟨(v % 64).toNat, by omega⟩
  simp only [Int.toNat_of_nonneg r0.1] at hd
  unfold pxB
  have s1 := dcB_size (n := v / 64) (by omega)
  have s2 := dcB_size (n := v % 64 / 10) (by omega)
  have s3 := dcB_size (n := v % 64 % 10) (by omega)
  have s4 := dcB_size (n := 100 + v % 64) (by omega)
  have s5 := dc_big ⟨(v % 64).toNat, by omega⟩
  simp only [Int.toNat_of_nonneg r0.1] at s5
  have hw := i64m (n := 100 + v % 64) (by omega)
  generalize dcB (v / 64) = a at *
  generalize dcB (100 + v % 64) = d at *
  have HD := Lib.hid (show d.extract 1 3 = dcB (v % 64 / 10) ++ dcB (v % 64 % 10) by rw [← hd, s5])
  have hs3 : (d.extract 1 3).size = (dcB (v % 64 / 10)).size + (dcB (v % 64 % 10)).size := by rw [HD.out, ByteArray.size_append]
  generalize dcB (v % 64 / 10) = b at *
  generalize dcB (v % 64 % 10) = c at *
  clear hd
  have f0 : (9223372036854775807 < a.size + 1) = False := by simp only [eq_iff_iff, iff_false]; omega
  have f1 : (9223372036854775807 < a.size + 1 + (d.extract 1 3).size) = False := by simp only [eq_iff_iff, iff_false]; omega
  obtain ⟨h1, h2⟩ := h
  clear ht
  go_enter Tryd.func14, Tryd.ntmps14
  go_wp2_with (first | (go_at_call 28; (with_reducible refine (CR.out _).mono ?_); rintro e wa ⟨rfl, ha⟩; have hza := ha.size; (try simp only [World.size_alloc] at hza)) | (go_at_call 33; (with_reducible refine (C1.out _ (by first | assumption | exact Below.refl _ _)).mono ?_); rintro e wb ⟨rfl, hb⟩; have hzb := hb.size; (try simp only [World.size_alloc] at hzb)) | (go_at_call 33; (with_reducible refine (C2.out _ (by first | assumption | (repeat' (first | with_reducible assumption | with_reducible exact Below.refl _ _ | (with_reducible refine Below.setCell ?_ ?_ _) | (with_reducible refine Below.alloc ?_ ?_ _) | (with_reducible refine Below.drew ?_) | (with_reducible refine below_dr ?_ _) | (with_reducible refine Below.trans ?_ (Below.mono (by with_reducible assumption) ?_)) | omega | (simp; done) | (simp; omega))))).mono ?_); rintro e wc ⟨rfl, hc⟩; have hzc := hc.size; (try simp only [World.size_alloc] at hzc)))
  go_ret
  refine ⟨ret_s ?_, by repeat' (first | with_reducible assumption | with_reducible exact Below.refl _ _ | (with_reducible refine Below.setCell ?_ ?_ _) | (with_reducible refine Below.alloc ?_ ?_ _) | (with_reducible refine Below.drew ?_) | (with_reducible refine below_dr ?_ _) | (with_reducible refine Below.trans ?_ (Below.mono (by with_reducible assumption) ?_)) | omega | (simp; done) | (simp; omega))⟩
  · rw [HD.out]; simp [ByteArray.append_assoc]
set_option maxHeartbeats 1600000 in
theorem implPixelsText_any (v : Int) (w : World) (hv : (-9223372036854775808 ≤ v ∧ v ≤ 9223372036854775807)) (ht : Lib.TabIs Tryd.prog w "internal/strconv.uint64pow10" .u64 Lib.pow10Tab) :
    Calls Tryd.prog 14 #[.int .i64 v] w fun e w' => e = .returned (.string (pxT v)) ∧ Below w.heap.size w w' := by
  by_cases h : ptI v
  case neg =>
    have C1 := Lib.hid (fun w => isRounded_no v w h)
    rw [show pxT v = ⟨#[]⟩ by simp [pxT, h]]
    clear h ht
    go_enter Tryd.func14, Tryd.ntmps14
    go_wp2_with (first | (go_at_call 28; (with_reducible refine (C1.out _).mono ?_); rintro e wa ⟨rfl, ha⟩; have hza := ha.size; (try simp only [World.size_alloc] at hza)))
    go_ret
    exact ⟨rfl, by repeat' (first | with_reducible assumption | with_reducible exact Below.refl _ _ | (with_reducible refine Below.setCell ?_ ?_ _) | (with_reducible refine Below.alloc ?_ ?_ _) | (with_reducible refine Below.drew ?_) | (with_reducible refine below_dr ?_ _) | (with_reducible refine Below.trans ?_ (Below.mono (by with_reducible assumption) ?_)) | omega | (simp; done) | (simp; omega))⟩
  case pos =>
    by_cases hn : 0 ≤ v
    · rw [show pxT v = pxB v by unfold pxT; rw [if_pos h, if_neg (by omega)]]
      exact implPixels_nn v w h hn ht
    · rw [show pxT v = ⟨#[45]⟩ ++ pxB (-v) by unfold pxT; rw [if_pos h, if_pos (by omega)]]
      have hp : ptI (-v) := by unfold ptI at h ⊢; omega
      have C1 := Lib.hid (fun w => isRounded_yes v w h)
      have C2 := Lib.hid (show ∀ w1, Below w.heap.size w w1 → Calls Tryd.prog 14 #[.int .i64 (-v)] w1 fun e w' => e = .returned (.string (pxB (-v))) ∧ Below w1.heap.size w1 w' from fun w1 hb => implPixels_nn (-v) w1 hp (by omega) (Joins.tab_stays gPow ht hb (Nat.le_refl _)))
      have hw := i64m (n := -v) (by unfold ptI at h; omega)
      have s1 : (pxB (-v)).size ≤ 80 := by
        have s1 := dcB_size (n := -v / 64) (by omega)
        have s2 := dcB_size (n := -v % 64 / 10) (by omega)
        have s3 := dcB_size (n := -v % 64 % 10) (by omega)
        have s4 : (⟨#[58]⟩ : ByteArray).size = 1 := rfl
        unfold pxB
        simp only [ByteArray.size_append, s4]
        omega
      generalize pxB (-v) = r at *
      have f0 : (9223372036854775807 < 1 + r.size) = False := by simp only [eq_iff_iff, iff_false]; omega
      have hn' : v < 0 := by omega
      clear h hp ht hn
      go_enter Tryd.func14, Tryd.ntmps14
      go_wp2_with (first | (go_at_call 28; (with_reducible refine (C1.out _).mono ?_); rintro e wa ⟨rfl, ha⟩; have hza := ha.size; (try simp only [World.size_alloc] at hza)) | (go_at_call 14; (with_reducible refine (C2.out _ (by first | assumption | exact Below.refl _ _)).mono ?_); rintro e wb ⟨rfl, hb⟩; have hzb := hb.size; (try simp only [World.size_alloc] at hzb)))
      go_ret
      exact ⟨rfl, by repeat' (first | with_reducible assumption | with_reducible exact Below.refl _ _ | (with_reducible refine Below.setCell ?_ ?_ _) | (with_reducible refine Below.alloc ?_ ?_ _) | (with_reducible refine Below.drew ?_) | (with_reducible refine below_dr ?_ _) | (with_reducible refine Below.trans ?_ (Below.mono (by with_reducible assumption) ?_)) | omega | (simp; done) | (simp; omega))⟩
end Go.Proofs.YtdikenapnncmfaaDoor.Pix
