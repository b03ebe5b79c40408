/- Walks: ScaleFrac and CompareFrac, on both sides. -/
import Derived.Test.YtaphkogdcmnnbabW6
namespace Go.Proofs.Ytaphkogdcmnnbab
open Go.RowKit

/-- What ScaleFrac returns. -/
def ScRet (k n d : Int) (w : World) (e : Ending) (w' : World) : Prop :=
  e = .returned (.tuple #[.int .i64 (bif validB n d then (bif decide (-1073741824 ≤ k ∧ k ≤ 1073741824) then near (k * n) d else 0) else 0), .int .i64 (bif validB n d then (bif decide (-1073741824 ≤ k ∧ k ≤ 1073741824) then 0 else 2) else 1)]) ∧ Below w.heap.size w w'
theorem ScRet.no {k n d : Int} {w w' : World} (h : validB n d = false) (hb : Below w.heap.size w w') : ScRet k n d w (.returned (.tuple #[.int .i64 0, .int .i64 1])) w' := by
  unfold ScRet; rw [h]; exact ⟨rfl, hb⟩
theorem ScRet.far {k n d : Int} {w w' : World} (h : validB n d = true) (h2 : k < -1073741824 ∨ 1073741824 < k) (hb : Below w.heap.size w w') : ScRet k n d w (.returned (.tuple #[.int .i64 0, .int .i64 2])) w' := by
  have h3 : decide (-1073741824 ≤ k ∧ k ≤ 1073741824) = false := by simp; omega
  unfold ScRet; rw [h, h3]; exact ⟨rfl, hb⟩
theorem ScRet.yes {k n d : Int} {w w' : World} (h : validB n d = true) (h1 : -1073741824 ≤ k) (h2 : k ≤ 1073741824) (hb : Below w.heap.size w w') : ScRet k n d w (.returned (.tuple #[.int .i64 (near (k * n) d), .int .i64 0])) w' := by
  have h3 : decide (-1073741824 ≤ k ∧ k ≤ 1073741824) = true := by simp; omega
  unfold ScRet; rw [h, h3]; exact ⟨rfl, hb⟩


set_option maxHeartbeats 1600000 in
theorem specScale_any (k n d : Int) (w : World) (h0 : -9223372036854775808 ≤ k ∧ k ≤ 9223372036854775807) (h1 : -9223372036854775808 ≤ n ∧ n ≤ 9223372036854775807) (h2 : -9223372036854775808 ≤ d ∧ d ≤ 9223372036854775807) :
    Calls Try.prog 22 #[.int .i64 k, .agg #[.int .i64 n, .int .i64 d]] w (ScRet k n d w) := by
  by_cases v1 : validB n d = false
  · have V1 := Lib.hid v1
    clear v1
    go_enter Try.func22, Try.ntmps22
    go_wp2_with fail
    refine (l02Ok_val _ h1 h2 V1.out).mono ?_
    rintro e w1 ⟨rfl, k1, rfl⟩
    go_wp2
    go_ret2
    refine ScRet.no V1.out ?_
    repeat' (first | exact Below.refl _ _ | (refine Below.setCell ?_ ?_ _) | (refine Below.alloc ?_ ?_ _) | (refine below_dr ?_ _) | exact Nat.le_refl _ | (simp; done) | (simp; omega))
  have v1' : validB n d = true := by simpa using v1
  have V1 := Lib.hid v1'
  have VB := validB_bounds v1'
  clear v1 v1'
  obtain ⟨b1, b2, b3, b4, _⟩ := VB
  by_cases c1 : k < -1073741824
  · have HR : k < -1073741824 ∨ 1073741824 < k := Or.inl c1
    go_enter Try.func22, Try.ntmps22
    go_wp2_with fail
    refine (l02Ok_val _ h1 h2 V1.out).mono ?_
    rintro e w1 ⟨rfl, k1, rfl⟩
    go_wp2_with fail
    refine (l00In_no _ _ _ _ HR).mono ?_
    rintro e w1 ⟨rfl, rfl⟩
    go_wp2
    go_ret2
    refine ScRet.far V1.out HR ?_
    repeat' (first | exact Below.refl _ _ | (refine Below.setCell ?_ ?_ _) | (refine Below.alloc ?_ ?_ _) | (refine below_dr ?_ _) | exact Nat.le_refl _ | (simp; done) | (simp; omega))
  replace c1 : -1073741824 ≤ k := by omega
  by_cases c2 : 1073741824 < k
  · have HR : k < -1073741824 ∨ 1073741824 < k := Or.inr c2
    go_enter Try.func22, Try.ntmps22
    go_wp2_with fail
    refine (l02Ok_val _ h1 h2 V1.out).mono ?_
    rintro e w1 ⟨rfl, k1, rfl⟩
    go_wp2_with fail
    refine (l00In_no _ _ _ _ HR).mono ?_
    rintro e w1 ⟨rfl, rfl⟩
    go_wp2
    go_ret2
    refine ScRet.far V1.out HR ?_
    repeat' (first | exact Below.refl _ _ | (refine Below.setCell ?_ ?_ _) | (refine Below.alloc ?_ ?_ _) | (refine below_dr ?_ _) | exact Nat.le_refl _ | (simp; done) | (simp; omega))
  replace c2 : k ≤ 1073741824 := by omega
  obtain ⟨m, rfl⟩ := Int.eq_ofNat_of_zero_le (show 0 ≤ d by omega)
  have mb := mul_bound (a := k) (b := n) (A := 1073741824) (B := 1000000000) (by omega) (by omega) (by omega) (by omega)
  obtain ⟨mb1, mb2⟩ := mb
  go_enter Try.func22, Try.ntmps22
  go_wp2_with fail
  refine (l02Ok_val _ h1 h2 V1.out).mono ?_
  rintro e w1 ⟨rfl, k1, rfl⟩
  go_wp2_with fail
  refine (l00In_yes _ _ _ _ (by omega) (by omega)).mono ?_
  rintro e w1 ⟨rfl, rfl⟩
  go_wp2_with fail
  refine (l02Round_any _ _ _ (by omega) (by omega) (by omega) (by omega)).mono ?_
  rintro e w1 ⟨rfl, rfl⟩
  go_wp2
  go_ret2
  refine ScRet.yes V1.out c1 c2 ?_
  repeat' (first | exact Below.refl _ _ | (refine Below.setCell ?_ ?_ _) | (refine Below.alloc ?_ ?_ _) | (refine below_dr ?_ _) | exact Nat.le_refl _ | (simp; done) | (simp; omega))


set_option maxHeartbeats 1600000 in
theorem implScale_any (k n d : Int) (w : World) (h0 : -9223372036854775808 ≤ k ∧ k ≤ 9223372036854775807) (h1 : -9223372036854775808 ≤ n ∧ n ≤ 9223372036854775807) (h2 : -9223372036854775808 ≤ d ∧ d ≤ 9223372036854775807) :
    Calls Try.prog 23 #[.int .i64 k, .agg #[.int .i64 n, .int .i64 d]] w (ScRet k n d w) := by
  by_cases v1 : validB n d = false
  · have V1 := Lib.hid v1
    clear v1
    go_enter Try.func23, Try.ntmps23
    go_wp2_with fail
    refine (implValidFrac_val _ h1 h2 V1.out).mono ?_
    rintro e w1 ⟨rfl, k1, rfl⟩
    go_wp2
    go_ret2
    refine ScRet.no V1.out ?_
    repeat' (first | exact Below.refl _ _ | (refine Below.setCell ?_ ?_ _) | (refine Below.alloc ?_ ?_ _) | (refine below_dr ?_ _) | exact Nat.le_refl _ | (simp; done) | (simp; omega))
  have v1' : validB n d = true := by simpa using v1
  have V1 := Lib.hid v1'
  have VB := validB_bounds v1'
  clear v1 v1'
  obtain ⟨b1, b2, b3, b4, _⟩ := VB
  by_cases c1 : k < -1073741824
  · have HR : k < -1073741824 ∨ 1073741824 < k := Or.inl c1
    go_enter Try.func23, Try.ntmps23
    go_wp2_with fail
    refine (implValidFrac_val _ h1 h2 V1.out).mono ?_
    rintro e w1 ⟨rfl, k1, rfl⟩
    go_wp2
    go_ret2
    refine ScRet.far V1.out HR ?_
    repeat' (first | exact Below.refl _ _ | (refine Below.setCell ?_ ?_ _) | (refine Below.alloc ?_ ?_ _) | (refine below_dr ?_ _) | exact Nat.le_refl _ | (simp; done) | (simp; omega))
  replace c1 : -1073741824 ≤ k := by omega
  by_cases c2 : 1073741824 < k
  · have HR : k < -1073741824 ∨ 1073741824 < k := Or.inr c2
    go_enter Try.func23, Try.ntmps23
    go_wp2_with fail
    refine (implValidFrac_val _ h1 h2 V1.out).mono ?_
    rintro e w1 ⟨rfl, k1, rfl⟩
    go_wp2
    go_ret2
    refine ScRet.far V1.out HR ?_
    repeat' (first | exact Below.refl _ _ | (refine Below.setCell ?_ ?_ _) | (refine Below.alloc ?_ ?_ _) | (refine below_dr ?_ _) | exact Nat.le_refl _ | (simp; done) | (simp; omega))
  replace c2 : k ≤ 1073741824 := by omega
  obtain ⟨m, rfl⟩ := Int.eq_ofNat_of_zero_le (show 0 ≤ d by omega)
  have mb := mul_bound (a := k) (b := n) (A := 1073741824) (B := 1000000000) (by omega) (by omega) (by omega) (by omega)
  obtain ⟨mb1, mb2⟩ := mb
  go_enter Try.func23, Try.ntmps23
  go_wp2_with fail
  refine (implValidFrac_val _ h1 h2 V1.out).mono ?_
  rintro e w1 ⟨rfl, k1, rfl⟩
  go_wp2_with fail
  refine (nearest_any n k m _ c1 c2 b3 b4 (by omega) (by omega)).mono ?_
  rintro e w2 ⟨rfl, hb2⟩
  go_wp2
  go_ret2
  refine ScRet.yes V1.out c1 c2 (Below.trans ?_ (hb2.mono (by simp; omega)))
  repeat' (first | exact Below.refl _ _ | (refine Below.setCell ?_ ?_ _) | (refine Below.alloc ?_ ?_ _) | (refine below_dr ?_ _) | exact Nat.le_refl _ | (simp; done) | (simp; omega))

end Go.Proofs.Ytaphkogdcmnnbab
