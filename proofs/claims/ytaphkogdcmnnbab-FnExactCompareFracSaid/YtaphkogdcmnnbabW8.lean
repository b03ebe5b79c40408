/- Walks: CompareFrac on both sides. -/
import Derived.Test.YtaphkogdcmnnbabW6
namespace Go.Proofs.Ytaphkogdcmnnbab
open Go.RowKit

def cmpV (x y : Int) : Int := if x < y then -1 else if y < x then 1 else 0
/-- Two valid fractions of one value are one. -/
theorem valid_unique {n1 d1 n2 d2 : Int} (h1 : validB n1 d1 = true) (h2 : validB n2 d2 = true) (h : n1 * d2 = n2 * d1) : n1 = n2 ∧ d1 = d2 := by
  obtain ⟨a1, _, _, _, a5⟩ := validB_bounds h1
  obtain ⟨b1, _, _, _, b5⟩ := validB_bounds h2
  have e : n1.natAbs * d2.natAbs = n2.natAbs * d1.natAbs := by rw [← Int.natAbs_mul, ← Int.natAbs_mul, h]
  have c1 : d1.natAbs ∣ d2.natAbs := Nat.Coprime.dvd_of_dvd_mul_left (Nat.Coprime.symm a5) (by rw [e]; exact Nat.dvd_mul_left _ _)
  have c2 : d2.natAbs ∣ d1.natAbs := Nat.Coprime.dvd_of_dvd_mul_left (Nat.Coprime.symm b5) (by rw [← e]; exact Nat.dvd_mul_left _ _)
  have c3 := Nat.dvd_antisymm c1 c2
  have hd : d1 = d2 := by omega
  subst hd
  exact ⟨Int.eq_of_mul_eq_mul_right (by omega) h, rfl⟩
def CmpRet (ok : Bool) (x y : Int) (w : World) (e : Ending) (w' : World) : Prop := e = .returned (.int .i64 (bif ok then cmpV x y else 0)) ∧ Below w.heap.size w w'
theorem CmpRet.no {ok : Bool} {x y : Int} {w w' : World} (h : ok = false) (hb : Below w.heap.size w w') : CmpRet ok x y w (.returned (.int .i64 0)) w' := by subst h; exact ⟨rfl, hb⟩
theorem CmpRet.yes {ok : Bool} {x y v : Int} {w w' : World} (h : ok = true) (hv : cmpV x y = v) (hb : Below w.heap.size w w') : CmpRet ok x y w (.returned (.int .i64 v)) w' := by subst h; subst hv; exact ⟨rfl, hb⟩
theorem cmp_lt {x y : Int} (h : x < y) : cmpV x y = -1 := by unfold cmpV; rw [if_pos h]
theorem cmp_gt {x y : Int} (h : y < x) : cmpV x y = 1 := by unfold cmpV; rw [if_neg (by omega), if_pos h]
theorem cmp_eq {x y : Int} (h : x = y) : cmpV x y = 0 := by unfold cmpV; rw [if_neg (by omega), if_neg (by omega)]


set_option maxHeartbeats 1600000 in
theorem l02Compare_any (n1 d1 n2 d2 : Int) (w : World) (v1 : validB n1 d1 = true) (v2 : validB n2 d2 = true) :
    Calls Try.prog 31 #[.agg #[.int .i64 n1, .int .i64 d1], .agg #[.int .i64 n2, .int .i64 d2]] w fun e w' => e = .returned (.int .i64 (cmpV (n1 * d2) (n2 * d1))) ∧ Below w.heap.size w w' := by
  have V1 := Lib.hid v1
  have V2 := Lib.hid v2
  clear v1 v2
  have v1b := validB_bounds V1.out
  have v2b := validB_bounds V2.out
  have m1 := mul_bound (a := n1) (b := d2) (A := 1000000000) (B := 1000000) (by omega) (by omega) (by omega) (by omega)
  have m2 := mul_bound (a := n2) (b := d1) (A := 1000000000) (B := 1000000) (by omega) (by omega) (by omega) (by omega)
  have m3 := mul_bound (a := d1) (b := d2) (A := 1000000) (B := 1000000) (by omega) (by omega) (by omega) (by omega)
  have m4 := mul_bound (a := n1) (b := n2) (A := 1000000000) (B := 1000000000) (by omega) (by omega) (by omega) (by omega)
  have m5 := mul_bound (a := d1) (b := n2) (A := 1000000) (B := 1000000000) (by omega) (by omega) (by omega) (by omega)
  obtain ⟨b1, b2, b3, b4, _⟩ := v1b
  obtain ⟨b5, b6, b7, b8, _⟩ := v2b
  obtain ⟨m1a, m1b⟩ := m1
  obtain ⟨m2a, m2b⟩ := m2
  obtain ⟨m3a, m3b⟩ := m3
  obtain ⟨m4a, m4b⟩ := m4
  obtain ⟨m5a, m5b⟩ := m5
  by_cases c1 : (n1 * d2) < (n2 * d1)
  · have H := Lib.hid (cmp_lt c1)
    go_enter Try.func31, Try.ntmps31
    go_wp2
    go_ret
    exact ⟨ret_i64 H.out.symm, by repeat' (first | exact Below.refl _ _ | (refine Below.setCell ?_ ?_ _) | (refine Below.alloc ?_ ?_ _) | (refine below_dr ?_ _) | exact Nat.le_refl _ | (simp; done) | (simp; omega))⟩
  by_cases c2 : (n2 * d1) < (n1 * d2)
  · have H := Lib.hid (cmp_gt c2)
    have c3 : (n2 * d1) ≤ (n1 * d2) := by omega
    clear c1
    go_enter Try.func31, Try.ntmps31
    go_wp2
    go_ret
    exact ⟨ret_i64 H.out.symm, by repeat' (first | exact Below.refl _ _ | (refine Below.setCell ?_ ?_ _) | (refine Below.alloc ?_ ?_ _) | (refine below_dr ?_ _) | exact Nat.le_refl _ | (simp; done) | (simp; omega))⟩
  · have H := Lib.hid (cmp_eq (show (n1 * d2) = (n2 * d1) by omega))
    have c3 : (n2 * d1) ≤ (n1 * d2) := by omega
    have c4 : (n1 * d2) ≤ (n2 * d1) := by omega
    clear c1 c2
    go_enter Try.func31, Try.ntmps31
    go_wp2
    go_ret
    exact ⟨ret_i64 H.out.symm, by repeat' (first | exact Below.refl _ _ | (refine Below.setCell ?_ ?_ _) | (refine Below.alloc ?_ ?_ _) | (refine below_dr ?_ _) | exact Nat.le_refl _ | (simp; done) | (simp; omega))⟩


set_option maxHeartbeats 1600000 in
theorem specCompare_any (n1 d1 n2 d2 : Int) (w : World) (h1 : -9223372036854775808 ≤ n1 ∧ n1 ≤ 9223372036854775807) (h2 : -9223372036854775808 ≤ d1 ∧ d1 ≤ 9223372036854775807) (h3 : -9223372036854775808 ≤ n2 ∧ n2 ≤ 9223372036854775807) (h4 : -9223372036854775808 ≤ d2 ∧ d2 ≤ 9223372036854775807) :
    Calls Try.prog 16 #[.agg #[.int .i64 n1, .int .i64 d1], .agg #[.int .i64 n2, .int .i64 d2]] w (CmpRet (validB n1 d1 && validB n2 d2) (n1 * d2) (n2 * d1) w) := by
  by_cases v1 : validB n1 d1 = false
  · have V1 := Lib.hid v1
    clear v1
    go_enter Try.func16, Try.ntmps16
    go_wp2_with fail
    refine (l02Ok_val _ h1 h2 V1.out).mono ?_
    rintro e w1 ⟨rfl, k1, rfl⟩
    go_wp2
    go_ret
    refine CmpRet.no (and_no1 V1.out) ?_
    repeat' (first | exact Below.refl _ _ | (refine Below.setCell ?_ ?_ _) | (refine Below.alloc ?_ ?_ _) | (refine below_dr ?_ _) | exact Nat.le_refl _ | (simp; done) | (simp; omega))
  have v1' : validB n1 d1 = true := by simpa using v1
  have V1 := Lib.hid v1'
  clear v1 v1'
  by_cases v2 : validB n2 d2 = false
  · have V2 := Lib.hid v2
    clear v2
    go_enter Try.func16, Try.ntmps16
    go_wp2_with fail
    refine (l02Ok_val _ h1 h2 V1.out).mono ?_
    rintro e w1 ⟨rfl, k1, rfl⟩
    go_wp2_with fail
    refine (l02Ok_val _ h3 h4 V2.out).mono ?_
    rintro e w1 ⟨rfl, k2, rfl⟩
    go_wp2
    go_ret
    refine CmpRet.no (and_no2 V2.out) ?_
    repeat' (first | exact Below.refl _ _ | (refine Below.setCell ?_ ?_ _) | (refine Below.alloc ?_ ?_ _) | (refine below_dr ?_ _) | exact Nat.le_refl _ | (simp; done) | (simp; omega))
  have v2' : validB n2 d2 = true := by simpa using v2
  have V2 := Lib.hid v2'
  clear v2 v2'
  have C := Lib.hid (fun w => l02Compare_any n1 d1 n2 d2 w V1.out V2.out)
  generalize hx : cmpV (n1 * d2) (n2 * d1) = v at C
  have HX := Lib.hid hx
  clear hx
  · go_enter Try.func16, Try.ntmps16
    go_wp2_with fail
    refine (l02Ok_val _ h1 h2 V1.out).mono ?_
    rintro e w1 ⟨rfl, k1, rfl⟩
    go_wp2_with fail
    refine (l02Ok_val _ h3 h4 V2.out).mono ?_
    rintro e w1 ⟨rfl, k2, rfl⟩
    go_wp2_with fail
    refine (C.out _).mono ?_
    rintro e w2 ⟨rfl, hb2⟩
    go_wp2
    go_ret
    refine CmpRet.yes (and_yes V1.out V2.out) HX.out (Below.trans ?_ (hb2.mono (by simp; omega)))
    repeat' (first | exact Below.refl _ _ | (refine Below.setCell ?_ ?_ _) | (refine Below.alloc ?_ ?_ _) | (refine below_dr ?_ _) | exact Nat.le_refl _ | (simp; done) | (simp; omega))


set_option maxHeartbeats 1600000 in
theorem implCompare_any (n1 d1 n2 d2 : Int) (w : World) (h1 : -9223372036854775808 ≤ n1 ∧ n1 ≤ 9223372036854775807) (h2 : -9223372036854775808 ≤ d1 ∧ d1 ≤ 9223372036854775807) (h3 : -9223372036854775808 ≤ n2 ∧ n2 ≤ 9223372036854775807) (h4 : -9223372036854775808 ≤ d2 ∧ d2 ≤ 9223372036854775807) :
    Calls Try.prog 17 #[.agg #[.int .i64 n1, .int .i64 d1], .agg #[.int .i64 n2, .int .i64 d2]] w (CmpRet (validB n1 d1 && validB n2 d2) (n1 * d2) (n2 * d1) w) := by
  by_cases v1 : validB n1 d1 = false
  · have V1 := Lib.hid v1
    clear v1
    go_enter Try.func17, Try.ntmps17
    go_wp2_with fail
    refine (implValidFrac_val _ h1 h2 V1.out).mono ?_
    rintro e w1 ⟨rfl, k1, rfl⟩
    go_wp2
    go_ret
    refine CmpRet.no (and_no1 V1.out) ?_
    repeat' (first | exact Below.refl _ _ | (refine Below.setCell ?_ ?_ _) | (refine Below.alloc ?_ ?_ _) | (refine below_dr ?_ _) | exact Nat.le_refl _ | (simp; done) | (simp; omega))
  have v1' : validB n1 d1 = true := by simpa using v1
  have V1 := Lib.hid v1'
  clear v1 v1'
  by_cases v2 : validB n2 d2 = false
  · have V2 := Lib.hid v2
    clear v2
    go_enter Try.func17, Try.ntmps17
    go_wp2_with fail
    refine (implValidFrac_val _ h1 h2 V1.out).mono ?_
    rintro e w1 ⟨rfl, k1, rfl⟩
    go_wp2_with fail
    refine (implValidFrac_val _ h3 h4 V2.out).mono ?_
    rintro e w1 ⟨rfl, k2, rfl⟩
    go_wp2
    go_ret
    refine CmpRet.no (and_no2 V2.out) ?_
    repeat' (first | exact Below.refl _ _ | (refine Below.setCell ?_ ?_ _) | (refine Below.alloc ?_ ?_ _) | (refine below_dr ?_ _) | exact Nat.le_refl _ | (simp; done) | (simp; omega))
  have v2' : validB n2 d2 = true := by simpa using v2
  have V2 := Lib.hid v2'
  clear v2 v2'
  have v1b := validB_bounds V1.out
  have v2b := validB_bounds V2.out
  have m1 := mul_bound (a := n1) (b := d2) (A := 1000000000) (B := 1000000) (by omega) (by omega) (by omega) (by omega)
  have m2 := mul_bound (a := n2) (b := d1) (A := 1000000000) (B := 1000000) (by omega) (by omega) (by omega) (by omega)
  have m3 := mul_bound (a := d1) (b := d2) (A := 1000000) (B := 1000000) (by omega) (by omega) (by omega) (by omega)
  have m4 := mul_bound (a := n1) (b := n2) (A := 1000000000) (B := 1000000000) (by omega) (by omega) (by omega) (by omega)
  have m5 := mul_bound (a := d1) (b := n2) (A := 1000000) (B := 1000000000) (by omega) (by omega) (by omega) (by omega)
  obtain ⟨b1, b2, b3, b4, _⟩ := v1b
  obtain ⟨b5, b6, b7, b8, _⟩ := v2b
  obtain ⟨m1a, m1b⟩ := m1
  obtain ⟨m2a, m2b⟩ := m2
  obtain ⟨m3a, m3b⟩ := m3
  obtain ⟨m4a, m4b⟩ := m4
  obtain ⟨m5a, m5b⟩ := m5
  by_cases ce : n1 = n2 ∧ d1 = d2
  · obtain ⟨rfl, rfl⟩ := ce
    have H := Lib.hid (cmp_eq (x := (n1 * d1)) rfl)
    go_enter Try.func17, Try.ntmps17
    go_wp2_with fail
    refine (implValidFrac_val _ h1 h2 V1.out).mono ?_
    rintro e w1 ⟨rfl, k1, rfl⟩
    go_wp2_with fail
    refine (implValidFrac_val _ h3 h4 V1.out).mono ?_
    rintro e w1 ⟨rfl, k2, rfl⟩
    go_wp2
    go_ret
    refine CmpRet.yes (and_yes V1.out V1.out) H.out ?_
    repeat' (first | exact Below.refl _ _ | (refine Below.setCell ?_ ?_ _) | (refine Below.alloc ?_ ?_ _) | (refine below_dr ?_ _) | exact Nat.le_refl _ | (simp; done) | (simp; omega))
  have ne : ¬ (n1 * d2) = (n2 * d1) := fun h => ce (valid_unique V1.out V2.out h)
  by_cases e1 : n1 = n2
  · have e2 : (d1 == d2) = false := beq_eq_false_iff_ne.2 (fun e2 => ce ⟨e1, e2⟩)
    subst e1
    by_cases c1 : (n1 * d2) < (n1 * d1)
    · have H := Lib.hid (cmp_lt c1)
      clear ne ce
      go_enter Try.func17, Try.ntmps17
      go_wp2_with fail
      refine (implValidFrac_val _ h1 h2 V1.out).mono ?_
      rintro e w1 ⟨rfl, k1, rfl⟩
      go_wp2_with fail
      refine (implValidFrac_val _ h3 h4 V2.out).mono ?_
      rintro e w1 ⟨rfl, k2, rfl⟩
      go_wp2
      go_ret
      refine CmpRet.yes (and_yes V1.out V2.out) H.out ?_
      repeat' (first | exact Below.refl _ _ | (refine Below.setCell ?_ ?_ _) | (refine Below.alloc ?_ ?_ _) | (refine below_dr ?_ _) | exact Nat.le_refl _ | (simp; done) | (simp; omega))
    · have c2 : (n1 * d1) < (n1 * d2) := by omega
      have c3 : (n1 * d1) ≤ (n1 * d2) := by omega
      have H := Lib.hid (cmp_gt c2)
      clear ne ce c1
      go_enter Try.func17, Try.ntmps17
      go_wp2_with fail
      refine (implValidFrac_val _ h1 h2 V1.out).mono ?_
      rintro e w1 ⟨rfl, k1, rfl⟩
      go_wp2_with fail
      refine (implValidFrac_val _ h3 h4 V2.out).mono ?_
      rintro e w1 ⟨rfl, k2, rfl⟩
      go_wp2
      go_ret
      refine CmpRet.yes (and_yes V1.out V2.out) H.out ?_
      repeat' (first | exact Below.refl _ _ | (refine Below.setCell ?_ ?_ _) | (refine Below.alloc ?_ ?_ _) | (refine below_dr ?_ _) | exact Nat.le_refl _ | (simp; done) | (simp; omega))
  have e2 : (n1 == n2) = false := beq_eq_false_iff_ne.2 e1
  by_cases c1 : (n1 * d2) < (n2 * d1)
  · have H := Lib.hid (cmp_lt c1)
    clear ne ce e1
    go_enter Try.func17, Try.ntmps17
    go_wp2_with fail
    refine (implValidFrac_val _ h1 h2 V1.out).mono ?_
    rintro e w1 ⟨rfl, k1, rfl⟩
    go_wp2_with fail
    refine (implValidFrac_val _ h3 h4 V2.out).mono ?_
    rintro e w1 ⟨rfl, k2, rfl⟩
    go_wp2
    go_ret
    refine CmpRet.yes (and_yes V1.out V2.out) H.out ?_
    repeat' (first | exact Below.refl _ _ | (refine Below.setCell ?_ ?_ _) | (refine Below.alloc ?_ ?_ _) | (refine below_dr ?_ _) | exact Nat.le_refl _ | (simp; done) | (simp; omega))
  · have c2 : (n2 * d1) < (n1 * d2) := by omega
    have c3 : (n2 * d1) ≤ (n1 * d2) := by omega
    have H := Lib.hid (cmp_gt c2)
    clear ne ce c1 e1
    go_enter Try.func17, Try.ntmps17
    go_wp2_with fail
    refine (implValidFrac_val _ h1 h2 V1.out).mono ?_
    rintro e w1 ⟨rfl, k1, rfl⟩
    go_wp2_with fail
    refine (implValidFrac_val _ h3 h4 V2.out).mono ?_
    rintro e w1 ⟨rfl, k2, rfl⟩
    go_wp2
    go_ret
    refine CmpRet.yes (and_yes V1.out V2.out) H.out ?_
    repeat' (first | exact Below.refl _ _ | (refine Below.setCell ?_ ?_ _) | (refine Below.alloc ?_ ?_ _) | (refine below_dr ?_ _) | exact Nat.le_refl _ | (simp; done) | (simp; omega))

end Go.Proofs.Ytaphkogdcmnnbab
