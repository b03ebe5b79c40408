/- Walks: DivFrac on both sides. -/
import Derived.Test.YtjlmoadnbbeloaaW4
import Derived.Deep.RegionWith
import Derived.RegionTactic
namespace Go.Proofs.Ytjlmoadnbbeloaa
open Go.RowKit

def divNum (n1 d1 n2 d2 : Int) : Int := if n2 = 0 then 0 else mkNum (n1 * d2) (d1 * n2)
def divDen (n1 d1 n2 d2 : Int) : Int := if n2 = 0 then 0 else mkDen (n1 * d2) (d1 * n2)
def divCode (n1 d1 n2 d2 : Int) : Int := if n2 = 0 then 2 else mkCode (n1 * d2) (d1 * n2)
theorem div_zero (n1 d1 d2 : Int) : divNum n1 d1 0 d2 = 0 ∧ divDen n1 d1 0 d2 = 0 ∧ divCode n1 d1 0 d2 = 2 := ⟨rfl, rfl, rfl⟩
theorem div_some {n2 : Int} (h : ¬ n2 = 0) (n1 d1 d2 : Int) : divNum n1 d1 n2 d2 = mkNum (n1 * d2) (d1 * n2) ∧ divDen n1 d1 n2 d2 = mkDen (n1 * d2) (d1 * n2) ∧ divCode n1 d1 n2 d2 = mkCode (n1 * d2) (d1 * n2) := by
  unfold divNum divDen divCode
  rw [if_neg h, if_neg h, if_neg h]
  exact ⟨rfl, rfl, rfl⟩
theorem OpRet.yes3 {ok : Bool} {a b c x y z : Int} {w w' : World} (h : ok = true) (he : a = x ∧ b = y ∧ c = z) (hb : Below w.heap.size w w') : OpRet ok a b c w (.returned (.tuple #[.agg #[.int .i64 x, .int .i64 y], .int .i64 z])) w' := by
  obtain ⟨rfl, rfl, rfl⟩ := he
  exact OpRet.yes h hb
theorem zero_valid {d : Int} (h : validB 0 d = true) : d = 1 := by
  have := validB_bounds h
  simp at this
  omega


set_option maxHeartbeats 1600000 in
theorem specDiv_any (n1 d1 n2 d2 : Int) (w : World) (h1 : -9223372036854775808 ≤ n1 ∧ n1 ≤ 9223372036854775807) (h2 : -9223372036854775808 ≤ d1 ∧ d1 ≤ 9223372036854775807) (h3 : -9223372036854775808 ≤ n2 ∧ n2 ≤ 9223372036854775807) (h4 : -9223372036854775808 ≤ d2 ∧ d2 ≤ 9223372036854775807) :
    Calls Try.prog 32 #[.agg #[.int .i64 n1, .int .i64 d1], .agg #[.int .i64 n2, .int .i64 d2]] w (OpRet (validB n1 d1 && validB n2 d2) (divNum n1 d1 n2 d2) (divDen n1 d1 n2 d2) (divCode n1 d1 n2 d2) w) := by
  by_cases v1 : validB n1 d1 = false
  · have V1 := Lib.hid v1
    clear v1
    go_enter Try.func32, Try.ntmps32
    go_wp2_with fail
    refine (l02Ok_val _ h1 h2 V1.out).mono ?_
    rintro e w1 ⟨rfl, k1, rfl⟩
    go_wp2
    refine bodyPost_ret (v := .tuple #[.agg #[.int .i64 0, .int .i64 0], .int .i64 1]) (by simp [results, Try.results32, go_sem]) rfl (OpRet.no (and_no1 V1.out) ?_)
    repeat' (first | exact Below.refl _ _ | (refine Below.setCell ?_ ?_ _) | (refine Below.alloc ?_ ?_ _) | (refine below_dr ?_ _) | exact Nat.le_refl _ | (simp; done) | (simp; omega))
  have v1' : validB n1 d1 = true := by simpa using v1
  have V1 := Lib.hid v1'
  clear v1 v1'
  by_cases v2 : validB n2 d2 = false
  · have V2 := Lib.hid v2
    clear v2
    go_enter Try.func32, Try.ntmps32
    go_wp2_with fail
    refine (l02Ok_val _ h1 h2 V1.out).mono ?_
    rintro e w1 ⟨rfl, k1, rfl⟩
    go_wp2_with fail
    refine (l02Ok_val _ h3 h4 V2.out).mono ?_
    rintro e w1 ⟨rfl, k2, rfl⟩
    go_wp2
    refine bodyPost_ret (v := .tuple #[.agg #[.int .i64 0, .int .i64 0], .int .i64 1]) (by simp [results, Try.results32, go_sem]) rfl (OpRet.no (and_no2 V2.out) ?_)
    repeat' (first | exact Below.refl _ _ | (refine Below.setCell ?_ ?_ _) | (refine Below.alloc ?_ ?_ _) | (refine below_dr ?_ _) | exact Nat.le_refl _ | (simp; done) | (simp; omega))
  have v2' : validB n2 d2 = true := by simpa using v2
  have V2 := Lib.hid v2'
  clear v2 v2'
  have v1b := validB_bounds V1.out
  have v2b := validB_bounds V2.out
  have m1 := mul_bound (a := n1) (b := d2) (A := 1000000000) (B := 1000000) (by omega) (by omega) (by omega) (by omega)
  have m2 := mul_bound (a := n2) (b := d1) (A := 1000000000) (B := 1000000) (by omega) (by omega) (by omega) (by omega)
  have m3 := mul_bound (a := d1) (b := d2) (A := 1000000) (B := 1000000) (by omega) (by omega) (by omega) (by omega)
  have m4 := mul_bound (a := n1) (b := n2) (A := 1000000000) (B := 1000000000) (by omega) (by omega) (by omega) (by omega)
  have m5 := mul_bound (a := d1) (b := n2) (A := 1000000) (B := 1000000000) (by omega) (by omega) (by omega) (by omega)
  obtain ⟨b1, b2, b3, b4, _⟩ := v1b
  obtain ⟨b5, b6, b7, b8, _⟩ := v2b
  obtain ⟨m1a, m1b⟩ := m1
  obtain ⟨m2a, m2b⟩ := m2
  obtain ⟨m3a, m3b⟩ := m3
  obtain ⟨m4a, m4b⟩ := m4
  obtain ⟨m5a, m5b⟩ := m5
  by_cases hz : n2 = 0
  · subst hz
    have H := Lib.hid (div_zero n1 d1 d2)
    go_enter Try.func32, Try.ntmps32
    go_wp2_with fail
    refine (l02Ok_val _ h1 h2 V1.out).mono ?_
    rintro e w1 ⟨rfl, k1, rfl⟩
    go_wp2_with fail
    refine (l02Ok_val _ h3 h4 V2.out).mono ?_
    rintro e w1 ⟨rfl, k2, rfl⟩
    go_wp2
    refine bodyPost_ret (v := .tuple #[.agg #[.int .i64 0, .int .i64 0], .int .i64 2]) (by simp [results, Try.results32, go_sem]) rfl (OpRet.yes3 (and_yes V1.out V2.out) H.out ?_)
    repeat' (first | exact Below.refl _ _ | (refine Below.setCell ?_ ?_ _) | (refine Below.alloc ?_ ?_ _) | (refine below_dr ?_ _) | exact Nat.le_refl _ | (simp; done) | (simp; omega))
  have H := Lib.hid (div_some hz n1 d1 d2)
  have hz2 : (n2 == 0) = false := beq_eq_false_iff_ne.2 hz
  clear hz
  go_enter Try.func32, Try.ntmps32
  go_wp2_with fail
  refine (l02Ok_val _ h1 h2 V1.out).mono ?_
  rintro e w1 ⟨rfl, k1, rfl⟩
  go_wp2_with fail
  refine (l02Ok_val _ h3 h4 V2.out).mono ?_
  rintro e w1 ⟨rfl, k2, rfl⟩
  go_wp2_with fail
  refine (specMakeFrac_any _ _ _ (by omega) (by omega)).mono ?_
  rintro e w3 ⟨rfl, hb3⟩
  obtain ⟨hc3, hf3⟩ := bcell hb3
  have hz3 : w.heap.size + 1 + 1 < w3.heap.size := by have := hb3.size; simp at this; omega
  have g3 : Below w.heap.size w w3 := by
    refine Below.trans ?_ (hb3.mono (by simp; omega))
    repeat' (first | exact Below.refl _ _ | (refine Below.setCell ?_ ?_ _) | (refine Below.alloc ?_ ?_ _) | (refine below_dr ?_ _) | exact Nat.le_refl _ | (simp; done) | (simp; omega))
  go_wp2
  refine bodyPost_ret (v := .tuple #[.agg #[.int .i64 (mkNum (n1 * d2) (d1 * n2)), .int .i64 (mkDen (n1 * d2) (d1 * n2))], .int .i64 (mkCode (n1 * d2) (d1 * n2))]) (by simp [results, Try.results32, go_sem, hc3]) rfl (OpRet.yes3 (and_yes V1.out V2.out) H.out ?_)
  exact (g3.setCell (by simp; omega) _).setCell (by simp; omega) _


/-- What the method returns. -/
def DivRet (n1 d1 n2 d2 : Int) (w : World) (e : Ending) (w' : World) : Prop :=
  e = .returned (.tuple #[.agg #[.int .i64 (divNum n1 d1 n2 d2), .int .i64 (divDen n1 d1 n2 d2)], .int .i64 (divCode n1 d1 n2 d2)]) ∧ Below w.heap.size w w'
theorem DivRet.mk {n1 d1 n2 d2 x y z : Int} {w w' : World} (he : (divNum n1 d1 n2 d2) = x ∧ (divDen n1 d1 n2 d2) = y ∧ (divCode n1 d1 n2 d2) = z) (hb : Below w.heap.size w w') : DivRet n1 d1 n2 d2 w (.returned (.tuple #[.agg #[.int .i64 x, .int .i64 y], .int .i64 z])) w' := by
  obtain ⟨rfl, rfl, rfl⟩ := he
  exact ⟨rfl, hb⟩

set_option maxHeartbeats 400000 in
theorem whole_any (n : Int) (w : World) :
    Calls Try.prog 36 #[.int .i64 n] w fun e w' => e = .returned (.agg #[.int .i64 n, .int .i64 1]) ∧ w' = w.alloc (.cells #[.int .i64 n, .int .i64 1] 26) := by
  go_enter Try.func36, Try.ntmps36
  go_wp2
  exact bodyPost_ret (v := .agg #[.int .i64 n, .int .i64 1]) (by simp [results, Try.results36, go_sem]) rfl ⟨rfl, rfl⟩

set_option maxHeartbeats 1600000 in
theorem over_any (n1 d1 n2 d2 : Int) (w : World) (v1 : validB n1 d1 = true) (v2 : validB n2 d2 = true) :
    Calls Try.prog 67 #[.agg #[.int .i64 n1, .int .i64 d1], .agg #[.int .i64 n2, .int .i64 d2]] w (DivRet n1 d1 n2 d2 w) := by
  have V1 := Lib.hid v1
  have V2 := Lib.hid v2
  clear v1 v2
  have v1b := validB_bounds V1.out
  have v2b := validB_bounds V2.out
  have m1 := mul_bound (a := n1) (b := d2) (A := 1000000000) (B := 1000000) (by omega) (by omega) (by omega) (by omega)
  have m2 := mul_bound (a := n2) (b := d1) (A := 1000000000) (B := 1000000) (by omega) (by omega) (by omega) (by omega)
  have m3 := mul_bound (a := d1) (b := d2) (A := 1000000) (B := 1000000) (by omega) (by omega) (by omega) (by omega)
  have m4 := mul_bound (a := n1) (b := n2) (A := 1000000000) (B := 1000000000) (by omega) (by omega) (by omega) (by omega)
  have m5 := mul_bound (a := d1) (b := n2) (A := 1000000) (B := 1000000000) (by omega) (by omega) (by omega) (by omega)
  obtain ⟨b1, b2, b3, b4, _⟩ := v1b
  obtain ⟨b5, b6, b7, b8, _⟩ := v2b
  obtain ⟨m1a, m1b⟩ := m1
  obtain ⟨m2a, m2b⟩ := m2
  obtain ⟨m3a, m3b⟩ := m3
  obtain ⟨m4a, m4b⟩ := m4
  obtain ⟨m5a, m5b⟩ := m5
  by_cases hz : n2 = 0
  · subst hz
    have H := Lib.hid (div_zero n1 d1 d2)
    obtain rfl := zero_valid V2.out
    go_enter Try.func67, Try.ntmps67
    go_wp2_with fail
    go_region_with (go_at_call 36; refine (whole_any _ _).mono ?_; rintro e w1 ⟨rfl, rfl⟩)
    all_goals go_wp2
    all_goals refine bodyPost_ret (v := .tuple #[.agg #[.int .i64 0, .int .i64 0], .int .i64 2]) (by simp [results, Try.results67, go_sem]) rfl (DivRet.mk H.out ?_)
    all_goals repeat' (first | exact Below.drew (Below.refl _ _) | (refine Below.drew ?_) | exact Below.refl _ _ | (refine Below.setCell ?_ ?_ _) | (refine Below.alloc ?_ ?_ _) | (refine below_dr ?_ _) | exact Nat.le_refl _ | (simp; done) | (simp; omega))
  have H := Lib.hid (div_some hz n1 d1 d2)
  have hz2 : (n2 == 0) = false := beq_eq_false_iff_ne.2 hz
  go_enter Try.func67, Try.ntmps67
  go_wp2_with fail
  go_region_with (go_at_call 36; refine (whole_any _ _).mono ?_; rintro e w1 ⟨rfl, rfl⟩)
  all_goals
    go_wp2_with fail
    refine (implMakeFrac_any _ _ _ (by omega) (by omega)).mono ?_
    rintro e w3 ⟨rfl, hb3⟩
    obtain ⟨hc3, hf3⟩ := bcell hb3
    have hz3 : w.heap.size + 1 + 1 < w3.heap.size := by have := hb3.size; simp at this; omega
    have g3 : Below w.heap.size w w3 := by
      refine Below.trans ?_ (hb3.mono (by simp; omega))
      all_goals repeat' (first | exact Below.drew (Below.refl _ _) | (refine Below.drew ?_) | exact Below.refl _ _ | (refine Below.setCell ?_ ?_ _) | (refine Below.alloc ?_ ?_ _) | (refine below_dr ?_ _) | exact Nat.le_refl _ | (simp; done) | (simp; omega))
    go_wp2
    refine bodyPost_ret (v := .tuple #[.agg #[.int .i64 (mkNum (n1 * d2) (d1 * n2)), .int .i64 (mkDen (n1 * d2) (d1 * n2))], .int .i64 (mkCode (n1 * d2) (d1 * n2))]) (by simp [results, Try.results67, go_sem, hc3]) rfl (DivRet.mk H.out ?_)
    exact (g3.setCell (by simp; omega) _).setCell (by simp; omega) _


set_option maxHeartbeats 1600000 in
theorem combineDiv_any (n1 d1 n2 d2 : Int) (w : World) (h1 : -9223372036854775808 ≤ n1 ∧ n1 ≤ 9223372036854775807) (h2 : -9223372036854775808 ≤ d1 ∧ d1 ≤ 9223372036854775807) (h3 : -9223372036854775808 ≤ n2 ∧ n2 ≤ 9223372036854775807) (h4 : -9223372036854775808 ≤ d2 ∧ d2 ≤ 9223372036854775807) :
    Calls Try.prog 66 #[.agg #[.int .i64 n1, .int .i64 d1], .agg #[.int .i64 n2, .int .i64 d2], .func (.func 67) #[.agg #[.int .i64 n1, .int .i64 d1]] #[]] w (OpRet (validB n1 d1 && validB n2 d2) (divNum n1 d1 n2 d2) (divDen n1 d1 n2 d2) (divCode n1 d1 n2 d2) w) := by
  by_cases v1 : validB n1 d1 = false
  · have V1 := Lib.hid v1
    clear v1
    go_enter Try.func66, Try.ntmps66
    go_wp2_with fail
    refine (implValidFrac_val _ h1 h2 V1.out).mono ?_
    rintro e w1 ⟨rfl, k1, rfl⟩
    go_wp2
    refine bodyPost_ret (v := .tuple #[.agg #[.int .i64 0, .int .i64 0], .int .i64 1]) (by simp [results, Try.results66, go_sem]) rfl (OpRet.no (and_no1 V1.out) ?_)
    repeat' (first | exact Below.refl _ _ | (refine Below.setCell ?_ ?_ _) | (refine Below.alloc ?_ ?_ _) | (refine below_dr ?_ _) | exact Nat.le_refl _ | (simp; done) | (simp; omega))
  have v1' : validB n1 d1 = true := by simpa using v1
  have V1 := Lib.hid v1'
  clear v1 v1'
  by_cases v2 : validB n2 d2 = false
  · have V2 := Lib.hid v2
    clear v2
    go_enter Try.func66, Try.ntmps66
    go_wp2_with fail
    refine (implValidFrac_val _ h1 h2 V1.out).mono ?_
    rintro e w1 ⟨rfl, k1, rfl⟩
    go_wp2_with fail
    refine (implValidFrac_val _ h3 h4 V2.out).mono ?_
    rintro e w1 ⟨rfl, k2, rfl⟩
    go_wp2
    refine bodyPost_ret (v := .tuple #[.agg #[.int .i64 0, .int .i64 0], .int .i64 1]) (by simp [results, Try.results66, go_sem]) rfl (OpRet.no (and_no2 V2.out) ?_)
    repeat' (first | exact Below.refl _ _ | (refine Below.setCell ?_ ?_ _) | (refine Below.alloc ?_ ?_ _) | (refine below_dr ?_ _) | exact Nat.le_refl _ | (simp; done) | (simp; omega))
  have v2' : validB n2 d2 = true := by simpa using v2
  have V2 := Lib.hid v2'
  clear v2 v2'
  have DV := Lib.hid (fun w => over_any n1 d1 n2 d2 w V1.out V2.out)
  unfold DivRet at DV
  generalize (divNum n1 d1 n2 d2) = a at DV ⊢
  generalize (divDen n1 d1 n2 d2) = b at DV ⊢
  generalize (divCode n1 d1 n2 d2) = c at DV ⊢
  go_enter Try.func66, Try.ntmps66
  go_wp2_with fail
  refine (implValidFrac_val _ h1 h2 V1.out).mono ?_
  rintro e w1 ⟨rfl, k1, rfl⟩
  go_wp2_with fail
  refine (implValidFrac_val _ h3 h4 V2.out).mono ?_
  rintro e w1 ⟨rfl, k2, rfl⟩
  go_wp2_with fail
  refine (DV.out _).mono ?_
  rintro e w3 ⟨rfl, hb3⟩
  obtain ⟨hc3, hf3⟩ := bcell hb3
  have hz3 : w.heap.size + 1 + 1 < w3.heap.size := by have := hb3.size; simp at this; omega
  have g3 : Below w.heap.size w w3 := by
    refine Below.trans ?_ (hb3.mono (by simp; omega))
    repeat' (first | exact Below.refl _ _ | (refine Below.setCell ?_ ?_ _) | (refine Below.alloc ?_ ?_ _) | (refine below_dr ?_ _) | exact Nat.le_refl _ | (simp; done) | (simp; omega))
  go_wp2
  refine bodyPost_ret (v := .tuple #[.agg #[.int .i64 a, .int .i64 b], .int .i64 c]) (by simp [results, Try.results66, go_sem, hc3]) rfl (OpRet.yes (and_yes V1.out V2.out) ?_)
  exact (g3.setCell (by simp; omega) _).setCell (by simp; omega) _


set_option maxHeartbeats 1600000 in
theorem implDiv_any (n1 d1 n2 d2 : Int) (w : World) (h1 : -9223372036854775808 ≤ n1 ∧ n1 ≤ 9223372036854775807) (h2 : -9223372036854775808 ≤ d1 ∧ d1 ≤ 9223372036854775807) (h3 : -9223372036854775808 ≤ n2 ∧ n2 ≤ 9223372036854775807) (h4 : -9223372036854775808 ≤ d2 ∧ d2 ≤ 9223372036854775807) :
    Calls Try.prog 39 #[.agg #[.int .i64 n1, .int .i64 d1], .agg #[.int .i64 n2, .int .i64 d2]] w (OpRet (validB n1 d1 && validB n2 d2) (divNum n1 d1 n2 d2) (divDen n1 d1 n2 d2) (divCode n1 d1 n2 d2) w) := by
  have C := Lib.hid (fun w => combineDiv_any n1 d1 n2 d2 w h1 h2 h3 h4)
  generalize (validB n1 d1 && validB n2 d2) = ok at C ⊢
  generalize (divNum n1 d1 n2 d2) = a at C ⊢
  generalize (divDen n1 d1 n2 d2) = b at C ⊢
  generalize (divCode n1 d1 n2 d2) = c at C ⊢
  have hmf : ∀ (fn : Fn) (first cap : Array Value) (w : World), (Instr.makeFunc fn first cap).run Try.prog w = .ok (.func fn first cap) w := fun _ _ _ _ => rfl
  go_enter Try.func39, Try.ntmps39
  go_wp2_with fail
  refine (C.out _).mono ?_
  rintro e w3 ⟨rfl, hb3⟩
  obtain ⟨hc3, hf3⟩ := bcell hb3
  have hz3 : w.heap.size + 1 + 1 < w3.heap.size := by have := hb3.size; simp at this; omega
  have g3 : Below w.heap.size w w3 := by
    refine Below.trans ?_ (hb3.mono (by simp; omega))
    repeat' (first | exact Below.refl _ _ | (refine Below.setCell ?_ ?_ _) | (refine Below.alloc ?_ ?_ _) | (refine below_dr ?_ _) | exact Nat.le_refl _ | (simp; done) | (simp; omega))
  go_wp2
  refine bodyPost_ret (v := .tuple #[.agg #[.int .i64 (bif ok then a else 0), .int .i64 (bif ok then b else 0)], .int .i64 (bif ok then c else 1)]) (by simp [results, Try.results39, go_sem, hc3]) rfl ⟨rfl, ?_⟩
  exact (g3.setCell (by simp; omega) _).setCell (by simp; omega) _

end Go.Proofs.Ytjlmoadnbbeloaa
