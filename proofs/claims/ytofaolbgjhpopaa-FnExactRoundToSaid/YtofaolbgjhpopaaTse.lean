/- Walks: RoundTo and KeepRound, both sides; the laws. -/
import Derived.Test.YtofaolbgjhpopaaTsd
namespace Go.Proofs.Ytofaolbgjhpopaa
open Go.RowKit
set_option linter.unusedVariables false
def kpI (v s l : Int) : Int := if ptI v ∧ 0 ≤ l ∧ l ≤ 1099511627776 then (if v < 0 then -max (rdI (-v) s) l else max (rdI v s) l) else v
theorem run_max2' {P : Program} (w : World) (ts : Array TypeId) (t : TypeId) (x y : Int) :
    (Builtin.max_ ts t #[.int .i64 x, .int .i64 y]).run P w = .ok (.int .i64 (max x y)) w := by
  have e : ∀ a b : Int, (if b > a then b else a) = max a b := by
    intro a b; rw [Int.max_def]; split <;> split <;> omega
  simp [Builtin.max_, Builtin.max2, e]
theorem l00MaxT_any (a b : Int) (w : World) : Calls Try.prog 84 #[.int .i64 a, .int .i64 b] w fun e w' => e = .returned (.int .i64 (max a b)) ∧ w = w' := by
  by_cases h : b < a
  · have h2 : decide (a > b) = true := by simpa using h
    have HX := Lib.hid (show a = max a b by omega)
    go_enter Try.func84, Try.ntmps84
    go_wp2
    go_ret
    exact ⟨ret_i64 HX.out, rfl⟩
  · have h2 : decide (a > b) = false := by simpa using h
    have HX := Lib.hid (show b = max a b by omega)
    go_enter Try.func84, Try.ntmps84
    go_wp2
    go_ret
    exact ⟨ret_i64 HX.out, rfl⟩
set_option maxHeartbeats 800000 in
theorem l18Part_yes (v : Int) (w : World) (h : ptI v) :
    Calls Try.prog 44 #[.int .i64 v] w fun e w' => e = .returned (.bool true) ∧ Below w.heap.size w w' := by
  unfold ptI at h
  obtain ⟨h1, h2⟩ := h
  go_enter Try.func44, Try.ntmps44
  go_wp2_with (go_at_call 49; first | (refine (l00In_yes _ _ _ _ (by omega) (by omega)).mono ?_; rintro e w1 ⟨rfl, rfl⟩) | (refine (l00In_no _ _ _ _ (by omega)).mono ?_; rintro e w1 ⟨rfl, rfl⟩))
  go_ret
  exact ⟨rfl, by repeat' (first | assumption | exact Below.refl _ _ | (refine Below.setCell ?_ ?_ _) | (refine Below.alloc ?_ ?_ _) | (refine below_dr ?_ _) | exact Nat.le_refl _ | (simp; done) | (simp; omega))⟩
set_option maxHeartbeats 800000 in
theorem l18Part_no (v : Int) (w : World) (h : ¬ ptI v) :
    Calls Try.prog 44 #[.int .i64 v] w fun e w' => e = .returned (.bool false) ∧ Below w.heap.size w w' := by
  unfold ptI at h
  by_cases h1 : -1099511627776 ≤ v
  · have h2 : 1099511627776 < v := by omega
    have h3 : decide (v ≤ 1099511627776) = false := by simp; omega
    clear h
    go_enter Try.func44, Try.ntmps44
    go_wp2_with (go_at_call 49; first | (refine (l00In_yes _ _ _ _ (by omega) (by omega)).mono ?_; rintro e w1 ⟨rfl, rfl⟩) | (refine (l00In_no _ _ _ _ (by omega)).mono ?_; rintro e w1 ⟨rfl, rfl⟩))
    go_ret
    exact ⟨rfl, by repeat' (first | assumption | exact Below.refl _ _ | (refine Below.setCell ?_ ?_ _) | (refine Below.alloc ?_ ?_ _) | (refine below_dr ?_ _) | exact Nat.le_refl _ | (simp; done) | (simp; omega))⟩
  · have h3 : decide (-1099511627776 ≤ v) = false := by simp; omega
    clear h
    go_enter Try.func44, Try.ntmps44
    go_wp2_with (go_at_call 49; first | (refine (l00In_yes _ _ _ _ (by omega) (by omega)).mono ?_; rintro e w1 ⟨rfl, rfl⟩) | (refine (l00In_no _ _ _ _ (by omega)).mono ?_; rintro e w1 ⟨rfl, rfl⟩))
    go_ret
    exact ⟨rfl, by repeat' (first | assumption | exact Below.refl _ _ | (refine Below.setCell ?_ ?_ _) | (refine Below.alloc ?_ ?_ _) | (refine below_dr ?_ _) | exact Nat.le_refl _ | (simp; done) | (simp; omega))⟩
set_option maxHeartbeats 800000 in
theorem isRounded_yes (v : Int) (w : World) (h : ptI v) :
    Calls Try.prog 47 #[.int .i64 v] w fun e w' => e = .returned (.bool true) ∧ Below w.heap.size w w' := by
  unfold ptI at h
  obtain ⟨h1, h2⟩ := h
  go_enter Try.func47, Try.ntmps47
  go_wp2_with (fail)
  go_ret
  exact ⟨rfl, by repeat' (first | assumption | exact Below.refl _ _ | (refine Below.setCell ?_ ?_ _) | (refine Below.alloc ?_ ?_ _) | (refine below_dr ?_ _) | exact Nat.le_refl _ | (simp; done) | (simp; omega))⟩
set_option maxHeartbeats 800000 in
theorem isRounded_no (v : Int) (w : World) (h : ¬ ptI v) :
    Calls Try.prog 47 #[.int .i64 v] w fun e w' => e = .returned (.bool false) ∧ Below w.heap.size w w' := by
  unfold ptI at h
  by_cases h1 : -1099511627776 ≤ v
  · have h2 : 1099511627776 < v := by omega
    have h3 : decide (v ≤ 1099511627776) = false := by simp; omega
    clear h
    go_enter Try.func47, Try.ntmps47
    go_wp2_with (fail)
    go_ret
    exact ⟨rfl, by repeat' (first | assumption | exact Below.refl _ _ | (refine Below.setCell ?_ ?_ _) | (refine Below.alloc ?_ ?_ _) | (refine below_dr ?_ _) | exact Nat.le_refl _ | (simp; done) | (simp; omega))⟩
  · have h3 : decide (-1099511627776 ≤ v) = false := by simp; omega
    clear h
    go_enter Try.func47, Try.ntmps47
    go_wp2_with (fail)
    go_ret
    exact ⟨rfl, by repeat' (first | assumption | exact Below.refl _ _ | (refine Below.setCell ?_ ?_ _) | (refine Below.alloc ?_ ?_ _) | (refine below_dr ?_ _) | exact Nat.le_refl _ | (simp; done) | (simp; omega))⟩
set_option maxHeartbeats 800000 in
theorem isState_yes (v : Int) (w : World) (h : 0 ≤ v ∧ v ≤ 5) :
    Calls Try.prog 46 #[.int .i64 v] w fun e w' => e = .returned (.bool true) ∧ Below w.heap.size w w' := by
  obtain ⟨h1, h2⟩ := h
  go_enter Try.func46, Try.ntmps46
  go_wp2_with (fail)
  go_ret
  exact ⟨rfl, by repeat' (first | assumption | exact Below.refl _ _ | (refine Below.setCell ?_ ?_ _) | (refine Below.alloc ?_ ?_ _) | (refine below_dr ?_ _) | exact Nat.le_refl _ | (simp; done) | (simp; omega))⟩
set_option maxHeartbeats 800000 in
theorem isState_no (v : Int) (w : World) (h : ¬ (0 ≤ v ∧ v ≤ 5)) :
    Calls Try.prog 46 #[.int .i64 v] w fun e w' => e = .returned (.bool false) ∧ Below w.heap.size w w' := by
  by_cases h1 : 0 ≤ v
  · have h3 : decide (v ≤ 5) = false := by simp; omega
    clear h
    go_enter Try.func46, Try.ntmps46
    go_wp2_with (fail)
    go_ret
    exact ⟨rfl, by repeat' (first | assumption | exact Below.refl _ _ | (refine Below.setCell ?_ ?_ _) | (refine Below.alloc ?_ ?_ _) | (refine below_dr ?_ _) | exact Nat.le_refl _ | (simp; done) | (simp; omega))⟩
  · have h3 : decide (0 ≤ v) = false := by simp; omega
    clear h
    go_enter Try.func46, Try.ntmps46
    go_wp2_with (fail)
    go_ret
    exact ⟨rfl, by repeat' (first | assumption | exact Below.refl _ _ | (refine Below.setCell ?_ ?_ _) | (refine Below.alloc ?_ ?_ _) | (refine below_dr ?_ _) | exact Nat.le_refl _ | (simp; done) | (simp; omega))⟩
set_option maxHeartbeats 3200000 in
theorem l18Round_any (v s : Int) (w : World) (h : ptI v) :
    Calls Try.prog 45 #[.int .i64 v, .int .i64 s] w fun e w' => e = .returned (.int .i64 (rdI v s)) ∧ Below w.heap.size w w' := by
  obtain ⟨h1, h2⟩ := h
  by_cases e1 : s = 1
  · subst e1
    rw [show rdI v 1 = dnI (v + 32) 64 by simp [rdI]]
    have C := Lib.hid (fun w => l18Down_64 (v + 32) w (by omega))
    have a1 := dn64_in (v := v + 32)
    have hw := i64m (n := v + 32) (by omega)
    generalize dnI (v + 32) 64 = r at *
    go_enter Try.func45, Try.ntmps45
    go_wp2_with (go_at_call 77; (with_reducible refine (C.out _).mono ?_); rintro e wq ⟨rfl, hq⟩; have hzq := hq.size; try simp only [World.size_alloc] at hzq)
    go_ret
    exact ⟨rfl, by repeat' (first | with_reducible assumption | with_reducible exact Below.refl _ _ | (with_reducible refine Below.setCell ?_ ?_ _) | (with_reducible refine Below.alloc ?_ ?_ _) | (with_reducible refine Below.drew ?_) | (with_reducible refine below_dr ?_ _) | (with_reducible refine Below.trans ?_ (Below.mono (by with_reducible assumption) ?_)) | omega | (simp; done) | (simp; omega))⟩
  have d1 : (s == 1) = false := beq_eq_false_iff_ne.2 e1
  by_cases e2 : s = 2
  · subst e2
    rw [show rdI v 2 = dnI v 64 + 32 by simp [rdI]]
    have C := Lib.hid (fun w => l18Down_64 (v) w (by omega))
    have a1 := dn64_in (v := v)
    have hw := i64m (n := dnI v 64 + 32) (by omega)
    generalize dnI (v) 64 = r at *
    go_enter Try.func45, Try.ntmps45
    go_wp2_with (go_at_call 77; (with_reducible refine (C.out _).mono ?_); rintro e wq ⟨rfl, hq⟩; have hzq := hq.size; try simp only [World.size_alloc] at hzq)
    go_ret
    exact ⟨rfl, by repeat' (first | with_reducible assumption | with_reducible exact Below.refl _ _ | (with_reducible refine Below.setCell ?_ ?_ _) | (with_reducible refine Below.alloc ?_ ?_ _) | (with_reducible refine Below.drew ?_) | (with_reducible refine below_dr ?_ _) | (with_reducible refine Below.trans ?_ (Below.mono (by with_reducible assumption) ?_)) | omega | (simp; done) | (simp; omega))⟩
  have d2 : (s == 2) = false := beq_eq_false_iff_ne.2 e2
  by_cases e3 : s = 3
  · subst e3
    rw [show rdI v 3 = dnI (v + 16) 32 by simp [rdI]]
    have C := Lib.hid (fun w => l18Down_32 (v + 16) w (by omega))
    have a1 := dn64_in (v := v + 16)
    have hw := i64m (n := v + 16) (by omega)
    generalize dnI (v + 16) 32 = r at *
    go_enter Try.func45, Try.ntmps45
    go_wp2_with (go_at_call 77; (with_reducible refine (C.out _).mono ?_); rintro e wq ⟨rfl, hq⟩; have hzq := hq.size; try simp only [World.size_alloc] at hzq)
    go_ret
    exact ⟨rfl, by repeat' (first | with_reducible assumption | with_reducible exact Below.refl _ _ | (with_reducible refine Below.setCell ?_ ?_ _) | (with_reducible refine Below.alloc ?_ ?_ _) | (with_reducible refine Below.drew ?_) | (with_reducible refine below_dr ?_ _) | (with_reducible refine Below.trans ?_ (Below.mono (by with_reducible assumption) ?_)) | omega | (simp; done) | (simp; omega))⟩
  have d3 : (s == 3) = false := beq_eq_false_iff_ne.2 e3
  by_cases e4 : s = 4
  · subst e4
    rw [show rdI v 4 = dnI v 64 by simp [rdI]]
    have C := Lib.hid (fun w => l18Down_64 (v) w (by omega))
    have a1 := dn64_in (v := v)
    generalize dnI (v) 64 = r at *
    go_enter Try.func45, Try.ntmps45
    go_wp2_with (go_at_call 77; (with_reducible refine (C.out _).mono ?_); rintro e wq ⟨rfl, hq⟩; have hzq := hq.size; try simp only [World.size_alloc] at hzq)
    go_ret
    exact ⟨rfl, by repeat' (first | with_reducible assumption | with_reducible exact Below.refl _ _ | (with_reducible refine Below.setCell ?_ ?_ _) | (with_reducible refine Below.alloc ?_ ?_ _) | (with_reducible refine Below.drew ?_) | (with_reducible refine below_dr ?_ _) | (with_reducible refine Below.trans ?_ (Below.mono (by with_reducible assumption) ?_)) | omega | (simp; done) | (simp; omega))⟩
  have d4 : (s == 4) = false := beq_eq_false_iff_ne.2 e4
  by_cases e5 : s = 5
  · subst e5
    rw [show rdI v 5 = dnI (v + 63) 64 by simp [rdI]]
    have C := Lib.hid (fun w => l18Down_64 (v + 63) w (by omega))
    have a1 := dn64_in (v := v + 63)
    have hw := i64m (n := v + 63) (by omega)
    generalize dnI (v + 63) 64 = r at *
    go_enter Try.func45, Try.ntmps45
    go_wp2_with (go_at_call 77; (with_reducible refine (C.out _).mono ?_); rintro e wq ⟨rfl, hq⟩; have hzq := hq.size; try simp only [World.size_alloc] at hzq)
    go_ret
    exact ⟨rfl, by repeat' (first | with_reducible assumption | with_reducible exact Below.refl _ _ | (with_reducible refine Below.setCell ?_ ?_ _) | (with_reducible refine Below.alloc ?_ ?_ _) | (with_reducible refine Below.drew ?_) | (with_reducible refine below_dr ?_ _) | (with_reducible refine Below.trans ?_ (Below.mono (by with_reducible assumption) ?_)) | omega | (simp; done) | (simp; omega))⟩
  have d5 : (s == 5) = false := beq_eq_false_iff_ne.2 e5
  rw [show rdI v s = v by simp [rdI, *]]
  go_enter Try.func45, Try.ntmps45
  go_wp2
  go_ret
  exact ⟨rfl, by repeat' (first | assumption | exact Below.refl _ _ | (refine Below.setCell ?_ ?_ _) | (refine Below.alloc ?_ ?_ _) | (refine below_dr ?_ _) | exact Nat.le_refl _ | (simp; done) | (simp; omega))⟩
set_option maxHeartbeats 800000 in
theorem specRoundTo_any (v s : Int) (w : World) (hv : (-9223372036854775808 ≤ v ∧ v ≤ 9223372036854775807)) (hs : (-9223372036854775808 ≤ s ∧ s ≤ 9223372036854775807)) :
    Calls Try.prog 15 #[.int .i64 v, .int .i64 s] w fun e w' => e = .returned (.int .i64 (rtI v s)) ∧ Below w.heap.size w w' := by
  clear hv hs
  by_cases h : ptI v
  · rw [show rtI v s = rdI v s by simp [rtI, h]]
    have C1 := Lib.hid (fun w => l18Part_yes v w h)
    have C2 := Lib.hid (fun w => l18Round_any v s w h)
    generalize rdI v s = r at *
    go_enter Try.func15, Try.ntmps15
    go_wp2_with (first | (go_at_call 44; (with_reducible refine (C1.out _).mono ?_); rintro e wq ⟨rfl, hq⟩; have hzq := hq.size; try simp only [World.size_alloc] at hzq) | (go_at_call 45; (with_reducible refine (C2.out _).mono ?_); rintro e wq ⟨rfl, hq⟩; have hzq := hq.size; try simp only [World.size_alloc] at hzq))
    go_ret
    exact ⟨rfl, by repeat' (first | with_reducible assumption | with_reducible exact Below.refl _ _ | (with_reducible refine Below.setCell ?_ ?_ _) | (with_reducible refine Below.alloc ?_ ?_ _) | (with_reducible refine Below.drew ?_) | (with_reducible refine below_dr ?_ _) | (with_reducible refine Below.trans ?_ (Below.mono (by with_reducible assumption) ?_)) | omega | (simp; done) | (simp; omega))⟩
  · rw [show rtI v s = v by simp [rtI, h]]
    have C1 := Lib.hid (fun w => l18Part_no v w h)
    go_enter Try.func15, Try.ntmps15
    go_wp2_with (first | (go_at_call 44; (with_reducible refine (C1.out _).mono ?_); rintro e wq ⟨rfl, hq⟩; have hzq := hq.size; try simp only [World.size_alloc] at hzq))
    go_ret
    exact ⟨rfl, by repeat' (first | with_reducible assumption | with_reducible exact Below.refl _ _ | (with_reducible refine Below.setCell ?_ ?_ _) | (with_reducible refine Below.alloc ?_ ?_ _) | (with_reducible refine Below.drew ?_) | (with_reducible refine below_dr ?_ _) | (with_reducible refine Below.trans ?_ (Below.mono (by with_reducible assumption) ?_)) | omega | (simp; done) | (simp; omega))⟩
end Go.Proofs.Ytofaolbgjhpopaa
