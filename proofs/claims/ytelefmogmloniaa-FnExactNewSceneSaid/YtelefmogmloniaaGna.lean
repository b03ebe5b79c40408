/- Walks: parts and anchors that are valid, on the program's side. -/
import Derived.Test.YtelefmogmloniaaGmd
import Derived.Test.YtelefmogmloniaaPc
import Derived.Test.YtelefmogmloniaaW1
namespace Go.Proofs.Ytelefmogmloniaa
open Go.RowKit
set_option linter.unusedVariables false
def vPart (a : DPart) : Bool := decide (0 ≤ a.1 ∧ a.1 < 40) && okB a.2.1 a.2.2
def vAnc (a : DAnchor) : Bool := okB a.2.1 a.2.2
set_option maxHeartbeats 1600000 in
theorem partValid_any (x y z : Int) (w : World) : Calls Try.prog 56 #[.agg #[.int .i64 x, .int .i64 y, .int .i64 z]] w fun e w' => e = .returned (.bool (vPart (x, y, z))) ∧ Below w.heap.size w w' := by
  have C := Lib.hid (fun w => implValidPt_any y z w)
  have hv : vPart (x, y, z) = (decide (0 ≤ x ∧ x < 40) && okB y z) := rfl
  rw [hv]
  clear hv
  generalize okB y z = v at C ⊢
  by_cases h : 0 ≤ x ∧ x < 40
  · rw [decide_eq_true h]
    obtain ⟨h1, h2⟩ := h
    have q1 : decide (x ≥ 0) = true := by simpa using h1
    have q2 : decide (x < 40) = true := by simpa using h2
    go_enter Try.func56, Try.ntmps56
    go_wp2_with (go_at_call 124; refine (C.out _).mono ?_; rintro e w1 ⟨rfl, hb⟩)
    go_ret
    exact ⟨by cases v <;> rfl, by repeat' (first | with_reducible assumption | with_reducible exact Below.refl _ _ | (with_reducible refine Below.setCell ?_ ?_ _) | (with_reducible refine Below.alloc ?_ ?_ _) | (with_reducible refine Below.drew ?_) | (with_reducible refine below_dr ?_ _) | (with_reducible refine Below.trans ?_ (Below.mono (by with_reducible assumption) ?_)) | omega | (simp; done) | (simp; omega))⟩
  · rw [decide_eq_false h]
    by_cases h1 : 0 ≤ x
    · have q1 : decide (x ≥ 0) = true := by simpa using h1
      have q2 : decide (x < 40) = false := by simp; omega
      go_enter Try.func56, Try.ntmps56
      go_wp2_with fail
      go_ret
      exact ⟨rfl, by repeat' (first | with_reducible assumption | with_reducible exact Below.refl _ _ | (with_reducible refine Below.setCell ?_ ?_ _) | (with_reducible refine Below.alloc ?_ ?_ _) | (with_reducible refine Below.drew ?_) | (with_reducible refine below_dr ?_ _) | (with_reducible refine Below.trans ?_ (Below.mono (by with_reducible assumption) ?_)) | omega | (simp; done) | (simp; omega))⟩
    · have q1 : decide (x ≥ 0) = false := by simp; omega
      go_enter Try.func56, Try.ntmps56
      go_wp2_with fail
      go_ret
      exact ⟨rfl, by repeat' (first | with_reducible assumption | with_reducible exact Below.refl _ _ | (with_reducible refine Below.setCell ?_ ?_ _) | (with_reducible refine Below.alloc ?_ ?_ _) | (with_reducible refine Below.drew ?_) | (with_reducible refine below_dr ?_ _) | (with_reducible refine Below.trans ?_ (Below.mono (by with_reducible assumption) ?_)) | omega | (simp; done) | (simp; omega))⟩
set_option maxHeartbeats 1600000 in
theorem ancValid_any (x : ByteArray) (y z : Int) (w : World) : Calls Try.prog 58 #[.agg #[.string x, .int .i64 y, .int .i64 z]] w fun e w' => e = .returned (.bool (vAnc (x, y, z))) ∧ Below w.heap.size w w' := by
  have C := Lib.hid (fun w => implValidPt_any y z w)
  have hv : vAnc (x, y, z) = okB y z := rfl
  rw [hv]
  clear hv
  generalize okB y z = v at C ⊢
  go_enter Try.func58, Try.ntmps58
  go_wp2_with (go_at_call 124; refine (C.out _).mono ?_; rintro e w1 ⟨rfl, hb⟩)
  go_ret
  exact ⟨rfl, by repeat' (first | with_reducible assumption | with_reducible exact Below.refl _ _ | (with_reducible refine Below.setCell ?_ ?_ _) | (with_reducible refine Below.alloc ?_ ?_ _) | (with_reducible refine Below.drew ?_) | (with_reducible refine below_dr ?_ _) | (with_reducible refine Below.trans ?_ (Below.mono (by with_reducible assumption) ?_)) | omega | (simp; done) | (simp; omega))⟩
section
variable {α : Type} {l : List α} {p : α → Bool} {k : Nat} {a : α}
def alU (p : α → Bool) (l : List α) (k : Nat) : Prop := ∀ j x, j < k → l[j]? = some x → p x = true
theorem alU_zero : alU p l 0 := fun j x h _ => absurd h (Nat.not_lt_zero _)
theorem alU_succ (h : alU p l k) (ha : l[k]? = some a) (hp : p a = true) : alU p l (k + 1) := fun j x hj hx => by
  rcases Nat.lt_or_ge j k with h2 | h2
  · exact h j x h2 hx
  · obtain rfl : j = k := by omega
    rw [ha] at hx; obtain rfl := Option.some.inj hx; exact hp
theorem all_no (ha : l[k]? = some a) (hp : p a = false) : l.all p = false := by
  rw [List.all_eq_false]; exact ⟨a, List.mem_of_getElem? ha, by simp [hp]⟩
theorem all_yes (h : alU p l l.length) : l.all p = true := by
  rw [List.all_eq_true]; intro x hx
  obtain ⟨j, hj⟩ := List.getElem?_of_mem hx
  exact h j x (List.getElem?_eq_some_iff.1 hj).1 hj
end
set_option maxHeartbeats 1600000 in
theorem areAll1_partOk  (x0 : Int) (x1 : Int) (x2 : Int) (p : DPart → Bool) (Bh : Nat) (w : World)  (b0 : w.cell? ⟨Bh, 0, none⟩ = some (.func (.func 56) #[] #[])) (hh : Bh < w.heap.size) (hC : ∀ (w1 : World), Below w.heap.size w w1 → Calls Try.prog 56 #[.agg #[.int .i64 x0, .int .i64 x1, .int .i64 x2]] w1 fun e w2 => e = .returned (.bool (p (x0, x1, x2))) ∧ Below w1.heap.size w1 w2) :
    Calls Try.prog 123 #[.agg #[.int .i64 x0, .int .i64 x1, .int .i64 x2], .pointer (some ⟨Bh, 0, none⟩)] w fun e w' => e = .returned (.bool (!(p (x0, x1, x2)))) ∧ Below w.heap.size w w' := by
  have N := Lib.hid hC
  clear hC
  generalize p (x0, x1, x2) = v at *
  go_enter Try.func123, Try.ntmps123
  go_wp2_with fail
  refine (N.out _ (by repeat' (first | with_reducible assumption | with_reducible exact Below.refl _ _ | (with_reducible refine Below.setCell ?_ ?_ _) | (with_reducible refine Below.alloc ?_ ?_ _) | (with_reducible refine Below.drew ?_) | (with_reducible refine below_dr ?_ _) | (with_reducible refine Below.trans ?_ (Below.mono (by with_reducible assumption) ?_)) | omega | (simp; done) | (simp; omega)))).mono ?_
  rintro e w1 ⟨rfl, hb1⟩
  go_wp2_with fail
  go_ret
  exact ⟨rfl, by repeat' (first | with_reducible assumption | with_reducible exact Below.refl _ _ | (with_reducible refine Below.setCell ?_ ?_ _) | (with_reducible refine Below.alloc ?_ ?_ _) | (with_reducible refine Below.drew ?_) | (with_reducible refine below_dr ?_ _) | (with_reducible refine Below.trans ?_ (Below.mono (by with_reducible assumption) ?_)) | omega | (simp; done) | (simp; omega))⟩
set_option maxHeartbeats 3200000 in
theorem indexFunc_partOk  (l : List DPart) (A : Option Addr) (c : Nat) (p : DPart → Bool) (Bh : Nat) (w : World) (hl : l.length ≤ 1048576) (r : Row RvPart 3 w w.heap.size A l) (b0 : w.cell? ⟨Bh, 0, none⟩ = some (.func (.func 56) #[] #[])) (hh : Bh < w.heap.size) (hC : ∀ (w1 : World), Below w.heap.size w w1 → ∀ (k : Nat) (x0 : Int) (x1 : Int) (x2 : Int), l[k]? = some (x0, x1, x2) → Calls Try.prog 56 #[.agg #[.int .i64 x0, .int .i64 x1, .int .i64 x2]] w1 fun e w2 => e = .returned (.bool (p (x0, x1, x2))) ∧ Below w1.heap.size w1 w2) :
    Calls Try.prog 157 #[.slice A l.length c, .func (.func 123) #[] #[.pointer (some ⟨Bh, 0, none⟩)]] w fun e w' => (∃ i : Int, e = .returned (.int .i64 i) ∧ decide (0 ≤ i) = !(l.all p)) ∧ Below w.heap.size w w' := by
  have N := Lib.hid hC
  clear hC
  have RA := Lib.hid r
  have B0 := Lib.hid b0
  clear r b0
  obtain ⟨n, hn⟩ : ∃ n, n = l.length := ⟨_, rfl⟩
  rw [← hn] at hl ⊢
  have HN := Lib.hid hn
  clear hn
  go_enter Try.func157, Try.ntmps157
  go_wp2
  go_loopw [5, 8] (fun u i wr => ∃ k : Nat, k ≤ n ∧ i = .int .i64 k ∧ alU p l k ∧ Below w.heap.size w wr) (fun u i _ => n - (intOf i).toNat)
  case atStart => exact ⟨0, Nat.zero_le _, rfl, alU_zero, Below.refl _ _⟩
  case round =>
    obtain ⟨k, hk, rfl, hyes, hbl⟩ := hrel
    have HY := Lib.hid hyes
    clear hyes
    have hzw := hbl.size
    by_cases hlt : k < n
    case pos =>
      obtain ⟨⟨x0, x1, x2⟩, ha⟩ : ∃ a, l[k]? = some a := ⟨l[k]'(by have := HN.out; omega), List.getElem?_eq_getElem (by have := HN.out; omega)⟩
      obtain ⟨g, o, rowc, rfl, hg, hRc, hcc⟩ := (Row.carry (w' := wr) RA.out hbl (Nat.le_refl _)).elem ha
      obtain rfl := hRc
      have c0 : wr.cell? ⟨g, o + k * 3, none⟩ = some (.int .i64 x0) := hcc 0 _ rfl
      have c1 : wr.cell? ⟨g, o + k * 3 + 1, none⟩ = some (.int .i64 x1) := hcc 1 _ rfl
      have c2 : wr.cell? ⟨g, o + k * 3 + 2, none⟩ = some (.int .i64 x2) := hcc 2 _ rfl
      clear hcc
      have HA := Lib.hid ha
      clear ha
      have hgw : g < wr.heap.size := by omega
      have hki : (k : Int) < (n : Int) := by omega
      have CC := areAll1_partOk  x0 x1 x2 p Bh wr  ((hbl.cell (p := ⟨Bh, 0, none⟩) hh).trans B0.out) (by omega) (fun w1 hb1  => N.out w1 (by repeat' (first | with_reducible assumption | with_reducible exact Below.refl _ _ | (with_reducible refine Below.setCell ?_ ?_ _) | (with_reducible refine Below.alloc ?_ ?_ _) | (with_reducible refine Below.drew ?_) | (with_reducible refine below_dr ?_ _) | (with_reducible refine Below.trans ?_ (Below.mono (by with_reducible assumption) ?_)) | omega | (simp; done) | (simp; omega))) k x0 x1 x2 HA.out )
      rcases hv : p (x0, x1, x2) with _ | _
      case false =>
        have HV := Lib.hid hv
        rw [hv] at CC
        have C := Lib.hid CC
        clear hv CC
        go_wp2_with fail
        refine C.out.mono ?_
        rintro e w1 ⟨rfl, hb1⟩
        go_wp2
        go_ret
        exact ⟨⟨_, rfl, by rw [all_no HA.out HV.out]; simp⟩, by repeat' (first | with_reducible assumption | with_reducible exact Below.refl _ _ | (with_reducible refine Below.setCell ?_ ?_ _) | (with_reducible refine Below.alloc ?_ ?_ _) | (with_reducible refine Below.drew ?_) | (with_reducible refine below_dr ?_ _) | (with_reducible refine Below.trans ?_ (Below.mono (by with_reducible assumption) ?_)) | omega | (simp; done) | (simp; omega))⟩
      case true =>
        have HV := Lib.hid hv
        rw [hv] at CC
        have C := Lib.hid CC
        clear hv CC
        go_wp2_with fail
        refine C.out.mono ?_
        rintro e w1 ⟨rfl, hb1⟩
        go_wp2
        go_roundw
        case rel => exact ⟨k + 1, by omega, by go_num, alU_succ HY.out HA.out HV.out, by repeat' (first | with_reducible assumption | with_reducible exact Below.refl _ _ | (with_reducible refine Below.setCell ?_ ?_ _) | (with_reducible refine Below.alloc ?_ ?_ _) | (with_reducible refine Below.drew ?_) | (with_reducible refine below_dr ?_ _) | (with_reducible refine Below.trans ?_ (Below.mono (by with_reducible assumption) ?_)) | omega | (simp; done) | (simp; omega))⟩
        case measure => simp [intOf]; omega
    case neg =>
      obtain rfl : k = n := by omega
      go_wp2
      go_ret
      exact ⟨⟨_, rfl, by rw [all_yes (by rw [← HN.out]; exact HY.out)]; rfl⟩, hbl⟩
set_option maxHeartbeats 1600000 in
theorem containsFunc_partOk  (l : List DPart) (A : Option Addr) (c : Nat) (p : DPart → Bool) (Bh : Nat) (w : World) (hl : l.length ≤ 1048576) (r : Row RvPart 3 w w.heap.size A l) (b0 : w.cell? ⟨Bh, 0, none⟩ = some (.func (.func 56) #[] #[])) (hh : Bh < w.heap.size) (hC : ∀ (w1 : World), Below w.heap.size w w1 → ∀ (k : Nat) (x0 : Int) (x1 : Int) (x2 : Int), l[k]? = some (x0, x1, x2) → Calls Try.prog 56 #[.agg #[.int .i64 x0, .int .i64 x1, .int .i64 x2]] w1 fun e w2 => e = .returned (.bool (p (x0, x1, x2))) ∧ Below w1.heap.size w1 w2) :
    Calls Try.prog 103 #[.slice A l.length c, .func (.func 123) #[] #[.pointer (some ⟨Bh, 0, none⟩)]] w fun e w' => e = .returned (.bool (!(l.all p))) ∧ Below w.heap.size w w' := by
  have N := Lib.hid (indexFunc_partOk  l A c p Bh w hl r b0 hh hC)
  clear hC b0 r hl
  generalize l.length = n at *
  generalize l.all p = v at *
  go_enter Try.func103, Try.ntmps103
  go_wp2_with fail
  refine N.out.mono ?_
  rintro e w1 ⟨⟨i, rfl, hi⟩, hb1⟩
  go_wp2
  go_ret
  exact ⟨rfl, hb1⟩
set_option maxHeartbeats 1600000 in
theorem areAll_partOk  (l : List DPart) (A : Option Addr) (c : Nat) (p : DPart → Bool) (w : World) (hl : l.length ≤ 1048576) (r : Row RvPart 3 w w.heap.size A l) (hC : ∀ (w1 : World), Below w.heap.size w w1 → ∀ (k : Nat) (x0 : Int) (x1 : Int) (x2 : Int), l[k]? = some (x0, x1, x2) → Calls Try.prog 56 #[.agg #[.int .i64 x0, .int .i64 x1, .int .i64 x2]] w1 fun e w2 => e = .returned (.bool (p (x0, x1, x2))) ∧ Below w1.heap.size w1 w2) :
    Calls Try.prog 55 #[.slice A l.length c, .func (.func 56) #[] #[]] w fun e w' => e = .returned (.bool (l.all p)) ∧ Below w.heap.size w w' := by
  have N := Lib.hid (fun (w' : World) (hb : Below w.heap.size w w') r b0 hh => containsFunc_partOk  l A c p w.heap.size w' hl r b0 hh (fun w1 h1 => hC w1 (hb.trans (Below.mono h1 hb.size))))
  clear hC
  have RA := Lib.hid r
  clear r hl
  generalize l.length = n at *
  generalize l.all p = v at *
  go_enter Try.func55, Try.ntmps55
  go_wp2_with fail
  refine (N.out _ (by repeat' (first | with_reducible assumption | with_reducible exact Below.refl _ _ | (with_reducible refine Below.setCell ?_ ?_ _) | (with_reducible refine Below.alloc ?_ ?_ _) | (with_reducible refine Below.drew ?_) | (with_reducible refine below_dr ?_ _) | (with_reducible refine Below.trans ?_ (Below.mono (by with_reducible assumption) ?_)) | omega | (simp; done) | (simp; omega))) ((RA.out.alloc (Nat.le_refl _) _).more (by simp)) (by simp [go_sem]) (by simp)).mono ?_
  rintro e w1 ⟨rfl, hb1⟩
  go_wp2
  go_ret
  exact ⟨by simp, by repeat' (first | with_reducible assumption | with_reducible exact Below.refl _ _ | (with_reducible refine Below.setCell ?_ ?_ _) | (with_reducible refine Below.alloc ?_ ?_ _) | (with_reducible refine Below.drew ?_) | (with_reducible refine below_dr ?_ _) | (with_reducible refine Below.trans ?_ (Below.mono (by with_reducible assumption) ?_)) | omega | (simp; done) | (simp; omega))⟩
set_option maxHeartbeats 1600000 in
theorem areAll1_ancOk  (x0 : ByteArray) (x1 : Int) (x2 : Int) (p : DAnchor → Bool) (Bh : Nat) (w : World)  (b0 : w.cell? ⟨Bh, 0, none⟩ = some (.func (.func 58) #[] #[])) (hh : Bh < w.heap.size) (hC : ∀ (w1 : World), Below w.heap.size w w1 → Calls Try.prog 58 #[.agg #[.string x0, .int .i64 x1, .int .i64 x2]] w1 fun e w2 => e = .returned (.bool (p (x0, x1, x2))) ∧ Below w1.heap.size w1 w2) :
    Calls Try.prog 126 #[.agg #[.string x0, .int .i64 x1, .int .i64 x2], .pointer (some ⟨Bh, 0, none⟩)] w fun e w' => e = .returned (.bool (!(p (x0, x1, x2)))) ∧ Below w.heap.size w w' := by
  have N := Lib.hid hC
  clear hC
  generalize p (x0, x1, x2) = v at *
  go_enter Try.func126, Try.ntmps126
  go_wp2_with fail
  refine (N.out _ (by repeat' (first | with_reducible assumption | with_reducible exact Below.refl _ _ | (with_reducible refine Below.setCell ?_ ?_ _) | (with_reducible refine Below.alloc ?_ ?_ _) | (with_reducible refine Below.drew ?_) | (with_reducible refine below_dr ?_ _) | (with_reducible refine Below.trans ?_ (Below.mono (by with_reducible assumption) ?_)) | omega | (simp; done) | (simp; omega)))).mono ?_
  rintro e w1 ⟨rfl, hb1⟩
  go_wp2_with fail
  go_ret
  exact ⟨rfl, by repeat' (first | with_reducible assumption | with_reducible exact Below.refl _ _ | (with_reducible refine Below.setCell ?_ ?_ _) | (with_reducible refine Below.alloc ?_ ?_ _) | (with_reducible refine Below.drew ?_) | (with_reducible refine below_dr ?_ _) | (with_reducible refine Below.trans ?_ (Below.mono (by with_reducible assumption) ?_)) | omega | (simp; done) | (simp; omega))⟩
set_option maxHeartbeats 3200000 in
theorem indexFunc_ancOk  (l : List DAnchor) (A : Option Addr) (c : Nat) (p : DAnchor → Bool) (Bh : Nat) (w : World) (hl : l.length ≤ 1048576) (r : Row RvAnchor 3 w w.heap.size A l) (b0 : w.cell? ⟨Bh, 0, none⟩ = some (.func (.func 58) #[] #[])) (hh : Bh < w.heap.size) (hC : ∀ (w1 : World), Below w.heap.size w w1 → ∀ (k : Nat) (x0 : ByteArray) (x1 : Int) (x2 : Int), l[k]? = some (x0, x1, x2) → Calls Try.prog 58 #[.agg #[.string x0, .int .i64 x1, .int .i64 x2]] w1 fun e w2 => e = .returned (.bool (p (x0, x1, x2))) ∧ Below w1.heap.size w1 w2) :
    Calls Try.prog 170 #[.slice A l.length c, .func (.func 126) #[] #[.pointer (some ⟨Bh, 0, none⟩)]] w fun e w' => (∃ i : Int, e = .returned (.int .i64 i) ∧ decide (0 ≤ i) = !(l.all p)) ∧ Below w.heap.size w w' := by
  have N := Lib.hid hC
  clear hC
  have RA := Lib.hid r
  have B0 := Lib.hid b0
  clear r b0
  obtain ⟨n, hn⟩ : ∃ n, n = l.length := ⟨_, rfl⟩
  rw [← hn] at hl ⊢
  have HN := Lib.hid hn
  clear hn
  go_enter Try.func170, Try.ntmps170
  go_wp2
  go_loopw [5, 8] (fun u i wr => ∃ k : Nat, k ≤ n ∧ i = .int .i64 k ∧ alU p l k ∧ Below w.heap.size w wr) (fun u i _ => n - (intOf i).toNat)
  case atStart => exact ⟨0, Nat.zero_le _, rfl, alU_zero, Below.refl _ _⟩
  case round =>
    obtain ⟨k, hk, rfl, hyes, hbl⟩ := hrel
    have HY := Lib.hid hyes
    clear hyes
    have hzw := hbl.size
    by_cases hlt : k < n
    case pos =>
      obtain ⟨⟨x0, x1, x2⟩, ha⟩ : ∃ a, l[k]? = some a := ⟨l[k]'(by have := HN.out; omega), List.getElem?_eq_getElem (by have := HN.out; omega)⟩
      obtain ⟨g, o, rowc, rfl, hg, hRc, hcc⟩ := (Row.carry (w' := wr) RA.out hbl (Nat.le_refl _)).elem ha
      obtain rfl := hRc
      have c0 : wr.cell? ⟨g, o + k * 3, none⟩ = some (.string x0) := hcc 0 _ rfl
      have c1 : wr.cell? ⟨g, o + k * 3 + 1, none⟩ = some (.int .i64 x1) := hcc 1 _ rfl
      have c2 : wr.cell? ⟨g, o + k * 3 + 2, none⟩ = some (.int .i64 x2) := hcc 2 _ rfl
      clear hcc
      have HA := Lib.hid ha
      clear ha
      have hgw : g < wr.heap.size := by omega
      have hki : (k : Int) < (n : Int) := by omega
      have CC := areAll1_ancOk  x0 x1 x2 p Bh wr  ((hbl.cell (p := ⟨Bh, 0, none⟩) hh).trans B0.out) (by omega) (fun w1 hb1  => N.out w1 (by repeat' (first | with_reducible assumption | with_reducible exact Below.refl _ _ | (with_reducible refine Below.setCell ?_ ?_ _) | (with_reducible refine Below.alloc ?_ ?_ _) | (with_reducible refine Below.drew ?_) | (with_reducible refine below_dr ?_ _) | (with_reducible refine Below.trans ?_ (Below.mono (by with_reducible assumption) ?_)) | omega | (simp; done) | (simp; omega))) k x0 x1 x2 HA.out )
      rcases hv : p (x0, x1, x2) with _ | _
      case false =>
        have HV := Lib.hid hv
        rw [hv] at CC
        have C := Lib.hid CC
        clear hv CC
        go_wp2_with fail
        refine C.out.mono ?_
        rintro e w1 ⟨rfl, hb1⟩
        go_wp2
        go_ret
        exact ⟨⟨_, rfl, by rw [all_no HA.out HV.out]; simp⟩, by repeat' (first | with_reducible assumption | with_reducible exact Below.refl _ _ | (with_reducible refine Below.setCell ?_ ?_ _) | (with_reducible refine Below.alloc ?_ ?_ _) | (with_reducible refine Below.drew ?_) | (with_reducible refine below_dr ?_ _) | (with_reducible refine Below.trans ?_ (Below.mono (by with_reducible assumption) ?_)) | omega | (simp; done) | (simp; omega))⟩
      case true =>
        have HV := Lib.hid hv
        rw [hv] at CC
        have C := Lib.hid CC
        clear hv CC
        go_wp2_with fail
        refine C.out.mono ?_
        rintro e w1 ⟨rfl, hb1⟩
        go_wp2
        go_roundw
        case rel => exact ⟨k + 1, by omega, by go_num, alU_succ HY.out HA.out HV.out, by repeat' (first | with_reducible assumption | with_reducible exact Below.refl _ _ | (with_reducible refine Below.setCell ?_ ?_ _) | (with_reducible refine Below.alloc ?_ ?_ _) | (with_reducible refine Below.drew ?_) | (with_reducible refine below_dr ?_ _) | (with_reducible refine Below.trans ?_ (Below.mono (by with_reducible assumption) ?_)) | omega | (simp; done) | (simp; omega))⟩
        case measure => simp [intOf]; omega
    case neg =>
      obtain rfl : k = n := by omega
      go_wp2
      go_ret
      exact ⟨⟨_, rfl, by rw [all_yes (by rw [← HN.out]; exact HY.out)]; rfl⟩, hbl⟩
set_option maxHeartbeats 1600000 in
theorem containsFunc_ancOk  (l : List DAnchor) (A : Option Addr) (c : Nat) (p : DAnchor → Bool) (Bh : Nat) (w : World) (hl : l.length ≤ 1048576) (r : Row RvAnchor 3 w w.heap.size A l) (b0 : w.cell? ⟨Bh, 0, none⟩ = some (.func (.func 58) #[] #[])) (hh : Bh < w.heap.size) (hC : ∀ (w1 : World), Below w.heap.size w w1 → ∀ (k : Nat) (x0 : ByteArray) (x1 : Int) (x2 : Int), l[k]? = some (x0, x1, x2) → Calls Try.prog 58 #[.agg #[.string x0, .int .i64 x1, .int .i64 x2]] w1 fun e w2 => e = .returned (.bool (p (x0, x1, x2))) ∧ Below w1.heap.size w1 w2) :
    Calls Try.prog 125 #[.slice A l.length c, .func (.func 126) #[] #[.pointer (some ⟨Bh, 0, none⟩)]] w fun e w' => e = .returned (.bool (!(l.all p))) ∧ Below w.heap.size w w' := by
  have N := Lib.hid (indexFunc_ancOk  l A c p Bh w hl r b0 hh hC)
  clear hC b0 r hl
  generalize l.length = n at *
  generalize l.all p = v at *
  go_enter Try.func125, Try.ntmps125
  go_wp2_with fail
  refine N.out.mono ?_
  rintro e w1 ⟨⟨i, rfl, hi⟩, hb1⟩
  go_wp2
  go_ret
  exact ⟨rfl, hb1⟩
set_option maxHeartbeats 1600000 in
theorem areAll_ancOk  (l : List DAnchor) (A : Option Addr) (c : Nat) (p : DAnchor → Bool) (w : World) (hl : l.length ≤ 1048576) (r : Row RvAnchor 3 w w.heap.size A l) (hC : ∀ (w1 : World), Below w.heap.size w w1 → ∀ (k : Nat) (x0 : ByteArray) (x1 : Int) (x2 : Int), l[k]? = some (x0, x1, x2) → Calls Try.prog 58 #[.agg #[.string x0, .int .i64 x1, .int .i64 x2]] w1 fun e w2 => e = .returned (.bool (p (x0, x1, x2))) ∧ Below w1.heap.size w1 w2) :
    Calls Try.prog 57 #[.slice A l.length c, .func (.func 58) #[] #[]] w fun e w' => e = .returned (.bool (l.all p)) ∧ Below w.heap.size w w' := by
  have N := Lib.hid (fun (w' : World) (hb : Below w.heap.size w w') r b0 hh => containsFunc_ancOk  l A c p w.heap.size w' hl r b0 hh (fun w1 h1 => hC w1 (hb.trans (Below.mono h1 hb.size))))
  clear hC
  have RA := Lib.hid r
  clear r hl
  generalize l.length = n at *
  generalize l.all p = v at *
  go_enter Try.func57, Try.ntmps57
  go_wp2_with fail
  refine (N.out _ (by repeat' (first | with_reducible assumption | with_reducible exact Below.refl _ _ | (with_reducible refine Below.setCell ?_ ?_ _) | (with_reducible refine Below.alloc ?_ ?_ _) | (with_reducible refine Below.drew ?_) | (with_reducible refine below_dr ?_ _) | (with_reducible refine Below.trans ?_ (Below.mono (by with_reducible assumption) ?_)) | omega | (simp; done) | (simp; omega))) ((RA.out.alloc (Nat.le_refl _) _).more (by simp)) (by simp [go_sem]) (by simp)).mono ?_
  rintro e w1 ⟨rfl, hb1⟩
  go_wp2
  go_ret
  exact ⟨by simp, by repeat' (first | with_reducible assumption | with_reducible exact Below.refl _ _ | (with_reducible refine Below.setCell ?_ ?_ _) | (with_reducible refine Below.alloc ?_ ?_ _) | (with_reducible refine Below.drew ?_) | (with_reducible refine below_dr ?_ _) | (with_reducible refine Below.trans ?_ (Below.mono (by with_reducible assumption) ?_)) | omega | (simp; done) | (simp; omega))⟩
set_option maxHeartbeats 400000 in
theorem allParts_any (l : List DPart) (A : Option Addr) (c : Nat) (w : World) (hl : l.length ≤ 1048576) (r : Row RvPart 3 w w.heap.size A l) :
    Calls Try.prog 55 #[.slice A l.length c, .func (.func 56) #[] #[]] w fun e w' => e = .returned (.bool (l.all vPart)) ∧ Below w.heap.size w w' :=
  areAll_partOk l A c vPart w hl r (fun w1 _ k x y z _ => partValid_any x y z w1)
set_option maxHeartbeats 400000 in
theorem allAnchors_any (l : List DAnchor) (A : Option Addr) (c : Nat) (w : World) (hl : l.length ≤ 1048576) (r : Row RvAnchor 3 w w.heap.size A l) :
    Calls Try.prog 57 #[.slice A l.length c, .func (.func 58) #[] #[]] w fun e w' => e = .returned (.bool (l.all vAnc)) ∧ Below w.heap.size w w' :=
  areAll_ancOk l A c vAnc w hl r (fun w1 _ k x y z _ => ancValid_any x y z w1)
end Go.Proofs.Ytelefmogmloniaa
