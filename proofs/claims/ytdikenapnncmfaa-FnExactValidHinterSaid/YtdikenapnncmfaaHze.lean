/- Walks: which states of the machine are valid: the program's side. -/
import Derived.Test.YtdikenapnncmfaaHzd
namespace Go.Proofs.Ytdikenapnncmfaa
open Go.RowKit
set_option linter.unusedVariables false
set_option maxHeartbeats 400000 in
theorem isSmall_any (n : Int) (w : World) : Calls Try.prog 107 #[.int .i64 n] w fun e w' => e = .returned (.bool (rngB n (-1073741824) (1073741824))) ∧ w = w' := by
  by_cases h1 : (-1073741824) ≤ n
  · by_cases h2 : n ≤ (1073741824)
    · rw [rngB_yes h1 h2]
      go_enter Try.func107, Try.ntmps107
      go_wp2
      go_ret
      exact ⟨rfl, rfl⟩
    · rw [rngB_hi (by omega)]
      have q2 : decide (n ≤ (1073741824)) = false := decide_eq_false h2
      clear h2
      go_enter Try.func107, Try.ntmps107
      go_wp2
      go_ret
      exact ⟨rfl, rfl⟩
  · rw [rngB_lo (by omega)]
    have q2 : decide ((-1073741824) ≤ n) = false := decide_eq_false h1
    clear h1
    go_enter Try.func107, Try.ntmps107
    go_wp2
    go_ret
    exact ⟨rfl, rfl⟩
set_option maxHeartbeats 400000 in
theorem isSize_any (n : Int) (w : World) : Calls Try.prog 108 #[.int .i64 n] w fun e w' => e = .returned (.bool (rngB n (1) (128))) ∧ w = w' := by
  by_cases h1 : (1) ≤ n
  · by_cases h2 : n ≤ (128)
    · rw [rngB_yes h1 h2]
      go_enter Try.func108, Try.ntmps108
      go_wp2
      go_ret
      exact ⟨rfl, rfl⟩
    · rw [rngB_hi (by omega)]
      have q2 : decide (n ≤ (128)) = false := decide_eq_false h2
      clear h2
      go_enter Try.func108, Try.ntmps108
      go_wp2
      go_ret
      exact ⟨rfl, rfl⟩
  · rw [rngB_lo (by omega)]
    have q2 : decide ((1) ≤ n) = false := decide_eq_false h1
    clear h1
    go_enter Try.func108, Try.ntmps108
    go_wp2
    go_ret
    exact ⟨rfl, rfl⟩
set_option maxHeartbeats 400000 in
theorem isState_any (n : Int) (w : World) : Calls Try.prog 110 #[.int .i64 n] w fun e w' => e = .returned (.bool (rngB n (0) (5))) ∧ w = w' := by
  by_cases h1 : (0) ≤ n
  · by_cases h2 : n ≤ (5)
    · rw [rngB_yes h1 h2]
      go_enter Try.func110, Try.ntmps110
      go_wp2
      go_ret
      exact ⟨rfl, rfl⟩
    · rw [rngB_hi (by omega)]
      have q2 : decide (n ≤ (5)) = false := decide_eq_false h2
      clear h2
      go_enter Try.func110, Try.ntmps110
      go_wp2
      go_ret
      exact ⟨rfl, rfl⟩
  · rw [rngB_lo (by omega)]
    have q2 : decide ((0) ≤ n) = false := decide_eq_false h1
    clear h1
    go_enter Try.func110, Try.ntmps110
    go_wp2
    go_ret
    exact ⟨rfl, rfl⟩
set_option maxHeartbeats 400000 in
theorem isSetting_any (n : Int) (w : World) : Calls Try.prog 111 #[.int .i64 n] w fun e w' => e = .returned (.bool (rngB n (0) (32767))) ∧ w = w' := by
  by_cases h1 : (0) ≤ n
  · by_cases h2 : n ≤ (32767)
    · rw [rngB_yes h1 h2]
      go_enter Try.func111, Try.ntmps111
      go_wp2
      go_ret
      exact ⟨rfl, rfl⟩
    · rw [rngB_hi (by omega)]
      have q2 : decide (n ≤ (32767)) = false := decide_eq_false h2
      clear h2
      go_enter Try.func111, Try.ntmps111
      go_wp2
      go_ret
      exact ⟨rfl, rfl⟩
  · rw [rngB_lo (by omega)]
    have q2 : decide ((0) ≤ n) = false := decide_eq_false h1
    clear h1
    go_enter Try.func111, Try.ntmps111
    go_wp2
    go_ret
    exact ⟨rfl, rfl⟩
set_option maxHeartbeats 1600000 in
theorem ptSmall_any (x y : Int) (w : World) : Calls Try.prog 105 #[.agg #[.int .i64 x, .int .i64 y]] w fun e w' => e = .returned (.bool (pS (x, y))) ∧ Below w.heap.size w w' := by
  have hv : pS (x, y) = (rngB x (-1073741824) 1073741824 && rngB y (-1073741824) 1073741824) := rfl
  rw [hv]
  clear hv
  have C0 := Lib.hid (fun w => isSmall_any x w)
  have C1 := Lib.hid (fun w => isSmall_any y w)
  generalize rngB x (-1073741824) 1073741824 = v0 at C0 ⊢
  generalize rngB y (-1073741824) 1073741824 = v1 at C1 ⊢
  cases v0
  case false =>
    go_enter Try.func105, Try.ntmps105
    go_wp2_with (go_at_call 107; (with_reducible refine (C0.out _).mono ?_); rintro e w1 ⟨rfl, rfl⟩)
    go_ret
    exact ⟨rfl, by repeat' (first | with_reducible assumption | with_reducible exact Below.refl _ _ | (with_reducible refine Below.setCell ?_ ?_ _) | (with_reducible refine Below.alloc ?_ ?_ _) | (with_reducible refine Below.drew ?_) | (with_reducible refine below_dr ?_ _) | (with_reducible refine Below.trans ?_ (Below.mono (by with_reducible assumption) ?_)) | omega | (simp; done) | (simp; omega))⟩
  case true =>
    go_enter Try.func105, Try.ntmps105
    go_wp2_with (go_at_call 107; first | ((with_reducible refine (C0.out _).mono ?_); rintro e w1 ⟨rfl, rfl⟩) | ((with_reducible refine (C1.out _).mono ?_); rintro e w1 ⟨rfl, rfl⟩))
    go_ret
    exact ⟨ret_bool (by simp), by repeat' (first | with_reducible assumption | with_reducible exact Below.refl _ _ | (with_reducible refine Below.setCell ?_ ?_ _) | (with_reducible refine Below.alloc ?_ ?_ _) | (with_reducible refine Below.drew ?_) | (with_reducible refine below_dr ?_ _) | (with_reducible refine Below.trans ?_ (Below.mono (by with_reducible assumption) ?_)) | omega | (simp; done) | (simp; omega))⟩
set_option maxHeartbeats 1600000 in
theorem areAll1_ptsSmall  (x0 : Int) (x1 : Int) (p : DPt → Bool) (Bh : Nat) (w : World)  (b0 : w.cell? ⟨Bh, 0, none⟩ = some (.func (.func 105) #[] #[])) (hh : Bh < w.heap.size) (hC : ∀ (w1 : World), Below w.heap.size w w1 → Calls Try.prog 105 #[.agg #[.int .i64 x0, .int .i64 x1]] w1 fun e w2 => e = .returned (.bool (p (x0, x1))) ∧ Below w1.heap.size w1 w2) :
    Calls Try.prog 151 #[.agg #[.int .i64 x0, .int .i64 x1], .pointer (some ⟨Bh, 0, none⟩)] w fun e w' => e = .returned (.bool (!(p (x0, x1)))) ∧ Below w.heap.size w w' := by
  have N := Lib.hid hC
  clear hC
  generalize p (x0, x1) = v at *
  go_enter Try.func151, Try.ntmps151
  go_wp2_with fail
  refine (N.out _ (by repeat' (first | with_reducible assumption | with_reducible exact Below.refl _ _ | (with_reducible refine Below.setCell ?_ ?_ _) | (with_reducible refine Below.alloc ?_ ?_ _) | (with_reducible refine Below.drew ?_) | (with_reducible refine below_dr ?_ _) | (with_reducible refine Below.trans ?_ (Below.mono (by with_reducible assumption) ?_)) | omega | (simp; done) | (simp; omega)))).mono ?_
  rintro e w1 ⟨rfl, hb1⟩
  go_wp2_with fail
  go_ret
  exact ⟨rfl, by repeat' (first | with_reducible assumption | with_reducible exact Below.refl _ _ | (with_reducible refine Below.setCell ?_ ?_ _) | (with_reducible refine Below.alloc ?_ ?_ _) | (with_reducible refine Below.drew ?_) | (with_reducible refine below_dr ?_ _) | (with_reducible refine Below.trans ?_ (Below.mono (by with_reducible assumption) ?_)) | omega | (simp; done) | (simp; omega))⟩
set_option maxHeartbeats 3200000 in
theorem indexFunc_ptsSmall  (l : List DPt) (A : Option Addr) (c : Nat) (p : DPt → Bool) (Bh : Nat) (w : World) (hl : l.length ≤ 1048576) (r : Row RvPt 2 w w.heap.size A l) (b0 : w.cell? ⟨Bh, 0, none⟩ = some (.func (.func 105) #[] #[])) (hh : Bh < w.heap.size) (hC : ∀ (w1 : World), Below w.heap.size w w1 → ∀ (k : Nat) (x0 : Int) (x1 : Int), l[k]? = some (x0, x1) → Calls Try.prog 105 #[.agg #[.int .i64 x0, .int .i64 x1]] w1 fun e w2 => e = .returned (.bool (p (x0, x1))) ∧ Below w1.heap.size w1 w2) :
    Calls Try.prog 175 #[.slice A l.length c, .func (.func 151) #[] #[.pointer (some ⟨Bh, 0, none⟩)]] w fun e w' => (∃ i : Int, e = .returned (.int .i64 i) ∧ decide (0 ≤ i) = !(l.all p)) ∧ Below w.heap.size w w' := by
  have N := Lib.hid hC
  clear hC
  have RA := Lib.hid r
  have B0 := Lib.hid b0
  clear r b0
  obtain ⟨n, hn⟩ : ∃ n, n = l.length := ⟨_, rfl⟩
  rw [← hn] at hl ⊢
  have HN := Lib.hid hn
  clear hn
  go_enter Try.func175, Try.ntmps175
  go_wp2
  go_loopw [5, 8] (fun u i wr => ∃ k : Nat, k ≤ n ∧ i = .int .i64 k ∧ alU p l k ∧ Below w.heap.size w wr) (fun u i _ => n - (intOf i).toNat)
  case atStart => exact ⟨0, Nat.zero_le _, rfl, alU_zero, Below.refl _ _⟩
  case round =>
    obtain ⟨k, hk, rfl, hyes, hbl⟩ := hrel
    have HY := Lib.hid hyes
    clear hyes
    have hzw := hbl.size
    by_cases hlt : k < n
    case pos =>
      obtain ⟨⟨x0, x1⟩, ha⟩ : ∃ a, l[k]? = some a := ⟨l[k]'(by have := HN.out; omega), List.getElem?_eq_getElem (by have := HN.out; omega)⟩
      obtain ⟨g, o, rowc, rfl, hg, hRc, hcc⟩ := (Row.carry (w' := wr) RA.out hbl (Nat.le_refl _)).elem ha
      obtain rfl := hRc
      have c0 : wr.cell? ⟨g, o + k * 2, none⟩ = some (.int .i64 x0) := hcc 0 _ rfl
      have c1 : wr.cell? ⟨g, o + k * 2 + 1, none⟩ = some (.int .i64 x1) := hcc 1 _ rfl
      clear hcc
      have HA := Lib.hid ha
      clear ha
      have hgw : g < wr.heap.size := by omega
      have hki : (k : Int) < (n : Int) := by omega
      have CC := areAll1_ptsSmall  x0 x1 p Bh wr  ((hbl.cell (p := ⟨Bh, 0, none⟩) hh).trans B0.out) (by omega) (fun w1 hb1  => N.out w1 (by repeat' (first | with_reducible assumption | with_reducible exact Below.refl _ _ | (with_reducible refine Below.setCell ?_ ?_ _) | (with_reducible refine Below.alloc ?_ ?_ _) | (with_reducible refine Below.drew ?_) | (with_reducible refine below_dr ?_ _) | (with_reducible refine Below.trans ?_ (Below.mono (by with_reducible assumption) ?_)) | omega | (simp; done) | (simp; omega))) k x0 x1 HA.out )
      rcases hv : p (x0, x1) with _ | _
      case false =>
        have HV := Lib.hid hv
        rw [hv] at CC
        have C := Lib.hid CC
        clear hv CC
        go_wp2_with fail
        refine C.out.mono ?_
        rintro e w1 ⟨rfl, hb1⟩
        go_wp2
        go_ret
        exact ⟨⟨_, rfl, by rw [all_no HA.out HV.out]; simp⟩, by repeat' (first | with_reducible assumption | with_reducible exact Below.refl _ _ | (with_reducible refine Below.setCell ?_ ?_ _) | (with_reducible refine Below.alloc ?_ ?_ _) | (with_reducible refine Below.drew ?_) | (with_reducible refine below_dr ?_ _) | (with_reducible refine Below.trans ?_ (Below.mono (by with_reducible assumption) ?_)) | omega | (simp; done) | (simp; omega))⟩
      case true =>
        have HV := Lib.hid hv
        rw [hv] at CC
        have C := Lib.hid CC
        clear hv CC
        go_wp2_with fail
        refine C.out.mono ?_
        rintro e w1 ⟨rfl, hb1⟩
        go_wp2
        go_roundw
        case rel => exact ⟨k + 1, by omega, by go_num, alU_succ HY.out HA.out HV.out, by repeat' (first | with_reducible assumption | with_reducible exact Below.refl _ _ | (with_reducible refine Below.setCell ?_ ?_ _) | (with_reducible refine Below.alloc ?_ ?_ _) | (with_reducible refine Below.drew ?_) | (with_reducible refine below_dr ?_ _) | (with_reducible refine Below.trans ?_ (Below.mono (by with_reducible assumption) ?_)) | omega | (simp; done) | (simp; omega))⟩
        case measure => simp [intOf]; omega
    case neg =>
      obtain rfl : k = n := by omega
      go_wp2
      go_ret
      exact ⟨⟨_, rfl, by rw [all_yes (by rw [← HN.out]; exact HY.out)]; rfl⟩, hbl⟩
set_option maxHeartbeats 1600000 in
theorem containsFunc_ptsSmall  (l : List DPt) (A : Option Addr) (c : Nat) (p : DPt → Bool) (Bh : Nat) (w : World) (hl : l.length ≤ 1048576) (r : Row RvPt 2 w w.heap.size A l) (b0 : w.cell? ⟨Bh, 0, none⟩ = some (.func (.func 105) #[] #[])) (hh : Bh < w.heap.size) (hC : ∀ (w1 : World), Below w.heap.size w w1 → ∀ (k : Nat) (x0 : Int) (x1 : Int), l[k]? = some (x0, x1) → Calls Try.prog 105 #[.agg #[.int .i64 x0, .int .i64 x1]] w1 fun e w2 => e = .returned (.bool (p (x0, x1))) ∧ Below w1.heap.size w1 w2) :
    Calls Try.prog 150 #[.slice A l.length c, .func (.func 151) #[] #[.pointer (some ⟨Bh, 0, none⟩)]] w fun e w' => e = .returned (.bool (!(l.all p))) ∧ Below w.heap.size w w' := by
  have N := Lib.hid (indexFunc_ptsSmall  l A c p Bh w hl r b0 hh hC)
  clear hC b0 r hl
  generalize l.length = n at *
  generalize l.all p = v at *
  go_enter Try.func150, Try.ntmps150
  go_wp2_with fail
  refine N.out.mono ?_
  rintro e w1 ⟨⟨i, rfl, hi⟩, hb1⟩
  go_wp2
  go_ret
  exact ⟨rfl, hb1⟩
set_option maxHeartbeats 1600000 in
theorem areAll_ptsSmall  (l : List DPt) (A : Option Addr) (c : Nat) (p : DPt → Bool) (w : World) (hl : l.length ≤ 1048576) (r : Row RvPt 2 w w.heap.size A l) (hC : ∀ (w1 : World), Below w.heap.size w w1 → ∀ (k : Nat) (x0 : Int) (x1 : Int), l[k]? = some (x0, x1) → Calls Try.prog 105 #[.agg #[.int .i64 x0, .int .i64 x1]] w1 fun e w2 => e = .returned (.bool (p (x0, x1))) ∧ Below w1.heap.size w1 w2) :
    Calls Try.prog 104 #[.slice A l.length c, .func (.func 105) #[] #[]] w fun e w' => e = .returned (.bool (l.all p)) ∧ Below w.heap.size w w' := by
  have N := Lib.hid (fun (w' : World) (hb : Below w.heap.size w w') r b0 hh => containsFunc_ptsSmall  l A c p w.heap.size w' hl r b0 hh (fun w1 h1 => hC w1 (hb.trans (Below.mono h1 hb.size))))
  clear hC
  have RA := Lib.hid r
  clear r hl
  generalize l.length = n at *
  generalize l.all p = v at *
  go_enter Try.func104, Try.ntmps104
  go_wp2_with fail
  refine (N.out _ (by repeat' (first | with_reducible assumption | with_reducible exact Below.refl _ _ | (with_reducible refine Below.setCell ?_ ?_ _) | (with_reducible refine Below.alloc ?_ ?_ _) | (with_reducible refine Below.drew ?_) | (with_reducible refine below_dr ?_ _) | (with_reducible refine Below.trans ?_ (Below.mono (by with_reducible assumption) ?_)) | omega | (simp; done) | (simp; omega))) ((RA.out.alloc (Nat.le_refl _) _).more (by simp)) (by simp [go_sem]) (by simp)).mono ?_
  rintro e w1 ⟨rfl, hb1⟩
  go_wp2
  go_ret
  exact ⟨by simp, by repeat' (first | with_reducible assumption | with_reducible exact Below.refl _ _ | (with_reducible refine Below.setCell ?_ ?_ _) | (with_reducible refine Below.alloc ?_ ?_ _) | (with_reducible refine Below.drew ?_) | (with_reducible refine below_dr ?_ _) | (with_reducible refine Below.trans ?_ (Below.mono (by with_reducible assumption) ?_)) | omega | (simp; done) | (simp; omega))⟩
set_option maxHeartbeats 1600000 in
theorem areAll1_numsSmall  (x0 : Int) (p : DInt64 → Bool) (Bh : Nat) (w : World)  (b0 : w.cell? ⟨Bh, 0, none⟩ = some (.func (.func 107) #[] #[])) (hh : Bh < w.heap.size) (hC : ∀ (w1 : World), Below w.heap.size w w1 → Calls Try.prog 107 #[.int .i64 x0] w1 fun e w2 => e = .returned (.bool (p x0)) ∧ Below w1.heap.size w1 w2) :
    Calls Try.prog 153 #[.int .i64 x0, .pointer (some ⟨Bh, 0, none⟩)] w fun e w' => e = .returned (.bool (!(p x0))) ∧ Below w.heap.size w w' := by
  have N := Lib.hid hC
  clear hC
  generalize p x0 = v at *
  go_enter Try.func153, Try.ntmps153
  go_wp2_with fail
  refine (N.out _ (by repeat' (first | with_reducible assumption | with_reducible exact Below.refl _ _ | (with_reducible refine Below.setCell ?_ ?_ _) | (with_reducible refine Below.alloc ?_ ?_ _) | (with_reducible refine Below.drew ?_) | (with_reducible refine below_dr ?_ _) | (with_reducible refine Below.trans ?_ (Below.mono (by with_reducible assumption) ?_)) | omega | (simp; done) | (simp; omega)))).mono ?_
  rintro e w1 ⟨rfl, hb1⟩
  go_wp2_with fail
  go_ret
  exact ⟨rfl, by repeat' (first | with_reducible assumption | with_reducible exact Below.refl _ _ | (with_reducible refine Below.setCell ?_ ?_ _) | (with_reducible refine Below.alloc ?_ ?_ _) | (with_reducible refine Below.drew ?_) | (with_reducible refine below_dr ?_ _) | (with_reducible refine Below.trans ?_ (Below.mono (by with_reducible assumption) ?_)) | omega | (simp; done) | (simp; omega))⟩
set_option maxHeartbeats 3200000 in
theorem indexFunc_numsSmall  (l : List DInt64) (A : Option Addr) (c : Nat) (p : DInt64 → Bool) (Bh : Nat) (w : World) (hl : l.length ≤ 1048576) (r : Row RvInt64 1 w w.heap.size A l) (b0 : w.cell? ⟨Bh, 0, none⟩ = some (.func (.func 107) #[] #[])) (hh : Bh < w.heap.size) (hC : ∀ (w1 : World), Below w.heap.size w w1 → ∀ (k : Nat) (x0 : Int), l[k]? = some x0 → Calls Try.prog 107 #[.int .i64 x0] w1 fun e w2 => e = .returned (.bool (p x0)) ∧ Below w1.heap.size w1 w2) :
    Calls Try.prog 176 #[.slice A l.length c, .func (.func 153) #[] #[.pointer (some ⟨Bh, 0, none⟩)]] w fun e w' => (∃ i : Int, e = .returned (.int .i64 i) ∧ decide (0 ≤ i) = !(l.all p)) ∧ Below w.heap.size w w' := by
  have N := Lib.hid hC
  clear hC
  have RA := Lib.hid r
  have B0 := Lib.hid b0
  clear r b0
  obtain ⟨n, hn⟩ : ∃ n, n = l.length := ⟨_, rfl⟩
  rw [← hn] at hl ⊢
  have HN := Lib.hid hn
  clear hn
  go_enter Try.func176, Try.ntmps176
  go_wp2
  go_loopw [5, 8] (fun u i wr => ∃ k : Nat, k ≤ n ∧ i = .int .i64 k ∧ alU p l k ∧ Below w.heap.size w wr) (fun u i _ => n - (intOf i).toNat)
  case atStart => exact ⟨0, Nat.zero_le _, rfl, alU_zero, Below.refl _ _⟩
  case round =>
    obtain ⟨k, hk, rfl, hyes, hbl⟩ := hrel
    have HY := Lib.hid hyes
    clear hyes
    have hzw := hbl.size
    by_cases hlt : k < n
    case pos =>
      obtain ⟨x0, ha⟩ : ∃ a, l[k]? = some a := ⟨l[k]'(by have := HN.out; omega), List.getElem?_eq_getElem (by have := HN.out; omega)⟩
      obtain ⟨g, o, rowc, rfl, hg, hRc, hcc⟩ := (Row.carry (w' := wr) RA.out hbl (Nat.le_refl _)).elem ha
      obtain rfl := hRc
      have c0 : wr.cell? ⟨g, o + k, none⟩ = some (.int .i64 x0) := by have h := hcc 0 _ rfl; rw [Nat.mul_one] at h; exact h
      clear hcc
      have HA := Lib.hid ha
      clear ha
      have hgw : g < wr.heap.size := by omega
      have hki : (k : Int) < (n : Int) := by omega
      have CC := areAll1_numsSmall  x0 p Bh wr  ((hbl.cell (p := ⟨Bh, 0, none⟩) hh).trans B0.out) (by omega) (fun w1 hb1  => N.out w1 (by repeat' (first | with_reducible assumption | with_reducible exact Below.refl _ _ | (with_reducible refine Below.setCell ?_ ?_ _) | (with_reducible refine Below.alloc ?_ ?_ _) | (with_reducible refine Below.drew ?_) | (with_reducible refine below_dr ?_ _) | (with_reducible refine Below.trans ?_ (Below.mono (by with_reducible assumption) ?_)) | omega | (simp; done) | (simp; omega))) k x0 HA.out )
      rcases hv : p x0 with _ | _
      case false =>
        have HV := Lib.hid hv
        rw [hv] at CC
        have C := Lib.hid CC
        clear hv CC
        go_wp2_with fail
        refine C.out.mono ?_
        rintro e w1 ⟨rfl, hb1⟩
        go_wp2
        go_ret
        exact ⟨⟨_, rfl, by rw [all_no HA.out HV.out]; simp⟩, by repeat' (first | with_reducible assumption | with_reducible exact Below.refl _ _ | (with_reducible refine Below.setCell ?_ ?_ _) | (with_reducible refine Below.alloc ?_ ?_ _) | (with_reducible refine Below.drew ?_) | (with_reducible refine below_dr ?_ _) | (with_reducible refine Below.trans ?_ (Below.mono (by with_reducible assumption) ?_)) | omega | (simp; done) | (simp; omega))⟩
      case true =>
        have HV := Lib.hid hv
        rw [hv] at CC
        have C := Lib.hid CC
        clear hv CC
        go_wp2_with fail
        refine C.out.mono ?_
        rintro e w1 ⟨rfl, hb1⟩
        go_wp2
        go_roundw
        case rel => exact ⟨k + 1, by omega, by go_num, alU_succ HY.out HA.out HV.out, by repeat' (first | with_reducible assumption | with_reducible exact Below.refl _ _ | (with_reducible refine Below.setCell ?_ ?_ _) | (with_reducible refine Below.alloc ?_ ?_ _) | (with_reducible refine Below.drew ?_) | (with_reducible refine below_dr ?_ _) | (with_reducible refine Below.trans ?_ (Below.mono (by with_reducible assumption) ?_)) | omega | (simp; done) | (simp; omega))⟩
        case measure => simp [intOf]; omega
    case neg =>
      obtain rfl : k = n := by omega
      go_wp2
      go_ret
      exact ⟨⟨_, rfl, by rw [all_yes (by rw [← HN.out]; exact HY.out)]; rfl⟩, hbl⟩
set_option maxHeartbeats 1600000 in
theorem containsFunc_numsSmall  (l : List DInt64) (A : Option Addr) (c : Nat) (p : DInt64 → Bool) (Bh : Nat) (w : World) (hl : l.length ≤ 1048576) (r : Row RvInt64 1 w w.heap.size A l) (b0 : w.cell? ⟨Bh, 0, none⟩ = some (.func (.func 107) #[] #[])) (hh : Bh < w.heap.size) (hC : ∀ (w1 : World), Below w.heap.size w w1 → ∀ (k : Nat) (x0 : Int), l[k]? = some x0 → Calls Try.prog 107 #[.int .i64 x0] w1 fun e w2 => e = .returned (.bool (p x0)) ∧ Below w1.heap.size w1 w2) :
    Calls Try.prog 152 #[.slice A l.length c, .func (.func 153) #[] #[.pointer (some ⟨Bh, 0, none⟩)]] w fun e w' => e = .returned (.bool (!(l.all p))) ∧ Below w.heap.size w w' := by
  have N := Lib.hid (indexFunc_numsSmall  l A c p Bh w hl r b0 hh hC)
  clear hC b0 r hl
  generalize l.length = n at *
  generalize l.all p = v at *
  go_enter Try.func152, Try.ntmps152
  go_wp2_with fail
  refine N.out.mono ?_
  rintro e w1 ⟨⟨i, rfl, hi⟩, hb1⟩
  go_wp2
  go_ret
  exact ⟨rfl, hb1⟩
set_option maxHeartbeats 1600000 in
theorem areAll_numsSmall  (l : List DInt64) (A : Option Addr) (c : Nat) (p : DInt64 → Bool) (w : World) (hl : l.length ≤ 1048576) (r : Row RvInt64 1 w w.heap.size A l) (hC : ∀ (w1 : World), Below w.heap.size w w1 → ∀ (k : Nat) (x0 : Int), l[k]? = some x0 → Calls Try.prog 107 #[.int .i64 x0] w1 fun e w2 => e = .returned (.bool (p x0)) ∧ Below w1.heap.size w1 w2) :
    Calls Try.prog 106 #[.slice A l.length c, .func (.func 107) #[] #[]] w fun e w' => e = .returned (.bool (l.all p)) ∧ Below w.heap.size w w' := by
  have N := Lib.hid (fun (w' : World) (hb : Below w.heap.size w w') r b0 hh => containsFunc_numsSmall  l A c p w.heap.size w' hl r b0 hh (fun w1 h1 => hC w1 (hb.trans (Below.mono h1 hb.size))))
  clear hC
  have RA := Lib.hid r
  clear r hl
  generalize l.length = n at *
  generalize l.all p = v at *
  go_enter Try.func106, Try.ntmps106
  go_wp2_with fail
  refine (N.out _ (by repeat' (first | with_reducible assumption | with_reducible exact Below.refl _ _ | (with_reducible refine Below.setCell ?_ ?_ _) | (with_reducible refine Below.alloc ?_ ?_ _) | (with_reducible refine Below.drew ?_) | (with_reducible refine below_dr ?_ _) | (with_reducible refine Below.trans ?_ (Below.mono (by with_reducible assumption) ?_)) | omega | (simp; done) | (simp; omega))) ((RA.out.alloc (Nat.le_refl _) _).more (by simp)) (by simp [go_sem]) (by simp)).mono ?_
  rintro e w1 ⟨rfl, hb1⟩
  go_wp2
  go_ret
  exact ⟨by simp, by repeat' (first | with_reducible assumption | with_reducible exact Below.refl _ _ | (with_reducible refine Below.setCell ?_ ?_ _) | (with_reducible refine Below.alloc ?_ ?_ _) | (with_reducible refine Below.drew ?_) | (with_reducible refine below_dr ?_ _) | (with_reducible refine Below.trans ?_ (Below.mono (by with_reducible assumption) ?_)) | omega | (simp; done) | (simp; omega))⟩
set_option maxHeartbeats 1600000 in
theorem areAll1_inPoints (Bs : Nat) (x0 : Int) (p : DInt64 → Bool) (Bh : Nat) (w : World)  (b0 : w.cell? ⟨Bh, 0, none⟩ = some (.func (.func 154) #[] #[.pointer (some ⟨Bs, 0, none⟩)])) (hh : Bh < w.heap.size) (hC : ∀ (w1 : World), Below w.heap.size w w1 → Calls Try.prog 154 #[.int .i64 x0, .pointer (some ⟨Bs, 0, none⟩)] w1 fun e w2 => e = .returned (.bool (p x0)) ∧ Below w1.heap.size w1 w2) :
    Calls Try.prog 153 #[.int .i64 x0, .pointer (some ⟨Bh, 0, none⟩)] w fun e w' => e = .returned (.bool (!(p x0))) ∧ Below w.heap.size w w' := by
  have N := Lib.hid hC
  clear hC
  generalize p x0 = v at *
  go_enter Try.func153, Try.ntmps153
  go_wp2_with fail
  refine (N.out _ (by repeat' (first | with_reducible assumption | with_reducible exact Below.refl _ _ | (with_reducible refine Below.setCell ?_ ?_ _) | (with_reducible refine Below.alloc ?_ ?_ _) | (with_reducible refine Below.drew ?_) | (with_reducible refine below_dr ?_ _) | (with_reducible refine Below.trans ?_ (Below.mono (by with_reducible assumption) ?_)) | omega | (simp; done) | (simp; omega)))).mono ?_
  rintro e w1 ⟨rfl, hb1⟩
  go_wp2_with fail
  go_ret
  exact ⟨rfl, by repeat' (first | with_reducible assumption | with_reducible exact Below.refl _ _ | (with_reducible refine Below.setCell ?_ ?_ _) | (with_reducible refine Below.alloc ?_ ?_ _) | (with_reducible refine Below.drew ?_) | (with_reducible refine below_dr ?_ _) | (with_reducible refine Below.trans ?_ (Below.mono (by with_reducible assumption) ?_)) | omega | (simp; done) | (simp; omega))⟩
set_option maxHeartbeats 3200000 in
theorem indexFunc_inPoints (Bs : Nat) (l : List DInt64) (A : Option Addr) (c : Nat) (p : DInt64 → Bool) (Bh : Nat) (w : World) (hl : l.length ≤ 1048576) (r : Row RvInt64 1 w w.heap.size A l) (b0 : w.cell? ⟨Bh, 0, none⟩ = some (.func (.func 154) #[] #[.pointer (some ⟨Bs, 0, none⟩)])) (hh : Bh < w.heap.size) (hC : ∀ (w1 : World), Below w.heap.size w w1 → ∀ (k : Nat) (x0 : Int), l[k]? = some x0 → Calls Try.prog 154 #[.int .i64 x0, .pointer (some ⟨Bs, 0, none⟩)] w1 fun e w2 => e = .returned (.bool (p x0)) ∧ Below w1.heap.size w1 w2) :
    Calls Try.prog 176 #[.slice A l.length c, .func (.func 153) #[] #[.pointer (some ⟨Bh, 0, none⟩)]] w fun e w' => (∃ i : Int, e = .returned (.int .i64 i) ∧ decide (0 ≤ i) = !(l.all p)) ∧ Below w.heap.size w w' := by
  have N := Lib.hid hC
  clear hC
  have RA := Lib.hid r
  have B0 := Lib.hid b0
  clear r b0
  obtain ⟨n, hn⟩ : ∃ n, n = l.length := ⟨_, rfl⟩
  rw [← hn] at hl ⊢
  have HN := Lib.hid hn
  clear hn
  go_enter Try.func176, Try.ntmps176
  go_wp2
  go_loopw [5, 8] (fun u i wr => ∃ k : Nat, k ≤ n ∧ i = .int .i64 k ∧ alU p l k ∧ Below w.heap.size w wr) (fun u i _ => n - (intOf i).toNat)
  case atStart => exact ⟨0, Nat.zero_le _, rfl, alU_zero, Below.refl _ _⟩
  case round =>
    obtain ⟨k, hk, rfl, hyes, hbl⟩ := hrel
    have HY := Lib.hid hyes
    clear hyes
    have hzw := hbl.size
    by_cases hlt : k < n
    case pos =>
      obtain ⟨x0, ha⟩ : ∃ a, l[k]? = some a := ⟨l[k]'(by have := HN.out; omega), List.getElem?_eq_getElem (by have := HN.out; omega)⟩
      obtain ⟨g, o, rowc, rfl, hg, hRc, hcc⟩ := (Row.carry (w' := wr) RA.out hbl (Nat.le_refl _)).elem ha
      obtain rfl := hRc
      have c0 : wr.cell? ⟨g, o + k, none⟩ = some (.int .i64 x0) := by have h := hcc 0 _ rfl; rw [Nat.mul_one] at h; exact h
      clear hcc
      have HA := Lib.hid ha
      clear ha
      have hgw : g < wr.heap.size := by omega
      have hki : (k : Int) < (n : Int) := by omega
      have CC := areAll1_inPoints Bs x0 p Bh wr  ((hbl.cell (p := ⟨Bh, 0, none⟩) hh).trans B0.out) (by omega) (fun w1 hb1  => N.out w1 (by repeat' (first | with_reducible assumption | with_reducible exact Below.refl _ _ | (with_reducible refine Below.setCell ?_ ?_ _) | (with_reducible refine Below.alloc ?_ ?_ _) | (with_reducible refine Below.drew ?_) | (with_reducible refine below_dr ?_ _) | (with_reducible refine Below.trans ?_ (Below.mono (by with_reducible assumption) ?_)) | omega | (simp; done) | (simp; omega))) k x0 HA.out )
      rcases hv : p x0 with _ | _
      case false =>
        have HV := Lib.hid hv
        rw [hv] at CC
        have C := Lib.hid CC
        clear hv CC
        go_wp2_with fail
        refine C.out.mono ?_
        rintro e w1 ⟨rfl, hb1⟩
        go_wp2
        go_ret
        exact ⟨⟨_, rfl, by rw [all_no HA.out HV.out]; simp⟩, by repeat' (first | with_reducible assumption | with_reducible exact Below.refl _ _ | (with_reducible refine Below.setCell ?_ ?_ _) | (with_reducible refine Below.alloc ?_ ?_ _) | (with_reducible refine Below.drew ?_) | (with_reducible refine below_dr ?_ _) | (with_reducible refine Below.trans ?_ (Below.mono (by with_reducible assumption) ?_)) | omega | (simp; done) | (simp; omega))⟩
      case true =>
        have HV := Lib.hid hv
        rw [hv] at CC
        have C := Lib.hid CC
        clear hv CC
        go_wp2_with fail
        refine C.out.mono ?_
        rintro e w1 ⟨rfl, hb1⟩
        go_wp2
        go_roundw
        case rel => exact ⟨k + 1, by omega, by go_num, alU_succ HY.out HA.out HV.out, by repeat' (first | with_reducible assumption | with_reducible exact Below.refl _ _ | (with_reducible refine Below.setCell ?_ ?_ _) | (with_reducible refine Below.alloc ?_ ?_ _) | (with_reducible refine Below.drew ?_) | (with_reducible refine below_dr ?_ _) | (with_reducible refine Below.trans ?_ (Below.mono (by with_reducible assumption) ?_)) | omega | (simp; done) | (simp; omega))⟩
        case measure => simp [intOf]; omega
    case neg =>
      obtain rfl : k = n := by omega
      go_wp2
      go_ret
      exact ⟨⟨_, rfl, by rw [all_yes (by rw [← HN.out]; exact HY.out)]; rfl⟩, hbl⟩
set_option maxHeartbeats 1600000 in
theorem containsFunc_inPoints (Bs : Nat) (l : List DInt64) (A : Option Addr) (c : Nat) (p : DInt64 → Bool) (Bh : Nat) (w : World) (hl : l.length ≤ 1048576) (r : Row RvInt64 1 w w.heap.size A l) (b0 : w.cell? ⟨Bh, 0, none⟩ = some (.func (.func 154) #[] #[.pointer (some ⟨Bs, 0, none⟩)])) (hh : Bh < w.heap.size) (hC : ∀ (w1 : World), Below w.heap.size w w1 → ∀ (k : Nat) (x0 : Int), l[k]? = some x0 → Calls Try.prog 154 #[.int .i64 x0, .pointer (some ⟨Bs, 0, none⟩)] w1 fun e w2 => e = .returned (.bool (p x0)) ∧ Below w1.heap.size w1 w2) :
    Calls Try.prog 152 #[.slice A l.length c, .func (.func 153) #[] #[.pointer (some ⟨Bh, 0, none⟩)]] w fun e w' => e = .returned (.bool (!(l.all p))) ∧ Below w.heap.size w w' := by
  have N := Lib.hid (indexFunc_inPoints Bs l A c p Bh w hl r b0 hh hC)
  clear hC b0 r hl
  generalize l.length = n at *
  generalize l.all p = v at *
  go_enter Try.func152, Try.ntmps152
  go_wp2_with fail
  refine N.out.mono ?_
  rintro e w1 ⟨⟨i, rfl, hi⟩, hb1⟩
  go_wp2
  go_ret
  exact ⟨rfl, hb1⟩
set_option maxHeartbeats 1600000 in
theorem areAll_inPoints (Bs : Nat) (l : List DInt64) (A : Option Addr) (c : Nat) (p : DInt64 → Bool) (w : World) (hl : l.length ≤ 1048576) (r : Row RvInt64 1 w w.heap.size A l) (hC : ∀ (w1 : World), Below w.heap.size w w1 → ∀ (k : Nat) (x0 : Int), l[k]? = some x0 → Calls Try.prog 154 #[.int .i64 x0, .pointer (some ⟨Bs, 0, none⟩)] w1 fun e w2 => e = .returned (.bool (p x0)) ∧ Below w1.heap.size w1 w2) :
    Calls Try.prog 106 #[.slice A l.length c, .func (.func 154) #[] #[.pointer (some ⟨Bs, 0, none⟩)]] w fun e w' => e = .returned (.bool (l.all p)) ∧ Below w.heap.size w w' := by
  have N := Lib.hid (fun (w' : World) (hb : Below w.heap.size w w') r b0 hh => containsFunc_inPoints Bs l A c p w.heap.size w' hl r b0 hh (fun w1 h1 => hC w1 (hb.trans (Below.mono h1 hb.size))))
  clear hC
  have RA := Lib.hid r
  clear r hl
  generalize l.length = n at *
  generalize l.all p = v at *
  go_enter Try.func106, Try.ntmps106
  go_wp2_with fail
  refine (N.out _ (by repeat' (first | with_reducible assumption | with_reducible exact Below.refl _ _ | (with_reducible refine Below.setCell ?_ ?_ _) | (with_reducible refine Below.alloc ?_ ?_ _) | (with_reducible refine Below.drew ?_) | (with_reducible refine below_dr ?_ _) | (with_reducible refine Below.trans ?_ (Below.mono (by with_reducible assumption) ?_)) | omega | (simp; done) | (simp; omega))) ((RA.out.alloc (Nat.le_refl _) _).more (by simp)) (by simp [go_sem]) (by simp)).mono ?_
  rintro e w1 ⟨rfl, hb1⟩
  go_wp2
  go_ret
  exact ⟨by simp, by repeat' (first | with_reducible assumption | with_reducible exact Below.refl _ _ | (with_reducible refine Below.setCell ?_ ?_ _) | (with_reducible refine Below.alloc ?_ ?_ _) | (with_reducible refine Below.drew ?_) | (with_reducible refine below_dr ?_ _) | (with_reducible refine Below.trans ?_ (Below.mono (by with_reducible assumption) ?_)) | omega | (simp; done) | (simp; omega))⟩
set_option maxHeartbeats 400000 in
theorem allPts_any (l : List DPt) (A : Option Addr) (c : Nat) (w : World) (hl : l.length ≤ 1048576) (r : Row RvPt 2 w w.heap.size A l) :
    Calls Try.prog 104 #[.slice A l.length c, .func (.func 105) #[] #[]] w fun e w' => e = .returned (.bool (l.all pS)) ∧ Below w.heap.size w w' :=
  areAll_ptsSmall l A c pS w hl r (fun w1 _ k x y _ => ptSmall_any x y w1)
set_option maxHeartbeats 400000 in
theorem allNums_any (l : List DInt64) (A : Option Addr) (c : Nat) (w : World) (hl : l.length ≤ 1048576) (r : Row RvInt64 1 w w.heap.size A l) :
    Calls Try.prog 106 #[.slice A l.length c, .func (.func 107) #[] #[]] w fun e w' => e = .returned (.bool (l.all nS)) ∧ Below w.heap.size w w' :=
  areAll_numsSmall l A c nS w hl r (fun w1 _ k x _ => (isSmall_any x w1).mono (by rintro e w2 ⟨rfl, rfl⟩; exact ⟨rfl, Below.refl _ _⟩))
set_option maxHeartbeats 1600000 in
theorem hasPoints1_any (Bs : Nat) (A : Option Addr) (n c : Nat) (x : Int) (w : World) (hb : Bs < w.heap.size) (hn : n ≤ 1048576) (s1 : w.cell? ⟨Bs, 1, none⟩ = some (.slice A n c)) :
    Calls Try.prog 154 #[.int .i64 x, .pointer (some ⟨Bs, 0, none⟩)] w fun e w' => e = .returned (.bool (rngB x 0 ((n : Int) - 1))) ∧ Below w.heap.size w w' := by
  by_cases h1 : 0 ≤ x
  · have q1 : decide (0 ≤ x) = true := decide_eq_true h1
    by_cases h2 : x < (n : Int)
    · have H := Lib.hid (rngB_yes h1 (show x ≤ (n : Int) - 1 by omega))
      have q2 : decide (x < (n : Int)) = true := decide_eq_true h2
      clear h1 h2
      go_enter Try.func154, Try.ntmps154
      go_wp2_with fail
      go_ret
      exact ⟨ret_bool H.out.symm, by repeat' (first | with_reducible assumption | with_reducible exact Below.refl _ _ | (with_reducible refine Below.setCell ?_ ?_ _) | (with_reducible refine Below.alloc ?_ ?_ _) | (with_reducible refine Below.drew ?_) | (with_reducible refine below_dr ?_ _) | (with_reducible refine Below.trans ?_ (Below.mono (by with_reducible assumption) ?_)) | omega | (simp; done) | (simp; omega))⟩
    · have H := Lib.hid (rngB_hi (x := x) (lo := 0) (show (n : Int) - 1 < x by omega))
      have q2 : decide (x < (n : Int)) = false := decide_eq_false h2
      clear h1 h2
      go_enter Try.func154, Try.ntmps154
      go_wp2_with fail
      go_ret
      exact ⟨ret_bool H.out.symm, by repeat' (first | with_reducible assumption | with_reducible exact Below.refl _ _ | (with_reducible refine Below.setCell ?_ ?_ _) | (with_reducible refine Below.alloc ?_ ?_ _) | (with_reducible refine Below.drew ?_) | (with_reducible refine below_dr ?_ _) | (with_reducible refine Below.trans ?_ (Below.mono (by with_reducible assumption) ?_)) | omega | (simp; done) | (simp; omega))⟩
  · have H := Lib.hid (rngB_lo (hi := (n : Int) - 1) (show x < 0 by omega))
    have q1 : decide (0 ≤ x) = false := decide_eq_false h1
    clear h1
    go_enter Try.func154, Try.ntmps154
    go_wp2_with fail
    go_ret
    exact ⟨ret_bool H.out.symm, by repeat' (first | with_reducible assumption | with_reducible exact Below.refl _ _ | (with_reducible refine Below.setCell ?_ ?_ _) | (with_reducible refine Below.alloc ?_ ?_ _) | (with_reducible refine Below.drew ?_) | (with_reducible refine below_dr ?_ _) | (with_reducible refine Below.trans ?_ (Below.mono (by with_reducible assumption) ?_)) | omega | (simp; done) | (simp; omega))⟩
set_option maxHeartbeats 3200000 in
theorem hasPoints_any (a0 : Int) (a1A : Option Addr) (a1c : Nat) (a1l : List DPt) (a2A : Option Addr) (a2c : Nat) (a2l : List DPt) (a3A : Option Addr) (a3c : Nat) (a3l : List DBool) (a4A : Option Addr) (a4c : Nat) (a4l : List DBool) (a5A : Option Addr) (a5c : Nat) (a5l : List DInt64) (a6A : Option Addr) (a6c : Nat) (a6l : List DInt64) (a7A : Option Addr) (a7c : Nat) (a7l : List DInt64) (a8 : Bool) (a9 : Int) (a10 : Int) (a11 : Int) (a12 : Int) (l : List DInt64) (A : Option Addr) (c : Nat) (w : World) (hn : a1l.length ≤ 1048576) (hl : l.length ≤ 1048576) (r : Row RvInt64 1 w w.heap.size A l) :
    Calls Try.prog 109 #[.agg #[.int .i64 a0, .slice a1A a1l.length a1c, .slice a2A a2l.length a2c, .slice a3A a3l.length a3c, .slice a4A a4l.length a4c, .slice a5A a5l.length a5c, .slice a6A a6l.length a6c, .slice a7A a7l.length a7c, .bool a8, .int .i64 a9, .int .i64 a10, .int .i64 a11, .int .i64 a12], .slice A l.length c] w fun e w' => e = .returned (.bool (l.all fun x : DInt64 => rngB x 0 ((a1l.length : Int) - 1))) ∧ Below w.heap.size w w' := by
  have C := Lib.hid (fun (w1 : World) (Bs : Nat) (hb : Bs < w1.heap.size) (s1 : w1.cell? ⟨Bs, 1, none⟩ = some (.slice a1A a1l.length a1c)) (r : Row RvInt64 1 w1 w1.heap.size A l) => areAll_inPoints Bs l A c (fun x : DInt64 => rngB x 0 ((a1l.length : Int) - 1)) w1 hl r (fun w2 hb2 k x _ => hasPoints1_any Bs a1A a1l.length a1c x w2 (Nat.lt_of_lt_of_le hb hb2.size) hn ((hb2.cell (p := ⟨Bs, 1, none⟩) hb).trans s1)))
  generalize (l.all fun x : DInt64 => rngB x 0 ((a1l.length : Int) - 1)) = v at C ⊢
  go_enter Try.func109, Try.ntmps109
  go_wp2_with fail
  refine (C.out _ _ (by first | (simp; done) | (simp; omega)) (by simp [go_sem]) ?_).mono ?_
  · exact (Row.carry (w' := _) r (by repeat' (first | with_reducible assumption | with_reducible exact Below.refl _ _ | (with_reducible refine Below.setCell ?_ ?_ _) | (with_reducible refine Below.alloc ?_ ?_ _) | (with_reducible refine Below.drew ?_) | (with_reducible refine below_dr ?_ _) | (with_reducible refine Below.trans ?_ (Below.mono (by with_reducible assumption) ?_)) | omega | (simp; done) | (simp; omega))) (Nat.le_refl _)).more (by first | (simp; done) | (simp; omega))
  rintro e w1 ⟨rfl, hb⟩
  go_wp2_with fail
  go_ret
  exact ⟨rfl, by repeat' (first | with_reducible assumption | with_reducible exact Below.refl _ _ | (with_reducible refine Below.setCell ?_ ?_ _) | (with_reducible refine Below.alloc ?_ ?_ _) | (with_reducible refine Below.drew ?_) | (with_reducible refine below_dr ?_ _) | (with_reducible refine Below.trans ?_ (Below.mono (by with_reducible assumption) ?_)) | omega | (simp; done) | (simp; omega))⟩
set_option maxRecDepth 100000 in
set_option maxHeartbeats 6400000 in
theorem hasEnds_any (a0 : Int) (a1A : Option Addr) (a1c : Nat) (a1l : List DPt) (a2A : Option Addr) (a2c : Nat) (a2l : List DPt) (a3A : Option Addr) (a3c : Nat) (a3l : List DBool) (a4A : Option Addr) (a4c : Nat) (a4l : List DBool) (a5A : Option Addr) (a5c : Nat) (a5l : List DInt64) (a6A : Option Addr) (a6c : Nat) (a6l : List DInt64) (a7A : Option Addr) (a7c : Nat) (a7l : List DInt64) (a8 : Bool) (a9 : Int) (a10 : Int) (a11 : Int) (a12 : Int) (w : World) (hn : a1l.length ≤ 1048576) (hl : a5l.length ≤ 1048576) (r : Row RvInt64 1 w w.heap.size a5A a5l) :
    Calls Try.prog 103 #[.agg #[.int .i64 a0, .slice a1A a1l.length a1c, .slice a2A a2l.length a2c, .slice a3A a3l.length a3c, .slice a4A a4l.length a4c, .slice a5A a5l.length a5c, .slice a6A a6l.length a6c, .slice a7A a7l.length a7c, .bool a8, .int .i64 a9, .int .i64 a10, .int .i64 a11, .int .i64 a12]] w fun e w' => e = .returned (.bool (decide (enF 0 a5l = some ((a1l.length : Int) - 2)))) ∧ Below w.heap.size w w' := by
  obtain ⟨n1, hn1⟩ : ∃ n, n = a1l.length := ⟨_, rfl⟩
  rw [← hn1] at hn ⊢
  obtain ⟨n5, hn5⟩ : ∃ n, n = a5l.length := ⟨_, rfl⟩
  rw [← hn5] at hl
  have HN5 := Lib.hid hn5
  generalize a2l.length = n2
  generalize a3l.length = n3
  generalize a4l.length = n4
  generalize a6l.length = n6
  generalize a7l.length = n7
  obtain ⟨d2, hd2⟩ : ∃ d, d = decide (enF 0 a5l = some ((n1 : Int) - 2)) := ⟨_, rfl⟩
  rw [← hd2, ← hn5]
  have HD2 := Lib.hid hd2
  clear hd2 hn1 hn5
  go_enter Try.func103, Try.ntmps103
  go_wp2_with fail
  generalize hW : (w.alloc (.cells #[.int .i64 a0, .slice a1A n1 a1c, .slice a2A n2 a2c, .slice a3A n3 a3c, .slice a4A n4 a4c, .slice a5A n5 a5c, .slice a6A n6 a6c, .slice a7A n7 a7c, .bool a8, .int .i64 a9, .int .i64 a10, .int .i64 a11, .int .i64 a12] 67)) = W0
  have r0 : Row RvInt64 1 W0 w.heap.size a5A a5l := by rw [← hW]; exact Row.carry (w' := _) r (by repeat' (first | with_reducible assumption | with_reducible exact Below.refl _ _ | (with_reducible refine Below.setCell ?_ ?_ _) | (with_reducible refine Below.alloc ?_ ?_ _) | (with_reducible refine Below.drew ?_) | (with_reducible refine below_dr ?_ _) | (with_reducible refine Below.trans ?_ (Below.mono (by with_reducible assumption) ?_)) | omega | (simp; done) | (simp; omega))) (Nat.le_refl _)
  have k1 : W0.cell? ⟨w.heap.size, 1, none⟩ = some (.slice a1A n1 a1c) := by rw [← hW]; simp [go_sem]
  have qW : w.heap.size < W0.heap.size := by rw [← hW]; simp
  have hb0 : Below w.heap.size w W0 := by rw [← hW]; repeat' (first | with_reducible assumption | with_reducible exact Below.refl _ _ | (with_reducible refine Below.setCell ?_ ?_ _) | (with_reducible refine Below.alloc ?_ ?_ _) | (with_reducible refine Below.drew ?_) | (with_reducible refine below_dr ?_ _) | (with_reducible refine Below.trans ?_ (Below.mono (by with_reducible assumption) ?_)) | omega | (simp; done) | (simp; omega))
  clear hW r
  go_loopw [3, 5, 9] (fun u z i wr => ∃ (k : Nat) (v : Int), k ≤ n5 ∧ i = .int .i64 k ∧ u = .int .i64 v ∧ enF 0 a5l = enF v (a5l.drop k) ∧ wr = W0) (fun _ _ i _ => n5 - (intOf i).toNat)
  case atStart => exact ⟨0, 0, Nat.zero_le _, rfl, rfl, rfl, rfl⟩
  case round =>
    obtain ⟨k, v, hk, rfl, rfl, he, rfl⟩ := hrel
    have HE := Lib.hid he
    clear he
    by_cases hlt : k < n5
    case pos =>
      obtain ⟨x0, ha⟩ : ∃ a, a5l[k]? = some a := ⟨a5l[k]'(by have := HN5.out; omega), List.getElem?_eq_getElem (by have := HN5.out; omega)⟩
      obtain ⟨g, o, rowc, rfl, hg, hRc, hcc⟩ := (r0).elem ha
      obtain rfl := hRc
      have c0 : wr.cell? ⟨g, o + k, none⟩ = some (.int .i64 x0) := by have h := hcc 0 _ rfl; rw [Nat.mul_one] at h; exact h
      clear hcc
      have HA := Lib.hid ha
      clear ha r0
      have hki : (k : Int) < (n5 : Int) := by omega
      have hgw : g < wr.heap.size := by omega
      by_cases hx : x0 ≤ v
      case pos =>
        have hd : decide (x0 ≤ v) = true := decide_eq_true hx
        have H := Lib.hid (show d2 = false from HD2.out.trans (by rw [enF_no HE.out HA.out hx]; rfl))
        clear hx
        go_wp2_with fail
        go_ret
        exact ⟨ret_bool H.out.symm, by repeat' (first | with_reducible assumption | with_reducible exact Below.refl _ _ | (with_reducible refine Below.setCell ?_ ?_ _) | (with_reducible refine Below.alloc ?_ ?_ _) | (with_reducible refine Below.drew ?_) | (with_reducible refine below_dr ?_ _) | (with_reducible refine Below.trans ?_ (Below.mono (by with_reducible assumption) ?_)) | omega | (simp; done) | (simp; omega))⟩
      case neg =>
        have hd : decide (x0 ≤ v) = false := decide_eq_false hx
        have H := Lib.hid (enF_yes HE.out HA.out hx)
        clear hx
        go_wp2_with fail
        go_roundw
        case rel => exact ⟨k + 1, x0, by omega, by go_num, rfl, H.out, by first | trivial | rfl⟩
        case measure => simp [intOf]; omega
    case neg =>
      obtain rfl : n5 = k := by omega
      have HV := Lib.hid (show enF 0 a5l = some v from enF_end (by rw [← HN5.out]; exact HE.out))
      clear r0
      have hw2 : IntKind.i64.wrap ((n1 : Int) - 2) = (n1 : Int) - 2 := IntWalk.i64_in _ (by omega)
      by_cases e0 : v = (n1 : Int) - 2
      case neg =>
        have t0 : (v == (n1 : Int) - 2) = false := by rw [beq_eq_false_iff_ne]; exact e0
        have H := Lib.hid (show d2 = false from HD2.out.trans (decide_eq_false (by rw [HV.out]; intro h; exact e0 (Option.some.inj h))))
        clear e0
        go_wp2_with fail
        go_ret
        exact ⟨ret_bool H.out.symm, by repeat' (first | with_reducible assumption | with_reducible exact Below.refl _ _ | (with_reducible refine Below.setCell ?_ ?_ _) | (with_reducible refine Below.alloc ?_ ?_ _) | (with_reducible refine Below.drew ?_) | (with_reducible refine below_dr ?_ _) | (with_reducible refine Below.trans ?_ (Below.mono (by with_reducible assumption) ?_)) | omega | (simp; done) | (simp; omega))⟩
      case pos =>
        have t0 : (v == (n1 : Int) - 2) = true := by rw [beq_iff_eq]; exact e0
        have H := Lib.hid (show d2 = true from HD2.out.trans (decide_eq_true (by rw [HV.out, e0])))
        clear e0
        go_wp2_with fail
        go_ret
        exact ⟨ret_bool H.out.symm, by repeat' (first | with_reducible assumption | with_reducible exact Below.refl _ _ | (with_reducible refine Below.setCell ?_ ?_ _) | (with_reducible refine Below.alloc ?_ ?_ _) | (with_reducible refine Below.drew ?_) | (with_reducible refine below_dr ?_ _) | (with_reducible refine Below.trans ?_ (Below.mono (by with_reducible assumption) ?_)) | omega | (simp; done) | (simp; omega))⟩
end Go.Proofs.Ytdikenapnncmfaa
