/- Walks: rows that are the same, on both sides; expressions that are the same. -/
import Derived.Test.YtjpadamlfhceaaaHx1
import Derived.Test.YtjpadamlfhceaaaMem
import Derived.Test.YtjpadamlfhceaaaAw
import Derived.Deep.QuietTactic
import Derived.BigQuiet
import Derived.IntWalk
namespace Go.Proofs.Ytjpadamlfhceaaa
open Go.RowKit
set_option linter.unusedVariables false
section
variable {α β : Type} [DecidableEq β] {f : α → β} {l m : List α} {k : Nat} {a b : α}
def upG (f : α → β) (l m : List α) (k : Nat) : Bool := decide ((l.take k).map f = (m.take k).map f)
def eqG (f : α → β) (l m : List α) : Bool := decide (l.map f = m.map f)
theorem upG_zero : upG f l m 0 = true := by simp [upG]
theorem upG_succ (h : upG f l m k = true) (ha : l[k]? = some a) (hb : m[k]? = some b) (he : f a = f b) : upG f l m (k + 1) = true := by
  unfold upG at *
  rw [List.take_add_one, List.take_add_one, ha, hb]
  simp only [decide_eq_true_eq] at h
  simp [h, he]
theorem eqG_len (h : ¬ l.length = m.length) : false = eqG f l m := by
  unfold eqG; symm; rw [decide_eq_false_iff_not]; intro e; apply h
  have := congrArg List.length e
  simpa using this
theorem eqG_no (ha : l[k]? = some a) (hb : m[k]? = some b) (he : ¬ f a = f b) : false = eqG f l m := by
  unfold eqG; symm; rw [decide_eq_false_iff_not]; intro e; apply he
  have := congrArg (fun z => z[k]?) e
  simp only [List.getElem?_map, ha, hb] at this
  simpa using this
theorem eqG_yes (hl : l.length = m.length) (h : upG f l m l.length = true) : true = eqG f l m := by
  unfold upG at h
  rw [List.take_length, hl, List.take_length] at h
  unfold eqG; exact h.symm
end
def kT (a : DTerm) : List UInt8 × Int × Int := (a.1.toList, a.2.1, a.2.2)
def kS (a : DString) : List UInt8 := a.toList
def kI (a : DInt64) : Int := a
theorem neq_term_yes {s s' : ByteArray} {x y x' y' : Int} (h : kT (s, x, y) = kT (s', x', y')) (w : World) : (Go.binOp BinOp.neq 66 (.agg #[.string s, .int .i64 x, .int .i64 y]) (.agg #[.string s', .int .i64 x', .int .i64 y'])).run Try.prog w = Result.ok (.bool false) w := by
  simp only [kT, Prod.mk.injEq] at h
  obtain ⟨h1, rfl, rfl⟩ := h
  simp [go_sem, h1]
theorem neq_term_no {s s' : ByteArray} {x y x' y' : Int} (h : ¬ kT (s, x, y) = kT (s', x', y')) (w : World) : (Go.binOp BinOp.neq 66 (.agg #[.string s, .int .i64 x, .int .i64 y]) (.agg #[.string s', .int .i64 x', .int .i64 y'])).run Try.prog w = Result.ok (.bool true) w := by
  simp only [kT, Prod.mk.injEq, not_and] at h
  by_cases h1 : s.toList = s'.toList
  · by_cases h2 : x = x'
    · have h3 := h h1 h2
      subst h2
      simp [go_sem, h1, h3]
    · simp [go_sem, h1, h2]
  · simp [go_sem, h1]
set_option maxHeartbeats 1600000 in
theorem slicesEqT_any (l m : List DTerm) (A A' : Option Addr) (c c' B : Nat) (w : World) (hl : l.length ≤ 1048576) (hm : m.length ≤ 1048576) (r : Row RvTerm 3 w B A l) (r' : Row RvTerm 3 w B A' m) :
    Calls Try.prog 48 #[.slice A l.length c, .slice A' m.length c'] w fun e w' => e = .returned (.bool (eqG kT l m)) ∧ ∃ q, w' = w.drewN q := by
  by_cases hln : l.length = m.length
  case pos =>
    obtain ⟨n, hn⟩ : ∃ n, n = l.length := ⟨_, rfl⟩
    have HL := Lib.hid hln
    rw [← hln, ← hn]
    rw [← hn] at hl
    have HN := Lib.hid hn
    have e0 : ((n : Int) != (n : Int)) = false := by simp
    clear hn hln hm
    go_enter Try.func48, Try.ntmps48
    go_wp2_with fail
    go_loopw [13] (fun i wr => ∃ k q : Nat, k ≤ n ∧ i = .int .i64 k ∧ upG kT l m k = true ∧ wr = w.drewN q) (fun i _ => n - (intOf i).toNat)
    case atStart => exact ⟨0, 0, Nat.zero_le _, rfl, upG_zero, rfl⟩
    case round =>
      obtain ⟨k, q, hk, rfl, hup, rfl⟩ := hrel
      have HUP := Lib.hid hup
      clear hup
      by_cases hlt : k < n
      case pos =>
        obtain ⟨⟨x0, x1, x2⟩, ha⟩ : ∃ a, l[k]? = some a := ⟨l[k]'(by have := HN.out; omega), List.getElem?_eq_getElem (by have := HN.out; omega)⟩
        obtain ⟨⟨y0, y1, y2⟩, hb⟩ : ∃ a, m[k]? = some a := ⟨m[k]'(by have := HN.out; have := HL.out; omega), List.getElem?_eq_getElem (by have := HN.out; have := HL.out; omega)⟩
        obtain ⟨g, o, row, rfl, _, rfl, hc⟩ := r.elem ha
        obtain ⟨g', o', row', rfl, _, rfl, hc'⟩ := r'.elem hb
        have c0 : w.cell? ⟨g, o + k * 3, none⟩ = some (.string x0) := hc 0 _ rfl
        have c1 : w.cell? ⟨g, o + k * 3 + 1, none⟩ = some (.int .i64 x1) := hc 1 _ rfl
        have c2 : w.cell? ⟨g, o + k * 3 + 2, none⟩ = some (.int .i64 x2) := hc 2 _ rfl
        have d0 : w.cell? ⟨g', o' + k * 3, none⟩ = some (.string y0) := hc' 0 _ rfl
        have d1 : w.cell? ⟨g', o' + k * 3 + 1, none⟩ = some (.int .i64 y1) := hc' 1 _ rfl
        have d2 : w.cell? ⟨g', o' + k * 3 + 2, none⟩ = some (.int .i64 y2) := hc' 2 _ rfl
        have HA := Lib.hid ha
        have HB := Lib.hid hb
        clear hc hc' ha hb
        clear r r'
        have hki : (k : Int) < (n : Int) := by omega
        by_cases hke : kT (x0, x1, x2) = kT (y0, y1, y2)
        case pos =>
          have e1 := fun w => neq_term_yes hke w
          have HK := Lib.hid hke
          clear hke
          go_wp2_with fail
          go_quiet (fail)
          clear e1
          go_wp2_with fail
          go_roundw
          case rel => exact ⟨k + 1, q + nq, by omega, by go_num, upG_succ HUP.out HA.out HB.out HK.out, rfl⟩
          case measure => simp [intOf]; omega
        case neg =>
          have e1 := fun w => neq_term_no hke w
          have HK := Lib.hid hke
          clear hke
          go_wp2_with fail
          go_quiet (fail)
          clear e1
          go_wp2_with fail
          go_ret
          exact ⟨ret_bool (eqG_no HA.out HB.out HK.out), ⟨q + nq, World.drewN_drewN _ _ _⟩⟩
      case neg =>
        obtain rfl : k = n := by omega
        go_wp2_with fail
        go_ret
        exact ⟨ret_bool (eqG_yes HL.out (HN.out ▸ HUP.out)), ⟨q, rfl⟩⟩
  case neg =>
    have e0 : ((l.length : Int) != (m.length : Int)) = true := by rw [bne_iff_ne]; omega
    have H := Lib.hid (eqG_len (f := kT) hln)
    clear hln
    go_enter Try.func48, Try.ntmps48
    go_wp2_with fail
    go_ret
    exact ⟨ret_bool H.out, 0, rfl⟩
set_option maxHeartbeats 1600000 in
theorem slicesEqS_any (l m : List DString) (A A' : Option Addr) (c c' B : Nat) (w : World) (hl : l.length ≤ 1048576) (hm : m.length ≤ 1048576) (r : Row RvString 1 w B A l) (r' : Row RvString 1 w B A' m) :
    Calls Try.prog 35 #[.slice A l.length c, .slice A' m.length c'] w fun e w' => e = .returned (.bool (eqG kS l m)) ∧ ∃ q, w' = w.drewN q := by
  by_cases hln : l.length = m.length
  case pos =>
    obtain ⟨n, hn⟩ : ∃ n, n = l.length := ⟨_, rfl⟩
    have HL := Lib.hid hln
    rw [← hln, ← hn]
    rw [← hn] at hl
    have HN := Lib.hid hn
    have e0 : ((n : Int) != (n : Int)) = false := by simp
    clear hn hln hm
    go_enter Try.func35, Try.ntmps35
    go_wp2_with fail
    go_loopw [13] (fun i wr => ∃ k q : Nat, k ≤ n ∧ i = .int .i64 k ∧ upG kS l m k = true ∧ wr = w.drewN q) (fun i _ => n - (intOf i).toNat)
    case atStart => exact ⟨0, 0, Nat.zero_le _, rfl, upG_zero, rfl⟩
    case round =>
      obtain ⟨k, q, hk, rfl, hup, rfl⟩ := hrel
      have HUP := Lib.hid hup
      clear hup
      by_cases hlt : k < n
      case pos =>
        obtain ⟨x0, ha⟩ : ∃ a, l[k]? = some a := ⟨l[k]'(by have := HN.out; omega), List.getElem?_eq_getElem (by have := HN.out; omega)⟩
        obtain ⟨y0, hb⟩ : ∃ a, m[k]? = some a := ⟨m[k]'(by have := HN.out; have := HL.out; omega), List.getElem?_eq_getElem (by have := HN.out; have := HL.out; omega)⟩
        obtain ⟨g, o, row, rfl, _, rfl, hc⟩ := r.elem ha
        obtain ⟨g', o', row', rfl, _, rfl, hc'⟩ := r'.elem hb
        have c0 : w.cell? ⟨g, o + k, none⟩ = some (.string x0) := by have h := hc 0 _ rfl; rw [Nat.mul_one] at h; exact h
        have d0 : w.cell? ⟨g', o' + k, none⟩ = some (.string y0) := by have h := hc' 0 _ rfl; rw [Nat.mul_one] at h; exact h
        have HA := Lib.hid ha
        have HB := Lib.hid hb
        clear hc hc' ha hb
        clear r r'
        have hki : (k : Int) < (n : Int) := by omega
        by_cases hke : kS x0 = kS y0
        case pos =>
          have e1 : (x0.toList == y0.toList) = true := by rw [beq_iff_eq]; exact hke
          have HK := Lib.hid hke
          clear hke
          go_wp2_with fail
          go_quiet (fail)
          go_wp2_with fail
          go_roundw
          case rel => exact ⟨k + 1, q + nq, by omega, by go_num, upG_succ HUP.out HA.out HB.out HK.out, rfl⟩
          case measure => simp [intOf]; omega
        case neg =>
          have e1 : (x0.toList == y0.toList) = false := by rw [beq_eq_false_iff_ne]; exact hke
          have HK := Lib.hid hke
          clear hke
          go_wp2_with fail
          go_quiet (fail)
          go_wp2_with fail
          go_ret
          exact ⟨ret_bool (eqG_no HA.out HB.out HK.out), ⟨q + nq, World.drewN_drewN _ _ _⟩⟩
      case neg =>
        obtain rfl : k = n := by omega
        go_wp2_with fail
        go_ret
        exact ⟨ret_bool (eqG_yes HL.out (HN.out ▸ HUP.out)), ⟨q, rfl⟩⟩
  case neg =>
    have e0 : ((l.length : Int) != (m.length : Int)) = true := by rw [bne_iff_ne]; omega
    have H := Lib.hid (eqG_len (f := kS) hln)
    clear hln
    go_enter Try.func35, Try.ntmps35
    go_wp2_with fail
    go_ret
    exact ⟨ret_bool H.out, 0, rfl⟩
set_option maxHeartbeats 1600000 in
theorem slicesEqI_any (l m : List DInt64) (A A' : Option Addr) (c c' B : Nat) (w : World) (hl : l.length ≤ 1048576) (hm : m.length ≤ 1048576) (r : Row RvInt64 1 w B A l) (r' : Row RvInt64 1 w B A' m) :
    Calls Try.prog 36 #[.slice A l.length c, .slice A' m.length c'] w fun e w' => e = .returned (.bool (eqG kI l m)) ∧ ∃ q, w' = w.drewN q := by
  by_cases hln : l.length = m.length
  case pos =>
    obtain ⟨n, hn⟩ : ∃ n, n = l.length := ⟨_, rfl⟩
    have HL := Lib.hid hln
    rw [← hln, ← hn]
    rw [← hn] at hl
    have HN := Lib.hid hn
    have e0 : ((n : Int) != (n : Int)) = false := by simp
    clear hn hln hm
    go_enter Try.func36, Try.ntmps36
    go_wp2_with fail
    go_loopw [13] (fun i wr => ∃ k q : Nat, k ≤ n ∧ i = .int .i64 k ∧ upG kI l m k = true ∧ wr = w.drewN q) (fun i _ => n - (intOf i).toNat)
    case atStart => exact ⟨0, 0, Nat.zero_le _, rfl, upG_zero, rfl⟩
    case round =>
      obtain ⟨k, q, hk, rfl, hup, rfl⟩ := hrel
      have HUP := Lib.hid hup
      clear hup
      by_cases hlt : k < n
      case pos =>
        obtain ⟨x0, ha⟩ : ∃ a, l[k]? = some a := ⟨l[k]'(by have := HN.out; omega), List.getElem?_eq_getElem (by have := HN.out; omega)⟩
        obtain ⟨y0, hb⟩ : ∃ a, m[k]? = some a := ⟨m[k]'(by have := HN.out; have := HL.out; omega), List.getElem?_eq_getElem (by have := HN.out; have := HL.out; omega)⟩
        obtain ⟨g, o, row, rfl, _, rfl, hc⟩ := r.elem ha
        obtain ⟨g', o', row', rfl, _, rfl, hc'⟩ := r'.elem hb
        have c0 : w.cell? ⟨g, o + k, none⟩ = some (.int .i64 x0) := by have h := hc 0 _ rfl; rw [Nat.mul_one] at h; exact h
        have d0 : w.cell? ⟨g', o' + k, none⟩ = some (.int .i64 y0) := by have h := hc' 0 _ rfl; rw [Nat.mul_one] at h; exact h
        have HA := Lib.hid ha
        have HB := Lib.hid hb
        clear hc hc' ha hb
        clear r r'
        have hki : (k : Int) < (n : Int) := by omega
        by_cases hke : kI x0 = kI y0
        case pos =>
          have e1 : (x0 != y0) = false := by have h : x0 = y0 := hke; rw [h]; simp
          have HK := Lib.hid hke
          clear hke
          go_wp2_with fail
          go_quiet (fail)
          clear e1
          go_wp2_with fail
          go_roundw
          case rel => exact ⟨k + 1, q + nq, by omega, by go_num, upG_succ HUP.out HA.out HB.out HK.out, rfl⟩
          case measure => simp [intOf]; omega
        case neg =>
          have e1 : (x0 != y0) = true := by rw [bne_iff_ne]; exact hke
          have HK := Lib.hid hke
          clear hke
          go_wp2_with fail
          go_quiet (fail)
          clear e1
          go_wp2_with fail
          go_ret
          exact ⟨ret_bool (eqG_no HA.out HB.out HK.out), ⟨q + nq, World.drewN_drewN _ _ _⟩⟩
      case neg =>
        obtain rfl : k = n := by omega
        go_wp2_with fail
        go_ret
        exact ⟨ret_bool (eqG_yes HL.out (HN.out ▸ HUP.out)), ⟨q, rfl⟩⟩
  case neg =>
    have e0 : ((l.length : Int) != (m.length : Int)) = true := by rw [bne_iff_ne]; omega
    have H := Lib.hid (eqG_len (f := kI) hln)
    clear hln
    go_enter Try.func36, Try.ntmps36
    go_wp2_with fail
    go_ret
    exact ⟨ret_bool H.out, 0, rfl⟩
end Go.Proofs.Ytjpadamlfhceaaa
