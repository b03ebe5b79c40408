/- Walks: rows of points, of flags and of numbers that are the same, on both sides. -/
import Derived.Test.YtdikenapnncmfaaHz1
import Derived.Test.YtdikenapnncmfaaMem
import Derived.Test.YtdikenapnncmfaaAw
import Derived.Deep.QuietTactic
import Derived.BigQuiet
import Derived.IntWalk
namespace Go.Proofs.Ytdikenapnncmfaa
open Go.RowKit
set_option linter.unusedVariables false
section
variable {α β : Type} [DecidableEq β] {f : α → β} {l m : List α} {k : Nat} {a b : α}
def upG (f : α → β) (l m : List α) (k : Nat) : Bool := decide ((l.take k).map f = (m.take k).map f)
def eqG (f : α → β) (l m : List α) : Bool := decide (l.map f = m.map f)
theorem upG_zero : upG f l m 0 = true := by simp [upG]
theorem upG_succ (h : upG f l m k = true) (ha : l[k]? = some a) (hb : m[k]? = some b) (he : f a = f b) : upG f l m (k + 1) = true := by
  unfold upG at *
  rw [List.take_add_one, List.take_add_one, ha, hb]
  simp only [decide_eq_true_eq] at h
  simp [h, he]
theorem eqG_len (h : ¬ l.length = m.length) : false = eqG f l m := by
  unfold eqG; symm; rw [decide_eq_false_iff_not]; intro e; apply h
  have := congrArg List.length e
  simpa using this
theorem eqG_no (ha : l[k]? = some a) (hb : m[k]? = some b) (he : ¬ f a = f b) : false = eqG f l m := by
  unfold eqG; symm; rw [decide_eq_false_iff_not]; intro e; apply he
  have := congrArg (fun z => z[k]?) e
  simp only [List.getElem?_map, ha, hb] at this
  simpa using this
theorem eqG_yes (hl : l.length = m.length) (h : upG f l m l.length = true) : true = eqG f l m := by
  unfold upG at h
  rw [List.take_length, hl, List.take_length] at h
  unfold eqG; exact h.symm
theorem eqG_iff : eqG f l m = true ↔ l.map f = m.map f := by unfold eqG; simp
end
theorem beq_dec {α : Type} [BEq α] [LawfulBEq α] [DecidableEq α] (a b : α) : (a == b) = decide (a = b) := by by_cases h : a = b <;> simp [h]
theorem bne_dec {α : Type} [BEq α] [LawfulBEq α] [DecidableEq α] (a b : α) : (a != b) = !decide (a = b) := by rw [bne, beq_dec]
def kKPt (a : DPt) : Int × Int := (a.1, a.2)
theorem neq_Pt_yes {x0 y0 : Int} {x1 y1 : Int} (h : kKPt (x0, x1) = kKPt (y0, y1)) (w : World) : (Go.binOp BinOp.neq 39 (.agg #[.int .i64 x0, .int .i64 x1]) (.agg #[.int .i64 y0, .int .i64 y1])).run Try.prog w = Result.ok (.bool false) w := by
  simp only [kKPt, Prod.mk.injEq] at h
  obtain ⟨rfl, rfl⟩ := h
  simp [go_sem]
theorem neq_Pt_no {x0 y0 : Int} {x1 y1 : Int} (h : ¬ kKPt (x0, x1) = kKPt (y0, y1)) (w : World) : (Go.binOp BinOp.neq 39 (.agg #[.int .i64 x0, .int .i64 x1]) (.agg #[.int .i64 y0, .int .i64 y1])).run Try.prog w = Result.ok (.bool true) w := by
  simp only [kKPt, Prod.mk.injEq, not_and] at h
  by_cases h0 : x0 = y0
  case neg => simp [go_sem, h0]
  case pos =>
    replace h := h h0
    subst h0
    by_cases h1 : x1 = y1
    case neg => simp [go_sem, h1]
    case pos =>
      exact absurd h1 h
set_option maxHeartbeats 1600000 in
theorem slPt (l m : List DPt) (A A' : Option Addr) (c c' B : Nat) (w : World) (hl : l.length ≤ 1048576) (hm : m.length ≤ 1048576) (r : Row RvPt 2 w B A l) (r' : Row RvPt 2 w B A' m) :
    Calls Try.prog 115 #[.slice A l.length c, .slice A' m.length c'] w fun e w' => e = .returned (.bool (eqG kKPt l m)) ∧ ∃ q, w' = w.drewN q := by
  by_cases hln : l.length = m.length
  case pos =>
    obtain ⟨n, hn⟩ : ∃ n, n = l.length := ⟨_, rfl⟩
    have HL := Lib.hid hln
    rw [← hln, ← hn]
    rw [← hn] at hl
    have HN := Lib.hid hn
    have e0 : ((n : Int) != (n : Int)) = false := by simp
    clear hn hln hm
    go_enter Try.func115, Try.ntmps115
    go_wp2_with fail
    go_loopw [13] (fun i wr => ∃ k q : Nat, k ≤ n ∧ i = .int .i64 k ∧ upG kKPt l m k = true ∧ wr = w.drewN q) (fun i _ => n - (intOf i).toNat)
    case atStart => exact ⟨0, 0, Nat.zero_le _, rfl, upG_zero, rfl⟩
    case round =>
      obtain ⟨k, q, hk, rfl, hup, rfl⟩ := hrel
      have HUP := Lib.hid hup
      clear hup
      by_cases hlt : k < n
      case pos =>
        obtain ⟨⟨x0, x1⟩, ha⟩ : ∃ a, l[k]? = some a := ⟨l[k]'(by have := HN.out; omega), List.getElem?_eq_getElem (by have := HN.out; omega)⟩
        obtain ⟨⟨y0, y1⟩, hb⟩ : ∃ a, m[k]? = some a := ⟨m[k]'(by have := HN.out; have := HL.out; omega), List.getElem?_eq_getElem (by have := HN.out; have := HL.out; omega)⟩
        obtain ⟨g, o, row, rfl, hg, rfl, hc⟩ := r.elem ha
        obtain ⟨g', o', row', rfl, hg', rfl, hc'⟩ := r'.elem hb
        have c0 : w.cell? ⟨g, o + k * 2, none⟩ = some (.int .i64 x0) := hc 0 _ rfl
        have c1 : w.cell? ⟨g, o + k * 2 + 1, none⟩ = some (.int .i64 x1) := hc 1 _ rfl
        have d0 : w.cell? ⟨g', o' + k * 2, none⟩ = some (.int .i64 y0) := hc' 0 _ rfl
        have d1 : w.cell? ⟨g', o' + k * 2 + 1, none⟩ = some (.int .i64 y1) := hc' 1 _ rfl
        have HA := Lib.hid ha
        have HB := Lib.hid hb
        clear hc hc' ha hb
        clear r r'
        have hki : (k : Int) < (n : Int) := by omega
        by_cases hke : kKPt (x0, x1) = kKPt (y0, y1)
        case pos =>
          have e1 := fun w => neq_Pt_yes hke w
          have HK := Lib.hid hke
          clear hke
          go_wp2_with fail
          go_quiet (fail)
          clear e1
          go_wp2_with fail
          go_roundw
          case rel => exact ⟨k + 1, q + nq, by omega, by go_num, upG_succ HUP.out HA.out HB.out HK.out, rfl⟩
          case measure => simp [intOf]; omega
        case neg =>
          have e1 := fun w => neq_Pt_no hke w
          have HK := Lib.hid hke
          clear hke
          go_wp2_with fail
          go_quiet (fail)
          clear e1
          go_wp2_with fail
          go_ret
          exact ⟨ret_bool (eqG_no HA.out HB.out HK.out), ⟨q + nq, World.drewN_drewN _ _ _⟩⟩
      case neg =>
        obtain rfl : k = n := by omega
        go_wp2_with fail
        go_ret
        exact ⟨ret_bool (eqG_yes HL.out (HN.out ▸ HUP.out)), ⟨q, rfl⟩⟩
  case neg =>
    have e0 : ((l.length : Int) != (m.length : Int)) = true := by rw [bne_iff_ne]; omega
    have H := Lib.hid (eqG_len (f := kKPt) hln)
    clear hln
    go_enter Try.func115, Try.ntmps115
    go_wp2_with fail
    go_ret
    exact ⟨ret_bool H.out, 0, rfl⟩
theorem slPt_b (l m : List DPt) (A A' : Option Addr) (c c' : Nat) (w : World) (hl : l.length ≤ 1048576) (hm : m.length ≤ 1048576) (r : Row RvPt 2 w w.heap.size A l) (r' : Row RvPt 2 w w.heap.size A' m) :
    Calls Try.prog 115 #[.slice A l.length c, .slice A' m.length c'] w fun e w' => e = .returned (.bool (eqG kKPt l m)) ∧ Below w.heap.size w w' := by
  refine (slPt l m A A' c c' _ w hl hm r r').mono ?_
  rintro e w' ⟨rfl, q, rfl⟩
  exact ⟨rfl, by repeat' (first | with_reducible assumption | with_reducible exact Below.refl _ _ | (with_reducible refine Below.setCell ?_ ?_ _) | (with_reducible refine Below.alloc ?_ ?_ _) | (with_reducible refine Below.drew ?_) | (with_reducible refine below_dr ?_ _) | (with_reducible refine Below.trans ?_ (Below.mono (by with_reducible assumption) ?_)) | omega | (simp; done) | (simp; omega))⟩
set_option maxHeartbeats 1600000 in
theorem s3Pt (l m : List DPt) (A A' : Option Addr) (c c' B : Nat) (w : World) (hl : l.length ≤ 1048576) (hm : m.length ≤ 1048576) (r : Row RvPt 2 w B A l) (r' : Row RvPt 2 w B A' m) :
    Calls Try.prog 112 #[.slice A l.length c, .slice A' m.length c'] w fun e w' => e = .returned (.bool (eqG kKPt l m)) ∧ ∃ q, w' = w.drewN q := by
  by_cases hln : l.length = m.length
  case pos =>
    obtain ⟨n, hn⟩ : ∃ n, n = l.length := ⟨_, rfl⟩
    have HL := Lib.hid hln
    rw [← hln, ← hn]
    rw [← hn] at hl
    have HN := Lib.hid hn
    have e0 : ((n : Int) != (n : Int)) = false := by simp
    clear hn hln hm
    go_enter Try.func112, Try.ntmps112
    go_wp2_with fail
    go_loopw [5] (fun i wr => ∃ k q : Nat, k ≤ n ∧ i = .int .i64 k ∧ upG kKPt l m k = true ∧ wr = w.drewN q) (fun i _ => n - (intOf i).toNat)
    case atStart => exact ⟨0, 0, Nat.zero_le _, rfl, upG_zero, rfl⟩
    case round =>
      obtain ⟨k, q, hk, rfl, hup, rfl⟩ := hrel
      have HUP := Lib.hid hup
      clear hup
      by_cases hlt : k < n
      case pos =>
        obtain ⟨⟨x0, x1⟩, ha⟩ : ∃ a, l[k]? = some a := ⟨l[k]'(by have := HN.out; omega), List.getElem?_eq_getElem (by have := HN.out; omega)⟩
        obtain ⟨⟨y0, y1⟩, hb⟩ : ∃ a, m[k]? = some a := ⟨m[k]'(by have := HN.out; have := HL.out; omega), List.getElem?_eq_getElem (by have := HN.out; have := HL.out; omega)⟩
        obtain ⟨g, o, row, rfl, hg, rfl, hc⟩ := r.elem ha
        obtain ⟨g', o', row', rfl, hg', rfl, hc'⟩ := r'.elem hb
        have c0 : w.cell? ⟨g, o + k * 2, none⟩ = some (.int .i64 x0) := hc 0 _ rfl
        have c1 : w.cell? ⟨g, o + k * 2 + 1, none⟩ = some (.int .i64 x1) := hc 1 _ rfl
        have d0 : w.cell? ⟨g', o' + k * 2, none⟩ = some (.int .i64 y0) := hc' 0 _ rfl
        have d1 : w.cell? ⟨g', o' + k * 2 + 1, none⟩ = some (.int .i64 y1) := hc' 1 _ rfl
        have HA := Lib.hid ha
        have HB := Lib.hid hb
        clear hc hc' ha hb
        clear r r'
        have hki : (k : Int) < (n : Int) := by omega
        by_cases hke : kKPt (x0, x1) = kKPt (y0, y1)
        case pos =>
          have e1 := fun w => neq_Pt_yes hke w
          have HK := Lib.hid hke
          clear hke
          go_wp2_with fail
          go_quiet (fail)
          clear e1
          go_wp2_with fail
          go_roundw
          case rel => exact ⟨k + 1, q + nq, by omega, by go_num, upG_succ HUP.out HA.out HB.out HK.out, rfl⟩
          case measure => simp [intOf]; omega
        case neg =>
          have e1 := fun w => neq_Pt_no hke w
          have HK := Lib.hid hke
          clear hke
          go_wp2_with fail
          go_quiet (fail)
          clear e1
          go_wp2_with fail
          go_ret
          exact ⟨ret_bool (eqG_no HA.out HB.out HK.out), ⟨q + nq, World.drewN_drewN _ _ _⟩⟩
      case neg =>
        obtain rfl : k = n := by omega
        go_wp2_with fail
        go_ret
        exact ⟨ret_bool (eqG_yes HL.out (HN.out ▸ HUP.out)), ⟨q, rfl⟩⟩
  case neg =>
    have e0 : ((l.length : Int) != (m.length : Int)) = true := by rw [bne_iff_ne]; omega
    have H := Lib.hid (eqG_len (f := kKPt) hln)
    clear hln
    go_enter Try.func112, Try.ntmps112
    go_wp2_with fail
    go_ret
    exact ⟨ret_bool H.out, 0, rfl⟩
theorem s3Pt_b (l m : List DPt) (A A' : Option Addr) (c c' : Nat) (w : World) (hl : l.length ≤ 1048576) (hm : m.length ≤ 1048576) (r : Row RvPt 2 w w.heap.size A l) (r' : Row RvPt 2 w w.heap.size A' m) :
    Calls Try.prog 112 #[.slice A l.length c, .slice A' m.length c'] w fun e w' => e = .returned (.bool (eqG kKPt l m)) ∧ Below w.heap.size w w' := by
  refine (s3Pt l m A A' c c' _ w hl hm r r').mono ?_
  rintro e w' ⟨rfl, q, rfl⟩
  exact ⟨rfl, by repeat' (first | with_reducible assumption | with_reducible exact Below.refl _ _ | (with_reducible refine Below.setCell ?_ ?_ _) | (with_reducible refine Below.alloc ?_ ?_ _) | (with_reducible refine Below.drew ?_) | (with_reducible refine below_dr ?_ _) | (with_reducible refine Below.trans ?_ (Below.mono (by with_reducible assumption) ?_)) | omega | (simp; done) | (simp; omega))⟩
def kKBool (a : DBool) : Bool := a
set_option maxHeartbeats 1600000 in
theorem slBool (l m : List DBool) (A A' : Option Addr) (c c' B : Nat) (w : World) (hl : l.length ≤ 1048576) (hm : m.length ≤ 1048576) (r : Row RvBool 1 w B A l) (r' : Row RvBool 1 w B A' m) :
    Calls Try.prog 116 #[.slice A l.length c, .slice A' m.length c'] w fun e w' => e = .returned (.bool (eqG kKBool l m)) ∧ ∃ q, w' = w.drewN q := by
  by_cases hln : l.length = m.length
  case pos =>
    obtain ⟨n, hn⟩ : ∃ n, n = l.length := ⟨_, rfl⟩
    have HL := Lib.hid hln
    rw [← hln, ← hn]
    rw [← hn] at hl
    have HN := Lib.hid hn
    have e0 : ((n : Int) != (n : Int)) = false := by simp
    clear hn hln hm
    go_enter Try.func116, Try.ntmps116
    go_wp2_with fail
    go_loopw [13] (fun i wr => ∃ k q : Nat, k ≤ n ∧ i = .int .i64 k ∧ upG kKBool l m k = true ∧ wr = w.drewN q) (fun i _ => n - (intOf i).toNat)
    case atStart => exact ⟨0, 0, Nat.zero_le _, rfl, upG_zero, rfl⟩
    case round =>
      obtain ⟨k, q, hk, rfl, hup, rfl⟩ := hrel
      have HUP := Lib.hid hup
      clear hup
      by_cases hlt : k < n
      case pos =>
        obtain ⟨x0, ha⟩ : ∃ a, l[k]? = some a := ⟨l[k]'(by have := HN.out; omega), List.getElem?_eq_getElem (by have := HN.out; omega)⟩
        obtain ⟨y0, hb⟩ : ∃ a, m[k]? = some a := ⟨m[k]'(by have := HN.out; have := HL.out; omega), List.getElem?_eq_getElem (by have := HN.out; have := HL.out; omega)⟩
        obtain ⟨g, o, row, rfl, hg, rfl, hc⟩ := r.elem ha
        obtain ⟨g', o', row', rfl, hg', rfl, hc'⟩ := r'.elem hb
        have c0 : w.cell? ⟨g, o + k, none⟩ = some (.bool x0) := by have h := hc 0 _ rfl; rw [Nat.mul_one] at h; exact h
        have d0 : w.cell? ⟨g', o' + k, none⟩ = some (.bool y0) := by have h := hc' 0 _ rfl; rw [Nat.mul_one] at h; exact h
        have HA := Lib.hid ha
        have HB := Lib.hid hb
        clear hc hc' ha hb
        clear r r'
        have hki : (k : Int) < (n : Int) := by omega
        by_cases hke : kKBool x0 = kKBool y0
        case pos =>
          have e1 : (!((x0 : Bool) == (y0 : Bool))) = false := by have h : x0 = y0 := hke; rw [h]; simp
          have HK := Lib.hid hke
          clear hke
          go_wp2_with fail
          go_quiet (fail)
          go_wp2_with fail
          go_roundw
          case rel => exact ⟨k + 1, q + nq, by omega, by go_num, upG_succ HUP.out HA.out HB.out HK.out, rfl⟩
          case measure => simp [intOf]; omega
        case neg =>
          have e1 : (!((x0 : Bool) == (y0 : Bool))) = true := by have h : ¬ x0 = y0 := hke; simpa using h
          have HK := Lib.hid hke
          clear hke
          go_wp2_with fail
          go_quiet (fail)
          go_wp2_with fail
          go_ret
          exact ⟨ret_bool (eqG_no HA.out HB.out HK.out), ⟨q + nq, World.drewN_drewN _ _ _⟩⟩
      case neg =>
        obtain rfl : k = n := by omega
        go_wp2_with fail
        go_ret
        exact ⟨ret_bool (eqG_yes HL.out (HN.out ▸ HUP.out)), ⟨q, rfl⟩⟩
  case neg =>
    have e0 : ((l.length : Int) != (m.length : Int)) = true := by rw [bne_iff_ne]; omega
    have H := Lib.hid (eqG_len (f := kKBool) hln)
    clear hln
    go_enter Try.func116, Try.ntmps116
    go_wp2_with fail
    go_ret
    exact ⟨ret_bool H.out, 0, rfl⟩
theorem slBool_b (l m : List DBool) (A A' : Option Addr) (c c' : Nat) (w : World) (hl : l.length ≤ 1048576) (hm : m.length ≤ 1048576) (r : Row RvBool 1 w w.heap.size A l) (r' : Row RvBool 1 w w.heap.size A' m) :
    Calls Try.prog 116 #[.slice A l.length c, .slice A' m.length c'] w fun e w' => e = .returned (.bool (eqG kKBool l m)) ∧ Below w.heap.size w w' := by
  refine (slBool l m A A' c c' _ w hl hm r r').mono ?_
  rintro e w' ⟨rfl, q, rfl⟩
  exact ⟨rfl, by repeat' (first | with_reducible assumption | with_reducible exact Below.refl _ _ | (with_reducible refine Below.setCell ?_ ?_ _) | (with_reducible refine Below.alloc ?_ ?_ _) | (with_reducible refine Below.drew ?_) | (with_reducible refine below_dr ?_ _) | (with_reducible refine Below.trans ?_ (Below.mono (by with_reducible assumption) ?_)) | omega | (simp; done) | (simp; omega))⟩
set_option maxHeartbeats 1600000 in
theorem s3Bool (l m : List DBool) (A A' : Option Addr) (c c' B : Nat) (w : World) (hl : l.length ≤ 1048576) (hm : m.length ≤ 1048576) (r : Row RvBool 1 w B A l) (r' : Row RvBool 1 w B A' m) :
    Calls Try.prog 113 #[.slice A l.length c, .slice A' m.length c'] w fun e w' => e = .returned (.bool (eqG kKBool l m)) ∧ ∃ q, w' = w.drewN q := by
  by_cases hln : l.length = m.length
  case pos =>
    obtain ⟨n, hn⟩ : ∃ n, n = l.length := ⟨_, rfl⟩
    have HL := Lib.hid hln
    rw [← hln, ← hn]
    rw [← hn] at hl
    have HN := Lib.hid hn
    have e0 : ((n : Int) != (n : Int)) = false := by simp
    clear hn hln hm
    go_enter Try.func113, Try.ntmps113
    go_wp2_with fail
    go_loopw [5] (fun i wr => ∃ k q : Nat, k ≤ n ∧ i = .int .i64 k ∧ upG kKBool l m k = true ∧ wr = w.drewN q) (fun i _ => n - (intOf i).toNat)
    case atStart => exact ⟨0, 0, Nat.zero_le _, rfl, upG_zero, rfl⟩
    case round =>
      obtain ⟨k, q, hk, rfl, hup, rfl⟩ := hrel
      have HUP := Lib.hid hup
      clear hup
      by_cases hlt : k < n
      case pos =>
        obtain ⟨x0, ha⟩ : ∃ a, l[k]? = some a := ⟨l[k]'(by have := HN.out; omega), List.getElem?_eq_getElem (by have := HN.out; omega)⟩
        obtain ⟨y0, hb⟩ : ∃ a, m[k]? = some a := ⟨m[k]'(by have := HN.out; have := HL.out; omega), List.getElem?_eq_getElem (by have := HN.out; have := HL.out; omega)⟩
        obtain ⟨g, o, row, rfl, hg, rfl, hc⟩ := r.elem ha
        obtain ⟨g', o', row', rfl, hg', rfl, hc'⟩ := r'.elem hb
        have c0 : w.cell? ⟨g, o + k, none⟩ = some (.bool x0) := by have h := hc 0 _ rfl; rw [Nat.mul_one] at h; exact h
        have d0 : w.cell? ⟨g', o' + k, none⟩ = some (.bool y0) := by have h := hc' 0 _ rfl; rw [Nat.mul_one] at h; exact h
        have HA := Lib.hid ha
        have HB := Lib.hid hb
        clear hc hc' ha hb
        clear r r'
        have hki : (k : Int) < (n : Int) := by omega
        by_cases hke : kKBool x0 = kKBool y0
        case pos =>
          have e1 : (!((x0 : Bool) == (y0 : Bool))) = false := by have h : x0 = y0 := hke; rw [h]; simp
          have HK := Lib.hid hke
          clear hke
          go_wp2_with fail
          go_quiet (fail)
          go_wp2_with fail
          go_roundw
          case rel => exact ⟨k + 1, q + nq, by omega, by go_num, upG_succ HUP.out HA.out HB.out HK.out, rfl⟩
          case measure => simp [intOf]; omega
        case neg =>
          have e1 : (!((x0 : Bool) == (y0 : Bool))) = true := by have h : ¬ x0 = y0 := hke; simpa using h
          have HK := Lib.hid hke
          clear hke
          go_wp2_with fail
          go_quiet (fail)
          go_wp2_with fail
          go_ret
          exact ⟨ret_bool (eqG_no HA.out HB.out HK.out), ⟨q + nq, World.drewN_drewN _ _ _⟩⟩
      case neg =>
        obtain rfl : k = n := by omega
        go_wp2_with fail
        go_ret
        exact ⟨ret_bool (eqG_yes HL.out (HN.out ▸ HUP.out)), ⟨q, rfl⟩⟩
  case neg =>
    have e0 : ((l.length : Int) != (m.length : Int)) = true := by rw [bne_iff_ne]; omega
    have H := Lib.hid (eqG_len (f := kKBool) hln)
    clear hln
    go_enter Try.func113, Try.ntmps113
    go_wp2_with fail
    go_ret
    exact ⟨ret_bool H.out, 0, rfl⟩
theorem s3Bool_b (l m : List DBool) (A A' : Option Addr) (c c' : Nat) (w : World) (hl : l.length ≤ 1048576) (hm : m.length ≤ 1048576) (r : Row RvBool 1 w w.heap.size A l) (r' : Row RvBool 1 w w.heap.size A' m) :
    Calls Try.prog 113 #[.slice A l.length c, .slice A' m.length c'] w fun e w' => e = .returned (.bool (eqG kKBool l m)) ∧ Below w.heap.size w w' := by
  refine (s3Bool l m A A' c c' _ w hl hm r r').mono ?_
  rintro e w' ⟨rfl, q, rfl⟩
  exact ⟨rfl, by repeat' (first | with_reducible assumption | with_reducible exact Below.refl _ _ | (with_reducible refine Below.setCell ?_ ?_ _) | (with_reducible refine Below.alloc ?_ ?_ _) | (with_reducible refine Below.drew ?_) | (with_reducible refine below_dr ?_ _) | (with_reducible refine Below.trans ?_ (Below.mono (by with_reducible assumption) ?_)) | omega | (simp; done) | (simp; omega))⟩
def kKInt64 (a : DInt64) : Int := a
set_option maxHeartbeats 1600000 in
theorem slInt (l m : List DInt64) (A A' : Option Addr) (c c' B : Nat) (w : World) (hl : l.length ≤ 1048576) (hm : m.length ≤ 1048576) (r : Row RvInt64 1 w B A l) (r' : Row RvInt64 1 w B A' m) :
    Calls Try.prog 117 #[.slice A l.length c, .slice A' m.length c'] w fun e w' => e = .returned (.bool (eqG kKInt64 l m)) ∧ ∃ q, w' = w.drewN q := by
  by_cases hln : l.length = m.length
  case pos =>
    obtain ⟨n, hn⟩ : ∃ n, n = l.length := ⟨_, rfl⟩
    have HL := Lib.hid hln
    rw [← hln, ← hn]
    rw [← hn] at hl
    have HN := Lib.hid hn
    have e0 : ((n : Int) != (n : Int)) = false := by simp
    clear hn hln hm
    go_enter Try.func117, Try.ntmps117
    go_wp2_with fail
    go_loopw [13] (fun i wr => ∃ k q : Nat, k ≤ n ∧ i = .int .i64 k ∧ upG kKInt64 l m k = true ∧ wr = w.drewN q) (fun i _ => n - (intOf i).toNat)
    case atStart => exact ⟨0, 0, Nat.zero_le _, rfl, upG_zero, rfl⟩
    case round =>
      obtain ⟨k, q, hk, rfl, hup, rfl⟩ := hrel
      have HUP := Lib.hid hup
      clear hup
      by_cases hlt : k < n
      case pos =>
        obtain ⟨x0, ha⟩ : ∃ a, l[k]? = some a := ⟨l[k]'(by have := HN.out; omega), List.getElem?_eq_getElem (by have := HN.out; omega)⟩
        obtain ⟨y0, hb⟩ : ∃ a, m[k]? = some a := ⟨m[k]'(by have := HN.out; have := HL.out; omega), List.getElem?_eq_getElem (by have := HN.out; have := HL.out; omega)⟩
        obtain ⟨g, o, row, rfl, hg, rfl, hc⟩ := r.elem ha
        obtain ⟨g', o', row', rfl, hg', rfl, hc'⟩ := r'.elem hb
        have c0 : w.cell? ⟨g, o + k, none⟩ = some (.int .i64 x0) := by have h := hc 0 _ rfl; rw [Nat.mul_one] at h; exact h
        have d0 : w.cell? ⟨g', o' + k, none⟩ = some (.int .i64 y0) := by have h := hc' 0 _ rfl; rw [Nat.mul_one] at h; exact h
        have HA := Lib.hid ha
        have HB := Lib.hid hb
        clear hc hc' ha hb
        clear r r'
        have hki : (k : Int) < (n : Int) := by omega
        by_cases hke : kKInt64 x0 = kKInt64 y0
        case pos =>
          have e1 : (x0 != y0) = false := by have h : x0 = y0 := hke; rw [h]; simp
          have HK := Lib.hid hke
          clear hke
          go_wp2_with fail
          go_quiet (fail)
          clear e1
          go_wp2_with fail
          go_roundw
          case rel => exact ⟨k + 1, q + nq, by omega, by go_num, upG_succ HUP.out HA.out HB.out HK.out, rfl⟩
          case measure => simp [intOf]; omega
        case neg =>
          have e1 : (x0 != y0) = true := by rw [bne_iff_ne]; exact hke
          have HK := Lib.hid hke
          clear hke
          go_wp2_with fail
          go_quiet (fail)
          clear e1
          go_wp2_with fail
          go_ret
          exact ⟨ret_bool (eqG_no HA.out HB.out HK.out), ⟨q + nq, World.drewN_drewN _ _ _⟩⟩
      case neg =>
        obtain rfl : k = n := by omega
        go_wp2_with fail
        go_ret
        exact ⟨ret_bool (eqG_yes HL.out (HN.out ▸ HUP.out)), ⟨q, rfl⟩⟩
  case neg =>
    have e0 : ((l.length : Int) != (m.length : Int)) = true := by rw [bne_iff_ne]; omega
    have H := Lib.hid (eqG_len (f := kKInt64) hln)
    clear hln
    go_enter Try.func117, Try.ntmps117
    go_wp2_with fail
    go_ret
    exact ⟨ret_bool H.out, 0, rfl⟩
theorem slInt_b (l m : List DInt64) (A A' : Option Addr) (c c' : Nat) (w : World) (hl : l.length ≤ 1048576) (hm : m.length ≤ 1048576) (r : Row RvInt64 1 w w.heap.size A l) (r' : Row RvInt64 1 w w.heap.size A' m) :
    Calls Try.prog 117 #[.slice A l.length c, .slice A' m.length c'] w fun e w' => e = .returned (.bool (eqG kKInt64 l m)) ∧ Below w.heap.size w w' := by
  refine (slInt l m A A' c c' _ w hl hm r r').mono ?_
  rintro e w' ⟨rfl, q, rfl⟩
  exact ⟨rfl, by repeat' (first | with_reducible assumption | with_reducible exact Below.refl _ _ | (with_reducible refine Below.setCell ?_ ?_ _) | (with_reducible refine Below.alloc ?_ ?_ _) | (with_reducible refine Below.drew ?_) | (with_reducible refine below_dr ?_ _) | (with_reducible refine Below.trans ?_ (Below.mono (by with_reducible assumption) ?_)) | omega | (simp; done) | (simp; omega))⟩
set_option maxHeartbeats 1600000 in
theorem s3Int (l m : List DInt64) (A A' : Option Addr) (c c' B : Nat) (w : World) (hl : l.length ≤ 1048576) (hm : m.length ≤ 1048576) (r : Row RvInt64 1 w B A l) (r' : Row RvInt64 1 w B A' m) :
    Calls Try.prog 114 #[.slice A l.length c, .slice A' m.length c'] w fun e w' => e = .returned (.bool (eqG kKInt64 l m)) ∧ ∃ q, w' = w.drewN q := by
  by_cases hln : l.length = m.length
  case pos =>
    obtain ⟨n, hn⟩ : ∃ n, n = l.length := ⟨_, rfl⟩
    have HL := Lib.hid hln
    rw [← hln, ← hn]
    rw [← hn] at hl
    have HN := Lib.hid hn
    have e0 : ((n : Int) != (n : Int)) = false := by simp
    clear hn hln hm
    go_enter Try.func114, Try.ntmps114
    go_wp2_with fail
    go_loopw [5] (fun i wr => ∃ k q : Nat, k ≤ n ∧ i = .int .i64 k ∧ upG kKInt64 l m k = true ∧ wr = w.drewN q) (fun i _ => n - (intOf i).toNat)
    case atStart => exact ⟨0, 0, Nat.zero_le _, rfl, upG_zero, rfl⟩
    case round =>
      obtain ⟨k, q, hk, rfl, hup, rfl⟩ := hrel
      have HUP := Lib.hid hup
      clear hup
      by_cases hlt : k < n
      case pos =>
        obtain ⟨x0, ha⟩ : ∃ a, l[k]? = some a := ⟨l[k]'(by have := HN.out; omega), List.getElem?_eq_getElem (by have := HN.out; omega)⟩
        obtain ⟨y0, hb⟩ : ∃ a, m[k]? = some a := ⟨m[k]'(by have := HN.out; have := HL.out; omega), List.getElem?_eq_getElem (by have := HN.out; have := HL.out; omega)⟩
        obtain ⟨g, o, row, rfl, hg, rfl, hc⟩ := r.elem ha
        obtain ⟨g', o', row', rfl, hg', rfl, hc'⟩ := r'.elem hb
        have c0 : w.cell? ⟨g, o + k, none⟩ = some (.int .i64 x0) := by have h := hc 0 _ rfl; rw [Nat.mul_one] at h; exact h
        have d0 : w.cell? ⟨g', o' + k, none⟩ = some (.int .i64 y0) := by have h := hc' 0 _ rfl; rw [Nat.mul_one] at h; exact h
        have HA := Lib.hid ha
        have HB := Lib.hid hb
        clear hc hc' ha hb
        clear r r'
        have hki : (k : Int) < (n : Int) := by omega
        by_cases hke : kKInt64 x0 = kKInt64 y0
        case pos =>
          have e1 : (x0 != y0) = false := by have h : x0 = y0 := hke; rw [h]; simp
          have HK := Lib.hid hke
          clear hke
          go_wp2_with fail
          go_quiet (fail)
          clear e1
          go_wp2_with fail
          go_roundw
          case rel => exact ⟨k + 1, q + nq, by omega, by go_num, upG_succ HUP.out HA.out HB.out HK.out, rfl⟩
          case measure => simp [intOf]; omega
        case neg =>
          have e1 : (x0 != y0) = true := by rw [bne_iff_ne]; exact hke
          have HK := Lib.hid hke
          clear hke
          go_wp2_with fail
          go_quiet (fail)
          clear e1
          go_wp2_with fail
          go_ret
          exact ⟨ret_bool (eqG_no HA.out HB.out HK.out), ⟨q + nq, World.drewN_drewN _ _ _⟩⟩
      case neg =>
        obtain rfl : k = n := by omega
        go_wp2_with fail
        go_ret
        exact ⟨ret_bool (eqG_yes HL.out (HN.out ▸ HUP.out)), ⟨q, rfl⟩⟩
  case neg =>
    have e0 : ((l.length : Int) != (m.length : Int)) = true := by rw [bne_iff_ne]; omega
    have H := Lib.hid (eqG_len (f := kKInt64) hln)
    clear hln
    go_enter Try.func114, Try.ntmps114
    go_wp2_with fail
    go_ret
    exact ⟨ret_bool H.out, 0, rfl⟩
theorem s3Int_b (l m : List DInt64) (A A' : Option Addr) (c c' : Nat) (w : World) (hl : l.length ≤ 1048576) (hm : m.length ≤ 1048576) (r : Row RvInt64 1 w w.heap.size A l) (r' : Row RvInt64 1 w w.heap.size A' m) :
    Calls Try.prog 114 #[.slice A l.length c, .slice A' m.length c'] w fun e w' => e = .returned (.bool (eqG kKInt64 l m)) ∧ Below w.heap.size w w' := by
  refine (s3Int l m A A' c c' _ w hl hm r r').mono ?_
  rintro e w' ⟨rfl, q, rfl⟩
  exact ⟨rfl, by repeat' (first | with_reducible assumption | with_reducible exact Below.refl _ _ | (with_reducible refine Below.setCell ?_ ?_ _) | (with_reducible refine Below.alloc ?_ ?_ _) | (with_reducible refine Below.drew ?_) | (with_reducible refine below_dr ?_ _) | (with_reducible refine Below.trans ?_ (Below.mono (by with_reducible assumption) ?_)) | omega | (simp; done) | (simp; omega))⟩
end Go.Proofs.Ytdikenapnncmfaa
