/- Walks: rows of parts and of anchors that are the same. -/
import Derived.Test.YtelefmogmloniaaGl1
import Derived.Test.YtelefmogmloniaaMem
import Derived.Test.YtelefmogmloniaaAw
import Derived.Deep.QuietTactic
import Derived.BigQuiet
import Derived.IntWalk
namespace Go.Proofs.Ytelefmogmloniaa
open Go.RowKit
set_option linter.unusedVariables false
section
variable {α β : Type} [DecidableEq β] {f : α → β} {l m : List α} {k : Nat} {a b : α}
def upG (f : α → β) (l m : List α) (k : Nat) : Bool := decide ((l.take k).map f = (m.take k).map f)
def eqG (f : α → β) (l m : List α) : Bool := decide (l.map f = m.map f)
theorem upG_zero : upG f l m 0 = true := by simp [upG]
theorem upG_succ (h : upG f l m k = true) (ha : l[k]? = some a) (hb : m[k]? = some b) (he : f a = f b) : upG f l m (k + 1) = true := by
  unfold upG at *
  rw [List.take_add_one, List.take_add_one, ha, hb]
  simp only [decide_eq_true_eq] at h
  simp [h, he]
theorem eqG_len (h : ¬ l.length = m.length) : false = eqG f l m := by
  unfold eqG; symm; rw [decide_eq_false_iff_not]; intro e; apply h
  have := congrArg List.length e
  simpa using this
theorem eqG_no (ha : l[k]? = some a) (hb : m[k]? = some b) (he : ¬ f a = f b) : false = eqG f l m := by
  unfold eqG; symm; rw [decide_eq_false_iff_not]; intro e; apply he
  have := congrArg (fun z => z[k]?) e
  simp only [List.getElem?_map, ha, hb] at this
  simpa using this
theorem eqG_yes (hl : l.length = m.length) (h : upG f l m l.length = true) : true = eqG f l m := by
  unfold upG at h
  rw [List.take_length, hl, List.take_length] at h
  unfold eqG; exact h.symm
theorem eqG_iff : eqG f l m = true ↔ l.map f = m.map f := by unfold eqG; simp
end
theorem beq_dec {α : Type} [BEq α] [LawfulBEq α] [DecidableEq α] (a b : α) : (a == b) = decide (a = b) := by by_cases h : a = b <;> simp [h]
theorem bne_dec {α : Type} [BEq α] [LawfulBEq α] [DecidableEq α] (a b : α) : (a != b) = !decide (a = b) := by rw [bne, beq_dec]
def kKPart (a : DPart) : Int × Int × Int := (a.1, a.2.1, a.2.2)
theorem neq_Part_yes {x0 y0 : Int} {x1 y1 : Int} {x2 y2 : Int} (h : kKPart (x0, x1, x2) = kKPart (y0, y1, y2)) (w : World) : (Go.binOp BinOp.neq 96 (.agg #[.int .i64 x0, .int .i64 x1, .int .i64 x2]) (.agg #[.int .i64 y0, .int .i64 y1, .int .i64 y2])).run Try.prog w = Result.ok (.bool false) w := by
  simp only [kKPart, Prod.mk.injEq] at h
  obtain ⟨rfl, rfl, rfl⟩ := h
  simp [go_sem]
theorem neq_Part_no {x0 y0 : Int} {x1 y1 : Int} {x2 y2 : Int} (h : ¬ kKPart (x0, x1, x2) = kKPart (y0, y1, y2)) (w : World) : (Go.binOp BinOp.neq 96 (.agg #[.int .i64 x0, .int .i64 x1, .int .i64 x2]) (.agg #[.int .i64 y0, .int .i64 y1, .int .i64 y2])).run Try.prog w = Result.ok (.bool true) w := by
  simp only [kKPart, Prod.mk.injEq, not_and] at h
  by_cases h0 : x0 = y0
  case neg => simp [go_sem, h0]
  case pos =>
    replace h := h h0
    subst h0
    by_cases h1 : x1 = y1
    case neg => simp [go_sem, h1]
    case pos =>
      replace h := h h1
      subst h1
      by_cases h2 : x2 = y2
      case neg => simp [go_sem, h2]
      case pos =>
        exact absurd h2 h
set_option maxHeartbeats 1600000 in
theorem slPart_any (l m : List DPart) (A A' : Option Addr) (c c' B : Nat) (w : World) (hl : l.length ≤ 1048576) (hm : m.length ≤ 1048576) (r : Row RvPart 3 w B A l) (r' : Row RvPart 3 w B A' m) :
    Calls Try.prog 65 #[.slice A l.length c, .slice A' m.length c'] w fun e w' => e = .returned (.bool (eqG kKPart l m)) ∧ ∃ q, w' = w.drewN q := by
  by_cases hln : l.length = m.length
  case pos =>
    obtain ⟨n, hn⟩ : ∃ n, n = l.length := ⟨_, rfl⟩
    have HL := Lib.hid hln
    rw [← hln, ← hn]
    rw [← hn] at hl
    have HN := Lib.hid hn
    have e0 : ((n : Int) != (n : Int)) = false := by simp
    clear hn hln hm
    go_enter Try.func65, Try.ntmps65
    go_wp2_with fail
    go_loopw [13] (fun i wr => ∃ k q : Nat, k ≤ n ∧ i = .int .i64 k ∧ upG kKPart l m k = true ∧ wr = w.drewN q) (fun i _ => n - (intOf i).toNat)
    case atStart => exact ⟨0, 0, Nat.zero_le _, rfl, upG_zero, rfl⟩
    case round =>
      obtain ⟨k, q, hk, rfl, hup, rfl⟩ := hrel
      have HUP := Lib.hid hup
      clear hup
      by_cases hlt : k < n
      case pos =>
        obtain ⟨⟨x0, x1, x2⟩, ha⟩ : ∃ a, l[k]? = some a := ⟨l[k]'(by have := HN.out; omega), List.getElem?_eq_getElem (by have := HN.out; omega)⟩
        obtain ⟨⟨y0, y1, y2⟩, hb⟩ : ∃ a, m[k]? = some a := ⟨m[k]'(by have := HN.out; have := HL.out; omega), List.getElem?_eq_getElem (by have := HN.out; have := HL.out; omega)⟩
        obtain ⟨g, o, row, rfl, hg, rfl, hc⟩ := r.elem ha
        obtain ⟨g', o', row', rfl, hg', rfl, hc'⟩ := r'.elem hb
        have c0 : w.cell? ⟨g, o + k * 3, none⟩ = some (.int .i64 x0) := hc 0 _ rfl
        have c1 : w.cell? ⟨g, o + k * 3 + 1, none⟩ = some (.int .i64 x1) := hc 1 _ rfl
        have c2 : w.cell? ⟨g, o + k * 3 + 2, none⟩ = some (.int .i64 x2) := hc 2 _ rfl
        have d0 : w.cell? ⟨g', o' + k * 3, none⟩ = some (.int .i64 y0) := hc' 0 _ rfl
        have d1 : w.cell? ⟨g', o' + k * 3 + 1, none⟩ = some (.int .i64 y1) := hc' 1 _ rfl
        have d2 : w.cell? ⟨g', o' + k * 3 + 2, none⟩ = some (.int .i64 y2) := hc' 2 _ rfl
        have HA := Lib.hid ha
        have HB := Lib.hid hb
        clear hc hc' ha hb
        clear r r'
        have hki : (k : Int) < (n : Int) := by omega
        by_cases hke : kKPart (x0, x1, x2) = kKPart (y0, y1, y2)
        case pos =>
          have e1 := fun w => neq_Part_yes hke w
          have HK := Lib.hid hke
          clear hke
          go_wp2_with fail
          go_quiet (fail)
          clear e1
          go_wp2_with fail
          go_roundw
          case rel => exact ⟨k + 1, q + nq, by omega, by go_num, upG_succ HUP.out HA.out HB.out HK.out, rfl⟩
          case measure => simp [intOf]; omega
        case neg =>
          have e1 := fun w => neq_Part_no hke w
          have HK := Lib.hid hke
          clear hke
          go_wp2_with fail
          go_quiet (fail)
          clear e1
          go_wp2_with fail
          go_ret
          exact ⟨ret_bool (eqG_no HA.out HB.out HK.out), ⟨q + nq, World.drewN_drewN _ _ _⟩⟩
      case neg =>
        obtain rfl : k = n := by omega
        go_wp2_with fail
        go_ret
        exact ⟨ret_bool (eqG_yes HL.out (HN.out ▸ HUP.out)), ⟨q, rfl⟩⟩
  case neg =>
    have e0 : ((l.length : Int) != (m.length : Int)) = true := by rw [bne_iff_ne]; omega
    have H := Lib.hid (eqG_len (f := kKPart) hln)
    clear hln
    go_enter Try.func65, Try.ntmps65
    go_wp2_with fail
    go_ret
    exact ⟨ret_bool H.out, 0, rfl⟩
theorem slPart_any_b (l m : List DPart) (A A' : Option Addr) (c c' : Nat) (w : World) (hl : l.length ≤ 1048576) (hm : m.length ≤ 1048576) (r : Row RvPart 3 w w.heap.size A l) (r' : Row RvPart 3 w w.heap.size A' m) :
    Calls Try.prog 65 #[.slice A l.length c, .slice A' m.length c'] w fun e w' => e = .returned (.bool (eqG kKPart l m)) ∧ Below w.heap.size w w' := by
  refine (slPart_any l m A A' c c' _ w hl hm r r').mono ?_
  rintro e w' ⟨rfl, q, rfl⟩
  exact ⟨rfl, by repeat' (first | with_reducible assumption | with_reducible exact Below.refl _ _ | (with_reducible refine Below.setCell ?_ ?_ _) | (with_reducible refine Below.alloc ?_ ?_ _) | (with_reducible refine Below.drew ?_) | (with_reducible refine below_dr ?_ _) | (with_reducible refine Below.trans ?_ (Below.mono (by with_reducible assumption) ?_)) | omega | (simp; done) | (simp; omega))⟩
def kKAnchor (a : DAnchor) : List UInt8 × Int × Int := (a.1.toList, a.2.1, a.2.2)
theorem neq_Anchor_yes {x0 y0 : ByteArray} {x1 y1 : Int} {x2 y2 : Int} (h : kKAnchor (x0, x1, x2) = kKAnchor (y0, y1, y2)) (w : World) : (Go.binOp BinOp.neq 101 (.agg #[.string x0, .int .i64 x1, .int .i64 x2]) (.agg #[.string y0, .int .i64 y1, .int .i64 y2])).run Try.prog w = Result.ok (.bool false) w := by
  simp only [kKAnchor, Prod.mk.injEq] at h
  obtain ⟨h0, rfl, rfl⟩ := h
  simp [go_sem, h0]
theorem neq_Anchor_no {x0 y0 : ByteArray} {x1 y1 : Int} {x2 y2 : Int} (h : ¬ kKAnchor (x0, x1, x2) = kKAnchor (y0, y1, y2)) (w : World) : (Go.binOp BinOp.neq 101 (.agg #[.string x0, .int .i64 x1, .int .i64 x2]) (.agg #[.string y0, .int .i64 y1, .int .i64 y2])).run Try.prog w = Result.ok (.bool true) w := by
  simp only [kKAnchor, Prod.mk.injEq, not_and] at h
  by_cases h0 : x0.toList = y0.toList
  case neg => simp [go_sem, h0]
  case pos =>
    replace h := h h0
    by_cases h1 : x1 = y1
    case neg => simp [go_sem, h0, h1]
    case pos =>
      replace h := h h1
      subst h1
      by_cases h2 : x2 = y2
      case neg => simp [go_sem, h0, h2]
      case pos =>
        exact absurd h2 h
set_option maxHeartbeats 1600000 in
theorem slAnchor_any (l m : List DAnchor) (A A' : Option Addr) (c c' B : Nat) (w : World) (hl : l.length ≤ 1048576) (hm : m.length ≤ 1048576) (r : Row RvAnchor 3 w B A l) (r' : Row RvAnchor 3 w B A' m) :
    Calls Try.prog 66 #[.slice A l.length c, .slice A' m.length c'] w fun e w' => e = .returned (.bool (eqG kKAnchor l m)) ∧ ∃ q, w' = w.drewN q := by
  by_cases hln : l.length = m.length
  case pos =>
    obtain ⟨n, hn⟩ : ∃ n, n = l.length := ⟨_, rfl⟩
    have HL := Lib.hid hln
    rw [← hln, ← hn]
    rw [← hn] at hl
    have HN := Lib.hid hn
    have e0 : ((n : Int) != (n : Int)) = false := by simp
    clear hn hln hm
    go_enter Try.func66, Try.ntmps66
    go_wp2_with fail
    go_loopw [13] (fun i wr => ∃ k q : Nat, k ≤ n ∧ i = .int .i64 k ∧ upG kKAnchor l m k = true ∧ wr = w.drewN q) (fun i _ => n - (intOf i).toNat)
    case atStart => exact ⟨0, 0, Nat.zero_le _, rfl, upG_zero, rfl⟩
    case round =>
      obtain ⟨k, q, hk, rfl, hup, rfl⟩ := hrel
      have HUP := Lib.hid hup
      clear hup
      by_cases hlt : k < n
      case pos =>
        obtain ⟨⟨x0, x1, x2⟩, ha⟩ : ∃ a, l[k]? = some a := ⟨l[k]'(by have := HN.out; omega), List.getElem?_eq_getElem (by have := HN.out; omega)⟩
        obtain ⟨⟨y0, y1, y2⟩, hb⟩ : ∃ a, m[k]? = some a := ⟨m[k]'(by have := HN.out; have := HL.out; omega), List.getElem?_eq_getElem (by have := HN.out; have := HL.out; omega)⟩
        obtain ⟨g, o, row, rfl, hg, rfl, hc⟩ := r.elem ha
        obtain ⟨g', o', row', rfl, hg', rfl, hc'⟩ := r'.elem hb
        have c0 : w.cell? ⟨g, o + k * 3, none⟩ = some (.string x0) := hc 0 _ rfl
        have c1 : w.cell? ⟨g, o + k * 3 + 1, none⟩ = some (.int .i64 x1) := hc 1 _ rfl
        have c2 : w.cell? ⟨g, o + k * 3 + 2, none⟩ = some (.int .i64 x2) := hc 2 _ rfl
        have d0 : w.cell? ⟨g', o' + k * 3, none⟩ = some (.string y0) := hc' 0 _ rfl
        have d1 : w.cell? ⟨g', o' + k * 3 + 1, none⟩ = some (.int .i64 y1) := hc' 1 _ rfl
        have d2 : w.cell? ⟨g', o' + k * 3 + 2, none⟩ = some (.int .i64 y2) := hc' 2 _ rfl
        have HA := Lib.hid ha
        have HB := Lib.hid hb
        clear hc hc' ha hb
        clear r r'
        have hki : (k : Int) < (n : Int) := by omega
        by_cases hke : kKAnchor (x0, x1, x2) = kKAnchor (y0, y1, y2)
        case pos =>
          have e1 := fun w => neq_Anchor_yes hke w
          have HK := Lib.hid hke
          clear hke
          go_wp2_with fail
          go_quiet (fail)
          clear e1
          go_wp2_with fail
          go_roundw
          case rel => exact ⟨k + 1, q + nq, by omega, by go_num, upG_succ HUP.out HA.out HB.out HK.out, rfl⟩
          case measure => simp [intOf]; omega
        case neg =>
          have e1 := fun w => neq_Anchor_no hke w
          have HK := Lib.hid hke
          clear hke
          go_wp2_with fail
          go_quiet (fail)
          clear e1
          go_wp2_with fail
          go_ret
          exact ⟨ret_bool (eqG_no HA.out HB.out HK.out), ⟨q + nq, World.drewN_drewN _ _ _⟩⟩
      case neg =>
        obtain rfl : k = n := by omega
        go_wp2_with fail
        go_ret
        exact ⟨ret_bool (eqG_yes HL.out (HN.out ▸ HUP.out)), ⟨q, rfl⟩⟩
  case neg =>
    have e0 : ((l.length : Int) != (m.length : Int)) = true := by rw [bne_iff_ne]; omega
    have H := Lib.hid (eqG_len (f := kKAnchor) hln)
    clear hln
    go_enter Try.func66, Try.ntmps66
    go_wp2_with fail
    go_ret
    exact ⟨ret_bool H.out, 0, rfl⟩
theorem slAnchor_any_b (l m : List DAnchor) (A A' : Option Addr) (c c' : Nat) (w : World) (hl : l.length ≤ 1048576) (hm : m.length ≤ 1048576) (r : Row RvAnchor 3 w w.heap.size A l) (r' : Row RvAnchor 3 w w.heap.size A' m) :
    Calls Try.prog 66 #[.slice A l.length c, .slice A' m.length c'] w fun e w' => e = .returned (.bool (eqG kKAnchor l m)) ∧ Below w.heap.size w w' := by
  refine (slAnchor_any l m A A' c c' _ w hl hm r r').mono ?_
  rintro e w' ⟨rfl, q, rfl⟩
  exact ⟨rfl, by repeat' (first | with_reducible assumption | with_reducible exact Below.refl _ _ | (with_reducible refine Below.setCell ?_ ?_ _) | (with_reducible refine Below.alloc ?_ ?_ _) | (with_reducible refine Below.drew ?_) | (with_reducible refine below_dr ?_ _) | (with_reducible refine Below.trans ?_ (Below.mono (by with_reducible assumption) ?_)) | omega | (simp; done) | (simp; omega))⟩
end Go.Proofs.Ytelefmogmloniaa
