/- Walks: which rings are the same, on both sides. -/
import Derived.Test.YtnlhofepobkljaaVg
import Derived.Deep.QuietTactic
import Derived.BigQuiet
namespace Go.Proofs.Ytnlhofepobkljaa
open Go.RowKit
set_option linter.unusedVariables false
def sUp (l m : List APt) (k : Nat) : Bool := decide (l.take k = m.take k)
def sEq (l m : List APt) : Bool := decide (l = m)
theorem sUp_zero (l m : List APt) : sUp l m 0 = true := by simp [sUp]
theorem sUp_succ {l m : List APt} {k : Nat} {a b : APt} (h : sUp l m k = true) (ha : l[k]? = some a) (hb : m[k]? = some b) (he : a = b) : sUp l m (k + 1) = true := by
  unfold sUp at *
  rw [List.take_add_one, List.take_add_one, ha, hb]
  simp only [decide_eq_true_eq] at h
  simp [h, he]
theorem sEq_len {l m : List APt} (h : ¬ l.length = m.length) : false = sEq l m := by
  unfold sEq; symm; rw [decide_eq_false_iff_not]; intro e; apply h; rw [e]
theorem sEq_no {l m : List APt} {k : Nat} {a b : APt} (ha : l[k]? = some a) (hb : m[k]? = some b) (he : ¬ a = b) : false = sEq l m := by
  unfold sEq; symm; rw [decide_eq_false_iff_not]; intro e; apply he
  rw [e, hb] at ha
  exact (Option.some.inj ha).symm
theorem sEq_yes {l m : List APt} (hl : l.length = m.length) (h : sUp l m l.length = true) : true = sEq l m := by
  unfold sUp at h
  rw [List.take_length, hl, List.take_length] at h
  unfold sEq; exact h.symm
theorem neq_pt {a b c d : Int} (w : World) : (Go.binOp BinOp.neq 64 (.agg #[.int .i64 a, .int .i64 b]) (.agg #[.int .i64 c, .int .i64 d])).run Try.prog w = Result.ok (.bool (!decide (a = c ∧ b = d))) w := by
  by_cases h1 : a = c
  · subst h1
    by_cases h2 : b = d
    · subst h2; simp [go_sem]
    · simp [go_sem, h2]
  · simp [go_sem, h1]
theorem pt_pair {x y u v : Int} (h : x = u ∧ y = v) : ((x, y) : APt) = (u, v) := by rw [h.1, h.2]
theorem pt_not {x y u v : Int} (h : ¬ (x = u ∧ y = v)) : ¬ ((x, y) : APt) = (u, v) := fun e => h ⟨congrArg Prod.fst e, congrArg Prod.snd e⟩
set_option maxHeartbeats 3200000 in
theorem slicesEqual_any (l m : List APt) (A A' : Option Addr) (c c' B : Nat) (w : World) (hl : l.length ≤ 1048576) (hm : m.length ≤ 1048576) (r : Rd cPt 2 w B A l) (r' : Rd cPt 2 w B A' m) :
    Calls Try.prog 104 #[.slice A l.length c, .slice A' m.length c'] w fun e w' => e = .returned (.bool (sEq l m)) ∧ ∃ q, w' = w.drewN q := by
  by_cases hln : l.length = m.length
  case pos =>
    obtain ⟨n, hn⟩ : ∃ n, n = l.length := ⟨_, rfl⟩
    have HL := Lib.hid hln
    rw [← hln, ← hn]
    rw [← hn] at hl
    have HN := Lib.hid hn
    have e0 : ((n : Int) != (n : Int)) = false := by simp
    clear hn hln hm
    go_enter Try.func104, Try.ntmps104
    go_wp2_with fail
    go_loopw [13] (fun i wr => ∃ k q : Nat, k ≤ n ∧ i = .int .i64 k ∧ sUp l m k = true ∧ wr = w.drewN q) (fun i _ => n - (intOf i).toNat)
    case atStart => exact ⟨0, 0, Nat.zero_le _, rfl, sUp_zero _ _, rfl⟩
    case round =>
      obtain ⟨k, q, hk, rfl, hup, rfl⟩ := hrel
      have HUP := Lib.hid hup
      clear hup
      by_cases hlt : k < n
      · obtain ⟨⟨x0, x1⟩, ha⟩ : ∃ a, l[k]? = some a := ⟨l[k]'(by have := HN.out; omega), List.getElem?_eq_getElem (by have := HN.out; omega)⟩
        obtain ⟨⟨y0, y1⟩, hb⟩ : ∃ a, m[k]? = some a := ⟨m[k]'(by have := HN.out; have := HL.out; omega), List.getElem?_eq_getElem (by have := HN.out; have := HL.out; omega)⟩
        obtain ⟨g, o, rfl, _, hc⟩ := r.elem ha
        obtain ⟨g', o', rfl, _, hc'⟩ := r'.elem hb
        have c0 : w.cell? ⟨g, o + k * 2, none⟩ = some (.int .i64 x0) := hc 0 _ rfl
        have c1 : w.cell? ⟨g, o + k * 2 + 1, none⟩ = some (.int .i64 x1) := hc 1 _ rfl
        have d0 : w.cell? ⟨g', o' + k * 2, none⟩ = some (.int .i64 y0) := hc' 0 _ rfl
        have d1 : w.cell? ⟨g', o' + k * 2 + 1, none⟩ = some (.int .i64 y1) := hc' 1 _ rfl
        have HA := Lib.hid ha
        have HB := Lib.hid hb
        clear hc hc' ha hb r r'
        have hki : (k : Int) < (n : Int) := by omega
        have e1 := fun w => neq_pt (a := x0) (b := x1) (c := y0) (d := y1) w
        by_cases hke : x0 = y0 ∧ x1 = y1
        · rw [decide_eq_true hke] at e1
          simp only [Bool.not_true] at e1
          have HK := Lib.hid hke
          clear hke
          go_wp2_with fail
          go_quiet (fail)
          clear e1
          go_wp2_with fail
          go_roundw
          case rel => exact ⟨k + 1, q + nq, by omega, by go_num, sUp_succ HUP.out HA.out HB.out (pt_pair HK.out), rfl⟩
          case measure => simp [intOf]; omega
        · rw [decide_eq_false hke] at e1
          simp only [Bool.not_false] at e1
          have HK := Lib.hid hke
          clear hke
          go_wp2_with fail
          go_quiet (fail)
          clear e1
          go_wp2_with fail
          go_ret
          exact ⟨ret_bool (sEq_no HA.out HB.out (pt_not HK.out)), q + nq, World.drewN_drewN _ _ _⟩
      · obtain rfl : k = n := by omega
        go_wp2_with fail
        go_ret
        exact ⟨ret_bool (sEq_yes HL.out (HN.out ▸ HUP.out)), q, rfl⟩
  case neg =>
    have e0 : ((l.length : Int) != (m.length : Int)) = true := by rw [bne_iff_ne]; omega
    have H := Lib.hid (sEq_len hln)
    clear hln
    go_enter Try.func104, Try.ntmps104
    go_wp2_with fail
    go_ret
    exact ⟨ret_bool H.out, 0, rfl⟩
set_option maxHeartbeats 3200000 in
theorem l13Same_any (l m : List APt) (A A' : Option Addr) (c c' B : Nat) (w : World) (hl : l.length ≤ 1048576) (hm : m.length ≤ 1048576) (r : Rd cPt 2 w B A l) (r' : Rd cPt 2 w B A' m) :
    Calls Try.prog 70 #[.slice A l.length c, .slice A' m.length c'] w fun e w' => e = .returned (.bool (sEq l m)) ∧ ∃ q, w' = w.drewN q := by
  by_cases hln : l.length = m.length
  case pos =>
    obtain ⟨n, hn⟩ : ∃ n, n = l.length := ⟨_, rfl⟩
    have HL := Lib.hid hln
    rw [← hln, ← hn]
    rw [← hn] at hl
    have HN := Lib.hid hn
    have e0 : ((n : Int) != (n : Int)) = false := by simp
    clear hn hln hm
    go_enter Try.func70, Try.ntmps70
    go_wp2_with fail
    go_loopw [5] (fun i wr => ∃ k q : Nat, k ≤ n ∧ i = .int .i64 k ∧ sUp l m k = true ∧ wr = w.drewN q) (fun i _ => n - (intOf i).toNat)
    case atStart => exact ⟨0, 0, Nat.zero_le _, rfl, sUp_zero _ _, rfl⟩
    case round =>
      obtain ⟨k, q, hk, rfl, hup, rfl⟩ := hrel
      have HUP := Lib.hid hup
      clear hup
      by_cases hlt : k < n
      · obtain ⟨⟨x0, x1⟩, ha⟩ : ∃ a, l[k]? = some a := ⟨l[k]'(by have := HN.out; omega), List.getElem?_eq_getElem (by have := HN.out; omega)⟩
        obtain ⟨⟨y0, y1⟩, hb⟩ : ∃ a, m[k]? = some a := ⟨m[k]'(by have := HN.out; have := HL.out; omega), List.getElem?_eq_getElem (by have := HN.out; have := HL.out; omega)⟩
        obtain ⟨g, o, rfl, _, hc⟩ := r.elem ha
        obtain ⟨g', o', rfl, _, hc'⟩ := r'.elem hb
        have c0 : w.cell? ⟨g, o + k * 2, none⟩ = some (.int .i64 x0) := hc 0 _ rfl
        have c1 : w.cell? ⟨g, o + k * 2 + 1, none⟩ = some (.int .i64 x1) := hc 1 _ rfl
        have d0 : w.cell? ⟨g', o' + k * 2, none⟩ = some (.int .i64 y0) := hc' 0 _ rfl
        have d1 : w.cell? ⟨g', o' + k * 2 + 1, none⟩ = some (.int .i64 y1) := hc' 1 _ rfl
        have HA := Lib.hid ha
        have HB := Lib.hid hb
        clear hc hc' ha hb r r'
        have hki : (k : Int) < (n : Int) := by omega
        have e1 := fun w => neq_pt (a := x0) (b := x1) (c := y0) (d := y1) w
        by_cases hke : x0 = y0 ∧ x1 = y1
        · rw [decide_eq_true hke] at e1
          simp only [Bool.not_true] at e1
          have HK := Lib.hid hke
          clear hke
          go_wp2_with fail
          go_quiet (fail)
          clear e1
          go_wp2_with fail
          go_roundw
          case rel => exact ⟨k + 1, q + nq, by omega, by go_num, sUp_succ HUP.out HA.out HB.out (pt_pair HK.out), rfl⟩
          case measure => simp [intOf]; omega
        · rw [decide_eq_false hke] at e1
          simp only [Bool.not_false] at e1
          have HK := Lib.hid hke
          clear hke
          go_wp2_with fail
          go_quiet (fail)
          clear e1
          go_wp2_with fail
          go_ret
          exact ⟨ret_bool (sEq_no HA.out HB.out (pt_not HK.out)), q + nq, World.drewN_drewN _ _ _⟩
      · obtain rfl : k = n := by omega
        go_wp2_with fail
        go_ret
        exact ⟨ret_bool (sEq_yes HL.out (HN.out ▸ HUP.out)), q, rfl⟩
  case neg =>
    have e0 : ((l.length : Int) != (m.length : Int)) = true := by rw [bne_iff_ne]; omega
    have H := Lib.hid (sEq_len hln)
    clear hln
    go_enter Try.func70, Try.ntmps70
    go_wp2_with fail
    go_ret
    exact ⟨ret_bool H.out, 0, rfl⟩
end Go.Proofs.Ytnlhofepobkljaa
