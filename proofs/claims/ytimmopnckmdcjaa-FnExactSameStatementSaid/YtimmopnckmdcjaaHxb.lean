/- Walks: expressions that are the same, on both sides. -/
import Derived.Test.YtimmopnckmdcjaaHxa
import Derived.Test.YtimmopnckmdcjaaPa
namespace Go.Proofs.Ytimmopnckmdcjaa
open Go.RowKit
set_option linter.unusedVariables false
/-- Are two expressions the same? -/
def sLin (n d : Int) (l : List DTerm) (n' d' : Int) (m : List DTerm) : Bool := decide (n = n' ∧ d = d') && eqG kT l m
theorem sLin_n1 {n d n' d' : Int} {l m : List DTerm} (h : ¬ (n = n' ∧ d = d')) : false = sLin n d l n' d' m := by unfold sLin; rw [decide_eq_false h]; rfl
theorem sLin_b {n d n' d' : Int} {l m : List DTerm} {v : Bool} (h : n = n' ∧ d = d') (hv : v = eqG kT l m) : v = sLin n d l n' d' m := by unfold sLin; rw [decide_eq_true h, hv]; rfl
theorem eql_frac {a b c d : Int} (w : World) : (Go.binOp BinOp.eql 33 (.agg #[.int .i64 a, .int .i64 b]) (.agg #[.int .i64 c, .int .i64 d])).run Try.prog w = Result.ok (.bool (decide (a = c ∧ b = d))) w := by
  by_cases h1 : a = c
  · subst h1
    by_cases h2 : b = d
    · subst h2; simp [go_sem]
    · simp [go_sem, h2]
  · simp [go_sem, h1]
theorem neq_frac {a b c d : Int} (w : World) : (Go.binOp BinOp.neq 33 (.agg #[.int .i64 a, .int .i64 b]) (.agg #[.int .i64 c, .int .i64 d])).run Try.prog w = Result.ok (.bool (!decide (a = c ∧ b = d))) w := by
  by_cases h1 : a = c
  · subst h1
    by_cases h2 : b = d
    · subst h2; simp [go_sem]
    · simp [go_sem, h2]
  · simp [go_sem, h1]
set_option maxHeartbeats 1600000 in
theorem implSameLinear_any (n d : Int) (A : Option Addr) (c : Nat) (l : List DTerm) (n' d' : Int) (A' : Option Addr) (c' : Nat) (m : List DTerm) (w : World) (hl : l.length ≤ 1048576) (hm : m.length ≤ 1048576) (r : Row RvTerm 3 w w.heap.size A l) (r' : Row RvTerm 3 w w.heap.size A' m) :
    Calls Try.prog 22 #[.agg #[.int .i64 n, .int .i64 d, .slice A l.length c], .agg #[.int .i64 n', .int .i64 d', .slice A' m.length c']] w fun e w' => e = .returned (.bool (sLin n d l n' d' m)) ∧ Below w.heap.size w w' := by
  have e1 := fun w => eql_frac (a := n) (b := d) (c := n') (d := d') w
  by_cases hf : n = n' ∧ d = d'
  · have H := Lib.hid (fun v (h : v = eqG kT l m) => sLin_b (n := n) (d := d) (n' := n') (d' := d') hf h)
    rw [decide_eq_true hf] at e1
    clear hf
    have C := Lib.hid (fun w r r' => slicesEqT_any l m A A' c c' w.heap.size w hl hm r r')
    generalize eqG kT l m = v at C H
    go_enter Try.func22, Try.ntmps22
    go_wp2_with fail
    refine (C.out _ ?_ ?_).mono ?_
    · exact (((r.alloc (Nat.le_refl _) _).alloc (by simp) _).more (by simp; omega))
    · exact (((r'.alloc (Nat.le_refl _) _).alloc (by simp) _).more (by simp; omega))
    rintro e w1 ⟨rfl, q, rfl⟩
    go_wp2_with fail
    go_ret
    exact ⟨ret_bool (H.out _ rfl), by repeat' (first | with_reducible assumption | with_reducible exact Below.refl _ _ | (with_reducible refine Below.setCell ?_ ?_ _) | (with_reducible refine Below.alloc ?_ ?_ _) | (with_reducible refine Below.drew ?_) | (with_reducible refine below_dr ?_ _) | (with_reducible refine Below.trans ?_ (Below.mono (by with_reducible assumption) ?_)) | omega | (simp; done) | (simp; omega))⟩
  · have H := Lib.hid (sLin_n1 (l := l) (m := m) hf)
    rw [decide_eq_false hf] at e1
    clear hf
    go_enter Try.func22, Try.ntmps22
    go_wp2_with fail
    go_ret
    exact ⟨ret_bool H.out, by repeat' (first | with_reducible assumption | with_reducible exact Below.refl _ _ | (with_reducible refine Below.setCell ?_ ?_ _) | (with_reducible refine Below.alloc ?_ ?_ _) | (with_reducible refine Below.drew ?_) | (with_reducible refine below_dr ?_ _) | (with_reducible refine Below.trans ?_ (Below.mono (by with_reducible assumption) ?_)) | omega | (simp; done) | (simp; omega))⟩
set_option maxHeartbeats 3200000 in
theorem specSameLinear_any (n d : Int) (A : Option Addr) (c : Nat) (l : List DTerm) (n' d' : Int) (A' : Option Addr) (c' : Nat) (m : List DTerm) (w : World) (hl : l.length ≤ 1048576) (hm : m.length ≤ 1048576) (r : Row RvTerm 3 w w.heap.size A l) (r' : Row RvTerm 3 w w.heap.size A' m) :
    Calls Try.prog 36 #[.agg #[.int .i64 n, .int .i64 d, .slice A l.length c], .agg #[.int .i64 n', .int .i64 d', .slice A' m.length c']] w fun e w' => e = .returned (.bool (sLin n d l n' d' m)) ∧ Below w.heap.size w w' := by
  have e1 := fun w => neq_frac (a := n) (b := d) (c := n') (d := d') w
  by_cases hf : n = n' ∧ d = d'
  case neg =>
    have H := Lib.hid (sLin_n1 (l := l) (m := m) hf)
    rw [decide_eq_false hf] at e1
    simp only [Bool.not_false] at e1
    clear hf
    go_enter Try.func36, Try.ntmps36
    go_wp2_with fail
    go_ret
    exact ⟨ret_bool H.out, by repeat' (first | with_reducible assumption | with_reducible exact Below.refl _ _ | (with_reducible refine Below.setCell ?_ ?_ _) | (with_reducible refine Below.alloc ?_ ?_ _) | (with_reducible refine Below.drew ?_) | (with_reducible refine below_dr ?_ _) | (with_reducible refine Below.trans ?_ (Below.mono (by with_reducible assumption) ?_)) | omega | (simp; done) | (simp; omega))⟩
  case pos =>
    have H := Lib.hid (fun v (h : v = eqG kT l m) => sLin_b (n := n) (d := d) (n' := n') (d' := d') hf h)
    rw [decide_eq_true hf] at e1
    simp only [Bool.not_true] at e1
    clear hf
    by_cases hln : l.length = m.length
    case neg =>
      have e0 : ((l.length : Int) != (m.length : Int)) = true := by rw [bne_iff_ne]; omega
      have H2 := Lib.hid (eqG_len (f := kT) hln)
      clear hln
      go_enter Try.func36, Try.ntmps36
      go_wp2_with fail
      go_ret
      exact ⟨ret_bool (H.out _ H2.out), by repeat' (first | with_reducible assumption | with_reducible exact Below.refl _ _ | (with_reducible refine Below.setCell ?_ ?_ _) | (with_reducible refine Below.alloc ?_ ?_ _) | (with_reducible refine Below.drew ?_) | (with_reducible refine below_dr ?_ _) | (with_reducible refine Below.trans ?_ (Below.mono (by with_reducible assumption) ?_)) | omega | (simp; done) | (simp; omega))⟩
    case pos =>
      obtain ⟨k0, hn⟩ : ∃ k0, k0 = l.length := ⟨_, rfl⟩
      have HL := Lib.hid hln
      rw [← hln, ← hn]
      rw [← hn] at hl
      have HN := Lib.hid hn
      have e0 : ((k0 : Int) != (k0 : Int)) = false := by simp
      clear hn hln hm
      go_enter Try.func36, Try.ntmps36
      go_wp2_with fail
      clear e1
      generalize hW : (w.alloc (.cells #[.int .i64 n, .int .i64 d, .slice A k0 c] 36)).alloc (.cells #[.int .i64 n', .int .i64 d', .slice A' k0 c'] 36) = W0
      have r0 : Row RvTerm 3 W0 w.heap.size A l := by rw [← hW]; exact (r.alloc (Nat.le_refl _) _).alloc (by simp) _
      have r0' : Row RvTerm 3 W0 w.heap.size A' m := by rw [← hW]; exact (r'.alloc (Nat.le_refl _) _).alloc (by simp) _
      have s2 : W0.cell? ⟨w.heap.size, 2, none⟩ = some (.slice A k0 c) := by rw [← hW]; simp [go_sem]
      have t2 : W0.cell? ⟨w.heap.size + 1, 2, none⟩ = some (.slice A' k0 c') := by rw [← hW]; simp [go_sem]
      have g0 : Below w.heap.size w W0 := by rw [← hW]; repeat' (first | with_reducible assumption | with_reducible exact Below.refl _ _ | (with_reducible refine Below.setCell ?_ ?_ _) | (with_reducible refine Below.alloc ?_ ?_ _) | (with_reducible refine Below.drew ?_) | (with_reducible refine below_dr ?_ _) | (with_reducible refine Below.trans ?_ (Below.mono (by with_reducible assumption) ?_)) | omega | (simp; done) | (simp; omega))
      clear hW r r'
      go_loopw [5] (fun i wr => ∃ k q : Nat, k ≤ k0 ∧ i = .int .i64 k ∧ upG kT l m k = true ∧ wr = W0.drewN q) (fun i _ => k0 - (intOf i).toNat)
      case atStart => exact ⟨0, 0, Nat.zero_le _, rfl, upG_zero, rfl⟩
      case round =>
        obtain ⟨k, q, hk, rfl, hup, rfl⟩ := hrel
        have HUP := Lib.hid hup
        clear hup
        by_cases hlt : k < k0
        · obtain ⟨⟨x0, x1, x2⟩, ha⟩ : ∃ a, l[k]? = some a := ⟨l[k]'(by have := HN.out; omega), List.getElem?_eq_getElem (by have := HN.out; omega)⟩
          obtain ⟨⟨y0, y1, y2⟩, hb⟩ : ∃ a, m[k]? = some a := ⟨m[k]'(by have := HN.out; have := HL.out; omega), List.getElem?_eq_getElem (by have := HN.out; have := HL.out; omega)⟩
          obtain ⟨g, o, row, rfl, _, rfl, hc⟩ := r0.elem ha
          obtain ⟨g', o', row', rfl, _, rfl, hc'⟩ := r0'.elem hb
          have c0 : W0.cell? ⟨g, o + k * 3, none⟩ = some (.string x0) := hc 0 _ rfl
          have c1 : W0.cell? ⟨g, o + k * 3 + 1, none⟩ = some (.int .i64 x1) := hc 1 _ rfl
          have c2 : W0.cell? ⟨g, o + k * 3 + 2, none⟩ = some (.int .i64 x2) := hc 2 _ rfl
          have d0 : W0.cell? ⟨g', o' + k * 3, none⟩ = some (.string y0) := hc' 0 _ rfl
          have d1 : W0.cell? ⟨g', o' + k * 3 + 1, none⟩ = some (.int .i64 y1) := hc' 1 _ rfl
          have d2 : W0.cell? ⟨g', o' + k * 3 + 2, none⟩ = some (.int .i64 y2) := hc' 2 _ rfl
          have HA := Lib.hid ha
          have HB := Lib.hid hb
          clear hc hc' ha hb r0 r0'
          have hki : (k : Int) < (k0 : Int) := by omega
          by_cases hke : kT (x0, x1, x2) = kT (y0, y1, y2)
          · have e1 := fun w => neq_term_yes hke w
            have HK := Lib.hid hke
            clear hke
            go_wp2_with fail
            go_quiet (fail)
            clear e1
            go_wp2_with fail
            go_roundw
            case rel => exact ⟨k + 1, q + nq, by omega, by go_num, upG_succ HUP.out HA.out HB.out HK.out, rfl⟩
            case measure => simp [intOf]; omega
          · have e1 := fun w => neq_term_no hke w
            have HK := Lib.hid hke
            clear hke
            go_wp2_with fail
            go_quiet (fail)
            clear e1
            go_wp2_with fail
            go_ret
            exact ⟨ret_bool (H.out _ (eqG_no HA.out HB.out HK.out)), by repeat' (first | with_reducible assumption | with_reducible exact Below.refl _ _ | (with_reducible refine Below.setCell ?_ ?_ _) | (with_reducible refine Below.alloc ?_ ?_ _) | (with_reducible refine Below.drew ?_) | (with_reducible refine below_dr ?_ _) | (with_reducible refine Below.trans ?_ (Below.mono (by with_reducible assumption) ?_)) | omega | (simp; done) | (simp; omega))⟩
        · obtain rfl : k = k0 := by omega
          go_wp2_with fail
          go_ret
          exact ⟨ret_bool (H.out _ (eqG_yes HL.out (HN.out ▸ HUP.out))), by repeat' (first | with_reducible assumption | with_reducible exact Below.refl _ _ | (with_reducible refine Below.setCell ?_ ?_ _) | (with_reducible refine Below.alloc ?_ ?_ _) | (with_reducible refine Below.drew ?_) | (with_reducible refine below_dr ?_ _) | (with_reducible refine Below.trans ?_ (Below.mono (by with_reducible assumption) ?_)) | omega | (simp; done) | (simp; omega))⟩
end Go.Proofs.Ytimmopnckmdcjaa
