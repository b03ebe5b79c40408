/- Walks: which outlines are the same, on both sides. -/
import Derived.Test.YtelefmogmloniaaGma
import Derived.Deep.QuietTactic
import Derived.BigQuiet
namespace Go.Proofs.Ytelefmogmloniaa
open Go.RowKit
set_option linter.unusedVariables false
def sUp (l m : List AKnot) (k : Nat) : Bool := decide (l.take k = m.take k)
def sEq (l m : List AKnot) : Bool := decide (l = m)
theorem sUp_zero (l m : List AKnot) : sUp l m 0 = true := by simp [sUp]
theorem sUp_succ {l m : List AKnot} {k : Nat} {a b : AKnot} (h : sUp l m k = true) (ha : l[k]? = some a) (hb : m[k]? = some b) (he : a = b) : sUp l m (k + 1) = true := by
  unfold sUp at *
  rw [List.take_add_one, List.take_add_one, ha, hb]
  simp only [decide_eq_true_eq] at h
  simp [h, he]
theorem sEq_len {l m : List AKnot} (h : ¬ l.length = m.length) : false = sEq l m := by
  unfold sEq; symm; rw [decide_eq_false_iff_not]; intro e; apply h; rw [e]
theorem sEq_no {l m : List AKnot} {k : Nat} {a b : AKnot} (ha : l[k]? = some a) (hb : m[k]? = some b) (he : ¬ a = b) : false = sEq l m := by
  unfold sEq; symm; rw [decide_eq_false_iff_not]; intro e; apply he
  rw [e, hb] at ha
  exact (Option.some.inj ha).symm
theorem sEq_yes {l m : List AKnot} (hl : l.length = m.length) (h : sUp l m l.length = true) : true = sEq l m := by
  unfold sUp at h
  rw [List.take_length, hl, List.take_length] at h
  unfold sEq; exact h.symm
theorem neq_knot {a b c d : Int} {f g : Bool} (w : World) : (Go.binOp BinOp.neq 197 (.agg #[.int .i64 a, .int .i64 b, .bool f]) (.agg #[.int .i64 c, .int .i64 d, .bool g])).run Try.prog w = Result.ok (.bool (!decide (a = c ∧ b = d ∧ f = g))) w := by
  by_cases h1 : a = c
  · subst h1
    by_cases h2 : b = d
    · subst h2
      by_cases h3 : f = g
      · subst h3; simp [go_sem]
      · simp [go_sem, h3]
    · simp [go_sem, h2]
  · simp [go_sem, h1]
theorem k_pair {x y u v : Int} {f g : Bool} (h : x = u ∧ y = v ∧ f = g) : ((x, y, f) : AKnot) = (u, v, g) := by rw [h.1, h.2.1, h.2.2]
theorem k_not {x y u v : Int} {f g : Bool} (h : ¬ (x = u ∧ y = v ∧ f = g)) : ¬ ((x, y, f) : AKnot) = (u, v, g) := fun e => h ⟨congrArg (fun z => z.1) e, congrArg (fun z => z.2.1) e, congrArg (fun z => z.2.2) e⟩
set_option maxHeartbeats 3200000 in
theorem slicesEqual_any (l m : List AKnot) (A A' : Option Addr) (c c' B : Nat) (w : World) (hl : l.length ≤ 1048576) (hm : m.length ≤ 1048576) (r : Rd cKnot 3 w B A l) (r' : Rd cKnot 3 w B A' m) :
    Calls Try.prog 174 #[.slice A l.length c, .slice A' m.length c'] w fun e w' => e = .returned (.bool (sEq l m)) ∧ ∃ q, w' = w.drewN q := by
  by_cases hln : l.length = m.length
  case pos =>
    obtain ⟨n, hn⟩ : ∃ n, n = l.length := ⟨_, rfl⟩
    have HL := Lib.hid hln
    rw [← hln, ← hn]
    rw [← hn] at hl
    have HN := Lib.hid hn
    have e0 : ((n : Int) != (n : Int)) = false := by simp
    clear hn hln hm
    go_enter Try.func174, Try.ntmps174
    go_wp2_with fail
    go_loopw [13] (fun i wr => ∃ k q : Nat, k ≤ n ∧ i = .int .i64 k ∧ sUp l m k = true ∧ wr = w.drewN q) (fun i _ => n - (intOf i).toNat)
    case atStart => exact ⟨0, 0, Nat.zero_le _, rfl, sUp_zero _ _, rfl⟩
    case round =>
      obtain ⟨k, q, hk, rfl, hup, rfl⟩ := hrel
      have HUP := Lib.hid hup
      clear hup
      by_cases hlt : k < n
      · obtain ⟨⟨x0, x1, x2⟩, ha⟩ : ∃ a, l[k]? = some a := ⟨l[k]'(by have := HN.out; omega), List.getElem?_eq_getElem (by have := HN.out; omega)⟩
        obtain ⟨⟨y0, y1, y2⟩, hb⟩ : ∃ a, m[k]? = some a := ⟨m[k]'(by have := HN.out; have := HL.out; omega), List.getElem?_eq_getElem (by have := HN.out; have := HL.out; omega)⟩
        obtain ⟨g, o, rfl, _, hc⟩ := r.elem ha
        obtain ⟨g', o', rfl, _, hc'⟩ := r'.elem hb
        have c0 : w.cell? ⟨g, o + k * 3, none⟩ = some (.int .i64 x0) := hc 0 _ rfl
        have c1 : w.cell? ⟨g, o + k * 3 + 1, none⟩ = some (.int .i64 x1) := hc 1 _ rfl
        have c2 : w.cell? ⟨g, o + k * 3 + 2, none⟩ = some (.bool x2) := hc 2 _ rfl
        have d0 : w.cell? ⟨g', o' + k * 3, none⟩ = some (.int .i64 y0) := hc' 0 _ rfl
        have d1 : w.cell? ⟨g', o' + k * 3 + 1, none⟩ = some (.int .i64 y1) := hc' 1 _ rfl
        have d2 : w.cell? ⟨g', o' + k * 3 + 2, none⟩ = some (.bool y2) := hc' 2 _ rfl
        have HA := Lib.hid ha
        have HB := Lib.hid hb
        clear hc hc' ha hb r r'
        have hki : (k : Int) < (n : Int) := by omega
        have e1 := fun w => neq_knot (a := x0) (b := x1) (c := y0) (d := y1) (f := x2) (g := y2) w
        by_cases hke : x0 = y0 ∧ x1 = y1 ∧ x2 = y2
        · rw [decide_eq_true hke] at e1
          simp only [Bool.not_true] at e1
          have HK := Lib.hid hke
          clear hke
          go_wp2_with fail
          go_quiet (fail)
          clear e1
          go_wp2_with fail
          go_roundw
          case rel => exact ⟨k + 1, q + nq, by omega, by go_num, sUp_succ HUP.out HA.out HB.out (k_pair HK.out), rfl⟩
          case measure => simp [intOf]; omega
        · rw [decide_eq_false hke] at e1
          simp only [Bool.not_false] at e1
          have HK := Lib.hid hke
          clear hke
          go_wp2_with fail
          go_quiet (fail)
          clear e1
          go_wp2_with fail
          go_ret
          exact ⟨ret_bool (sEq_no HA.out HB.out (k_not HK.out)), q + nq, World.drewN_drewN _ _ _⟩
      · obtain rfl : k = n := by omega
        go_wp2_with fail
        go_ret
        exact ⟨ret_bool (sEq_yes HL.out (HN.out ▸ HUP.out)), q, rfl⟩
  case neg =>
    have e0 : ((l.length : Int) != (m.length : Int)) = true := by rw [bne_iff_ne]; omega
    have H := Lib.hid (sEq_len hln)
    clear hln
    go_enter Try.func174, Try.ntmps174
    go_wp2_with fail
    go_ret
    exact ⟨ret_bool H.out, 0, rfl⟩
set_option maxHeartbeats 3200000 in
theorem l10Same_any (l m : List AKnot) (A A' : Option Addr) (c c' B : Nat) (w : World) (b p b' p' : Nat) (z0 : w.cell? ⟨b, p, none⟩ = some (.slice A l.length c)) (z1 : w.cell? ⟨b', p', none⟩ = some (.slice A' m.length c')) (hl : l.length ≤ 1048576) (hm : m.length ≤ 1048576) (r : Rd cKnot 3 w B A l) (r' : Rd cKnot 3 w B A' m) :
    Calls Try.prog 173 #[.pointer (some ⟨b, p, none⟩), .pointer (some ⟨b', p', none⟩)] w fun e w' => e = .returned (.bool (sEq l m)) ∧ ∃ q, w' = w.drewN q := by
  by_cases hln : l.length = m.length
  case pos =>
    obtain ⟨n, hn⟩ : ∃ n, n = l.length := ⟨_, rfl⟩
    have HL := Lib.hid hln
    rw [← hln, ← hn] at z1
    rw [← hn] at z0
    rw [← hn] at hl
    have HN := Lib.hid hn
    have e0 : ((n : Int) != (n : Int)) = false := by simp
    clear hn hln hm
    go_enter Try.func173, Try.ntmps173
    go_wp2_with fail
    go_quiet (fail)
    go_wp2_with fail
    go_loopw [5] (fun i wr => ∃ k q : Nat, k ≤ n ∧ i = .int .i64 k ∧ sUp l m k = true ∧ wr = w.drewN q) (fun i _ => n - (intOf i).toNat)
    case atStart => exact ⟨0, nq, Nat.zero_le _, rfl, sUp_zero _ _, rfl⟩
    case round =>
      obtain ⟨k, q, hk, rfl, hup, rfl⟩ := hrel
      have HUP := Lib.hid hup
      clear hup
      by_cases hlt : k < n
      · obtain ⟨⟨x0, x1, x2⟩, ha⟩ : ∃ a, l[k]? = some a := ⟨l[k]'(by have := HN.out; omega), List.getElem?_eq_getElem (by have := HN.out; omega)⟩
        obtain ⟨⟨y0, y1, y2⟩, hb⟩ : ∃ a, m[k]? = some a := ⟨m[k]'(by have := HN.out; have := HL.out; omega), List.getElem?_eq_getElem (by have := HN.out; have := HL.out; omega)⟩
        obtain ⟨g, o, rfl, _, hc⟩ := r.elem ha
        obtain ⟨g', o', rfl, _, hc'⟩ := r'.elem hb
        have c0 : w.cell? ⟨g, o + k * 3, none⟩ = some (.int .i64 x0) := hc 0 _ rfl
        have c1 : w.cell? ⟨g, o + k * 3 + 1, none⟩ = some (.int .i64 x1) := hc 1 _ rfl
        have c2 : w.cell? ⟨g, o + k * 3 + 2, none⟩ = some (.bool x2) := hc 2 _ rfl
        have d0 : w.cell? ⟨g', o' + k * 3, none⟩ = some (.int .i64 y0) := hc' 0 _ rfl
        have d1 : w.cell? ⟨g', o' + k * 3 + 1, none⟩ = some (.int .i64 y1) := hc' 1 _ rfl
        have d2 : w.cell? ⟨g', o' + k * 3 + 2, none⟩ = some (.bool y2) := hc' 2 _ rfl
        have HA := Lib.hid ha
        have HB := Lib.hid hb
        clear hc hc' ha hb r r'
        have hki : (k : Int) < (n : Int) := by omega
        have e1 := fun w => neq_knot (a := x0) (b := x1) (c := y0) (d := y1) (f := x2) (g := y2) w
        by_cases hke : x0 = y0 ∧ x1 = y1 ∧ x2 = y2
        · rw [decide_eq_true hke] at e1
          simp only [Bool.not_true] at e1
          have HK := Lib.hid hke
          clear hke
          go_wp2_with fail
          go_quiet (fail)
          clear e1
          go_wp2_with fail
          go_roundw
          case rel => exact ⟨k + 1, q + nq, by omega, by go_num, sUp_succ HUP.out HA.out HB.out (k_pair HK.out), rfl⟩
          case measure => simp [intOf]; omega
        · rw [decide_eq_false hke] at e1
          simp only [Bool.not_false] at e1
          have HK := Lib.hid hke
          clear hke
          go_wp2_with fail
          go_quiet (fail)
          clear e1
          go_wp2_with fail
          go_ret
          exact ⟨ret_bool (sEq_no HA.out HB.out (k_not HK.out)), q + nq, World.drewN_drewN _ _ _⟩
      · obtain rfl : k = n := by omega
        go_wp2_with fail
        go_ret
        exact ⟨ret_bool (sEq_yes HL.out (HN.out ▸ HUP.out)), q, rfl⟩
  case neg =>
    have e0 : ((l.length : Int) != (m.length : Int)) = true := by rw [bne_iff_ne]; omega
    have H := Lib.hid (sEq_len hln)
    clear hln
    go_enter Try.func173, Try.ntmps173
    go_wp2_with fail
    go_quiet (fail)
    go_wp2_with fail
    go_ret
    exact ⟨ret_bool H.out, nq, rfl⟩
def oUp (l m : List DLoop) (k : Nat) : Bool := decide (l.take k = m.take k)
def oEq (l m : List DLoop) : Bool := decide (l = m)
theorem oUp_zero (l m : List DLoop) : oUp l m 0 = true := by simp [oUp]
theorem oUp_succ {l m : List DLoop} {k : Nat} {a b : DLoop} (h : oUp l m k = true) (ha : l[k]? = some a) (hb : m[k]? = some b) (he : a = b) : oUp l m (k + 1) = true := by
  unfold oUp at *
  rw [List.take_add_one, List.take_add_one, ha, hb]
  simp only [decide_eq_true_eq] at h
  simp [h, he]
theorem oEq_len {l m : List DLoop} (h : ¬ l.length = m.length) : false = oEq l m := by
  unfold oEq; symm; rw [decide_eq_false_iff_not]; intro e; apply h; rw [e]
theorem oEq_no {l m : List DLoop} {k : Nat} {a b : DLoop} (ha : l[k]? = some a) (hb : m[k]? = some b) (he : ¬ a = b) : false = oEq l m := by
  unfold oEq; symm; rw [decide_eq_false_iff_not]; intro e; apply he
  rw [e, hb] at ha
  exact (Option.some.inj ha).symm
theorem oEq_yes {l m : List DLoop} (hl : l.length = m.length) (h : oUp l m l.length = true) : true = oEq l m := by
  unfold oUp at h
  rw [List.take_length, hl, List.take_length] at h
  unfold oEq; exact h.symm
theorem sEq_t {l m : List AKnot} (h : sEq l m = true) : l = m := by simpa [sEq] using h
theorem sEq_f {l m : List AKnot} (h : sEq l m = false) : ¬ l = m := by simpa [sEq] using h
set_option maxHeartbeats 1600000 in
theorem loopSame_any (l m : List AKnot) (A A' : Option Addr) (c c' : Nat) (w : World) (hl : l.length ≤ 1048576) (hm : m.length ≤ 1048576) (r : Rd cKnot 3 w w.heap.size A l) (r' : Rd cKnot 3 w w.heap.size A' m) :
    Calls Try.prog 132 #[.agg #[.slice A l.length c], .agg #[.slice A' m.length c']] w fun e w' => e = .returned (.bool (sEq l m)) ∧ Below w.heap.size w w' := by
  have C := Lib.hid (fun B w r r' => slicesEqual_any l m A A' c c' B w hl hm r r')
  go_enter Try.func132, Try.ntmps132
  go_wp2_with fail
  refine (C.out w.heap.size _ ?_ ?_).mono ?_
  · exact (r.alloc (Nat.le_refl _) _).alloc (by simp) _
  · exact (r'.alloc (Nat.le_refl _) _).alloc (by simp) _
  rintro e w1 ⟨rfl, q, rfl⟩
  go_wp2_with fail
  go_ret
  exact ⟨rfl, by repeat' (first | with_reducible assumption | with_reducible exact Below.refl _ _ | (with_reducible refine Below.setCell ?_ ?_ _) | (with_reducible refine Below.alloc ?_ ?_ _) | (with_reducible refine Below.drew ?_) | (with_reducible refine below_dr ?_ _) | (with_reducible refine Below.trans ?_ (Below.mono (by with_reducible assumption) ?_)) | omega | (simp; done) | (simp; omega))⟩
set_option maxHeartbeats 3200000 in
theorem equalFunc_any (l m : List DLoop) (A A' : Option Addr) (c c' : Nat) (w : World) (hl : l.length ≤ 1048576) (hm : m.length ≤ 1048576) (hi : ∀ (i : Nat) (d : DLoop), l[i]? = some d → d.length ≤ 1048576) (hi' : ∀ (i : Nat) (d : DLoop), m[i]? = some d → d.length ≤ 1048576) (r : RdLoop w w.heap.size A l) (r' : RdLoop w w.heap.size A' m) :
    Calls Try.prog 131 #[.slice A l.length c, .slice A' m.length c', .func (.func 132) #[] #[]] w fun e w' => e = .returned (.bool (oEq l m)) ∧ Below w.heap.size w w' := by
  have HI := Lib.hid hi
  have HI' := Lib.hid hi'
  clear hi hi'
  by_cases hln : l.length = m.length
  case neg =>
    have e0 : ((l.length : Int) != (m.length : Int)) = true := by rw [bne_iff_ne]; omega
    have H := Lib.hid (oEq_len hln)
    clear hln
    go_enter Try.func131, Try.ntmps131
    go_wp2_with fail
    go_ret
    exact ⟨ret_bool H.out, by repeat' (first | with_reducible assumption | with_reducible exact Below.refl _ _ | (with_reducible refine Below.setCell ?_ ?_ _) | (with_reducible refine Below.alloc ?_ ?_ _) | (with_reducible refine Below.drew ?_) | (with_reducible refine below_dr ?_ _) | (with_reducible refine Below.trans ?_ (Below.mono (by with_reducible assumption) ?_)) | omega | (simp; done) | (simp; omega))⟩
  case pos =>
    obtain ⟨n, hn⟩ : ∃ n, n = l.length := ⟨_, rfl⟩
    have HL := Lib.hid hln
    rw [← hln, ← hn]
    rw [← hn] at hl
    have HN := Lib.hid hn
    have e0 : ((n : Int) != (n : Int)) = false := by simp
    clear hn hln hm
    go_enter Try.func131, Try.ntmps131
    go_wp2_with fail
    go_loopw [17] (fun i wr => ∃ k : Nat, k ≤ n ∧ i = .int .i64 k ∧ oUp l m k = true ∧ Below w.heap.size w wr) (fun i _ => n - (intOf i).toNat)
    case atStart => exact ⟨0, Nat.zero_le _, rfl, oUp_zero _ _, by repeat' (first | with_reducible assumption | with_reducible exact Below.refl _ _ | (with_reducible refine Below.setCell ?_ ?_ _) | (with_reducible refine Below.alloc ?_ ?_ _) | (with_reducible refine Below.drew ?_) | (with_reducible refine below_dr ?_ _) | (with_reducible refine Below.trans ?_ (Below.mono (by with_reducible assumption) ?_)) | omega | (simp; done) | (simp; omega))⟩
    case round =>
      obtain ⟨k, hk, rfl, hup, g1⟩ := hrel
      have HUP := Lib.hid hup
      clear hup
      have r1 := r.carry g1 (Nat.le_refl _)
      have r1' := r'.carry g1 (Nat.le_refl _)
      have zr := g1.size
      by_cases hlt : k < n
      case pos =>
        obtain ⟨dl, ha⟩ : ∃ a, l[k]? = some a := ⟨l[k]'(by have := HN.out; omega), List.getElem?_eq_getElem (by have := HN.out; omega)⟩
        obtain ⟨dm, hb⟩ : ∃ a, m[k]? = some a := ⟨m[k]'(by have := HN.out; have := HL.out; omega), List.getElem?_eq_getElem (by have := HN.out; have := HL.out; omega)⟩
        obtain ⟨g, o, A3, c3, rfl, hg, hc, rr⟩ := r1.elem ha
        obtain ⟨g', o', B3, d3, rfl, hg', hd, rr'⟩ := r1'.elem hb
        have hlx : dl.length ≤ 1048576 := HI.out k _ ha
        have hly : dm.length ≤ 1048576 := HI'.out k _ hb
        have c0 : wr.cell? ⟨g, o + k, none⟩ = some (.slice A3 dl.length c3) := by have h := hc 0 _ rfl; rw [Nat.mul_one] at h; exact h
        have d0 : wr.cell? ⟨g', o' + k, none⟩ = some (.slice B3 dm.length d3) := by have h := hd 0 _ rfl; rw [Nat.mul_one] at h; exact h
        have HA := Lib.hid ha
        have HB := Lib.hid hb
        clear hc hd ha hb
        have hki : (k : Int) < (n : Int) := by omega
        have hgw : g < wr.heap.size := by omega
        have hgw' : g' < wr.heap.size := by omega
        rcases hv : sEq dl dm with _ | _
        case false =>
          have C := Lib.hid (fun w q q' => loopSame_any dl dm A3 B3 c3 d3 w hlx hly q q')
          simp only [hv] at C
          have HV := Lib.hid hv
          clear hv r1 r1'
          go_wp2_with fail
          refine (C.out _ ?_ ?_).mono ?_
          · exact ((rr.alloc (by omega) _).alloc (by simp; omega) _).more (by simp; omega)
          · exact ((rr'.alloc (by omega) _).alloc (by simp; omega) _).more (by simp; omega)
          rintro e w1 ⟨rfl, hb⟩
          go_wp2_with fail
          go_ret
          exact ⟨ret_bool (oEq_no HA.out HB.out (sEq_f HV.out)), by repeat' (first | with_reducible assumption | with_reducible exact Below.refl _ _ | (with_reducible refine Below.setCell ?_ ?_ _) | (with_reducible refine Below.alloc ?_ ?_ _) | (with_reducible refine Below.drew ?_) | (with_reducible refine below_dr ?_ _) | (with_reducible refine Below.trans ?_ (Below.mono (by with_reducible assumption) ?_)) | omega | (simp; done) | (simp; omega))⟩
        case true =>
          have C := Lib.hid (fun w q q' => loopSame_any dl dm A3 B3 c3 d3 w hlx hly q q')
          simp only [hv] at C
          have HV := Lib.hid hv
          clear hv r1 r1'
          go_wp2_with fail
          refine (C.out _ ?_ ?_).mono ?_
          · exact ((rr.alloc (by omega) _).alloc (by simp; omega) _).more (by simp; omega)
          · exact ((rr'.alloc (by omega) _).alloc (by simp; omega) _).more (by simp; omega)
          rintro e w1 ⟨rfl, hb⟩
          go_wp2_with fail
          go_roundw
          case rel => exact ⟨k + 1, by omega, by go_num, oUp_succ HUP.out HA.out HB.out (sEq_t HV.out), by repeat' (first | with_reducible assumption | with_reducible exact Below.refl _ _ | (with_reducible refine Below.setCell ?_ ?_ _) | (with_reducible refine Below.alloc ?_ ?_ _) | (with_reducible refine Below.drew ?_) | (with_reducible refine below_dr ?_ _) | (with_reducible refine Below.trans ?_ (Below.mono (by with_reducible assumption) ?_)) | omega | (simp; done) | (simp; omega))⟩
          case measure => simp [intOf]; omega
      case neg =>
        obtain rfl : k = n := by omega
        go_wp2_with fail
        go_ret
        exact ⟨ret_bool (oEq_yes HL.out (HN.out ▸ HUP.out)), g1⟩
set_option maxHeartbeats 1600000 in
theorem implSameOutline_any (l m : List DLoop) (A A' : Option Addr) (c c' : Nat) (w : World) (hl : l.length ≤ 1048576) (hm : m.length ≤ 1048576) (hi : ∀ (i : Nat) (d : DLoop), l[i]? = some d → d.length ≤ 1048576) (hi' : ∀ (i : Nat) (d : DLoop), m[i]? = some d → d.length ≤ 1048576) (r : RdLoop w w.heap.size A l) (r' : RdLoop w w.heap.size A' m) :
    Calls Try.prog 64 #[.agg #[.slice A l.length c], .agg #[.slice A' m.length c']] w fun e w' => e = .returned (.bool (oEq l m)) ∧ Below w.heap.size w w' := by
  have C := Lib.hid (fun w r r' => equalFunc_any l m A A' c c' w hl hm hi hi' r r')
  clear hi hi'
  go_enter Try.func64, Try.ntmps64
  go_wp2_with fail
  refine (C.out _ ?_ ?_).mono ?_
  · exact ((r.alloc (Nat.le_refl _) _).alloc (by simp) _).more (by simp; omega)
  · exact ((r'.alloc (Nat.le_refl _) _).alloc (by simp) _).more (by simp; omega)
  rintro e w1 ⟨rfl, hb⟩
  go_wp2_with fail
  go_ret
  exact ⟨rfl, by repeat' (first | with_reducible assumption | with_reducible exact Below.refl _ _ | (with_reducible refine Below.setCell ?_ ?_ _) | (with_reducible refine Below.alloc ?_ ?_ _) | (with_reducible refine Below.drew ?_) | (with_reducible refine below_dr ?_ _) | (with_reducible refine Below.trans ?_ (Below.mono (by with_reducible assumption) ?_)) | omega | (simp; done) | (simp; omega))⟩
set_option maxHeartbeats 6400000 in
theorem specSameOutline_any (l m : List DLoop) (A A' : Option Addr) (c c' : Nat) (w : World) (hl : l.length ≤ 1048576) (hm : m.length ≤ 1048576) (hi : ∀ (i : Nat) (d : DLoop), l[i]? = some d → d.length ≤ 1048576) (hi' : ∀ (i : Nat) (d : DLoop), m[i]? = some d → d.length ≤ 1048576) (r : RdLoop w w.heap.size A l) (r' : RdLoop w w.heap.size A' m) :
    Calls Try.prog 130 #[.agg #[.slice A l.length c], .agg #[.slice A' m.length c']] w fun e w' => e = .returned (.bool (oEq l m)) ∧ Below w.heap.size w w' := by
  have HI := Lib.hid hi
  have HI' := Lib.hid hi'
  clear hi hi'
  by_cases hln : l.length = m.length
  case neg =>
    have e0 : ((l.length : Int) != (m.length : Int)) = true := by rw [bne_iff_ne]; omega
    have H := Lib.hid (oEq_len hln)
    clear hln
    go_enter Try.func130, Try.ntmps130
    go_wp2_with fail
    go_ret
    exact ⟨ret_bool H.out, by repeat' (first | with_reducible assumption | with_reducible exact Below.refl _ _ | (with_reducible refine Below.setCell ?_ ?_ _) | (with_reducible refine Below.alloc ?_ ?_ _) | (with_reducible refine Below.drew ?_) | (with_reducible refine below_dr ?_ _) | (with_reducible refine Below.trans ?_ (Below.mono (by with_reducible assumption) ?_)) | omega | (simp; done) | (simp; omega))⟩
  case pos =>
    obtain ⟨n, hn⟩ : ∃ n, n = l.length := ⟨_, rfl⟩
    have HL := Lib.hid hln
    rw [← hln, ← hn]
    rw [← hn] at hl
    have HN := Lib.hid hn
    have e0 : ((n : Int) != (n : Int)) = false := by simp
    clear hn hln hm
    go_enter Try.func130, Try.ntmps130
    go_wp2_with fail
    generalize hW : (w.alloc (.cells #[.slice A n c] 33)).alloc (.cells #[.slice A' n c'] 33) = W0
    have r0 : RdLoop W0 w.heap.size A l := by rw [← hW]; exact (r.alloc (Nat.le_refl _) _).alloc (by simp) _
    have r0' : RdLoop W0 w.heap.size A' m := by rw [← hW]; exact (r'.alloc (Nat.le_refl _) _).alloc (by simp) _
    have k0 : W0.cell? ⟨w.heap.size, 0, none⟩ = some (.slice A n c) := by rw [← hW]; simp [go_sem]
    have k1 : W0.cell? ⟨w.heap.size + 1, 0, none⟩ = some (.slice A' n c') := by rw [← hW]; simp [go_sem]
    have g0 : Below w.heap.size w W0 := by rw [← hW]; repeat' (first | with_reducible assumption | with_reducible exact Below.refl _ _ | (with_reducible refine Below.setCell ?_ ?_ _) | (with_reducible refine Below.alloc ?_ ?_ _) | (with_reducible refine Below.drew ?_) | (with_reducible refine below_dr ?_ _) | (with_reducible refine Below.trans ?_ (Below.mono (by with_reducible assumption) ?_)) | omega | (simp; done) | (simp; omega))
    clear hW r r'
    go_loopw [5] (fun i wr => ∃ k q : Nat, k ≤ n ∧ i = .int .i64 k ∧ oUp l m k = true ∧ wr = W0.drewN q) (fun i _ => n - (intOf i).toNat)
    case atStart => exact ⟨0, 0, Nat.zero_le _, rfl, oUp_zero _ _, rfl⟩
    case round =>
      obtain ⟨k, q, hk, rfl, hup, rfl⟩ := hrel
      have HUP := Lib.hid hup
      clear hup
      have r1 := r0
      have r1' := r0'
      by_cases hlt : k < n
      case pos =>
        obtain ⟨dl, ha⟩ : ∃ a, l[k]? = some a := ⟨l[k]'(by have := HN.out; omega), List.getElem?_eq_getElem (by have := HN.out; omega)⟩
        obtain ⟨dm, hb⟩ : ∃ a, m[k]? = some a := ⟨m[k]'(by have := HN.out; have := HL.out; omega), List.getElem?_eq_getElem (by have := HN.out; have := HL.out; omega)⟩
        obtain ⟨g, o, A3, c3, rfl, hg, hc, rr⟩ := r1.elem ha
        obtain ⟨g', o', B3, d3, rfl, hg', hd, rr'⟩ := r1'.elem hb
        have hlx : dl.length ≤ 1048576 := HI.out k _ ha
        have hly : dm.length ≤ 1048576 := HI'.out k _ hb
        have c0 : W0.cell? ⟨g, o + k, none⟩ = some (.slice A3 dl.length c3) := by have h := hc 0 _ rfl; rw [Nat.mul_one] at h; exact h
        have d0 : W0.cell? ⟨g', o' + k, none⟩ = some (.slice B3 dm.length d3) := by have h := hd 0 _ rfl; rw [Nat.mul_one] at h; exact h
        have HA := Lib.hid ha
        have HB := Lib.hid hb
        clear hc hd ha hb
        have hki : (k : Int) < (n : Int) := by omega
        rcases hv : sEq dl dm with _ | _
        case false =>
          have C := Lib.hid (fun q2 => l10Same_any dl dm A3 B3 c3 d3 w.heap.size (W0.drewN q2) g (o + k) g' (o' + k) c0 d0 hlx hly (rr.drewN q2) (rr'.drewN q2))
          simp only [hv] at C
          have HV := Lib.hid hv
          clear hv r1 r1' r0 r0' rr rr'
          go_wp2_with fail
          go_quiet (first | (go_at_call 173; refine (C.out _).mono ?_; rintro e w2 ⟨he, m, hm⟩; refine ⟨he, ?_⟩; rw [hm, World.drewN_drewN, Nat.add_assoc]; exact ⟨_, rfl⟩))
          go_wp2_with fail
          go_ret
          exact ⟨ret_bool (oEq_no HA.out HB.out (sEq_f HV.out)), by repeat' (first | with_reducible assumption | with_reducible exact Below.refl _ _ | (with_reducible refine Below.setCell ?_ ?_ _) | (with_reducible refine Below.alloc ?_ ?_ _) | (with_reducible refine Below.drew ?_) | (with_reducible refine below_dr ?_ _) | (with_reducible refine Below.trans ?_ (Below.mono (by with_reducible assumption) ?_)) | omega | (simp; done) | (simp; omega))⟩
        case true =>
          have C := Lib.hid (fun q2 => l10Same_any dl dm A3 B3 c3 d3 w.heap.size (W0.drewN q2) g (o + k) g' (o' + k) c0 d0 hlx hly (rr.drewN q2) (rr'.drewN q2))
          simp only [hv] at C
          have HV := Lib.hid hv
          clear hv r1 r1' r0 r0' rr rr'
          go_wp2_with fail
          go_quiet (first | (go_at_call 173; refine (C.out _).mono ?_; rintro e w2 ⟨he, m, hm⟩; refine ⟨he, ?_⟩; rw [hm, World.drewN_drewN, Nat.add_assoc]; exact ⟨_, rfl⟩))
          go_wp2_with fail
          go_roundw
          case rel => exact ⟨k + 1, q + nq, by omega, by go_num, oUp_succ HUP.out HA.out HB.out (sEq_t HV.out), rfl⟩
          case measure => simp [intOf]; omega
      case neg =>
        obtain rfl : k = n := by omega
        go_wp2_with fail
        go_ret
        exact ⟨ret_bool (oEq_yes HL.out (HN.out ▸ HUP.out)), by repeat' (first | with_reducible assumption | with_reducible exact Below.refl _ _ | (with_reducible refine Below.setCell ?_ ?_ _) | (with_reducible refine Below.alloc ?_ ?_ _) | (with_reducible refine Below.drew ?_) | (with_reducible refine below_dr ?_ _) | (with_reducible refine Below.trans ?_ (Below.mono (by with_reducible assumption) ?_)) | omega | (simp; done) | (simp; omega))⟩
end Go.Proofs.Ytelefmogmloniaa
