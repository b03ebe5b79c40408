/- Walks: which systems are the same, on both sides. -/
import Derived.Test.YtmlhchiinlnfpaaHw
import Derived.Test.YtmlhchiinlnfpaaHf
namespace Go.Proofs.Ytmlhchiinlnfpaa
open Go.RowKit
set_option linter.unusedVariables false
def keyR (d : DRow) : List UInt8 × Int × Int × List (List UInt8 × Int × Int) := (d.1.toList, d.2.1, d.2.2.1, d.2.2.2.map key)
instance keyDec : DecidableEq (List UInt8 × Int × Int × List (List UInt8 × Int × Int)) := fun a b =>
  have h1 : DecidableEq (List (List UInt8 × Int × Int)) := inferInstance
  have h2 : DecidableEq (Int × List (List UInt8 × Int × Int)) := inferInstance
  have h3 : DecidableEq (Int × Int × List (List UInt8 × Int × Int)) := inferInstance
  inferInstanceAs (Decidable (a = b))
def sameUpN (l m : List DRow) (k : Nat) : Bool := decide ((l.take k).map keyR = (m.take k).map keyR)
/-- Are two systems the same? -/
def sSys (l m : List DRow) : Bool := decide (l.map keyR = m.map keyR)
theorem sameUpN_zero (l m : List DRow) : sameUpN l m 0 = true := by simp [sameUpN]
theorem sameUpN_succ {l m : List DRow} {k : Nat} {a b : DRow} (h : sameUpN l m k = true) (ha : l[k]? = some a) (hb : m[k]? = some b) (he : keyR a = keyR b) : sameUpN l m (k + 1) = true := by
  unfold sameUpN at *
  rw [List.take_add_one, List.take_add_one, ha, hb]
  simp only [decide_eq_true_eq] at h
  simp [h, he]
theorem sSys_len {l m : List DRow} (h : ¬ l.length = m.length) : false = sSys l m := by
  unfold sSys; symm; rw [decide_eq_false_iff_not]; intro e; apply h
  have := congrArg List.length e
  simpa using this
theorem sSys_no {l m : List DRow} {k : Nat} {a b : DRow} (ha : l[k]? = some a) (hb : m[k]? = some b) (he : ¬ keyR a = keyR b) : false = sSys l m := by
  unfold sSys; symm; rw [decide_eq_false_iff_not]; intro e; apply he
  have := congrArg (fun z => z[k]?) e
  simp only [List.getElem?_map, ha, hb] at this
  simpa using this
theorem sSys_yes {l m : List DRow} (hl : l.length = m.length) (h : sameUpN l m l.length = true) : true = sSys l m := by
  unfold sameUpN at h
  rw [List.take_length, hl, List.take_length] at h
  unfold sSys; exact h.symm
theorem key_name {x0 y0 : ByteArray} {x1 x2 y1 y2 : Int} {l m : List ATerm} (h : ¬ x0.toList = y0.toList) : ¬ keyR (x0, x1, x2, l) = keyR (y0, y1, y2, m) := by
  intro e; simp only [keyR, Prod.mk.injEq] at e; exact h e.1
theorem key_val {x0 y0 : ByteArray} {x1 x2 y1 y2 : Int} {l m : List ATerm} (h : sLin x1 x2 l y1 y2 m = false) : ¬ keyR (x0, x1, x2, l) = keyR (y0, y1, y2, m) := by
  intro e; simp only [keyR, Prod.mk.injEq] at e
  obtain ⟨_, e1, e2, e3⟩ := e
  have : sLin x1 x2 l y1 y2 m = true := by unfold sLin sameB; rw [decide_eq_true ⟨e1, e2⟩, decide_eq_true e3]; rfl
  rw [this] at h; cases h
theorem key_yes {x0 y0 : ByteArray} {x1 x2 y1 y2 : Int} {l m : List ATerm} (h0 : x0.toList = y0.toList) (h : sLin x1 x2 l y1 y2 m = true) : keyR (x0, x1, x2, l) = keyR (y0, y1, y2, m) := by
  unfold sLin sameB at h
  simp only [Bool.and_eq_true, decide_eq_true_eq] at h
  obtain ⟨⟨rfl, rfl⟩, h3⟩ := h
  simp only [keyR, h0, h3]
set_option maxHeartbeats 1600000 in
theorem rowSame_any (x0 : ByteArray) (x1 x2 : Int) (A : Option Addr) (c : Nat) (l : List ATerm) (y0 : ByteArray) (y1 y2 : Int) (A' : Option Addr) (c' : Nat) (m : List ATerm) (v : Bool) (w : World) (hl : l.length ≤ 1048576) (hm : m.length ≤ 1048576) (hv : v = ((x0.toList == y0.toList) && sLin x1 x2 l y1 y2 m)) (r : Rd cTerm 3 w w.heap.size A l) (r' : Rd cTerm 3 w w.heap.size A' m) :
    Calls Try.prog 76 #[.agg #[.string x0, .int .i64 x1, .int .i64 x2, .slice A l.length c], .agg #[.string y0, .int .i64 y1, .int .i64 y2, .slice A' m.length c']] w fun e w' => e = .returned (.bool v) ∧ Below w.heap.size w w' := by
  have C := Lib.hid (fun w r r' => implSameLinear_any x1 x2 A c l y1 y2 A' c' m w hl hm r r')
  rcases hq : (x0.toList == y0.toList) with _ | _
  · rw [hq, Bool.false_and] at hv
    subst hv
    go_enter Try.func76, Try.ntmps76
    go_wp2_with fail
    go_ret
    exact ⟨rfl, by repeat' (first | with_reducible assumption | with_reducible exact Below.refl _ _ | (with_reducible refine Below.setCell ?_ ?_ _) | (with_reducible refine Below.alloc ?_ ?_ _) | (with_reducible refine Below.drew ?_) | (with_reducible refine below_dr ?_ _) | (with_reducible refine Below.trans ?_ (Below.mono (by with_reducible assumption) ?_)) | omega | (simp; done) | (simp; omega))⟩
  · rw [hq, Bool.true_and] at hv
    have HV := Lib.hid hv
    rw [← hv] at C
    clear hv
    go_enter Try.func76, Try.ntmps76
    go_wp2_with fail
    refine (C.out _ ?_ ?_).mono ?_
    · exact ((r.alloc (Nat.le_refl _) _).alloc (by simp) _).more (by simp; omega)
    · exact ((r'.alloc (Nat.le_refl _) _).alloc (by simp) _).more (by simp; omega)
    rintro e w1 ⟨rfl, hb⟩
    go_wp2_with fail
    go_ret
    exact ⟨rfl, by repeat' (first | with_reducible assumption | with_reducible exact Below.refl _ _ | (with_reducible refine Below.setCell ?_ ?_ _) | (with_reducible refine Below.alloc ?_ ?_ _) | (with_reducible refine Below.drew ?_) | (with_reducible refine below_dr ?_ _) | (with_reducible refine Below.trans ?_ (Below.mono (by with_reducible assumption) ?_)) | omega | (simp; done) | (simp; omega))⟩
set_option maxHeartbeats 3200000 in
theorem equalFunc_any (l m : List DRow) (A A' : Option Addr) (c c' : Nat) (w : World) (hl : l.length ≤ 1048576) (hm : m.length ≤ 1048576) (hi : ∀ (i : Nat) (d : DRow), l[i]? = some d → d.2.2.2.length ≤ 1048576) (hi' : ∀ (i : Nat) (d : DRow), m[i]? = some d → d.2.2.2.length ≤ 1048576) (r : RdRow w w.heap.size A l) (r' : RdRow w w.heap.size A' m) :
    Calls Try.prog 75 #[.slice A l.length c, .slice A' m.length c', .func (.func 76) #[] #[]] w fun e w' => e = .returned (.bool (sSys l m)) ∧ Below w.heap.size w w' := by
  have HI := Lib.hid hi
  have HI' := Lib.hid hi'
  clear hi hi'
  by_cases hln : l.length = m.length
  case neg =>
    have e0 : ((l.length : Int) != (m.length : Int)) = true := by rw [bne_iff_ne]; omega
    have H := Lib.hid (sSys_len hln)
    clear hln
    go_enter Try.func75, Try.ntmps75
    go_wp2_with fail
    go_ret
    exact ⟨ret_bool H.out, by repeat' (first | with_reducible assumption | with_reducible exact Below.refl _ _ | (with_reducible refine Below.setCell ?_ ?_ _) | (with_reducible refine Below.alloc ?_ ?_ _) | (with_reducible refine Below.drew ?_) | (with_reducible refine below_dr ?_ _) | (with_reducible refine Below.trans ?_ (Below.mono (by with_reducible assumption) ?_)) | omega | (simp; done) | (simp; omega))⟩
  case pos =>
    obtain ⟨n, hn⟩ : ∃ n, n = l.length := ⟨_, rfl⟩
    have HL := Lib.hid hln
    rw [← hln, ← hn]
    rw [← hn] at hl
    have HN := Lib.hid hn
    have e0 : ((n : Int) != (n : Int)) = false := by simp
    clear hn hln hm
    go_enter Try.func75, Try.ntmps75
    go_wp2_with fail
    go_loopw [17] (fun i wr => ∃ k : Nat, k ≤ n ∧ i = .int .i64 k ∧ sameUpN l m k = true ∧ Below w.heap.size w wr) (fun i _ => n - (intOf i).toNat)
    case atStart => exact ⟨0, Nat.zero_le _, rfl, sameUpN_zero _ _, by repeat' (first | with_reducible assumption | with_reducible exact Below.refl _ _ | (with_reducible refine Below.setCell ?_ ?_ _) | (with_reducible refine Below.alloc ?_ ?_ _) | (with_reducible refine Below.drew ?_) | (with_reducible refine below_dr ?_ _) | (with_reducible refine Below.trans ?_ (Below.mono (by with_reducible assumption) ?_)) | omega | (simp; done) | (simp; omega))⟩
    case round =>
      obtain ⟨k, hk, rfl, hup, g1⟩ := hrel
      have HUP := Lib.hid hup
      clear hup
      have r1 := r.carry g1 (Nat.le_refl _)
      have r1' := r'.carry g1 (Nat.le_refl _)
      by_cases hlt : k < n
      · obtain ⟨⟨x0, x1, x2, x3l⟩, ha⟩ : ∃ a, l[k]? = some a := ⟨l[k]'(by have := HN.out; omega), List.getElem?_eq_getElem (by have := HN.out; omega)⟩
        obtain ⟨⟨y0, y1, y2, y3l⟩, hb⟩ : ∃ a, m[k]? = some a := ⟨m[k]'(by have := HN.out; have := HL.out; omega), List.getElem?_eq_getElem (by have := HN.out; have := HL.out; omega)⟩
        obtain ⟨g, o, A3, c3, rfl, hg, hc, rr⟩ := r1.elem ha
        obtain ⟨g', o', B3, d3, rfl, hg', hd, rr'⟩ := r1'.elem hb
        have hlx : x3l.length ≤ 1048576 := HI.out k _ ha
        have hly : y3l.length ≤ 1048576 := HI'.out k _ hb
        have c0 : wr.cell? ⟨g, o + k * 4, none⟩ = some (.string x0) := hc 0 _ rfl
        have c1 : wr.cell? ⟨g, o + k * 4 + 1, none⟩ = some (.int .i64 x1) := hc 1 _ rfl
        have c2 : wr.cell? ⟨g, o + k * 4 + 2, none⟩ = some (.int .i64 x2) := hc 2 _ rfl
        have c3_ : wr.cell? ⟨g, o + k * 4 + 3, none⟩ = some (.slice A3 x3l.length c3) := hc 3 _ rfl
        have d0 : wr.cell? ⟨g', o' + k * 4, none⟩ = some (.string y0) := hd 0 _ rfl
        have d1 : wr.cell? ⟨g', o' + k * 4 + 1, none⟩ = some (.int .i64 y1) := hd 1 _ rfl
        have d2 : wr.cell? ⟨g', o' + k * 4 + 2, none⟩ = some (.int .i64 y2) := hd 2 _ rfl
        have d3_ : wr.cell? ⟨g', o' + k * 4 + 3, none⟩ = some (.slice B3 y3l.length d3) := hd 3 _ rfl
        have HA := Lib.hid ha
        have HB := Lib.hid hb
        clear hc hd ha hb
        have hki : (k : Int) < (n : Int) := by omega
        have zr := g1.size
        have hgw : g < wr.heap.size := by omega
        have hgw' : g' < wr.heap.size := by omega
        obtain ⟨v, hv⟩ : ∃ v, v = ((x0.toList == y0.toList) && sLin x1 x2 x3l y1 y2 y3l) := ⟨_, rfl⟩
        have C := Lib.hid (fun w q q' => rowSame_any x0 x1 x2 A3 c3 x3l y0 y1 y2 B3 d3 y3l v w hlx hly hv q q')
        have HV := Lib.hid hv
        clear hv r1 r1'
        go_wp2_with fail
        refine (C.out _ ?_ ?_).mono ?_
        · exact ((rr.alloc (by omega) _).alloc (by simp; omega) _).more (by simp; omega)
        · exact ((rr'.alloc (by omega) _).alloc (by simp; omega) _).more (by simp; omega)
        rintro e w1 ⟨rfl, hb⟩
        rcases v with _ | _
        · have HK := Lib.hid (show ¬ keyR (x0, x1, x2, x3l) = keyR (y0, y1, y2, y3l) by
            have hv := HV.out.symm
            rw [Bool.and_eq_false_iff] at hv
            rcases hv with hv | hv
            · exact key_name (by simpa using hv)
            · exact key_val hv)
          go_wp2_with fail
          go_ret
          exact ⟨ret_bool (sSys_no HA.out HB.out HK.out), by repeat' (first | with_reducible assumption | with_reducible exact Below.refl _ _ | (with_reducible refine Below.setCell ?_ ?_ _) | (with_reducible refine Below.alloc ?_ ?_ _) | (with_reducible refine Below.drew ?_) | (with_reducible refine below_dr ?_ _) | (with_reducible refine Below.trans ?_ (Below.mono (by with_reducible assumption) ?_)) | omega | (simp; done) | (simp; omega))⟩
        · have HK := Lib.hid (show keyR (x0, x1, x2, x3l) = keyR (y0, y1, y2, y3l) by
            have hv := HV.out.symm
            rw [Bool.and_eq_true] at hv
            exact key_yes (by simpa using hv.1) hv.2)
          go_wp2_with fail
          go_roundw
          case rel => exact ⟨k + 1, by omega, by go_num, sameUpN_succ HUP.out HA.out HB.out HK.out, by repeat' (first | with_reducible assumption | with_reducible exact Below.refl _ _ | (with_reducible refine Below.setCell ?_ ?_ _) | (with_reducible refine Below.alloc ?_ ?_ _) | (with_reducible refine Below.drew ?_) | (with_reducible refine below_dr ?_ _) | (with_reducible refine Below.trans ?_ (Below.mono (by with_reducible assumption) ?_)) | omega | (simp; done) | (simp; omega))⟩
          case measure => simp [intOf]; omega
      · obtain rfl : k = n := by omega
        go_wp2_with fail
        go_ret
        exact ⟨ret_bool (sSys_yes HL.out (HN.out ▸ HUP.out)), g1⟩
set_option maxHeartbeats 1600000 in
theorem implSameSystem_any (l m : List DRow) (A A' : Option Addr) (c c' : Nat) (w : World) (hl : l.length ≤ 1048576) (hm : m.length ≤ 1048576) (hi : ∀ (i : Nat) (d : DRow), l[i]? = some d → d.2.2.2.length ≤ 1048576) (hi' : ∀ (i : Nat) (d : DRow), m[i]? = some d → d.2.2.2.length ≤ 1048576) (r : RdRow w w.heap.size A l) (r' : RdRow w w.heap.size A' m) :
    Calls Try.prog 35 #[.agg #[.slice A l.length c], .agg #[.slice A' m.length c']] w fun e w' => e = .returned (.bool (sSys l m)) ∧ Below w.heap.size w w' := by
  have C := Lib.hid (fun w r r' => equalFunc_any l m A A' c c' w hl hm hi hi' r r')
  clear hi hi'
  go_enter Try.func35, Try.ntmps35
  go_wp2_with fail
  refine (C.out _ ?_ ?_).mono ?_
  · exact ((r.alloc (Nat.le_refl _) _).alloc (by simp) _).more (by simp; omega)
  · exact ((r'.alloc (Nat.le_refl _) _).alloc (by simp) _).more (by simp; omega)
  rintro e w1 ⟨rfl, hb⟩
  go_wp2_with fail
  go_ret
  exact ⟨rfl, by repeat' (first | with_reducible assumption | with_reducible exact Below.refl _ _ | (with_reducible refine Below.setCell ?_ ?_ _) | (with_reducible refine Below.alloc ?_ ?_ _) | (with_reducible refine Below.drew ?_) | (with_reducible refine below_dr ?_ _) | (with_reducible refine Below.trans ?_ (Below.mono (by with_reducible assumption) ?_)) | omega | (simp; done) | (simp; omega))⟩
end Go.Proofs.Ytmlhchiinlnfpaa
