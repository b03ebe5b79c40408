/- Walks: valid systems: plain facts; the reference's side. -/
import Derived.Test.YtonoldjhfhngfaaDoorSyo
import Derived.Test.YtonoldjhfhngfaaDoorAw
namespace Go.Proofs.YtonoldjhfhngfaaDoor
open Go.RowKit
set_option linter.unusedVariables false
theorem str_eq {x y : ByteArray} (h : x.data.toList = y.data.toList) : (x.toList == y.toList) = true := by simp [ByteArray.toList_eq, h]
theorem str_ne {x y : ByteArray} (h : ¬ x.data.toList = y.data.toList) : (x.toList == y.toList) = false := by rw [beq_eq_false_iff_ne]; simpa [ByteArray.toList_eq] using h
/-- Is a text the name of a row? -/
def hasB (l : List DSRow) (s : ByteArray) : Bool := l.any fun d => decide (d.1.data.toList = s.data.toList)
def fdG : List DSRow → Nat → ByteArray → Int
  | [], _, _ => -1
  | d :: r, k, s => if d.1.data.toList = s.data.toList then (k : Int) else fdG r (k + 1) s
def fdI (l : List DSRow) (s : ByteArray) : Int := fdG l 0 s
theorem fdG_hit {l : List DSRow} {k : Nat} {d : DSRow} {s : ByteArray} (h : l[k]? = some d) (he : d.1.data.toList = s.data.toList) : fdG (l.drop k) k s = k := by
  obtain ⟨hk, rfl⟩ := List.getElem?_eq_some_iff.1 h
  rw [List.drop_eq_getElem_cons hk]; simp only [fdG]; rw [if_pos he]
theorem fdG_miss {l : List DSRow} {k : Nat} {d : DSRow} {s : ByteArray} (h : l[k]? = some d) (he : ¬ d.1.data.toList = s.data.toList) : fdG (l.drop k) k s = fdG (l.drop (k + 1)) (k + 1) s := by
  obtain ⟨hk, rfl⟩ := List.getElem?_eq_some_iff.1 h
  rw [List.drop_eq_getElem_cons hk]; simp only [fdG]; rw [if_neg he]
theorem fdG_end {l : List DSRow} {k : Nat} {s : ByteArray} (h : l.length ≤ k) : fdG (l.drop k) k s = -1 := by
  rw [List.drop_of_length_le h]; rfl
theorem fdG_sign : ∀ (l : List DSRow) (k : Nat) (s : ByteArray), decide (0 ≤ fdG l k s) = hasB l s
  | [], k, s => by simp [fdG, hasB]
  | d :: r, k, s => by
    unfold fdG
    by_cases h : d.1.data.toList = s.data.toList
    · have e : hasB (d :: r) s = true := by
        show (decide (d.1.data.toList = s.data.toList) || _) = true
        rw [decide_eq_true h]; rfl
      rw [if_pos h, e]; simp
    · have e : hasB (d :: r) s = hasB r s := by
        show (decide (d.1.data.toList = s.data.toList) || _) = _
        rw [decide_eq_false h]; rfl
      rw [if_neg h, e]; exact fdG_sign r (k + 1) s
theorem fd_sign {l : List DSRow} {s : ByteArray} : decide (0 ≤ fdI l s) = hasB l s := fdG_sign l 0 s
theorem fd_ge {l : List DSRow} {s : ByteArray} : decide (fdI l s ≥ 0) = hasB l s := fdG_sign l 0 s
/-- Row k has a name and a valid expression, and comes behind the row ahead of it. -/
def rwB (l : List DSRow) (k : Nat) : Bool := match l[k]? with
  | none => true
  | some d => nameB d.1.data.toList && (vLin d.2.1 d.2.2.1 d.2.2.2 && (k == 0 || match l[k - 1]? with | some e => !leB d.1 e.1 | none => true))
/-- No term's name is a row's. -/
def tmB (l : List DSRow) (ts : List DTerm) (j : Nat) : Bool := match ts[j]? with | some t => !hasB l t.1 | none => true
def tmA (l : List DSRow) (ts : List DTerm) : Bool := (List.range ts.length).all (tmB l ts)
def tmK (l : List DSRow) (k : Nat) : Bool := match l[k]? with | some d => tmA l d.2.2.2 | none => true
def vSys (l : List DSRow) : Bool := decide (l.length ≤ 24) && (List.range l.length).all (fun k => rwB l k && tmK l k)
def upR (l : List DSRow) (k : Nat) : Prop := ∀ j, j < k → rwB l j = true
def upT (l : List DSRow) (k : Nat) : Prop := ∀ j, j < k → tmK l j = true
theorem below_one {k : Nat} {Q : Nat → Prop} (h : ∀ j, j < k → Q j) (hk : Q k) : ∀ j, j < k + 1 → Q j := fun j hj => by
  rcases Nat.lt_or_ge j k with h2 | h2
  · exact h j h2
  · obtain rfl : j = k := by omega
    exact hk
theorem vSys_nr {l : List DSRow} {k : Nat} (hk : k < l.length) (h : rwB l k = false) : false = vSys l := by
  symm; unfold vSys
  rw [Bool.and_eq_false_iff]; right
  rw [List.all_eq_false]; exact ⟨k, by simpa using hk, by simp [h]⟩
theorem vSys_nt {l : List DSRow} {k : Nat} (hk : k < l.length) (h : tmK l k = false) : false = vSys l := by
  symm; unfold vSys
  rw [Bool.and_eq_false_iff]; right
  rw [List.all_eq_false]; exact ⟨k, by simpa using hk, by simp [h]⟩
theorem vSys_end {l : List DSRow} (h1 : upR l l.length) (h2 : upT l l.length) : decide (l.length ≤ 24) = vSys l := by
  unfold vSys
  rw [show (List.range l.length).all (fun k => rwB l k && tmK l k) = true by rw [List.all_eq_true]; intro j hj; have hj := List.mem_range.1 hj; simp [h1 j hj, h2 j hj]]
  simp
theorem vSys_len {l : List DSRow} (h : 24 < l.length) : false = vSys l := by
  symm; unfold vSys; rw [decide_eq_false (by omega)]; rfl
theorem tmA_no {l : List DSRow} {ts : List DTerm} {j : Nat} {t : DTerm} (ht : ts[j]? = some t) (h : hasB l t.1 = true) : tmA l ts = false := by
  have hj := (List.getElem?_eq_some_iff.1 ht).1
  unfold tmA; rw [List.all_eq_false]; exact ⟨j, by simpa using hj, by unfold tmB; rw [ht]; simp [h]⟩
theorem tmA_yes {l : List DSRow} {ts : List DTerm} (h : ∀ j, j < ts.length → tmB l ts j = true) : tmA l ts = true := by
  unfold tmA; rw [List.all_eq_true]; intro j hj; exact h j (by simpa using hj)
theorem tmB_at {l : List DSRow} {ts : List DTerm} {j : Nat} {t : DTerm} (ht : ts[j]? = some t) (h : hasB l t.1 = false) : tmB l ts j = true := by unfold tmB; rw [ht]; simp [h]
theorem tmK_at {l : List DSRow} {k : Nat} {d : DSRow} (h : l[k]? = some d) : tmK l k = tmA l d.2.2.2 := by unfold tmK; rw [h]
theorem rw_n1 {l : List DSRow} {k : Nat} {d : DSRow} (h : l[k]? = some d) (h1 : nameB d.1.data.toList = false) : rwB l k = false := by unfold rwB; rw [h]; simp [h1]
theorem rw_n2 {l : List DSRow} {k : Nat} {d : DSRow} (h : l[k]? = some d) (h1 : vLin d.2.1 d.2.2.1 d.2.2.2 = false) : rwB l k = false := by unfold rwB; rw [h]; simp [h1]
theorem rw_n3 {l : List DSRow} {k : Nat} {d e : DSRow} (h : l[k + 1]? = some d) (he : l[k]? = some e) (h1 : leB d.1 e.1 = true) : rwB l (k + 1) = false := by unfold rwB; rw [h]; simp [he, h1]
theorem rw_y0 {l : List DSRow} {d : DSRow} (h : l[0]? = some d) (h1 : nameB d.1.data.toList = true) (h2 : vLin d.2.1 d.2.2.1 d.2.2.2 = true) : rwB l 0 = true := by unfold rwB; rw [h]; simp [h1, h2]
theorem rw_y1 {l : List DSRow} {k : Nat} {d e : DSRow} (h : l[k + 1]? = some d) (he : l[k]? = some e) (h1 : nameB d.1.data.toList = true) (h2 : vLin d.2.1 d.2.2.1 d.2.2.2 = true) (h3 : leB d.1 e.1 = false) : rwB l (k + 1) = true := by unfold rwB; rw [h]; simp [he, h1, h2, h3]
/-- What an element's own words give besides. -/
def okS (l : List DSRow) : Prop := ∀ (k : Nat) (d : DSRow), l[k]? = some d → ((-9223372036854775808 ≤ d.2.1 ∧ d.2.1 ≤ 9223372036854775807) ∧ (-9223372036854775808 ≤ d.2.2.1 ∧ d.2.2.1 ≤ 9223372036854775807)) ∧ (∀ (w2 : World) (B : Nat) (i : Nat) (b : ATerm), d.2.2.2[i]? = some b → okTerm w2 B b) ∧ d.1.size ≤ maxLen
theorem okS_of {w : World} {B : Nat} {q : List ASRow} (h : ∀ (i : Nat) (b : ASRow), q[i]? = some b → okSRow w B b) : okS (q.map dSRow) := by
  intro k d hd
  obtain ⟨b, hb, rfl⟩ : ∃ b, q[k]? = some b ∧ dSRow b = d := by simpa using hd
  have hw := h k b hb
  simp only [okSRow] at hw
  obtain ⟨h1, h2, h3, -, -, -, h4⟩ := hw
  refine ⟨⟨i64_bounds h2, i64_bounds h3⟩, fun w2 B2 i t ht => ?_, h1⟩
  obtain ⟨u, hu, rfl⟩ : ∃ u, b.2.2.2.2.2[i]? = some u ∧ dTerm u = t := by simpa [dSRow] using ht
  exact h4 i u hu
set_option maxHeartbeats 3200000 in
theorem l05Find_any (l : List DSRow) (A : Option Addr) (c : Nat) (s : ByteArray) (w : World) (hl : l.length ≤ 1048576) (r : Row RvSRow 4 w w.heap.size A l) :
    Calls Tryd.prog 37 #[.slice A l.length c, .string s] w fun e w' => e = .returned (.int .i64 (fdI l s)) ∧ w = w' := by
  have HI := Lib.hid (show fdI l s = fdG (l.drop 0) 0 s from rfl)
  generalize fdI l s = R at *
  obtain ⟨n, hn⟩ : ∃ n, n = l.length := ⟨_, rfl⟩
  rw [← hn] at hl ⊢
  have HN := Lib.hid hn
  clear hn
  have HR := Lib.hid r
  clear r
  go_enter Tryd.func37, Tryd.ntmps37
  go_wp2_with fail
  go_loopw [5] (fun i wr => ∃ k : Nat, k ≤ n ∧ i = .int .i64 k ∧ R = fdG (l.drop k) k s ∧ wr = w) (fun i _ => n - (intOf i).toNat)
  case atStart => exact ⟨0, Nat.zero_le _, rfl, HI.out, rfl⟩
  case round =>
    obtain ⟨k, hk, rfl, hR, rfl⟩ := hrel
    by_cases hlt : k < n
    case neg =>
      have HE := Lib.hid (hR.trans (fdG_end (by have := HN.out; omega)))
      obtain rfl : k = n := by omega
      clear hlt hR
      go_wp2_with fail
      go_ret
      exact ⟨ret_i HE.out.symm, rfl⟩
    case pos =>
      obtain ⟨⟨x0, x1, x2, x3l⟩, ha⟩ : ∃ a, l[k]? = some a := ⟨l[k]'(by have := HN.out; omega), List.getElem?_eq_getElem (by have := HN.out; omega)⟩
      obtain ⟨g, o, rowc, rfl, hg, hRc, hcc⟩ := (HR.out).elem ha
      obtain ⟨x3A, x3c, rfl, u_x3⟩ := hRc
      have c0 : wr.cell? ⟨g, o + k * 4, none⟩ = some (.string x0) := hcc 0 _ rfl
      have c1 : wr.cell? ⟨g, o + k * 4 + 1, none⟩ = some (.int .i64 x1) := hcc 1 _ rfl
      have c2 : wr.cell? ⟨g, o + k * 4 + 2, none⟩ = some (.int .i64 x2) := hcc 2 _ rfl
      have c3 : wr.cell? ⟨g, o + k * 4 + 3, none⟩ = some (.slice x3A x3l.length x3c) := hcc 3 _ rfl
      clear hcc
      have hki : (k : Int) < (n : Int) := by omega
      clear c1 c2 c3
      by_cases he : x0.data.toList = s.data.toList
      case pos =>
        have HE := Lib.hid (hR.trans (fdG_hit ha he))
        have e1 := str_eq he
        clear hR ha he
        go_wp2_with fail
        go_ret
        exact ⟨ret_i HE.out.symm, rfl⟩
      case neg =>
        have HE := Lib.hid (hR.trans (fdG_miss ha he))
        have e1 := str_ne he
        clear hR ha he
        go_wp2_with fail
        go_roundw
        case rel => exact ⟨k + 1, by omega, by go_num, HE.out, by first | rfl | trivial⟩
        case measure => simp [intOf]; omega
end Go.Proofs.YtonoldjhfhngfaaDoor
