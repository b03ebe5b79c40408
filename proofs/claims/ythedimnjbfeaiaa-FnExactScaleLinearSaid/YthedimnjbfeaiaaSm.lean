/- An expression times a number: plain facts. -/
import Derived.Test.YthedimnjbfeaiaaHd
namespace Go.Proofs.Ythedimnjbfeaiaa
open Go.RowKit
set_option linter.unusedVariables false
def mT (n2 d2 : Int) (a : ATerm) : ATerm := (a.1, mkNum (a.2.1 * n2) (a.2.2 * d2), mkDen (a.2.1 * n2) (a.2.2 * d2))
def mC (n2 d2 : Int) (a : ATerm) : Int := mkCode (a.2.1 * n2) (a.2.2 * d2)
def badC (n2 d2 : Int) (l : List ATerm) : Int := match l.find? (fun a => mC n2 d2 a != 0) with | some a => mC n2 d2 a | none => 0
/-- The code, the number and the terms of an expression times a number. -/
def scC (n d : Int) (l : List ATerm) (n2 d2 : Int) : Int := if vLin n d l = true ∧ validB n2 d2 = true then (if mkCode (n * n2) (d * d2) = 0 then (if n2 = 0 then 0 else badC n2 d2 l) else mkCode (n * n2) (d * d2)) else 1
def scL (n d : Int) (l : List ATerm) (n2 d2 : Int) : List ATerm := if scC n d l n2 d2 = 0 then (if n2 = 0 then [] else l.map (mT n2 d2)) else []
def scN (n d : Int) (l : List ATerm) (n2 d2 : Int) : Int := if scC n d l n2 d2 = 0 then mkNum (n * n2) (d * d2) else 0
def scD (n d : Int) (l : List ATerm) (n2 d2 : Int) : Int := if scC n d l n2 d2 = 0 then mkDen (n * n2) (d * d2) else 0
section
variable {n d n2 d2 : Int} {l : List ATerm}
theorem sc_fail {c : Int} (h : scC n d l n2 d2 = c) (hc : ¬ c = 0) : scN n d l n2 d2 = 0 ∧ scD n d l n2 d2 = 0 ∧ scC n d l n2 d2 = c ∧ scL n d l n2 d2 = [] := by
  unfold scN scD scL; rw [h, if_neg hc, if_neg hc, if_neg hc]; exact ⟨rfl, rfl, rfl, rfl⟩
theorem sc_invalid (h : ¬ (vLin n d l = true ∧ validB n2 d2 = true)) : scN n d l n2 d2 = 0 ∧ scD n d l n2 d2 = 0 ∧ scC n d l n2 d2 = 1 ∧ scL n d l n2 d2 = [] :=
  sc_fail (by unfold scC; rw [if_neg h]) (by omega)
theorem sc_const (h : vLin n d l = true) (h2 : validB n2 d2 = true) (hc : ¬ mkCode (n * n2) (d * d2) = 0) : scN n d l n2 d2 = 0 ∧ scD n d l n2 d2 = 0 ∧ scC n d l n2 d2 = mkCode (n * n2) (d * d2) ∧ scL n d l n2 d2 = [] :=
  sc_fail (by unfold scC; rw [if_pos ⟨h, h2⟩, if_neg hc]) hc
theorem badC_at : ∀ {l : List ATerm} {k : Nat} {a : ATerm}, l[k]? = some a → (∀ j b, j < k → l[j]? = some b → mC n2 d2 b = 0) → ¬ mC n2 d2 a = 0 → badC n2 d2 l = mC n2 d2 a
  | [], k, a, h, _, _ => by simp at h
  | b :: l, 0, a, h, _, hb => by
    simp only [List.getElem?_cons_zero, Option.some.injEq] at h
    subst h
    unfold badC
    rw [List.find?_cons_of_pos (by simpa using hb)]
  | b :: l, k + 1, a, h, hp, hb => by
    have h0 : mC n2 d2 b = 0 := hp 0 b (by omega) rfl
    have := badC_at (l := l) (k := k) (a := a) (by simpa using h) (fun j c hj hc => hp (j + 1) c (by omega) (by simpa using hc)) hb
    unfold badC at *
    rw [List.find?_cons_of_neg (by simp [h0])]
    exact this
theorem badC_none (h : ∀ (j : Nat) (b : ATerm), l[j]? = some b → mC n2 d2 b = 0) : badC n2 d2 l = 0 := by
  unfold badC
  have : l.find? (fun a => mC n2 d2 a != 0) = none := by
    rw [List.find?_eq_none]
    intro a ha
    obtain ⟨i, hi, rfl⟩ := List.mem_iff_getElem.1 ha
    have := h i l[i] (List.getElem?_eq_getElem hi)
    simp [this]
  rw [this]
theorem sc_bad (h : vLin n d l = true) (h2 : validB n2 d2 = true) (hc : mkCode (n * n2) (d * d2) = 0) (hz : ¬ n2 = 0) {k : Nat} {a : ATerm} (ha : l[k]? = some a) (hp : ∀ j b, j < k → l[j]? = some b → mC n2 d2 b = 0) (hb : ¬ mC n2 d2 a = 0) : scN n d l n2 d2 = 0 ∧ scD n d l n2 d2 = 0 ∧ scC n d l n2 d2 = mC n2 d2 a ∧ scL n d l n2 d2 = [] :=
  sc_fail (by unfold scC; rw [if_pos ⟨h, h2⟩, if_pos hc, if_neg hz, badC_at ha hp hb]) hb
theorem sc_ok (h : vLin n d l = true) (h2 : validB n2 d2 = true) (hc : mkCode (n * n2) (d * d2) = 0) (hz : ¬ n2 = 0) (hp : ∀ (j : Nat) (b : ATerm), l[j]? = some b → mC n2 d2 b = 0) : scN n d l n2 d2 = mkNum (n * n2) (d * d2) ∧ scD n d l n2 d2 = mkDen (n * n2) (d * d2) ∧ scC n d l n2 d2 = 0 ∧ scL n d l n2 d2 = l.map (mT n2 d2) := by
  have h0 : scC n d l n2 d2 = 0 := by unfold scC; rw [if_pos ⟨h, h2⟩, if_pos hc, if_neg hz, badC_none hp]
  unfold scN scD scL; rw [h0, if_pos rfl, if_pos rfl, if_pos rfl, if_neg hz]; exact ⟨rfl, rfl, rfl, rfl⟩
theorem sc_zero (h : vLin n d l = true) (h2 : validB n2 d2 = true) (hc : mkCode (n * n2) (d * d2) = 0) (hz : n2 = 0) : scN n d l n2 d2 = mkNum (n * n2) (d * d2) ∧ scD n d l n2 d2 = mkDen (n * n2) (d * d2) ∧ scC n d l n2 d2 = 0 ∧ scL n d l n2 d2 = [] := by
  have h0 : scC n d l n2 d2 = 0 := by unfold scC; rw [if_pos ⟨h, h2⟩, if_pos hc, if_pos hz]
  unfold scN scD scL; rw [h0, if_pos rfl, if_pos rfl, if_pos rfl, if_pos hz]; exact ⟨rfl, rfl, rfl, rfl⟩
/-- The terms of a valid expression are valid, and not 0. -/
theorem vLin_term (h : vLin n d l = true) {k : Nat} {a : ATerm} (ha : l[k]? = some a) : validB a.2.1 a.2.2 = true ∧ ¬ a.2.1 = 0 := by
  unfold vLin upTo at h
  simp only [Bool.and_eq_true, List.all_eq_true, List.mem_range] at h
  have hk : k < l.length := by
    rcases Nat.lt_or_ge k l.length with q | q
    · exact q
    · rw [List.getElem?_eq_none q] at ha; cases ha
  have hs := h.2.2 k hk
  unfold stepOk at hs
  rw [ha] at hs
  simp only [Bool.and_eq_true] at hs
  have ht := hs.1
  unfold tOk at ht
  simp only [Bool.and_eq_true] at ht
  exact ⟨ht.2.1, by simpa using ht.2.2⟩
theorem vLin_len (h : vLin n d l = true) : l.length ≤ 12 := by
  unfold vLin at h; simp only [Bool.and_eq_true, decide_eq_true_eq] at h; exact h.2.1
theorem vLin_const (h : vLin n d l = true) : validB n d = true := by
  unfold vLin at h; simp only [Bool.and_eq_true] at h; exact h.1
end
/-- Nothing times 0 is 1 by 1. -/
theorem mk_times0 {x d2 : Int} (hd : 1 ≤ d2) {y : Int} (hy : 1 ≤ y) : mkNum (x * 0) (y * d2) = 0 ∧ mkDen (x * 0) (y * d2) = 1 ∧ mkCode (x * 0) (y * d2) = 0 := by
  have hp : 0 < y * d2 := Int.mul_pos (by omega) (by omega)
  have hne : ¬ y * d2 = 0 := by omega
  have hab : 0 < (y * d2).natAbs := by omega
  rw [Int.mul_zero]
  generalize y * d2 = D at hp hne hab
  have e1 : Nat.gcd (0 : Int).natAbs D.natAbs = D.natAbs := by simp
  have e2 : D.natAbs / D.natAbs = 1 := Nat.div_self hab
  have e3 : (0 : Int).natAbs / D.natAbs = 0 := by simp
  have hr : ¬ (0 > 1000000000 ∨ 1 > 1000000) := by omega
  refine ⟨?_, ?_, ?_⟩
  · unfold mkNum; rw [e1, e2, e3, if_neg hne, if_neg hr]; split <;> rfl
  · unfold mkDen; rw [e1, e2, e3, if_neg hne, if_neg hr]; rfl
  · unfold mkCode; rw [e1, e2, e3, if_neg hne, if_neg hr]
theorem mk_nonzero {n d : Int} (hn : ¬ n = 0) (hd : ¬ d = 0) (hc : mkCode n d = 0) : ¬ mkNum n d = 0 := by
  have hr : ¬ (n.natAbs / Nat.gcd n.natAbs d.natAbs > 1000000000 ∨ d.natAbs / Nat.gcd n.natAbs d.natAbs > 1000000) := by
    intro e; unfold mkCode at hc; rw [if_neg hd, if_pos e] at hc; omega
  have gp : 0 < Nat.gcd n.natAbs d.natAbs := gcd_pos hd
  have hq : 0 < n.natAbs / Nat.gcd n.natAbs d.natAbs := Nat.div_pos (Nat.gcd_le_left _ (by omega)) gp
  unfold mkNum; rw [if_neg hd, if_neg hr]
  generalize n.natAbs / Nat.gcd n.natAbs d.natAbs = q at hq
  split <;> omega
theorem map_snoc {l : List ATerm} {k : Nat} {a : ATerm} {f : ATerm → ATerm} (h : l[k]? = some a) : (l.take (k + 1)).map f = (l.take k).map f ++ [f a] := by
  rw [List.take_add_one, h]; simp
end Go.Proofs.Ythedimnjbfeaiaa
