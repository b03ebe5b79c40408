/- Plain: which points of a path are kept. -/
import Derived.Test.YtdeemhfhmgnbgaaNuW
import Derived.Test.YtdeemhfhmgnbgaaBp
namespace Go.Proofs.Ytdeemhfhmgnbgaa
open Go.RowKit
set_option linter.unusedVariables false
/-- How far out a point is. -/
def outB (a z p : APt) : Int := if a.1 = z.1 ∧ a.2 = z.2 then sqI a.1 a.2 p.1 p.2 else max (turnI a.1 a.2 z.1 z.2 p.1 p.2) (-turnI a.1 a.2 z.1 z.2 p.1 p.2)
def nrB (t : Int) (a z p : APt) : Bool := nearQ a.1 a.2 z.1 z.2 p.1 p.2 (t * t)
def stp (t : Int) (a z : APt) (s : Int × Int) (i : Nat) (p : APt) : Int × Int := if s.2 < outB a z p ∧ nrB t a z p = false then ((i : Int), outB a z p) else s
def otUp (t : Int) (a z : APt) (l : List APt) : Nat → Int × Int
  | 0 => (0, -1)
  | k + 1 => match l[k]? with | some p => stp t a z (otUp t a z l k) k p | none => otUp t a z l k
def spUp (t : Int) (a z : APt) (l : List APt) : Nat → Int × Int
  | 0 => (-1, -1)
  | 1 => (-1, -1)
  | k + 2 => match l[k + 1]? with | some p => stp t a z (spUp t a z l (k + 1)) (k + 1) p | none => spUp t a z l (k + 1)
theorem ot_succ {t : Int} {a z : APt} {l : List APt} {k : Nat} {p : APt} (h : l[k]? = some p) : stp t a z (otUp t a z l k) k p = otUp t a z l (k + 1) := by
  rw [otUp, h]
theorem sp_succ {t : Int} {a z : APt} {l : List APt} {k : Nat} {p : APt} (h1 : 1 ≤ k) (h : l[k]? = some p) : stp t a z (spUp t a z l k) k p = spUp t a z l (k + 1) := by
  obtain ⟨k, rfl⟩ : ∃ j, k = j + 1 := ⟨k - 1, by omega⟩
  rw [spUp, h]
theorem sq_self (x y : Int) : sqI x y x y = 0 := by unfold sqI; simp
theorem near_a {t : Int} (a z : APt) : nrB t a z a = true := by
  unfold nrB nearQ
  rw [sq_self]
  have : (0 : Int) ≤ t * t := by rcases Int.le_total 0 t with h | h; exact Int.mul_nonneg h h; exact Int.mul_nonneg_of_nonpos_of_nonpos h h
  simp [this]
theorem near_z {t : Int} (a z : APt) : nrB t a z z = true := by
  unfold nrB nearQ
  rw [sq_self]
  have : (0 : Int) ≤ t * t := by rcases Int.le_total 0 t with h | h; exact Int.mul_nonneg h h; exact Int.mul_nonneg_of_nonpos_of_nonpos h h
  simp [this]
theorem stp_near {t : Int} {a z p : APt} (s : Int × Int) (i : Nat) (h : nrB t a z p = true) : stp t a z s i p = s := by
  unfold stp; rw [h]; simp
/-- Both find the same point. -/
def Same (s o : Int × Int) (k : Nat) : Prop := s.2 = o.2 ∧ ((s.1 = -1 ∧ o.1 = 0) ∨ (s.1 = o.1 ∧ 1 ≤ s.1 ∧ s.1 < k))
theorem same_upto {t : Int} {a z : APt} {l : List APt} (h0 : l[0]? = some a) : ∀ k, 1 ≤ k → k ≤ l.length → Same (spUp t a z l k) (otUp t a z l k) k
  | 0, h, _ => absurd h (by omega)
  | 1, _, hk => by
    rw [← ot_succ (k := 0) h0, stp_near _ _ (near_a a z)]
    exact ⟨rfl, .inl ⟨rfl, rfl⟩⟩
  | k + 2, _, hk => by
    have ih := same_upto (t := t) (z := z) h0 (k + 1) (by omega) (by omega)
    obtain ⟨p, hp⟩ : ∃ p, l[k + 1]? = some p := ⟨l[k + 1]'(by omega), List.getElem?_eq_getElem (by omega)⟩
    rw [← ot_succ hp, ← sp_succ (by omega) hp]
    obtain ⟨e2, e1⟩ := ih
    unfold stp
    rw [e2]
    by_cases hc : (otUp t a z l (k + 1)).2 < outB a z p ∧ nrB t a z p = false
    · rw [if_pos hc, if_pos hc]
      exact ⟨rfl, .inr ⟨rfl, by first | (simp; done) | (simp; omega), by first | (simp; done) | (simp; omega)⟩⟩
    · rw [if_neg hc, if_neg hc]
      refine ⟨e2, ?_⟩
      rcases e1 with h | ⟨h1, h2, h3⟩
      · exact .inl h
      · exact .inr ⟨h1, h2, by omega⟩
def firstP (l : List APt) : APt := (l[0]?).getD (0, 0)
def lastP (l : List APt) : APt := (l[l.length - 1]?).getD (0, 0)
/-- The point that is kept first, 0 if there is none. -/
def bestI (t : Int) (l : List APt) : Nat := (otUp t (firstP l) (lastP l) l l.length).1.toNat
theorem best_both {t : Int} {l : List APt} (h1 : 1 ≤ l.length) : ∃ s : Int, (spUp t (firstP l) (lastP l) l (l.length - 1)).1 = s ∧ (otUp t (firstP l) (lastP l) l l.length).1 = ((bestI t l : Nat) : Int) ∧ ((s = -1 ∧ bestI t l = 0) ∨ (s = ((bestI t l : Nat) : Int) ∧ 1 ≤ bestI t l ∧ bestI t l + 1 < l.length)) := by
  have ha : l[0]? = some (firstP l) := by unfold firstP; rw [List.getElem?_eq_getElem (by omega)]; rfl
  have hz : l[l.length - 1]? = some (lastP l) := by unfold lastP; rw [List.getElem?_eq_getElem (by omega)]; rfl
  have hlast : otUp t (firstP l) (lastP l) l l.length = otUp t (firstP l) (lastP l) l (l.length - 1) := by
    have h2 := ot_succ (t := t) (a := firstP l) (z := lastP l) (k := l.length - 1) hz
    rw [show l.length - 1 + 1 = l.length by omega, stp_near _ _ (near_z _ _)] at h2
    exact h2.symm
  unfold bestI
  rw [hlast]
  by_cases h2 : l.length = 1
  · rw [show l.length - 1 = 0 by omega]
    exact ⟨-1, rfl, rfl, .inl ⟨rfl, rfl⟩⟩
  · obtain ⟨-, e1⟩ := same_upto (t := t) (z := lastP l) ha (l.length - 1) (by omega) (by omega)
    refine ⟨_, rfl, ?_, ?_⟩
    · rcases e1 with ⟨_, h⟩ | ⟨h3, h4, _⟩
      · rw [h]; rfl
      · omega
    · rcases e1 with ⟨h, h3⟩ | ⟨h3, h4, h5⟩
      · exact .inl ⟨h, by rw [h3]; rfl⟩
      · exact .inr (by omega)
/-- The points between the ends that are kept. -/
def thin (t : Int) : Nat → List APt → List APt
  | 0, _ => []
  | f + 1, l => if bestI t l = 0 then [] else thin t f (l.take (bestI t l + 1)) ++ ((l.drop (bestI t l)).take 1 ++ thin t f (l.drop (bestI t l)))
theorem best_le (t : Int) (l : List APt) : bestI t l = 0 ∨ (1 ≤ bestI t l ∧ bestI t l + 1 < l.length) := by
  by_cases h1 : 1 ≤ l.length
  · obtain ⟨s, _, _, h | h⟩ := best_both (t := t) h1
    · exact .inl h.2
    · exact .inr h.2
  · left
    have : l = [] := List.eq_nil_of_length_eq_zero (by omega)
    subst this; rfl
theorem thin_len (t : Int) : ∀ (f : Nat) (l : List APt), (thin t f l).length ≤ l.length - 2
  | 0, l => by simp [thin]
  | f + 1, l => by
    unfold thin
    rcases best_le t l with h | ⟨h1, h2⟩
    · rw [if_pos h]; simp
    · rw [if_neg (by omega)]
      have i1 := thin_len t f (l.take (bestI t l + 1))
      have i2 := thin_len t f (l.drop (bestI t l))
      simp only [List.length_append, List.length_take, List.length_drop] at *
      omega
end Go.Proofs.Ytdeemhfhmgnbgaa
