/- Walks: PartnerOf, the reference's side. -/
import Derived.Test.YtdikenapnncmfaaDoorPhd
namespace Go.Proofs.YtdikenapnncmfaaDoor
open Go.RowKit
set_option linter.unusedVariables false
def opB (l : List AHint) (a : Nat) : Bool := match l[a]? with | some x => decide (x.1 = 35 ∨ x.1 = 36 ∨ x.1 = 44) | none => false
def ptC (l : List AHint) (a : Int) : Int := if alB l = true ∧ ntB l = true then (if 0 ≤ a ∧ a < (l.length : Int) then (if opB l a.toNat = true then 0 else 6) else 2) else 1
def ptX (l : List AHint) (a : Int) : Int := if ptC l a = 0 then ptV l a.toNat else 0
theorem pt_1 {l : List AHint} {a : Int} (h : alB l = false ∨ ntB l = false) : ptC l a = 1 ∧ ptX l a = 0 := by
  have e : ptC l a = 1 := by unfold ptC; rw [if_neg (by rcases h with h | h <;> rw [h] <;> simp)]
  exact ⟨e, by unfold ptX; rw [e]; rfl⟩
theorem pt_2 {l : List AHint} {a : Int} (h1 : alB l = true) (h2 : ntB l = true) (h : a < 0 ∨ (l.length : Int) ≤ a) : ptC l a = 2 ∧ ptX l a = 0 := by
  have e : ptC l a = 2 := by unfold ptC; rw [if_pos ⟨h1, h2⟩, if_neg (by omega)]
  exact ⟨e, by unfold ptX; rw [e]; rfl⟩
theorem pt_6 {l : List AHint} {a : Nat} {x : AHint} (h1 : alB l = true) (h2 : ntB l = true) (hx : l[a]? = some x) (h : ¬ isOp x.1) : ptC l (a : Int) = 6 ∧ ptX l (a : Int) = 0 := by
  have ha := (List.getElem?_eq_some_iff.1 hx).1
  have e : ptC l (a : Int) = 6 := by
    unfold ptC; rw [if_pos ⟨h1, h2⟩, if_pos (by omega), Int.toNat_natCast, if_neg]
    unfold opB; rw [hx]; simp only [decide_eq_true_eq]; exact h
  exact ⟨e, by unfold ptX; rw [e]; rfl⟩
theorem pt_0 {l : List AHint} {a : Nat} {x : AHint} (h1 : alB l = true) (h2 : ntB l = true) (hx : l[a]? = some x) (h : isOp x.1) : ptC l (a : Int) = 0 ∧ ptX l (a : Int) = ptV l a := by
  have ha := (List.getElem?_eq_some_iff.1 hx).1
  have e : ptC l (a : Int) = 0 := by
    unfold ptC; rw [if_pos ⟨h1, h2⟩, if_pos (by omega), Int.toNat_natCast, if_pos]
    unfold opB; rw [hx]; simp only [decide_eq_true_eq]; exact h
  exact ⟨e, by unfold ptX; rw [e, if_pos rfl, Int.toNat_natCast]⟩
end Go.Proofs.YtdikenapnncmfaaDoor
