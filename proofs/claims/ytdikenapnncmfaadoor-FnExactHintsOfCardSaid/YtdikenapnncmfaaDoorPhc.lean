/- Walks: the partner of an instruction, the reference's side. -/
import Derived.Test.YtdikenapnncmfaaDoorPhb
namespace Go.Proofs.YtdikenapnncmfaaDoor
open Go.RowKit
set_option linter.unusedVariables false
section
variable {l : List AHint} {k a : Nat} {st : St} {x : AHint}
theorem nx (h : ntB l = true) (hr : rn l k = some st) (hx : l[k]? = some x) : ∃ s, rn l (k + 1) = some s ∧ stp x.1 k st = some s := by
  have hk : k < l.length := (List.getElem?_eq_some_iff.1 hx).1
  obtain ⟨s, hs⟩ := rn_some (ntB_rn h) (show k + 1 ≤ l.length by omega)
  refine ⟨s, hs, ?_⟩
  rw [rn_succ hr hx] at hs
  exact (chk_some hs).1
theorem nx_push (h : ntB l = true) (hr : rn l k = some st) (hx : l[k]? = some x) (hc : x.1 = 35 ∨ x.1 = 44) : rn l (k + 1) = some ((k, x.1) :: st) := by
  obtain ⟨s, hs, h2⟩ := nx h hr hx
  unfold stp at h2
  rw [if_pos hc] at h2
  rw [hs, ← h2]
theorem nx_else (h : ntB l = true) (hr : rn l k = some st) (hx : l[k]? = some x) (hc : x.1 = 36) : ∃ (p : Nat × Int) (r : St), st = p :: r ∧ p.2 = 35 ∧ rn l (k + 1) = some ((k, 36) :: r) := by
  obtain ⟨s, hs, h2⟩ := nx h hr hx
  unfold stp at h2
  rw [if_neg (by rw [hc]; decide), if_pos hc] at h2
  cases st with
  | nil => cases h2
  | cons p r =>
    simp only at h2
    split at h2
    · rename_i h3; exact ⟨p, r, rfl, h3, by rw [hs, ← h2]⟩
    · cases h2
theorem nx_end (h : ntB l = true) (hr : rn l k = some st) (hx : l[k]? = some x) (hc : x.1 = 37) : ∃ (p : Nat × Int) (r : St), st = p :: r ∧ ¬ p.2 = 44 ∧ rn l (k + 1) = some r := by
  obtain ⟨s, hs, h2⟩ := nx h hr hx
  unfold stp at h2
  rw [if_neg (by rw [hc]; decide), if_neg (by rw [hc]; decide), if_pos hc] at h2
  cases st with
  | nil => cases h2
  | cons p r =>
    simp only at h2
    split at h2
    · cases h2
    · rename_i h3; exact ⟨p, r, rfl, h3, by rw [hs, ← h2]⟩
theorem nx_again (h : ntB l = true) (hr : rn l k = some st) (hx : l[k]? = some x) (hc : x.1 = 38) : ∃ (p : Nat × Int) (r : St), st = p :: r ∧ p.2 = 44 ∧ rn l (k + 1) = some r := by
  obtain ⟨s, hs, h2⟩ := nx h hr hx
  unfold stp at h2
  rw [if_neg (by rw [hc]; decide), if_neg (by rw [hc]; decide), if_neg (by rw [hc]; decide), if_pos hc] at h2
  cases st with
  | nil => cases h2
  | cons p r =>
    simp only at h2
    split at h2
    · rename_i h3; exact ⟨p, r, rfl, h3, by rw [hs, ← h2]⟩
    · cases h2
theorem nx_other (h : ntB l = true) (hr : rn l k = some st) (hx : l[k]? = some x) (h1 : ¬ x.1 = 35) (h2 : ¬ x.1 = 44) (h3 : ¬ x.1 = 36) (h4 : ¬ x.1 = 37) (h5 : ¬ x.1 = 38) : rn l (k + 1) = some st := by
  obtain ⟨s, hs, h6⟩ := nx h hr hx
  unfold stp at h6
  rw [if_neg (by intro h; rcases h with h | h; exact h1 h; exact h2 h), if_neg h3, if_neg h4, if_neg h5] at h6
  rw [hs, ← h6]
theorem rn_open (h : ntB l = true) (hx : l[a]? = some x) (ho : isOp x.1) : ∃ lo, rn l (a + 1) = some ((a, x.1) :: lo) := by
  have ha : a < l.length := (List.getElem?_eq_some_iff.1 hx).1
  obtain ⟨s, hs⟩ := rn_some (ntB_rn h) (show a ≤ l.length by omega)
  rcases ho with hc | hc | hc
  · exact ⟨s, nx_push h hs hx (.inl hc)⟩
  · obtain ⟨p, r, -, -, h2⟩ := nx_else h hs hx hc
    exact ⟨r, by rw [h2, hc]⟩
  · exact ⟨s, nx_push h hs hx (.inr hc)⟩
end
end Go.Proofs.YtdikenapnncmfaaDoor
