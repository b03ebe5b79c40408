/- Pixels and segments: plain facts. -/
import Derived.Test.YtnlhofepobkljaaPc
namespace Go.Proofs.Ytnlhofepobkljaa
set_option linter.unusedVariables false
/-- A lower end is not above an upper one. -/
def okL (l b : Int) (f : Bool) (h c : Int) (g : Bool) : Prop := l * c - h * b < 0 ∨ (l * c - h * b = 0 ∧ f = true ∧ g = true)
def takeLo (l1 b1 l2 b2 : Int) (f2 : Bool) : Bool := decide (l1 * b2 - l2 * b1 < 0) || (decide (l1 * b2 - l2 * b1 = 0) && !f2)
def takeHi (h1 c1 h2 c2 : Int) (g2 : Bool) : Bool := decide (0 < h1 * c2 - h2 * c1) || (decide (h1 * c2 - h2 * c1 = 0) && !g2)
theorem fr_lt {l1 b1 l2 b2 h c : Int} (h1 : 0 < b1) (h2 : 0 < b2) (hc : 0 < c) (e : l1 * b2 < l2 * b1) (k : l2 * c ≤ h * b2) : l1 * c < h * b1 := by
  have e1 := Int.mul_lt_mul_of_pos_right e hc
  have e2 := Int.mul_le_mul_of_nonneg_right k (Int.le_of_lt h1)
  have e3 : b2 * (l1 * c) < b2 * (h * b1) := by
    have a1 : b2 * (l1 * c) = l1 * b2 * c := by grind
    have a2 : b2 * (h * b1) = h * b2 * b1 := by grind
    have a3 : l2 * b1 * c = l2 * c * b1 := by grind
    omega
  exact Int.lt_of_mul_lt_mul_left e3 (Int.le_of_lt h2)
theorem fr_le {l1 b1 l2 b2 h c : Int} (h1 : 0 < b1) (h2 : 0 < b2) (hc : 0 < c) (e : l1 * b2 = l2 * b1) (k : l2 * c < h * b2) : l1 * c < h * b1 := by
  have e2 := Int.mul_lt_mul_of_pos_right k h1
  have e3 : b2 * (l1 * c) < b2 * (h * b1) := by
    have a1 : b2 * (l1 * c) = l1 * b2 * c := by grind
    have a2 : b2 * (h * b1) = h * b2 * b1 := by grind
    have a3 : l2 * b1 * c = l2 * c * b1 := by grind
    rw [e] at a1
    omega
  exact Int.lt_of_mul_lt_mul_left e3 (Int.le_of_lt h2)
theorem fr_eq {l1 b1 l2 b2 h c : Int} (h2 : 0 < b2) (e : l1 * b2 = l2 * b1) (k : l2 * c = h * b2) : l1 * c = h * b1 := by
  have e3 : b2 * (l1 * c) = b2 * (h * b1) := by
    have a1 : b2 * (l1 * c) = l1 * b2 * c := by grind
    have a2 : b2 * (h * b1) = h * b2 * b1 := by grind
    have a3 : l2 * b1 * c = l2 * c * b1 := by grind
    rw [a1, a2, e, a3, k]
  exact Int.eq_of_mul_eq_mul_left (by omega) e3
theorem okL_lo {l1 b1 l2 b2 h c : Int} {f1 f2 g : Bool} (h1 : 0 < b1) (h2 : 0 < b2) (hc : 0 < c) :
    okL (if takeLo l1 b1 l2 b2 f2 = true then l2 else l1) (if takeLo l1 b1 l2 b2 f2 = true then b2 else b1) (if takeLo l1 b1 l2 b2 f2 = true then f2 else f1) h c g ↔ okL l1 b1 f1 h c g ∧ okL l2 b2 f2 h c g := by
  by_cases ht : takeLo l1 b1 l2 b2 f2 = true
  · simp only [if_pos ht]
    refine ⟨fun k => ⟨?_, k⟩, fun k => k.2⟩
    simp only [takeLo, Bool.or_eq_true, Bool.and_eq_true, decide_eq_true_eq, Bool.not_eq_true'] at ht
    left
    rcases ht with e | ⟨e, ef⟩
    · have := fr_lt (l1 := l1) (l2 := l2) (h := h) h1 h2 hc (by omega) (by rcases k with k | k <;> omega)
      omega
    · have := fr_le (l1 := l1) (l2 := l2) (h := h) h1 h2 hc (by omega) (by rcases k with k | ⟨_, k, _⟩; omega; rw [ef] at k; cases k)
      omega
  · simp only [if_neg ht]
    refine ⟨fun k => ⟨k, ?_⟩, fun k => k.1⟩
    have hn : ¬ (l1 * b2 - l2 * b1 < 0) ∧ ¬ (l1 * b2 - l2 * b1 = 0 ∧ f2 = false) := by
      simp only [takeLo, Bool.or_eq_true, Bool.and_eq_true, decide_eq_true_eq, Bool.not_eq_true'] at ht
      exact ⟨fun e => ht (.inl e), fun e => ht (.inr e)⟩
    by_cases e : l1 * b2 - l2 * b1 = 0
    · have ef : f2 = true := by
        cases f2 with
        | true => rfl
        | false => exact absurd ⟨e, rfl⟩ hn.2
      rcases k with k | ⟨k, k2, k3⟩
      · left
        have := fr_le (l1 := l2) (l2 := l1) (h := h) h2 h1 hc (by omega) (by omega)
        omega
      · right
        have := fr_eq (l1 := l2) (b1 := b2) (l2 := l1) (b2 := b1) (h := h) (c := c) h1 (by omega) (by omega)
        exact ⟨by omega, ef, k3⟩
    · left
      have := fr_lt (l1 := l2) (l2 := l1) (h := h) h2 h1 hc (by omega) (by rcases k with k | k <;> omega)
      omega
theorem okL_hi {l b h1 c1 h2 c2 : Int} {f g1 g2 : Bool} (hb : 0 < b) (hc1 : 0 < c1) (hc2 : 0 < c2) :
    okL l b f (if takeHi h1 c1 h2 c2 g2 = true then h2 else h1) (if takeHi h1 c1 h2 c2 g2 = true then c2 else c1) (if takeHi h1 c1 h2 c2 g2 = true then g2 else g1) ↔ okL l b f h1 c1 g1 ∧ okL l b f h2 c2 g2 := by
  by_cases ht : takeHi h1 c1 h2 c2 g2 = true
  · simp only [if_pos ht]
    refine ⟨fun k => ⟨?_, k⟩, fun k => k.2⟩
    simp only [takeHi, Bool.or_eq_true, Bool.and_eq_true, decide_eq_true_eq, Bool.not_eq_true'] at ht
    left
    rcases ht with e | ⟨e, ef⟩
    · have := fr_lt (l1 := -h1) (b1 := c1) (l2 := -h2) (b2 := c2) (h := -l) (c := b) hc1 hc2 hb (by rw [Int.neg_mul, Int.neg_mul]; omega) (by rw [Int.neg_mul, Int.neg_mul]; rcases k with k | k <;> omega)
      rw [Int.neg_mul, Int.neg_mul] at this
      omega
    · have := fr_le (l1 := -h1) (b1 := c1) (l2 := -h2) (b2 := c2) (h := -l) (c := b) hc1 hc2 hb (by rw [Int.neg_mul, Int.neg_mul]; omega) (by rw [Int.neg_mul, Int.neg_mul]; rcases k with k | ⟨_, _, k⟩; omega; rw [ef] at k; cases k)
      rw [Int.neg_mul, Int.neg_mul] at this
      omega
  · simp only [if_neg ht]
    refine ⟨fun k => ⟨k, ?_⟩, fun k => k.1⟩
    have hn : ¬ (0 < h1 * c2 - h2 * c1) ∧ ¬ (h1 * c2 - h2 * c1 = 0 ∧ g2 = false) := by
      simp only [takeHi, Bool.or_eq_true, Bool.and_eq_true, decide_eq_true_eq, Bool.not_eq_true'] at ht
      exact ⟨fun e => ht (.inl e), fun e => ht (.inr e)⟩
    by_cases e : h1 * c2 - h2 * c1 = 0
    · have ef : g2 = true := by
        cases g2 with
        | true => rfl
        | false => exact absurd ⟨e, rfl⟩ hn.2
      rcases k with k | ⟨k, k2, k3⟩
      · left
        have := fr_le (l1 := -h2) (b1 := c2) (l2 := -h1) (b2 := c1) (h := -l) (c := b) hc2 hc1 hb (by rw [Int.neg_mul, Int.neg_mul]; omega) (by rw [Int.neg_mul, Int.neg_mul]; omega)
        rw [Int.neg_mul, Int.neg_mul] at this
        omega
      · right
        have := fr_eq (l1 := -h2) (b1 := c2) (l2 := -h1) (b2 := c1) (h := -l) (c := b) hc1 (by rw [Int.neg_mul, Int.neg_mul]; omega) (by rw [Int.neg_mul, Int.neg_mul]; omega)
        rw [Int.neg_mul, Int.neg_mul] at this
        exact ⟨by omega, k2, ef⟩
    · left
      have := fr_lt (l1 := -h2) (b1 := c2) (l2 := -h1) (b2 := c1) (h := -l) (c := b) hc2 hc1 hb (by rw [Int.neg_mul, Int.neg_mul]; omega) (by rw [Int.neg_mul, Int.neg_mul]; rcases k with k | k <;> omega)
      rw [Int.neg_mul, Int.neg_mul] at this
      omega
end Go.Proofs.Ytnlhofepobkljaa
