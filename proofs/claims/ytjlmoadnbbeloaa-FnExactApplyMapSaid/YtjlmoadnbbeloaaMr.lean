/- Plain facts on sums of products of fractions, added up from the left, beginning with 0; no program in sight. -/
import Derived.Test.YtjlmoadnbbeloaaMq
namespace Go.Proofs.Ytjlmoadnbbeloaa

theorem den_ne {a b c d : Int} (h1 : validB a b = true) (h2 : validB c d = true) : ¬ b * d = 0 := by
  have h1 := validB_bounds h1
  have h2 := validB_bounds h2
  intro h
  rcases Int.mul_eq_zero.1 h with e | e <;> omega
theorem mulC_cases {a b c d : Int} (h1 : validB a b = true) (h2 : validB c d = true) : mulC a b c d = 0 ∨ (mulC a b c d = 2 ∧ mulN a b c d = 0 ∧ mulD a b c d = 0) := mk_code (den_ne h1 h2)
theorem addC_cases {a b c d : Int} (h1 : validB a b = true) (h2 : validB c d = true) : addC a b c d = 0 ∨ (addC a b c d = 2 ∧ addN a b c d = 0 ∧ addD a b c d = 0) := mk_code (den_ne h1 h2)
theorem mul_ok {a b c d : Int} (h : mulC a b c d = 0) : validB (mulN a b c d) (mulD a b c d) = true := mk_valid h
theorem add_ok {a b c d : Int} (h : addC a b c d = 0) : validB (addN a b c d) (addD a b c d) = true := mk_valid h

/-- A fraction, if there is one; a product added to a sum, if both exist. -/
abbrev OF := Option (Int × Int)
def mulF (a b c d : Int) : OF := if mulC a b c d = 0 then some (mulN a b c d, mulD a b c d) else none
def addF (a b c d : Int) : OF := if addC a b c d = 0 then some (addN a b c d, addD a b c d) else none
def plusF (o : OF) (q : OF) : OF := match o, q with
  | some (s, t), some (u, v) => addF s t u v
  | _, _ => none
def oN (o : OF) : Int := match o with | some p => p.1 | none => 0
def oD (o : OF) : Int := match o with | some p => p.2 | none => 0
def oC (o : OF) : Int := match o with | some _ => 0 | none => 2
def okF (o : OF) : Prop := ∀ s t, o = some (s, t) → validB s t = true
theorem oC_zero {o : OF} (h : oC o = 0) : o = some (oN o, oD o) := by
  cases o with
  | none => simp [oC] at h
  | some p => rfl
theorem oC_is (o : OF) : oC o = 0 ∨ (oC o = 2 ∧ o = none) := by
  cases o with
  | none => exact .inr ⟨rfl, rfl⟩
  | some p => exact .inl rfl
theorem okF.valid {o : OF} (h : okF o) (hc : oC o = 0) : validB (oN o) (oD o) = true := h _ _ (oC_zero hc)
theorem mulF_ok {a b c d : Int} : okF (mulF a b c d) := by
  intro s t h
  unfold mulF at h
  split at h
  · rename_i hc
    injection h with h; injection h with h1 h2
    subst h1; subst h2
    exact mul_ok hc
  · simp at h
theorem addF_ok {a b c d : Int} : okF (addF a b c d) := by
  intro s t h
  unfold addF at h
  split at h
  · rename_i hc
    injection h with h; injection h with h1 h2
    subst h1; subst h2
    exact add_ok hc
  · simp at h
theorem plusF_ok {o q : OF} : okF (plusF o q) := by
  intro s t h
  unfold plusF at h
  split at h
  · exact addF_ok _ _ h
  · simp at h
theorem mulF_is {a b c d : Int} (h1 : validB a b = true) (h2 : validB c d = true) : oN (mulF a b c d) = mulN a b c d ∧ oD (mulF a b c d) = mulD a b c d ∧ oC (mulF a b c d) = mulC a b c d := by
  rcases mulC_cases h1 h2 with h | ⟨h, e1, e2⟩
  · unfold mulF; rw [if_pos h]; exact ⟨rfl, rfl, h.symm⟩
  · unfold mulF; rw [if_neg (by omega)]; exact ⟨e1.symm, e2.symm, h.symm⟩
theorem addF_is {a b c d : Int} (h1 : validB a b = true) (h2 : validB c d = true) : oN (addF a b c d) = addN a b c d ∧ oD (addF a b c d) = addD a b c d ∧ oC (addF a b c d) = addC a b c d := by
  rcases addC_cases h1 h2 with h | ⟨h, e1, e2⟩
  · unfold addF; rw [if_pos h]; exact ⟨rfl, rfl, h.symm⟩
  · unfold addF; rw [if_neg (by omega)]; exact ⟨e1.symm, e2.symm, h.symm⟩
/-- The sum of the first k products of a row and a column. -/
def accF (N D X Y : Nat → Int) : Nat → OF
  | 0 => some (0, 1)
  | k + 1 => plusF (accF N D X Y k) (mulF (N k) (D k) (X k) (Y k))
theorem accF_ok (N D X Y : Nat → Int) : ∀ k, okF (accF N D X Y k)
  | 0 => fun s t h => by injection h with h; injection h with h1 h2; subst h1; subst h2; decide
  | k + 1 => plusF_ok
theorem plusF_none_r (o : OF) : plusF o none = none := by cases o <;> rfl
theorem plusF_zero_l {q : OF} (h : okF q) : plusF (some (0, 1)) q = q := by
  cases q with
  | none => rfl
  | some p =>
    obtain ⟨u, v⟩ := p
    obtain ⟨e1, e2, e3⟩ := add_zero_l (h u v rfl)
    show addF 0 1 u v = _
    unfold addF; rw [if_pos e3, e1, e2]
theorem plusF_zero_r {o : OF} (h : okF o) : plusF o (some (0, 1)) = o := by
  cases o with
  | none => rfl
  | some p =>
    obtain ⟨u, v⟩ := p
    obtain ⟨e1, e2, e3⟩ := add_zero_r (h u v rfl)
    show addF u v 0 1 = _
    unfold addF; rw [if_pos e3, e1, e2]
theorem mulF_zero_r {a b : Int} (h : validB a b = true) : mulF a b 0 1 = some (0, 1) := by
  obtain ⟨e1, e2, e3⟩ := mul_zero_r h
  unfold mulF; rw [if_pos e3, e1, e2]
theorem mulF_zero_l {a b : Int} (h : validB a b = true) : mulF 0 1 a b = some (0, 1) := by
  obtain ⟨e1, e2, e3⟩ := mul_zero_l h
  unfold mulF; rw [if_pos e3, e1, e2]
theorem mulF_one_r {a b : Int} (h : validB a b = true) : mulF a b 1 1 = some (a, b) := by
  obtain ⟨e1, e2, e3⟩ := mul_one_r h
  unfold mulF; rw [if_pos e3, e1, e2]
theorem mulF_one_l {a b : Int} (h : validB a b = true) : mulF 1 1 a b = some (a, b) := by
  obtain ⟨e1, e2, e3⟩ := mul_one_l h
  unfold mulF; rw [if_pos e3, e1, e2]
/-- a/b times c/d plus e/f times g/h, if it exists. -/
def twoF (a b c d e f g h : Int) : OF := plusF (mulF a b c d) (mulF e f g h)
theorem accF_two (N D X Y : Nat → Int) : accF N D X Y 2 = twoF (N 0) (D 0) (X 0) (Y 0) (N 1) (D 1) (X 1) (Y 1) := by
  show plusF (plusF (some (0, 1)) (mulF (N 0) (D 0) (X 0) (Y 0))) (mulF (N 1) (D 1) (X 1) (Y 1)) = _
  rw [plusF_zero_l mulF_ok]; rfl
theorem accF_three (N D X Y : Nat → Int) : accF N D X Y 3 = plusF (twoF (N 0) (D 0) (X 0) (Y 0) (N 1) (D 1) (X 1) (Y 1)) (mulF (N 2) (D 2) (X 2) (Y 2)) := by
  show plusF (accF N D X Y 2) _ = _
  rw [accF_two]
theorem plusF_ok2 (a b c d e f g h : Int) : okF (twoF a b c d e f g h) := plusF_ok
theorem neg_valid {a b : Int} (h : validB a b = true) : validB (-a) b = true := by
  obtain ⟨h1, h2, h3, h4, h5⟩ := validB_bounds h
  unfold validB
  rw [decide_eq_true_iff, Int.natAbs_neg]
  exact ⟨h1, h2, by omega, by omega, h5⟩
end Go.Proofs.Ytjlmoadnbbeloaa
