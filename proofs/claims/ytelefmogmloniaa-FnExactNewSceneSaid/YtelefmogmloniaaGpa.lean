/- The order in which the parts of glyphs come first; codes that are different: plain facts. -/
import Derived.Test.YtelefmogmloniaaGnf
namespace Go.Proofs.Ytelefmogmloniaa
open Go.RowKit
set_option linter.unusedVariables false
abbrev PT : Type := List (List Int)
def oStep (ps : PT) (out : List Int) (i : Nat) : List Int := if (i : Int) ∈ out then out else if (∀ g ∈ ps.getD i [], g ∈ out) then out ++ [(i : Int)] else out
def oUp (ps : PT) (out : List Int) (k : Nat) : List Int := (List.range k).foldl (oStep ps) out
def oPass (ps : PT) (out : List Int) : List Int := oUp ps out ps.length
def oIt (ps : PT) : Nat → List Int
  | 0 => []
  | m + 1 => oPass ps (oIt ps m)
def ordL (ps : PT) : List Int := oIt ps ps.length
section
variable {ps : PT} {out : List Int} {i k m n : Nat}
theorem oUp_zero : oUp ps out 0 = out := rfl
theorem oUp_succ : oUp ps out (k + 1) = oStep ps (oUp ps out k) k := by unfold oUp; rw [List.range_succ, List.foldl_append]; rfl
theorem oStep_in (h : (i : Int) ∈ out) : oStep ps out i = out := if_pos h
theorem oStep_yes (h : ¬ (i : Int) ∈ out) (h2 : ∀ g ∈ ps.getD i [], g ∈ out) : oStep ps out i = out ++ [(i : Int)] := by unfold oStep; rw [if_neg h, if_pos h2]
theorem oStep_no (h2 : ¬ ∀ g ∈ ps.getD i [], g ∈ out) : oStep ps out i = out := by unfold oStep; rw [if_neg h2]; split <;> rfl
theorem oStep_more : ∃ e, oStep ps out i = out ++ e := by
  unfold oStep
  split
  · exact ⟨[], by simp⟩
  · split
    · exact ⟨_, rfl⟩
    · exact ⟨[], by simp⟩
theorem oUp_more : ∀ k, ∃ e, oUp ps out k = out ++ e
  | 0 => ⟨[], by simp [oUp_zero]⟩
  | k + 1 => by
    obtain ⟨e, he⟩ := oUp_more k
    obtain ⟨f, hf⟩ := oStep_more (ps := ps) (out := oUp ps out k) (i := k)
    exact ⟨e ++ f, by rw [oUp_succ, hf, he, List.append_assoc]⟩
theorem oUp_same (h : (oUp ps out k).length = out.length) : oUp ps out k = out := by
  obtain ⟨e, he⟩ := oUp_more (ps := ps) (out := out) k
  rw [he] at h ⊢
  simp at h
  rw [h]; simp
theorem oUp_len : out.length ≤ (oUp ps out k).length := by
  obtain ⟨e, he⟩ := oUp_more (ps := ps) (out := out) k
  rw [he]; simp
/-- Different indexes below n, whose parts are among them. -/
structure Oinv (ps : PT) (n : Nat) (out : List Int) : Prop where
  nd : out.Nodup
  lt : ∀ x ∈ out, ∃ i : Nat, i < n ∧ x = (i : Int)
  parts : ∀ i : Nat, (i : Int) ∈ out → ∀ g ∈ ps.getD i [], g ∈ out
theorem len_of : ∀ (n : Nat) (out : List Int), out.Nodup → (∀ x ∈ out, ∃ i : Nat, i < n ∧ x = (i : Int)) → out.length ≤ n
  | 0, out, _, h => by
    cases out with
    | nil => simp
    | cons a l => obtain ⟨i, hi, _⟩ := h a (by simp); omega
  | n + 1, out, hn, h => by
    by_cases hm : (n : Int) ∈ out
    · have h1 := len_of n (out.erase (n : Int)) (hn.erase _) (fun x hx => by
        rw [hn.mem_erase_iff] at hx
        obtain ⟨i, hi, rfl⟩ := h x hx.2
        exact ⟨i, by have := hx.1; omega, rfl⟩)
      rw [List.length_erase_of_mem hm] at h1
      omega
    · have h1 := len_of n out hn (fun x hx => by
        obtain ⟨i, hi, rfl⟩ := h x hx
        refine ⟨i, ?_, rfl⟩
        have : i ≠ n := fun e => hm (e ▸ hx)
        omega)
      omega
theorem Oinv.len (h : Oinv ps n out) : out.length ≤ n := len_of n out h.nd h.lt
theorem Oinv.nil : Oinv ps n [] := ⟨by simp, by simp, by simp⟩
theorem Oinv.step (h : Oinv ps n out) (hi : i < n) : Oinv ps n (oStep ps out i) := by
  unfold oStep
  split
  · exact h
  · rename_i h1
    split
    · rename_i h2
      refine ⟨?_, ?_, ?_⟩
      · rw [List.nodup_append]
        refine ⟨h.nd, by simp, fun a ha b hb e => ?_⟩
        simp at hb
        subst hb; subst e
        exact h1 ha
      · intro x hx
        rw [List.mem_append] at hx
        rcases hx with hx | hx
        · exact h.lt x hx
        · simp at hx; exact ⟨i, hi, hx⟩
      · intro j hj g hg
        rw [List.mem_append] at hj ⊢
        left
        rcases hj with hj | hj
        · exact h.parts j hj g hg
        · simp at hj
          have : j = i := by omega
          subst this
          exact h2 g hg
    · exact h
theorem Oinv.up (h : Oinv ps n out) : ∀ {k : Nat}, k ≤ n → Oinv ps n (oUp ps out k)
  | 0, _ => h
  | k + 1, hk => by rw [oUp_succ]; exact (Oinv.up h (by omega)).step (by omega)
theorem Oinv.it : ∀ m, Oinv ps ps.length (oIt ps m)
  | 0 => Oinv.nil
  | m + 1 => (Oinv.it m).up (Nat.le_refl _)
theorem oIt_fix (h : oPass ps (oIt ps m) = oIt ps m) : ∀ d, oIt ps (m + d) = oIt ps m
  | 0 => rfl
  | d + 1 => by show oPass ps (oIt ps (m + d)) = _; rw [oIt_fix h d, h]
/-- A pass that adds nothing is the last one. -/
theorem ordL_fix (h : oPass ps (oIt ps m) = oIt ps m) (hm : m ≤ (oIt ps m).length) : oIt ps m = ordL ps := by
  have h1 := (Oinv.it (ps := ps) m).len
  have h2 := oIt_fix h (ps.length - m)
  unfold ordL
  rw [← h2]
  congr 1
  omega
theorem ordL_inv : Oinv ps ps.length (ordL ps) := Oinv.it _
theorem ordL_len : (ordL ps).length ≤ ps.length := ordL_inv.len
/-- If all are in order, all parts are there. -/
theorem ordL_all (h : (ordL ps).length = ps.length) (hi : i < ps.length) : ∀ g ∈ ps.getD i [], ∃ j : Nat, j < ps.length ∧ g = (j : Int) := by
  intro g hg
  have hin : (i : Int) ∈ ordL ps := by
    rcases Classical.em ((i : Int) ∈ ordL ps) with h1 | h1
    · exact h1
    · have := len_of ps.length ((i : Int) :: ordL ps) (List.nodup_cons.2 ⟨h1, ordL_inv.nd⟩) (fun x hx => by
        rw [List.mem_cons] at hx
        rcases hx with rfl | hx
        · exact ⟨i, hi, rfl⟩
        · exact ordL_inv.lt x hx)
      rw [List.length_cons, h] at this
      omega
  exact ordL_inv.lt g (ordL_inv.parts i hin g hg)
end
/-- The parts of the glyphs. -/
def psOf (l : List DGlyph) : PT := l.map fun d => d.2.2.2.2.1.map fun a => a.1
theorem psOf_len (l : List DGlyph) : (psOf l).length = l.length := by unfold psOf; rw [List.length_map]
theorem psOf_at {l : List DGlyph} {k : Nat} {d : DGlyph} (h : l[k]? = some d) : (psOf l).getD k [] = d.2.2.2.2.1.map fun a => a.1 := by
  unfold psOf; rw [List.getD_eq_getElem?_getD, List.getElem?_map, h]; rfl
abbrev gN : DGlyph → ByteArray := fun a => a.1
section
variable {l : List DGlyph} {k : Nat} {a : DGlyph}
def cds (l : List DGlyph) (k : Nat) : List Int := ((l.take k).map fun a => a.2.1).filter fun c => decide (c ≠ -1)
def cdUp (l : List DGlyph) (k : Nat) : Bool := decide (cds l k).Nodup
def cdHas (l : List DGlyph) (k : Nat) (c : Int) : Bool := decide (c ∈ cds l k)
theorem cds_succ (ha : l[k]? = some a) : cds l (k + 1) = cds l k ++ (if a.2.1 = -1 then [] else [a.2.1]) := by
  unfold cds
  rw [List.take_add_one, ha, List.map_append, List.filter_append]
  congr 1
  by_cases h : a.2.1 = -1 <;> simp [h]
theorem cdUp_zero : cdUp l 0 = true := by simp [cdUp, cds]
theorem cdHas_zero : cdHas l 0 = fun _ => false := by funext c; simp [cdHas, cds]
theorem cdHas_neg : cdHas l k (-1) = false := by unfold cdHas cds; simp
theorem cdUp_succ (h : cdUp l k = true) (ha : l[k]? = some a) (h2 : cdHas l k a.2.1 = false) : cdUp l (k + 1) = true := by
  unfold cdUp cdHas at *
  rw [cds_succ ha]
  rw [decide_eq_true_eq] at *
  rw [decide_eq_false_iff_not] at h2
  split
  · simpa using h
  · rw [List.nodup_append]
    refine ⟨h, by simp, fun x hx y hy e => ?_⟩
    simp at hy
    subst hy; subst e
    exact h2 hx
theorem cdHas_succ (ha : l[k]? = some a) : cdHas l (k + 1) = fun t => if t = a.2.1 then decide (a.2.1 ≠ -1) else cdHas l k t := by
  funext t
  unfold cdHas
  rw [cds_succ ha]
  by_cases e : t = a.2.1
  · subst e
    rw [if_pos rfl]
    by_cases h : a.2.1 = -1
    · rw [if_pos h, List.append_nil, h]
      have := cdHas_neg (l := l) (k := k)
      unfold cdHas at this
      rw [this]; simp
    · rw [if_neg h]; simp [h]
  · rw [if_neg e]
    by_cases h : a.2.1 = -1
    · rw [if_pos h, List.append_nil]
    · rw [if_neg h]; simp [e]
theorem cds_prefix (hk : k < l.length) : ∃ e, cds l l.length = cds l k ++ ((if (l[k]).2.1 = -1 then [] else [(l[k]).2.1]) ++ e) := by
  unfold cds
  rw [List.take_length]
  have h1 : l = l.take k ++ l.drop k := (List.take_append_drop k l).symm
  have h2 : l.drop k = l[k] :: l.drop (k + 1) := List.drop_eq_getElem_cons hk
  refine ⟨((l.drop (k + 1)).map fun a => a.2.1).filter fun c => decide (c ≠ -1), ?_⟩
  have h3 : (l.map fun a => a.2.1) = (l.take k).map (fun a => a.2.1) ++ ((l[k]).2.1 :: (l.drop (k + 1)).map fun a => a.2.1) := by
    conv => lhs; rw [h1, h2]
    rw [List.map_append, List.map_cons]
  rw [h3, List.filter_append]
  congr 1
  by_cases h : (l[k]).2.1 = -1 <;> simp [h]
theorem cd_no (ha : l[k]? = some a) (h2 : cdHas l k a.2.1 = true) : cdUp l l.length = false := by
  obtain ⟨hk, hka⟩ := List.getElem?_eq_some_iff.1 ha
  obtain ⟨e, he⟩ := cds_prefix hk
  unfold cdUp
  rw [decide_eq_false_iff_not]
  intro hn
  unfold cdHas at h2
  rw [decide_eq_true_eq] at h2
  have hne : ¬ a.2.1 = -1 := by
    intro e1
    have := cdHas_neg (l := l) (k := k)
    unfold cdHas at this
    rw [decide_eq_false_iff_not, ← e1] at this
    exact this h2
  rw [he, hka, if_neg hne, List.nodup_append] at hn
  exact hn.2.2 _ h2 _ (by simp) rfl
theorem cdHas_mono {j : Nat} (hj : j < k) (ha : l[j]? = some a) (h : ¬ a.2.1 = -1) : cdHas l k a.2.1 = true := by
  unfold cdHas cds
  rw [decide_eq_true_eq, List.mem_filter]
  refine ⟨?_, by simp [h]⟩
  rw [List.mem_map]
  refine ⟨a, ?_, rfl⟩
  have h2 : (l.take k)[j]? = some a := by rw [List.getElem?_take, if_pos hj]; exact ha
  exact List.mem_of_getElem? h2
end
def vSl (l : List DGlyph) : Bool := l.all vG && (nmOk gN l && cdUp l l.length)
def vS : DGlyphSet → Bool := fun ⟨u, l⟩ => (decide (16 ≤ u ∧ u ≤ 16384) && decide (l.length ≤ 40)) && vSl l && decide ((ordL (psOf l)).length = l.length)
end Go.Proofs.Ytelefmogmloniaa
