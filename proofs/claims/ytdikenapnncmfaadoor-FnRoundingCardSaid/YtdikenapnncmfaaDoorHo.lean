/- Arguments opened to their cells: the fields of structs, the elements of slices. -/
import Derived.Test.YtdikenapnncmfaaDoorHg
import Derived.Deep.Slices
import Derived.Deep.Fields
import Derived.ChangeSame
import Derived.Lib.SmallJoins
namespace Go.Proofs.YtdikenapnncmfaaDoor
open Go.RowKit Go.ChangeShapes Go.WideShapes Go.Deep

section
variable {H : Type} {enc : TypeId × Value → H} {P : Program} {w : World} {base : Nat} {spare : Nat → Bool} {held : Bool} {t e : TypeId} {fs : Array Field} {fuel : Nat} {cs : List Value} {x : DataW H × List MemPlace}
theorem trod_len (ht : P.underlying t = some (.struct fs)) (h : DataW.trod enc P w base spare held fuel t cs = some x) {k : Nat} (hk : P.cellsOf t = k) : cs.length = k := by
  obtain ⟨xs, n, _, _, hl, _⟩ := DataW.trod_struct ht h
  omega
theorem trod_field (ht : P.underlying t = some (.struct fs)) (h : DataW.trod enc P w base spare held fuel t cs = some x) (i : Nat) (f : Field) (hf : fs[i]? = some f) {k : Nat} (hk : P.cellsOf f.type = k) :
    ∃ n y, DataW.trod enc P w base spare held n f.type ((cs.drop f.offset).take k) = some y := by
  obtain ⟨xs, n, _, _, _, hl, hg⟩ := DataW.trod_struct ht h
  have hi : i < xs.length := by rw [hl]; exact (Array.getElem?_eq_some_iff.1 hf).1
  refine ⟨n, xs[i], ?_⟩
  rw [← hk, hg i f hf]
  exact List.getElem?_eq_getElem hi
/-- A slice that came in: its elements' cells, and each element read. -/
theorem open_rows {k : Nat} (ht : P.underlying t = some (.slice e)) (hc : P.cellsOf e = k) (hk : 0 < k) (h : DataW.trod enc P w base spare held fuel t cs = some x) :
    ∃ (A : Option Addr) (n c : Nat), cs = [.slice A n c] ∧ n ≤ c ∧ c ≤ maxLen ∧ (n = 0 ∨ ∃ g o, A = some ⟨g, o, none⟩ ∧ g < w.heap.size ∧ ∀ i, i < n → ∃ (es : List Value) (m : Nat) (y : DataW H × List MemPlace), es.length = k ∧ (∀ j u, es[j]? = some u → w.cell? ⟨g, o + i * k + j, none⟩ = some u) ∧ DataW.trod enc P w base spare held m e es = some y) := by
  rcases open_slice ht h with ⟨rfl, _⟩ | ⟨a, len, cap, m, n, D, Pl, rfl, _, hl, hm, hmm, _, hi⟩
  · exact ⟨none, 0, 0, rfl, Nat.le_refl _, by unfold maxLen; omega, .inl rfl⟩
  · refine ⟨some a, len, cap, rfl, hl, hm, ?_⟩
    rcases Nat.eq_zero_or_pos len with h0 | h0
    · exact .inl h0
    · have hlm : len ≤ m := by rw [hmm]; split <;> omega
      obtain ⟨es0, hc0, _⟩ := hi 0 (by omega)
      obtain ⟨_, hl0, hat0⟩ := World.cells?_some hc0
      have h00 := hat0 (i := 0) (by omega)
      have hlt := cell_lt (w := w) (a := a) (v := es0[0]'(by omega)) (by
        have h2 := h00
        simp only [Nat.zero_mul] at h2
        have e1 : (a.add 0) = a := by simp [Addr.add]
        rw [e1, e1] at h2
        rw [h2]; exact List.getElem?_eq_getElem (by omega))
      obtain ⟨g, o, sp⟩ := a
      obtain ⟨hg, hsp⟩ := hlt
      simp only at hg hsp
      subst hsp
      refine .inr ⟨g, o, rfl, hg, fun i hin => ?_⟩
      obtain ⟨es, hce, hte⟩ := hi i (by omega)
      obtain ⟨_, hle, hat⟩ := World.cells?_some hce
      refine ⟨es, n, (D i, Pl i), by omega, fun j u hu => ?_, hte⟩
      have hj : j < es.length := by
        rcases Nat.lt_or_ge j es.length with h | h
        · exact h
        · rw [List.getElem?_eq_none h] at hu; cases hu
      have h3 := hat (i := j) (by omega)
      have e2 : (((⟨g, o, none⟩ : Addr).add (i * P.cellsOf e)).add j) = ⟨g, o + i * k + j, none⟩ := by
        rw [add_of_add, hc]
        unfold Addr.add
        split
        · rename_i h0; congr 1; omega
        · simp [Nat.add_assoc]
      rw [e2] at h3
      rw [h3]; exact hu
/-- A struct that came in by value: its cells. -/
theorem open_cells {r : Reach} {b0 k : Nat} {v : Value} {d : DataW H} {p : List MemPlace} (hs : P.underlying t = some (.struct fs)) (hk : P.cellsOf t = k) (hv : Value.okWide P w r b0 t v) (h : DataW.Trod enc P w base spare held t v d p) :
    ∃ (l : List Value) (fuel : Nat), v = .agg l.toArray ∧ l.length = k ∧ DataW.trod enc P w base spare held fuel t l = some (d, p) := by
  obtain ⟨cs, rfl, hsz⟩ := okWide_struct hs hv
  obtain ⟨fuel, hf⟩ := h
  exact ⟨cs.toList, fuel, by simp, by simpa using hsz.trans hk, hf⟩
end
end Go.Proofs.YtdikenapnncmfaaDoor
