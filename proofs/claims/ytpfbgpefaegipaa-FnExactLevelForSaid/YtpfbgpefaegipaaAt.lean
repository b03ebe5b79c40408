/- What stays known of blocks while a law's structs are converted and handed on. -/
import Derived.Test.YtpfbgpefaegipaaPa
namespace Go.Proofs.Ytpfbgpefaegipaa
open Go.RowKit

theorem i64_bounds {n : Int} (h : (Lit.int .i64 n).wf = true) : -9223372036854775808 ≤ n ∧ n ≤ 9223372036854775807 := by simpa [Lit.wf, IntKind.min, IntKind.max, IntKind.signed, IntKind.bits] using h
theorem cell_alloc_at (w : World) (o : Obj) {b i : Nat} (h : b < w.heap.size) : (w.alloc o).cell? ⟨b, i, none⟩ = w.cell? ⟨b, i, none⟩ := World.cell?_alloc_lt w o ⟨b, i, none⟩ h
theorem cell_set_at (w : World) (v : Value) {b i c j : Nat} (h : b < c) : (w.setCell ⟨c, j, none⟩ v).cell? ⟨b, i, none⟩ = w.cell? ⟨b, i, none⟩ := World.cell?_setCell_other w _ _ v (fun e => by injection e with e; omega)

/-- Block g holds these values. -/
def AtL (g : Nat) (vs : List Value) (wx : World) : Prop := (∀ i v, vs[i]? = some v → wx.cell? ⟨g, i, none⟩ = some v) ∧ g < wx.heap.size
theorem AtL.cell {g : Nat} {vs : List Value} {wx : World} (h : AtL g vs wx) (i : Nat) {v : Value} (hv : vs[i]? = some v) : wx.cell? ⟨g, i, none⟩ = some v := h.1 i v hv
theorem AtL.lt {g : Nat} {vs : List Value} {wx : World} (h : AtL g vs wx) : g < wx.heap.size := h.2
theorem AtL.below {g : Nat} {vs : List Value} {wx wy : World} (h : AtL g vs wx) (hb : Below wx.heap.size wx wy) : AtL g vs wy :=
  ⟨fun i v hv => (hb.cell (p := ⟨g, i, none⟩) h.2).trans (h.1 i v hv), by have := hb.size; have := h.2; omega⟩
theorem AtL.drew {g : Nat} {vs : List Value} {wx : World} (h : AtL g vs wx) : AtL g vs wx.drew := h
theorem AtL.alloc {g : Nat} {vs : List Value} {wx : World} (h : AtL g vs wx) (o : Obj) : AtL g vs (wx.alloc o) := h.below ((Below.refl _ _).alloc (Nat.le_refl _) o)
theorem AtL.new (wx : World) (vs : List Value) (t : TypeId) : AtL wx.heap.size vs (wx.alloc (.cells vs.toArray t)) := by
  refine ⟨fun i v hv => ?_, by simp⟩
  simp [go_sem, hv]
theorem AtL.far {g h : Nat} {vs : List Value} {wx : World} (k : AtL g vs wx) (hg : ¬ g = h) (j : Nat) (u : Value) : AtL g vs (wx.setCell ⟨h, j, none⟩ u) :=
  ⟨fun i v hv => (World.cell?_setCell_other wx _ _ u (fun e => by injection e with e; omega)).trans (k.1 i v hv), by simpa using k.2⟩
theorem AtL.set {g : Nat} {vs : List Value} {wx : World} (k : AtL g vs wx) (j : Nat) (u : Value) : AtL g (vs.set j u) (wx.setCell ⟨g, j, none⟩ u) := by
  refine ⟨fun i v hv => ?_, by simpa using k.2⟩
  by_cases e : j = i
  · subst e
    obtain ⟨hl, hu⟩ : j < vs.length ∧ u = v := by
      rw [List.getElem?_set] at hv
      simp at hv
      exact hv
    subst hu
    exact World.cell?_setCell_same _ _ _ (k.1 j vs[j] (by simp [hl]))
  · rw [List.getElem?_set_ne e] at hv
    rw [World.cell?_setCell_other _ _ _ _ (fun x => by injection x with _ x; omega)]
    exact k.1 i v hv
theorem AtL.store2 {g : Nat} {a b x y : Value} {wx : World} (h : AtL g [x, y] wx) : AtL g [a, b] ((wx.setCell ⟨g, 0, none⟩ a).setCell ⟨g, 1, none⟩ b) := (h.set 0 a).set 1 b
theorem AtL.of2 {g : Nat} {a b : Value} {wx : World} (h0 : wx.cell? ⟨g, 0, none⟩ = some a) (h1 : wx.cell? ⟨g, 1, none⟩ = some b) (hl : g < wx.heap.size) : AtL g [a, b] wx :=
  ⟨fun i v hv => by
    match i, hv with
    | 0, hv => exact h0.trans hv
    | 1, hv => exact h1.trans hv, hl⟩
/-- What a region leaves that converts structs, calls and stores a struct. -/
def LeftP (vs : List Value) (v : Value) (wx : World) : Prop := ∃ g, v = .pointer (some ⟨g, 0, none⟩) ∧ AtL g vs wx
end Go.Proofs.Ytpfbgpefaegipaa
