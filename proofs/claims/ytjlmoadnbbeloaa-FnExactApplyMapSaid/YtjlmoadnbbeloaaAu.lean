/- What stays known of blocks while a law's structs are converted and handed on. -/
import Derived.Test.YtjlmoadnbbeloaaWDiv2
import Derived.Test.YtjlmoadnbbeloaaW5
namespace Go.Proofs.Ytjlmoadnbbeloaa
open Go.RowKit

/-- Block g holds these values. -/
def AtL (g : Nat) (vs : List Value) (wx : World) : Prop := (∀ i v, vs[i]? = some v → wx.cell? ⟨g, i, none⟩ = some v) ∧ g < wx.heap.size
theorem AtL.cell {g : Nat} {vs : List Value} {wx : World} (h : AtL g vs wx) (i : Nat) {v : Value} (hv : vs[i]? = some v) : wx.cell? ⟨g, i, none⟩ = some v := h.1 i v hv
theorem AtL.lt {g : Nat} {vs : List Value} {wx : World} (h : AtL g vs wx) : g < wx.heap.size := h.2
theorem AtL.below {g : Nat} {vs : List Value} {wx wy : World} (h : AtL g vs wx) (hb : Below wx.heap.size wx wy) : AtL g vs wy :=
  ⟨fun i v hv => (hb.cell (p := ⟨g, i, none⟩) h.2).trans (h.1 i v hv), by have := hb.size; have := h.2; omega⟩
theorem AtL.drew {g : Nat} {vs : List Value} {wx : World} (h : AtL g vs wx) : AtL g vs wx.drew := h
theorem AtL.alloc {g : Nat} {vs : List Value} {wx : World} (h : AtL g vs wx) (o : Obj) : AtL g vs (wx.alloc o) := h.below ((Below.refl _ _).alloc (Nat.le_refl _) o)
theorem AtL.new (wx : World) (vs : List Value) (t : TypeId) : AtL wx.heap.size vs (wx.alloc (.cells vs.toArray t)) := by
  refine ⟨fun i v hv => ?_, by simp⟩
  simp [go_sem, hv]
theorem AtL.far {g h : Nat} {vs : List Value} {wx : World} (k : AtL g vs wx) (hg : ¬ g = h) (j : Nat) (u : Value) : AtL g vs (wx.setCell ⟨h, j, none⟩ u) :=
  ⟨fun i v hv => (World.cell?_setCell_other wx _ _ u (fun e => by injection e with e; omega)).trans (k.1 i v hv), by simpa using k.2⟩
theorem AtL.set {g : Nat} {vs : List Value} {wx : World} (k : AtL g vs wx) (j : Nat) (u : Value) : AtL g (vs.set j u) (wx.setCell ⟨g, j, none⟩ u) := by
  refine ⟨fun i v hv => ?_, by simpa using k.2⟩
  by_cases e : j = i
  · subst e
    obtain ⟨hl, hu⟩ : j < vs.length ∧ u = v := by
      rw [List.getElem?_set] at hv
      simp at hv
      exact hv
    subst hu
    exact World.cell?_setCell_same _ _ _ (k.1 j vs[j] (by simp [hl]))
  · rw [List.getElem?_set_ne e] at hv
    rw [World.cell?_setCell_other _ _ _ _ (fun x => by injection x with _ x; omega)]
    exact k.1 i v hv
theorem AtL.store2 {g : Nat} {a b x y : Value} {wx : World} (h : AtL g [x, y] wx) : AtL g [a, b] ((wx.setCell ⟨g, 0, none⟩ a).setCell ⟨g, 1, none⟩ b) := (h.set 0 a).set 1 b
theorem AtL.of2 {g : Nat} {a b : Value} {wx : World} (h0 : wx.cell? ⟨g, 0, none⟩ = some a) (h1 : wx.cell? ⟨g, 1, none⟩ = some b) (hl : g < wx.heap.size) : AtL g [a, b] wx :=
  ⟨fun i v hv => by
    match i, hv with
    | 0, hv => exact h0.trans hv
    | 1, hv => exact h1.trans hv, hl⟩
theorem AtL.store12 {g : Nat} {a0 a1 a2 a3 a4 a5 a6 a7 a8 a9 a10 a11 y0 y1 y2 y3 y4 y5 y6 y7 y8 y9 y10 y11 : Value} {wx : World} (h : AtL g [y0, y1, y2, y3, y4, y5, y6, y7, y8, y9, y10, y11] wx) : AtL g [a0, a1, a2, a3, a4, a5, a6, a7, a8, a9, a10, a11] ((((((((((((wx.setCell ⟨g, 0, none⟩ a0).setCell ⟨g, 1, none⟩ a1).setCell ⟨g, 2, none⟩ a2).setCell ⟨g, 3, none⟩ a3).setCell ⟨g, 4, none⟩ a4).setCell ⟨g, 5, none⟩ a5).setCell ⟨g, 6, none⟩ a6).setCell ⟨g, 7, none⟩ a7).setCell ⟨g, 8, none⟩ a8).setCell ⟨g, 9, none⟩ a9).setCell ⟨g, 10, none⟩ a10).setCell ⟨g, 11, none⟩ a11) := ((((((((((((h.set 0 a0).set 1 a1).set 2 a2).set 3 a3).set 4 a4).set 5 a5).set 6 a6).set 7 a7).set 8 a8).set 9 a9).set 10 a10).set 11 a11)
theorem AtL.of12 {g : Nat} {a0 a1 a2 a3 a4 a5 a6 a7 a8 a9 a10 a11 : Value} {wx : World} (h0 : wx.cell? ⟨g, 0, none⟩ = some a0) (h1 : wx.cell? ⟨g, 1, none⟩ = some a1) (h2 : wx.cell? ⟨g, 2, none⟩ = some a2) (h3 : wx.cell? ⟨g, 3, none⟩ = some a3) (h4 : wx.cell? ⟨g, 4, none⟩ = some a4) (h5 : wx.cell? ⟨g, 5, none⟩ = some a5) (h6 : wx.cell? ⟨g, 6, none⟩ = some a6) (h7 : wx.cell? ⟨g, 7, none⟩ = some a7) (h8 : wx.cell? ⟨g, 8, none⟩ = some a8) (h9 : wx.cell? ⟨g, 9, none⟩ = some a9) (h10 : wx.cell? ⟨g, 10, none⟩ = some a10) (h11 : wx.cell? ⟨g, 11, none⟩ = some a11) (hl : g < wx.heap.size) : AtL g [a0, a1, a2, a3, a4, a5, a6, a7, a8, a9, a10, a11] wx :=
  ⟨fun i v hv => by
    match i, hv with
    | 0, hv => exact h0.trans hv
    | 1, hv => exact h1.trans hv
    | 2, hv => exact h2.trans hv
    | 3, hv => exact h3.trans hv
    | 4, hv => exact h4.trans hv
    | 5, hv => exact h5.trans hv
    | 6, hv => exact h6.trans hv
    | 7, hv => exact h7.trans hv
    | 8, hv => exact h8.trans hv
    | 9, hv => exact h9.trans hv
    | 10, hv => exact h10.trans hv
    | 11, hv => exact h11.trans hv, hl⟩
/-- What a region leaves that converts structs, calls and stores a struct. -/
def LeftP (vs : List Value) (v : Value) (wx : World) : Prop := ∃ g, v = .pointer (some ⟨g, 0, none⟩) ∧ AtL g vs wx
end Go.Proofs.Ytjlmoadnbbeloaa
