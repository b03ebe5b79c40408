/- What stays known of blocks while a law walks on: plain facts. -/
import Derived.Test.YtdikenapnncmfaaDoorHo
import Derived.Lib.Hide
namespace Go.Proofs.YtdikenapnncmfaaDoor
open Go.RowKit

/-- Block g holds these values. -/
def AtL (g : Nat) (vs : List Value) (wx : World) : Prop := (∀ i v, vs[i]? = some v → wx.cell? ⟨g, i, none⟩ = some v) ∧ g < wx.heap.size
theorem AtL.cell {g : Nat} {vs : List Value} {wx : World} (h : AtL g vs wx) (i : Nat) {v : Value} (hv : vs[i]? = some v) : wx.cell? ⟨g, i, none⟩ = some v := h.1 i v hv
theorem AtL.lt {g : Nat} {vs : List Value} {wx : World} (h : AtL g vs wx) : g < wx.heap.size := h.2
theorem AtL.below {g : Nat} {vs : List Value} {wx wy : World} (h : AtL g vs wx) (hb : Below wx.heap.size wx wy) : AtL g vs wy :=
  ⟨fun i v hv => (hb.cell (p := ⟨g, i, none⟩) h.2).trans (h.1 i v hv), by have := hb.size; have := h.2; omega⟩
theorem AtL.drew {g : Nat} {vs : List Value} {wx : World} (h : AtL g vs wx) : AtL g vs wx.drew := h
theorem AtL.alloc {g : Nat} {vs : List Value} {wx : World} (h : AtL g vs wx) (o : Obj) : AtL g vs (wx.alloc o) := h.below ((Below.refl _ _).alloc (Nat.le_refl _) o)
theorem AtL.new (wx : World) (vs : List Value) (t : TypeId) : AtL wx.heap.size vs (wx.alloc (.cells vs.toArray t)) := by
  refine ⟨fun i v hv => ?_, by simp⟩
  simp [go_sem, hv]
theorem AtL.far {g h : Nat} {vs : List Value} {wx : World} (k : AtL g vs wx) (hg : ¬ g = h) (j : Nat) (u : Value) : AtL g vs (wx.setCell ⟨h, j, none⟩ u) :=
  ⟨fun i v hv => (World.cell?_setCell_other wx _ _ u (fun e => by injection e with e; omega)).trans (k.1 i v hv), by simpa using k.2⟩
theorem AtL.set {g : Nat} {vs : List Value} {wx : World} (k : AtL g vs wx) (j : Nat) (u : Value) : AtL g (vs.set j u) (wx.setCell ⟨g, j, none⟩ u) := by
  refine ⟨fun i v hv => ?_, by simpa using k.2⟩
  by_cases e : j = i
  · subst e
    obtain ⟨hl, hu⟩ : j < vs.length ∧ u = v := by
      rw [List.getElem?_set] at hv
      simp at hv
      exact hv
    subst hu
    exact World.cell?_setCell_same _ _ _ (k.1 j vs[j] (by simp [hl]))
  · rw [List.getElem?_set_ne e] at hv
    rw [World.cell?_setCell_other _ _ _ _ (fun x => by injection x with _ x; omega)]
    exact k.1 i v hv
theorem AtL.store2 {g : Nat} {a b x y : Value} {wx : World} (h : AtL g [x, y] wx) : AtL g [a, b] ((wx.setCell ⟨g, 0, none⟩ a).setCell ⟨g, 1, none⟩ b) := (h.set 0 a).set 1 b
theorem AtL.of2 {g : Nat} {a b : Value} {wx : World} (h0 : wx.cell? ⟨g, 0, none⟩ = some a) (h1 : wx.cell? ⟨g, 1, none⟩ = some b) (hl : g < wx.heap.size) : AtL g [a, b] wx :=
  ⟨fun i v hv => by
    match i, hv with
    | 0, hv => exact h0.trans hv
    | 1, hv => exact h1.trans hv, hl⟩
theorem AtL.newAt {g : Nat} {vs : List Value} {wx : World} {t : TypeId} (hg : g = wx.heap.size) : AtL g vs (wx.alloc (.cells vs.toArray t)) := by
  subst hg; exact AtL.new _ _ _
theorem cell_drew_at (w : World) (a : Addr) : w.drew.cell? a = w.cell? a := rfl
theorem frozen_drew_at (w : World) (a : Addr) : w.drew.frozen? a = w.frozen? a := rfl
theorem cell_alloc_at (w : World) (o : Obj) {b i : Nat} (h : b < w.heap.size) : (w.alloc o).cell? ⟨b, i, none⟩ = w.cell? ⟨b, i, none⟩ := World.cell?_alloc_lt w o ⟨b, i, none⟩ h
theorem cell_set_at (w : World) (v : Value) {b i c j : Nat} (h : b < c) : (w.setCell ⟨c, j, none⟩ v).cell? ⟨b, i, none⟩ = w.cell? ⟨b, i, none⟩ := World.cell?_setCell_other w _ _ v (fun e => by injection e with e; omega)
theorem AtL.grown {g : Nat} {vs : List Value} {wx wy : World} {row : Option Nat} (h : AtL g vs wx) (hg : wx.grownBy wy row) (hr : ∀ q, row = some q → ¬ q = g) : AtL g vs wy :=
  ⟨fun i v hv => (World.cell?_of_block (hg.block g h.2 (fun e => hr _ e.symm rfl))).trans (h.1 i v hv), by have := hg.size; have := h.2; omega⟩
theorem AtL.store3 {g : Nat} {a0 a1 a2 y0 y1 y2 : Value} {wx : World} (h : AtL g [y0, y1, y2] wx) : AtL g [a0, a1, a2] (((wx.setCell ⟨g, 0, none⟩ a0).setCell ⟨g, 1, none⟩ a1).setCell ⟨g, 2, none⟩ a2) := ((h.set 0 a0).set 1 a1).set 2 a2
theorem AtL.of3 {g : Nat} {a b c : Value} {wx : World} (h0 : wx.cell? ⟨g, 0, none⟩ = some a) (h1 : wx.cell? ⟨g, 1, none⟩ = some b) (h2 : wx.cell? ⟨g, 2, none⟩ = some c) (hl : g < wx.heap.size) : AtL g [a, b, c] wx :=
  ⟨fun i v hv => by
    match i, hv with
    | 0, hv => exact h0.trans hv
    | 1, hv => exact h1.trans hv
    | 2, hv => exact h2.trans hv, hl⟩
section
variable {α : Type} {f : α → List Value} {s : Nat} {w w' : World} {B B' base e n : Nat} {A : Option Addr} {l : List α} {v : Value} {xs : List Value}
theorem Rd.carry (h : Rd f s w B A l) (hb : Below w.heap.size w w') (hB : B ≤ w.heap.size) : Rd f s w' B A l := h.below (hb.mono hB)
theorem Rd.grown2 (h : Rd f s w B A l) {row : Option Nat} (hg : w.grownBy w' row) (hB : B ≤ w.heap.size) (hr : ∀ g, row = some g → B ≤ g) : Rd f s w' B A l := h.grown hg hB hr
theorem own_block {q : Nat} (h : w.ownsRow base e s v n xs) (hq : v.ownBlock = some q) : base ≤ q ∧ q < w.heap.size := by
  rcases h.2 with ⟨rfl, _⟩ | ⟨g, cap, cur, rfl, hb, hg, _⟩
  · cases hq
  · obtain rfl : g = q := by simpa [Value.ownBlock] using hq
    refine ⟨hb, ?_⟩
    rcases Nat.lt_or_ge g w.heap.size with k | k
    · exact k
    · rw [Array.getElem?_eq_none k] at hg; cases hg
theorem below_of_grown {b : Nat} {w0 : World} {row : Option Nat} (h : Below b w0 w) (hg : w.grownBy w' row) (hb : b ≤ w.heap.size) (hr : ∀ q, row = some q → b ≤ q) : Below b w0 w' := h.grown hg hb hr
end
end Go.Proofs.YtdikenapnncmfaaDoor
