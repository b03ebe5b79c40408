/- What stays known while a law's two fractions are converted and handed on. -/
import Derived.Test.YtjlmoadnbbeloaaW4
import Derived.Deep.RegionHeld3
import Derived.Deep.DeepCutAuto
namespace Go.Proofs.Ytjlmoadnbbeloaa
open Go.RowKit

theorem cell_alloc_at (w : World) (o : Obj) {b i : Nat} (h : b < w.heap.size) : (w.alloc o).cell? ⟨b, i, none⟩ = w.cell? ⟨b, i, none⟩ := World.cell?_alloc_lt w o ⟨b, i, none⟩ h
theorem cell_set_at (w : World) (v : Value) {b i c j : Nat} (h : b < c) : (w.setCell ⟨c, j, none⟩ v).cell? ⟨b, i, none⟩ = w.cell? ⟨b, i, none⟩ := World.cell?_setCell_other w _ _ v (fun e => by injection e with e; omega)

/-- The boxes of a law's two structs of two integers lie in the first two new blocks. -/
def Two (n1 d1 n2 d2 : Int) (w wx : World) : Prop :=
  wx.cell? ⟨w.heap.size, 0, none⟩ = some (.int .i64 n1) ∧ wx.cell? ⟨w.heap.size, 1, none⟩ = some (.int .i64 d1) ∧ wx.cell? ⟨w.heap.size + 1, 0, none⟩ = some (.int .i64 n2) ∧ wx.cell? ⟨w.heap.size + 1, 1, none⟩ = some (.int .i64 d2) ∧ w.heap.size < wx.heap.size ∧ w.heap.size + 1 < wx.heap.size ∧ Below w.heap.size w wx
theorem Two.start (n1 d1 n2 d2 : Int) (t t' : TypeId) (w : World) : Two n1 d1 n2 d2 w ((w.alloc (.cells #[.int .i64 n1, .int .i64 d1] t)).alloc (.cells #[.int .i64 n2, .int .i64 d2] t')) :=
  ⟨by simp [go_sem], by simp [go_sem], by simp [go_sem], by simp [go_sem], by simp; omega, by simp, ((Below.refl _ _).alloc (Nat.le_refl _) _).alloc (by simp) _⟩
theorem Two.below {n1 d1 n2 d2 : Int} {w wx wy : World} (h : Two n1 d1 n2 d2 w wx) (hb : Below wx.heap.size wx wy) : Two n1 d1 n2 d2 w wy := by
  obtain ⟨h1, h2, h3, h4, h5, h6, h7⟩ := h
  obtain ⟨hc, _⟩ := bcell hb
  have hz := hb.size
  exact ⟨(hc _ _ h5).trans h1, (hc _ _ h5).trans h2, (hc _ _ h6).trans h3, (hc _ _ h6).trans h4, by omega, by omega, h7.trans (hb.mono (by omega))⟩
/-- A struct of two integers in block g. -/
def At2 (g : Nat) (a b : Int) (wx : World) : Prop :=
  wx.cell? ⟨g, 0, none⟩ = some (.int .i64 a) ∧ wx.cell? ⟨g, 1, none⟩ = some (.int .i64 b) ∧ g < wx.heap.size
theorem At2.below {g : Nat} {a b : Int} {wx wy : World} (h : At2 g a b wx) (hb : Below wx.heap.size wx wy) : At2 g a b wy := by
  obtain ⟨h1, h2, h3⟩ := h
  obtain ⟨hc, _⟩ := bcell hb
  have hz := hb.size
  exact ⟨(hc _ _ h3).trans h1, (hc _ _ h3).trans h2, by omega⟩
theorem At2.new (wx : World) (a b : Int) (t : TypeId) : At2 wx.heap.size a b (wx.alloc (.cells #[.int .i64 a, .int .i64 b] t)) := ⟨by simp [go_sem], by simp [go_sem], by simp⟩
/-- Stored over: from a block that held two integers. -/
theorem At2.store {g : Nat} {a b x y : Int} {wx : World} (h : At2 g x y wx) : At2 g a b ((wx.setCell ⟨g, 0, none⟩ (.int .i64 a)).setCell ⟨g, 1, none⟩ (.int .i64 b)) := by
  obtain ⟨h1, h2, h3⟩ := h
  refine ⟨?_, ?_, by simpa using h3⟩
  · rw [World.cell?_setCell_other _ _ _ _ (fun e => by injection e with _ e; omega)]
    exact World.cell?_setCell_same _ _ _ h1
  · refine World.cell?_setCell_same _ _ _ (u := .int .i64 y) ?_
    rw [World.cell?_setCell_other _ _ _ _ (fun e => by injection e with _ e; omega)]
    exact h2
theorem below_set {w wx : World} {g i : Nat} (hb : Below w.heap.size w wx) (hg : w.heap.size ≤ g) (v : Value) : Below w.heap.size w (wx.setCell ⟨g, i, none⟩ v) := hb.setCell hg v
theorem Two.set {n1 d1 n2 d2 : Int} {w wx : World} {g i : Nat} (h : Two n1 d1 n2 d2 w wx) (hg : w.heap.size + 1 < g) (v : Value) : Two n1 d1 n2 d2 w (wx.setCell ⟨g, i, none⟩ v) := by
  obtain ⟨h1, h2, h3, h4, h5, h6, h7⟩ := h
  exact ⟨(cell_set_at _ _ (by omega)).trans h1, (cell_set_at _ _ (by omega)).trans h2, (cell_set_at _ _ (by omega)).trans h3, (cell_set_at _ _ (by omega)).trans h4, by simpa using h5, by simpa using h6, h7.setCell (by show w.heap.size ≤ g; omega) _⟩
theorem Two.alloc {n1 d1 n2 d2 : Int} {w wx : World} (h : Two n1 d1 n2 d2 w wx) (o : Obj) : Two n1 d1 n2 d2 w (wx.alloc o) := h.below ((Below.refl _ _).alloc (Nat.le_refl _) o)
theorem Two.drew {n1 d1 n2 d2 : Int} {w wx : World} (h : Two n1 d1 n2 d2 w wx) : Two n1 d1 n2 d2 w wx.drew :=
  ⟨h.1, h.2.1, h.2.2.1, h.2.2.2.1, h.2.2.2.2.1, h.2.2.2.2.2.1, h.2.2.2.2.2.2.drew⟩
theorem At2.drew {g : Nat} {a b : Int} {wx : World} (h : At2 g a b wx) : At2 g a b wx.drew := h
theorem Two.lt {n1 d1 n2 d2 : Int} {w wx : World} (h : Two n1 d1 n2 d2 w wx) : w.heap.size + 1 < wx.heap.size := h.2.2.2.2.2.1
theorem Two.bel {n1 d1 n2 d2 : Int} {w wx : World} (h : Two n1 d1 n2 d2 w wx) : Below w.heap.size w wx := h.2.2.2.2.2.2
theorem At2.lt {g : Nat} {a b : Int} {wx : World} (h : At2 g a b wx) : g < wx.heap.size := h.2.2
theorem Two.store {n1 d1 n2 d2 : Int} {w wx : World} {g : Nat} (h : Two n1 d1 n2 d2 w wx) (hg : w.heap.size + 1 < g) (u v : Value) : Two n1 d1 n2 d2 w ((wx.setCell ⟨g, 0, none⟩ u).setCell ⟨g, 1, none⟩ v) := (h.set hg u).set hg v
theorem At2.far {g h : Nat} {a b : Int} {wx : World} (k : At2 g a b wx) (hg : g < h) (u v : Value) : At2 g a b ((wx.setCell ⟨h, 0, none⟩ u).setCell ⟨h, 1, none⟩ v) := by
  obtain ⟨h1, h2, h3⟩ := k
  exact ⟨(cell_set_at _ _ hg).trans ((cell_set_at _ _ hg).trans h1), (cell_set_at _ _ hg).trans ((cell_set_at _ _ hg).trans h2), by simpa using h3⟩
theorem i64_bounds {n : Int} (h : (Lit.int .i64 n).wf = true) : -9223372036854775808 ≤ n ∧ n ≤ 9223372036854775807 := by simpa [Lit.wf, IntKind.min, IntKind.max, IntKind.signed, IntKind.bits] using h
/-- What a region leaves that converts two structs, calls and stores a struct of two integers. -/
def Left2 (n1 d1 n2 d2 a b : Int) (w : World) (v : Value) (wx : World) : Prop := ∃ g, v = .pointer (some ⟨g, 0, none⟩) ∧ Two n1 d1 n2 d2 w wx ∧ At2 g a b wx ∧ w.heap.size + 1 < g

end Go.Proofs.Ytjlmoadnbbeloaa
