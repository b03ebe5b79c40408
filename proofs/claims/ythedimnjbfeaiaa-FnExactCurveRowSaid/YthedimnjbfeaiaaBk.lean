/- Memory: blocks known whole; what is owned stays beside stores and growth; what a region leaves of a curve. -/
import Derived.Test.YthedimnjbfeaiaaKt
namespace Go.Proofs.Ythedimnjbfeaiaa
open Go.RowKit
set_option linter.unusedVariables false
/-- A Curve and a code are handed back, the slice in memory of the call's own. -/
def Ret_Curve (b1 : Bool) (b2 : Int) (b3 : Bool) (b4 : Bool) (b5 : Int) (b6 : Int) (b7 : Int) (b8 : Int) (code : Int) (l : List APt) (w : World) (e : Ending) (w' : World) : Prop :=
  ∃ (A : Option Addr) (c : Nat), e = .returned (.tuple #[.agg #[.slice A l.length c, .bool b1, .int .i64 b2, .bool b3, .bool b4, .int .i64 b5, .int .i64 b6, .int .i64 b7, .int .i64 b8], .int .i64 code]) ∧ w'.ownsRow w.heap.size 30 2 (.slice A l.length c) l.length (cellsF cPt l) ∧ Below w.heap.size w w'
/-- What a region leaves that converts, calls and stores a Curve and a code. -/
def Left_Curve (b1 : Bool) (b2 : Int) (b3 : Bool) (b4 : Bool) (b5 : Int) (b6 : Int) (b7 : Int) (b8 : Int) (code : Int) (l : List APt) (lo : Nat) (sA sB : Value) (wx : World) : Prop :=
  ∃ (q : Nat) (A : Option Addr) (c : Nat), sA = .pointer (some ⟨q, 0, none⟩) ∧ sB = .int .i64 code ∧ AtL q [.slice A l.length c, .bool b1, .int .i64 b2, .bool b3, .bool b4, .int .i64 b5, .int .i64 b6, .int .i64 b7, .int .i64 b8] wx ∧ lo ≤ q ∧ wx.ownsRow lo 30 2 (.slice A l.length c) l.length (cellsF cPt l) ∧ (∀ r, (Value.slice A l.length c).ownBlock = some r → ¬ r = q)
theorem AtL.store9 {g : Nat} {a0 a1 a2 a3 a4 a5 a6 a7 a8 y0 y1 y2 y3 y4 y5 y6 y7 y8 : Value} {wx : World} (h : AtL g [y0, y1, y2, y3, y4, y5, y6, y7, y8] wx) : AtL g [a0, a1, a2, a3, a4, a5, a6, a7, a8] (((((((((wx.setCell ⟨g, 0, none⟩ a0).setCell ⟨g, 1, none⟩ a1).setCell ⟨g, 2, none⟩ a2).setCell ⟨g, 3, none⟩ a3).setCell ⟨g, 4, none⟩ a4).setCell ⟨g, 5, none⟩ a5).setCell ⟨g, 6, none⟩ a6).setCell ⟨g, 7, none⟩ a7).setCell ⟨g, 8, none⟩ a8) := (((((((((h.set 0 a0).set 1 a1).set 2 a2).set 3 a3).set 4 a4).set 5 a5).set 6 a6).set 7 a7).set 8 a8)
theorem own_keep {w : World} {base e s n : Nat} {v : Value} {xs : List Value} (h : w.ownsRow base e s v n xs) {p : Addr} (hp : ∀ q, v.ownBlock = some q → ¬ p.block = q) (u : Value) : (w.setCell p u).ownsRow base e s v n xs := by
  obtain ⟨hl, h⟩ := h
  refine ⟨hl, ?_⟩
  rcases h with h | ⟨g, cap, cur, hv, hg, hh, r⟩
  · exact .inl h
  · exact .inr ⟨g, cap, cur, hv, hg, (Below.heap_setCell w p u g (fun e => hp g (by rw [hv]; rfl) (by rw [e]))).trans hh, r⟩
theorem own_grown {w w' : World} {base e s n : Nat} {v : Value} {xs : List Value} {row : Option Nat} (h : w.ownsRow base e s v n xs) (hg : w.grownBy w' row) (hr : ∀ q, v.ownBlock = some q → row = some q → False) : w'.ownsRow base e s v n xs := by
  obtain ⟨hl, h⟩ := h
  refine ⟨hl, ?_⟩
  rcases h with h | ⟨g, cap, cur, hv, hb, hh, r⟩
  · exact .inl h
  · have hlt : g < w.heap.size := by
      rcases Nat.lt_or_ge g w.heap.size with k | k
      · exact k
      · rw [Array.getElem?_eq_none k] at hh; cases hh
    exact .inr ⟨g, cap, cur, hv, hb, (hg.block g hlt (fun e => hr g (by rw [hv]; rfl) e.symm)).trans hh, r⟩
/-- A block known whole, none of it frozen. -/
def Blk (w : World) (g : Nat) (t : TypeId) (cs : Array Value) : Prop := w.heap[g]? = some (.cells cs t (0, 0))
section
variable {w w' : World} {g : Nat} {t : TypeId} {cs : Array Value}
theorem Blk.lt (h : Blk w g t cs) : g < w.heap.size := by
  rcases Nat.lt_or_ge g w.heap.size with hlt | hge
  · exact hlt
  · unfold Blk at h; rw [Array.getElem?_eq_none hge] at h; cases h
theorem Blk.cell (h : Blk w g t cs) (i : Nat) {v : Value} (hv : cs[i]? = some v) : w.cell? ⟨g, i, none⟩ = some v := (cell_of_row w g i cs t (0, 0) h).trans hv
theorem Blk.frozen (h : Blk w g t cs) (i : Nat) : w.frozen? ⟨g, i, none⟩ = false := by
  unfold Blk at h
  simp [World.frozen?, h]
theorem Blk.new (w : World) (t : TypeId) (cs : Array Value) : Blk (w.alloc (.cells cs t)) w.heap.size t cs := heap_alloc_new w _
theorem Blk.newAt {g : Nat} (w : World) (t : TypeId) (cs : Array Value) (hg : g = w.heap.size) : Blk (w.alloc (.cells cs t)) g t cs := by subst hg; exact heap_alloc_new w _
theorem Blk.drew (h : Blk w g t cs) : Blk w.drew g t cs := h
theorem Blk.alloc (h : Blk w g t cs) (o : Obj) : Blk (w.alloc o) g t cs := (Below.heap_alloc w o g h.lt).trans h
theorem Blk.set_ (h : Blk w g t cs) (i : Nat) (u : Value) : Blk (w.setCell ⟨g, i, none⟩ u) g t (cs.setIfInBounds i u) := by
  unfold Blk at h ⊢
  simp [World.setCell, Array.getElem?_modify, h]
theorem Blk.far (h : Blk w g t cs) {p : Addr} (hp : ¬ g = p.block) (u : Value) : Blk (w.setCell p u) g t cs := (Below.heap_setCell w p u g hp).trans h
theorem Blk.carry (h : Blk w g t cs) (hb : Below w.heap.size w w') : Blk w' g t cs := (hb.block g h.lt).trans h
theorem Blk.grown {row : Option Nat} (h : Blk w g t cs) (hb : w.grownBy w' row) (hg : ∀ q, row = some q → ¬ q = g) : Blk w' g t cs := (hb.block g h.lt (fun e => hg g e.symm rfl)).trans h
end
end Go.Proofs.Ythedimnjbfeaiaa
