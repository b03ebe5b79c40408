/- A block that has just been laid, its number spelled otherwise. -/
import Derived.Test.YtjlmoadnbbeloaaAu
namespace Go.Proofs.Ytjlmoadnbbeloaa
open Go.RowKit
theorem AtL.newAt {g : Nat} {vs : List Value} {wx : World} {t : TypeId} (hg : g = wx.heap.size) : AtL g vs (wx.alloc (.cells vs.toArray t)) := by
  subst hg; exact AtL.new _ _ _
theorem cell_drew_at (w : World) (a : Addr) : w.drew.cell? a = w.cell? a := rfl
theorem lt_add1 {a b : Nat} (h : a + 1 ≤ b) : a < b := h
end Go.Proofs.Ytjlmoadnbbeloaa
