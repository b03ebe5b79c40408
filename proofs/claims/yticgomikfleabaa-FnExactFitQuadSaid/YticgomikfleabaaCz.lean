/- Words on blocks of six and eight cells. -/
import Derived.Test.YticgomikfleabaaAw
import Derived.Test.YticgomikfleabaaPc
namespace Go.Proofs.Yticgomikfleabaa
open Go.RowKit
theorem AtL.store6 {g : Nat} {a0 a1 a2 a3 a4 a5 y0 y1 y2 y3 y4 y5 : Value} {wx : World} (h : AtL g [y0, y1, y2, y3, y4, y5] wx) : AtL g [a0, a1, a2, a3, a4, a5] ((((((wx.setCell ⟨g, 0, none⟩ a0).setCell ⟨g, 1, none⟩ a1).setCell ⟨g, 2, none⟩ a2).setCell ⟨g, 3, none⟩ a3).setCell ⟨g, 4, none⟩ a4).setCell ⟨g, 5, none⟩ a5) := ((((((h.set 0 a0).set 1 a1).set 2 a2).set 3 a3).set 4 a4).set 5 a5)
theorem AtL.of6 {g : Nat} {a0 a1 a2 a3 a4 a5 : Value} {wx : World} (h0 : wx.cell? ⟨g, 0, none⟩ = some a0) (h1 : wx.cell? ⟨g, 1, none⟩ = some a1) (h2 : wx.cell? ⟨g, 2, none⟩ = some a2) (h3 : wx.cell? ⟨g, 3, none⟩ = some a3) (h4 : wx.cell? ⟨g, 4, none⟩ = some a4) (h5 : wx.cell? ⟨g, 5, none⟩ = some a5) (hl : g < wx.heap.size) : AtL g [a0, a1, a2, a3, a4, a5] wx :=
  ⟨fun i v hv => by
    match i, hv with
    | 0, hv => exact h0.trans hv
    | 1, hv => exact h1.trans hv
    | 2, hv => exact h2.trans hv
    | 3, hv => exact h3.trans hv
    | 4, hv => exact h4.trans hv
    | 5, hv => exact h5.trans hv, hl⟩
theorem AtL.store8 {g : Nat} {a0 a1 a2 a3 a4 a5 a6 a7 y0 y1 y2 y3 y4 y5 y6 y7 : Value} {wx : World} (h : AtL g [y0, y1, y2, y3, y4, y5, y6, y7] wx) : AtL g [a0, a1, a2, a3, a4, a5, a6, a7] ((((((((wx.setCell ⟨g, 0, none⟩ a0).setCell ⟨g, 1, none⟩ a1).setCell ⟨g, 2, none⟩ a2).setCell ⟨g, 3, none⟩ a3).setCell ⟨g, 4, none⟩ a4).setCell ⟨g, 5, none⟩ a5).setCell ⟨g, 6, none⟩ a6).setCell ⟨g, 7, none⟩ a7) := ((((((((h.set 0 a0).set 1 a1).set 2 a2).set 3 a3).set 4 a4).set 5 a5).set 6 a6).set 7 a7)
theorem AtL.of8 {g : Nat} {a0 a1 a2 a3 a4 a5 a6 a7 : Value} {wx : World} (h0 : wx.cell? ⟨g, 0, none⟩ = some a0) (h1 : wx.cell? ⟨g, 1, none⟩ = some a1) (h2 : wx.cell? ⟨g, 2, none⟩ = some a2) (h3 : wx.cell? ⟨g, 3, none⟩ = some a3) (h4 : wx.cell? ⟨g, 4, none⟩ = some a4) (h5 : wx.cell? ⟨g, 5, none⟩ = some a5) (h6 : wx.cell? ⟨g, 6, none⟩ = some a6) (h7 : wx.cell? ⟨g, 7, none⟩ = some a7) (hl : g < wx.heap.size) : AtL g [a0, a1, a2, a3, a4, a5, a6, a7] wx :=
  ⟨fun i v hv => by
    match i, hv with
    | 0, hv => exact h0.trans hv
    | 1, hv => exact h1.trans hv
    | 2, hv => exact h2.trans hv
    | 3, hv => exact h3.trans hv
    | 4, hv => exact h4.trans hv
    | 5, hv => exact h5.trans hv
    | 6, hv => exact h6.trans hv
    | 7, hv => exact h7.trans hv, hl⟩
end Go.Proofs.Yticgomikfleabaa
