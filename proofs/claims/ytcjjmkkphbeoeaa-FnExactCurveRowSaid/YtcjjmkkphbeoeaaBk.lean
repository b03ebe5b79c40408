/- Memory: what a region leaves of a curve. -/
import Derived.Test.YtcjjmkkphbeoeaaKt
import Derived.Test.YtcjjmkkphbeoeaaBl
namespace Go.Proofs.Ytcjjmkkphbeoeaa
open Go.RowKit
set_option linter.unusedVariables false
/-- A Curve and a code are handed back, the slice in memory of the call's own. -/
def Ret_Curve (b1 : Bool) (b2 : Int) (b3 : Bool) (b4 : Bool) (b5 : Int) (b6 : Int) (b7 : Int) (b8 : Int) (code : Int) (l : List APt) (w : World) (e : Ending) (w' : World) : Prop :=
  ∃ (A : Option Addr) (c : Nat), e = .returned (.tuple #[.agg #[.slice A l.length c, .bool b1, .int .i64 b2, .bool b3, .bool b4, .int .i64 b5, .int .i64 b6, .int .i64 b7, .int .i64 b8], .int .i64 code]) ∧ w'.ownsRow w.heap.size 24 2 (.slice A l.length c) l.length (cellsF cPt l) ∧ Below w.heap.size w w'
/-- What a region leaves that converts, calls and stores a Curve and a code. -/
def Left_Curve (b1 : Bool) (b2 : Int) (b3 : Bool) (b4 : Bool) (b5 : Int) (b6 : Int) (b7 : Int) (b8 : Int) (code : Int) (l : List APt) (lo : Nat) (sA sB : Value) (wx : World) : Prop :=
  ∃ (q : Nat) (A : Option Addr) (c : Nat), sA = .pointer (some ⟨q, 0, none⟩) ∧ sB = .int .i64 code ∧ AtL q [.slice A l.length c, .bool b1, .int .i64 b2, .bool b3, .bool b4, .int .i64 b5, .int .i64 b6, .int .i64 b7, .int .i64 b8] wx ∧ lo ≤ q ∧ wx.ownsRow lo 24 2 (.slice A l.length c) l.length (cellsF cPt l) ∧ (∀ r, (Value.slice A l.length c).ownBlock = some r → ¬ r = q)
theorem AtL.store9 {g : Nat} {a0 a1 a2 a3 a4 a5 a6 a7 a8 y0 y1 y2 y3 y4 y5 y6 y7 y8 : Value} {wx : World} (h : AtL g [y0, y1, y2, y3, y4, y5, y6, y7, y8] wx) : AtL g [a0, a1, a2, a3, a4, a5, a6, a7, a8] (((((((((wx.setCell ⟨g, 0, none⟩ a0).setCell ⟨g, 1, none⟩ a1).setCell ⟨g, 2, none⟩ a2).setCell ⟨g, 3, none⟩ a3).setCell ⟨g, 4, none⟩ a4).setCell ⟨g, 5, none⟩ a5).setCell ⟨g, 6, none⟩ a6).setCell ⟨g, 7, none⟩ a7).setCell ⟨g, 8, none⟩ a8) := (((((((((h.set 0 a0).set 1 a1).set 2 a2).set 3 a3).set 4 a4).set 5 a5).set 6 a6).set 7 a7).set 8 a8)
end Go.Proofs.Ytcjjmkkphbeoeaa
