/- The law on rounding: the walk, its arguments in their order. -/
import Derived.Test.YtdikenapnncmfaaDoorEb2
namespace Go.Proofs.YtdikenapnncmfaaDoor
open Go.RowKit
theorem walk_RoundingC (A : Option Addr) (n c : Nat) (B : Option Addr) (m d : Nat) (w : World) (rA : CodeR A n w w.heap.size) (rB : CodeR B m w w.heap.size) (hN : Nam.TabN Nam.stNm 0 w) (hT : Pix.Tabs w) (hM : Pix.MaxIs w) :
    Calls Tryd.prog 3 #[.slice A n c, .slice B m d] w fun e w' => e = .returned (.bool true) ∧ Below w.heap.size w w' := walk_Rounding A B n c m d w rA rB hN hT hM
end Go.Proofs.YtdikenapnncmfaaDoor
