/- Walks: lists of terms are marked and looked at again. -/
import Derived.Test.YtjlmoadnbbeloaaDoorHt
namespace Go.Proofs.YtjlmoadnbbeloaaDoor
open Go.RowKit
set_option linter.unusedVariables false
def marksTerm (k n : Nat) : List ATerm := (List.range n).map fun i => (markB (k + 3 * i), ((k + 3 * i : Nat) : Int) + 1, ((k + 3 * i : Nat) : Int) + 2)
theorem marksTerm_len (k n : Nat) : (marksTerm k n).length = n := by simp [marksTerm]
theorem marksTerm_at {k n i : Nat} (h : i < n) : (marksTerm k n)[i]? = some (markB (k + 3 * i), ((k + 3 * i : Nat) : Int) + 1, ((k + 3 * i : Nat) : Int) + 2) := by simp [marksTerm, h]
end Go.Proofs.YtjlmoadnbbeloaaDoor
