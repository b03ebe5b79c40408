/- Walks: lists of points are marked and looked at again. -/
import Derived.Test.YtjlmoadnbbeloaaDoorKt
namespace Go.Proofs.YtjlmoadnbbeloaaDoor
open Go.RowKit
set_option linter.unusedVariables false
def marksPt (k n : Nat) : List APt := (List.range n).map fun i => (((k + 2 * i : Nat) : Int), ((k + 2 * i : Nat) : Int) + 1)
theorem marksPt_len (k n : Nat) : (marksPt k n).length = n := by simp [marksPt]
theorem marksPt_at {k n i : Nat} (h : i < n) : (marksPt k n)[i]? = some (((k + 2 * i : Nat) : Int), ((k + 2 * i : Nat) : Int) + 1) := by simp [marksPt, h]
end Go.Proofs.YtjlmoadnbbeloaaDoor
