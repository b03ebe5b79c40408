/- Walks: a row of points that are all valid. -/
import Derived.Test.YtdikenapnncmfaaDoorPa
namespace Go.Proofs.YtdikenapnncmfaaDoor
open Go.RowKit

def okAll (X Y : Nat → Int) (n : Nat) : Bool := (List.range n).all fun i => okB (X i) (Y i)
theorem okAll_yes {X Y : Nat → Int} {k : Nat} (h : okAll X Y k = true) (h2 : okB (X k) (Y k) = true) : okAll X Y (k + 1) = true := by
  unfold okAll at *; rw [List.range_succ, List.all_append, h]; simp [h2]
theorem okAll_no {X Y : Nat → Int} {k n : Nat} (hk : k < n) (h2 : okB (X k) (Y k) = false) : false = okAll X Y n := by
  unfold okAll; symm; rw [List.all_eq_false]; exact ⟨k, by simpa using hk, by simp [h2]⟩
def VRel (X Y : Nat → Int) (n : Nat) (w : World) (i : Value) (wr : World) : Prop := ∃ k : Nat, k ≤ n ∧ i = .int .i64 k ∧ okAll X Y k = true ∧ Below w.heap.size w wr

end Go.Proofs.YtdikenapnncmfaaDoor
