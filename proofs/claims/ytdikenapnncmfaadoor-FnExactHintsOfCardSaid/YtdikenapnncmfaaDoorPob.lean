/- Walks: the bytes of a program, the reference's side: l19Program. -/
import Derived.Test.YtdikenapnncmfaaDoorPoa
namespace Go.Proofs.YtdikenapnncmfaaDoor
open Go.RowKit
set_option linter.unusedVariables false
theorem ureads_1g (w : World) (x : Int) (t : TypeId) (g : Nat) (hg : w.heap.size = g) : Reads (w.alloc (.cells #[.int .u8 x] t)) (w.alloc (.cells #[.int .u8 x] t)).heap.size 1 (some ⟨g, 0, none⟩) 1 [.int .u8 x] := by
  subst hg; exact ureads_1 w x t
theorem ureads_2g (w : World) (x y : Int) (t : TypeId) (g : Nat) (hg : w.heap.size = g) : Reads (w.alloc (.cells #[.int .u8 x, .int .u8 y] t)) (w.alloc (.cells #[.int .u8 x, .int .u8 y] t)).heap.size 1 (some ⟨g, 0, none⟩) 2 [.int .u8 x, .int .u8 y] := by
  subst hg; exact ureads_2 w x y t
end Go.Proofs.YtdikenapnncmfaaDoor
