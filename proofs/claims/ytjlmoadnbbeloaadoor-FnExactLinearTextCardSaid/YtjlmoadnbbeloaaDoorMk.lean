/- Walks: the texts by which memory is marked. -/
import Derived.Test.YtjlmoadnbbeloaaDoorProg
import Derived.Test.YtjlmoadnbbeloaaDoorMem
import Derived.Test.YtjlmoadnbbeloaaDoorDig
import Derived.WalkKit
import Derived.WalkSpells
import Derived.WalkLawsBesides
import Derived.Lib.SmallJoins
namespace Go.Proofs.YtjlmoadnbbeloaaDoor
open Go.RowKit

theorem ret_bytes {a b : ByteArray} (h : a = b) : Ending.returned (.string a) = .returned (.string b) := by rw [h]
theorem conv_one (w : World) (d : UInt8) : (convert 118 9 (.slice (some ⟨w.heap.size, 0, none⟩) 1 1)).run Tryd.prog (w.alloc (.cells #[.int .u8 (d.toNat : Int)] 5)) = .ok (.string ⟨#[d]⟩) (w.alloc (.cells #[.int .u8 (d.toNat : Int)] 5)) :=
  run_convert_bytes_back _ 118 9 5 ⟨w.heap.size, 0, none⟩ 1 [d] Tryd.underlying118 Tryd.underlying5 Tryd.underlying9 (fun j hj => by
    match j, hj with
    | 0, _ => simp [Addr.add, go_sem])

end Go.Proofs.YtjlmoadnbbeloaaDoor
