/- Walks: the decimal form of a number on the reference's side, Decimal on the program's. -/
import Derived.Test.YtdikenapnncmfaaDoorDec
import Derived.Test.YtdikenapnncmfaaDoorShelf
import Derived.Lib.AppendIntMem
import Derived.Lib.Hide
namespace Go.Proofs.YtdikenapnncmfaaDoor
open Go.RowKit

set_option maxHeartbeats 800000 in
theorem implDecimal_any (n : Int) (w : World) (h0 : -9223372036854775808 ≤ n) (h1 : n ≤ 9223372036854775807) (ht : Lib.TabIs Tryd.prog w "internal/strconv.uint64pow10" .u64 Lib.pow10Tab) :
    Calls Tryd.prog 33 #[.int .i64 n] w fun e w' => e = .returned (.string ⟨(Lib.itoa n).toArray⟩) ∧ Below w.heap.size w w' := by
  have c : Calls Tryd.prog 54 #[.int .i64 n, .int .i64 10] w fun e w' => e = .returned (.string ⟨(Lib.itoa n).toArray⟩) ∧ Below w.heap.size w w' :=
    (Tryd.strconv_FormatInt_10 n h0 h1 w ht).mono fun _ _ ⟨he, k, os, hw⟩ => ⟨he, by rw [hw]; exact Lib.below_grow _ _ (Nat.le_refl _) _ _⟩
  have C := Lib.hid c
  clear c ht
  generalize (⟨(Lib.itoa n).toArray⟩ : ByteArray) = v at C ⊢
  go_enter Tryd.func33, Tryd.ntmps33
  go_wp2_with fail
  refine C.out.mono ?_
  rintro e w1 ⟨rfl, hb⟩
  go_wp2
  go_ret
  exact ⟨rfl, hb⟩
theorem gPow : Tryd.prog.globalNamed "internal/strconv.uint64pow10" = some 5 := by kernel_rfl

end Go.Proofs.YtdikenapnncmfaaDoor
