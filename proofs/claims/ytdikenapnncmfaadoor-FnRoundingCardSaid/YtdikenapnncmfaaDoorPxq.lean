/- Walks: parts of a pixel as a text: PixelsText, both sides; the law. -/
import Derived.Test.YtdikenapnncmfaaDoorAw
import Derived.Test.YtdikenapnncmfaaDoorDA
import Derived.Lib.ItoaLen
import Derived.Lib.Strings
namespace Go.Proofs.YtdikenapnncmfaaDoor.Pix
open Go.RowKit
set_option linter.unusedVariables false
def ptI (v : Int) : Prop := -1099511627776 ≤ v ∧ v ≤ 1099511627776
instance {v : Int} : Decidable (ptI v) := by unfold ptI; infer_instance
def dcB (n : Int) : ByteArray := ⟨(Lib.itoa n).toArray⟩
theorem dcB_size {n : Int} (h : (-9223372036854775808 ≤ n ∧ n ≤ 9223372036854775807)) : (dcB n).size ≤ 21 := by
  have := Lib.itoa_length_le n h.1 h.2
  unfold dcB
  simp only [ByteArray.size, List.size_toArray]
  omega
/-- The text of v sixty-fourths, v not negative. -/
def pxB (v : Int) : ByteArray := dcB (v / 64) ++ ⟨#[58]⟩ ++ dcB (v % 64 / 10) ++ dcB (v % 64 % 10)
def pxT (v : Int) : ByteArray := if ptI v then (if v < 0 then ⟨#[45]⟩ ++ pxB (-v) else pxB v) else ⟨#[]⟩
theorem dc_small : ∀ r : Fin 64, (dcB (100 + (r.val : Int))).extract 1 (dcB (100 + (r.val : Int))).size = dcB ((r.val : Int) / 10) ++ dcB ((r.val : Int) % 10) := by decide +kernel
theorem dc_big : ∀ r : Fin 64, (dcB (100 + (r.val : Int))).size = 3 := by decide +kernel
end Go.Proofs.YtdikenapnncmfaaDoor.Pix
