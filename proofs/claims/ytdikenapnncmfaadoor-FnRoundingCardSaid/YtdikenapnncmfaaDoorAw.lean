/- Bounds of integers; what a region leaves. -/
import Derived.Test.YtdikenapnncmfaaDoorPa
import Derived.Test.YtdikenapnncmfaaDoorBl
namespace Go.Proofs.YtdikenapnncmfaaDoor
open Go.RowKit
theorem i64_bounds {n : Int} (h : (Lit.int .i64 n).wf = true) : -9223372036854775808 ≤ n ∧ n ≤ 9223372036854775807 := by simpa [Lit.wf, IntKind.min, IntKind.max, IntKind.signed, IntKind.bits] using h
theorem lt_add1 {a b : Nat} (h : a + 1 ≤ b) : a < b := h
/-- What a region leaves that converts structs, calls and stores a struct. -/
def LeftP (vs : List Value) (v : Value) (wx : World) : Prop := ∃ g, v = .pointer (some ⟨g, 0, none⟩) ∧ AtL g vs wx
end Go.Proofs.YtdikenapnncmfaaDoor
