/- Walks: which curves are valid, on both sides. -/
import Derived.Test.YtjlmoadnbbeloaaDoorKwb
import Derived.Test.YtjlmoadnbbeloaaDoorKwc
import Derived.Test.YtjlmoadnbbeloaaDoorKxt
import Derived.Test.YtjlmoadnbbeloaaDoorKxf
namespace Go.Proofs.YtjlmoadnbbeloaaDoor
open Go.RowKit
set_option linter.unusedVariables false
theorem implValidCurve_any (l : List APt) (A : Option Addr) (c : Nat) (cl : Bool) (t : Int) (ff fl : Bool) (fx fy lx ly : Int) (w : World) (hl : l.length ≤ 1048576) (r : Rd cPt 2 w w.heap.size A l) :
    Calls Tryd.prog 49 #[.agg #[.slice A l.length c, .bool cl, .int .i64 t, .bool ff, .bool fl, .int .i64 fx, .int .i64 fy, .int .i64 lx, .int .i64 ly]] w fun e w' => e = .returned (.bool (vCur l cl t ff fl fx fy lx ly)) ∧ Below w.heap.size w w' := by
  rcases cl with _ | _
  · exact implValidCurve_false l A c t ff fl fx fy lx ly w hl r
  · exact implValidCurve_true l A c t ff fl fx fy lx ly w hl r
theorem l06Ok_any (l : List APt) (A : Option Addr) (c : Nat) (cl : Bool) (t : Int) (ff fl : Bool) (fx fy lx ly : Int) (b : Nat) (w : World) (hl : l.length ≤ 1048576) (at0 : AtL b [.slice A l.length c, .bool cl, .int .i64 t, .bool ff, .bool fl, .int .i64 fx, .int .i64 fy, .int .i64 lx, .int .i64 ly] w) (r : Rd cPt 2 w w.heap.size A l) :
    Calls Tryd.prog 45 #[.pointer (some ⟨b, 0, none⟩)] w fun e w' => e = .returned (.bool (vCur l cl t ff fl fx fy lx ly)) ∧ Below w.heap.size w w' := by
  rcases cl with _ | _
  · exact l06Ok_false l A c t ff fl fx fy lx ly b w hl at0 r
  · exact l06Ok_true l A c t ff fl fx fy lx ly b w hl at0 r
end Go.Proofs.YtjlmoadnbbeloaaDoor
