/- Walks: which curves are valid, on both sides. -/
import Derived.Test.YthedimnjbfeaiaaKwb
import Derived.Test.YthedimnjbfeaiaaKwc
import Derived.Test.YthedimnjbfeaiaaKxt
import Derived.Test.YthedimnjbfeaiaaKxf
namespace Go.Proofs.Ythedimnjbfeaiaa
open Go.RowKit
set_option linter.unusedVariables false
theorem implValidCurve_any (l : List APt) (A : Option Addr) (c : Nat) (cl : Bool) (t : Int) (ff fl : Bool) (fx fy lx ly : Int) (w : World) (hl : l.length ≤ 1048576) (r : Rd cPt 2 w w.heap.size A l) :
    Calls Try.prog 16 #[.agg #[.slice A l.length c, .bool cl, .int .i64 t, .bool ff, .bool fl, .int .i64 fx, .int .i64 fy, .int .i64 lx, .int .i64 ly]] w fun e w' => e = .returned (.bool (vCur l cl t ff fl fx fy lx ly)) ∧ Below w.heap.size w w' := by
  rcases cl with _ | _
  · exact implValidCurve_false l A c t ff fl fx fy lx ly w hl r
  · exact implValidCurve_true l A c t ff fl fx fy lx ly w hl r
theorem l06Ok_any (l : List APt) (A : Option Addr) (c : Nat) (cl : Bool) (t : Int) (ff fl : Bool) (fx fy lx ly : Int) (b : Nat) (w : World) (hl : l.length ≤ 1048576) (at0 : AtL b [.slice A l.length c, .bool cl, .int .i64 t, .bool ff, .bool fl, .int .i64 fx, .int .i64 fy, .int .i64 lx, .int .i64 ly] w) (r : Rd cPt 2 w w.heap.size A l) :
    Calls Try.prog 53 #[.pointer (some ⟨b, 0, none⟩)] w fun e w' => e = .returned (.bool (vCur l cl t ff fl fx fy lx ly)) ∧ Below w.heap.size w w' := by
  rcases cl with _ | _
  · exact l06Ok_false l A c t ff fl fx fy lx ly b w hl at0 r
  · exact l06Ok_true l A c t ff fl fx fy lx ly b w hl at0 r
set_option maxHeartbeats 1600000 in
theorem specValidCurve_any (l : List APt) (A : Option Addr) (c : Nat) (cl : Bool) (t : Int) (ff fl : Bool) (fx fy lx ly : Int) (w : World) (hl : l.length ≤ 1048576) (r : Rd cPt 2 w w.heap.size A l) :
    Calls Try.prog 14 #[.agg #[.slice A l.length c, .bool cl, .int .i64 t, .bool ff, .bool fl, .int .i64 fx, .int .i64 fy, .int .i64 lx, .int .i64 ly]] w fun e w' => e = .returned (.bool (vCur l cl t ff fl fx fy lx ly)) ∧ Below w.heap.size w w' := by
  have C := Lib.hid (fun b w at0 r => l06Ok_any l A c cl t ff fl fx fy lx ly b w hl at0 r)
  generalize vCur l cl t ff fl fx fy lx ly = v at C ⊢
  clear hl
  go_enter Try.func14, Try.ntmps14
  go_wp2_with fail
  refine (C.out _ _ (AtL.new _ _ _) ((r.alloc (Nat.le_refl _) _).more (by simp))).mono ?_
  rintro e w1 ⟨rfl, hb⟩
  go_wp2_with fail
  go_ret
  exact ⟨rfl, by repeat' (first | with_reducible assumption | with_reducible exact Below.refl _ _ | (with_reducible refine Below.setCell ?_ ?_ _) | (with_reducible refine Below.alloc ?_ ?_ _) | (with_reducible refine Below.drew ?_) | (with_reducible refine below_dr ?_ _) | (with_reducible refine Below.trans ?_ (Below.mono (by with_reducible assumption) ?_)) | omega | (simp; done) | (simp; omega))⟩
end Go.Proofs.Ythedimnjbfeaiaa
