/- What the operations on two fractions return: a form for all of them. -/
import Derived.Test.YtonoldjhfhngfaaDoorW3
namespace Go.Proofs.YtonoldjhfhngfaaDoor
open Go.RowKit

/-- The result of an operation on two fractions: that of MakeFrac where both are valid, else ErrInvalid. -/
def OpRet (ok : Bool) (a b c : Int) (w : World) (e : Ending) (w' : World) : Prop :=
  e = .returned (.tuple #[.agg #[.int .i64 (bif ok then a else 0), .int .i64 (bif ok then b else 0)], .int .i64 (bif ok then c else 1)]) ∧ Below w.heap.size w w'
theorem OpRet.no {ok : Bool} {a b c : Int} {w w' : World} (h : ok = false) (hb : Below w.heap.size w w') : OpRet ok a b c w (.returned (.tuple #[.agg #[.int .i64 0, .int .i64 0], .int .i64 1])) w' := by
  subst h; exact ⟨rfl, hb⟩
theorem OpRet.yes {ok : Bool} {a b c : Int} {w w' : World} (h : ok = true) (hb : Below w.heap.size w w') : OpRet ok a b c w (.returned (.tuple #[.agg #[.int .i64 a, .int .i64 b], .int .i64 c])) w' := by
  subst h; exact ⟨rfl, hb⟩
theorem and_no1 {a b : Bool} (h : a = false) : (a && b) = false := by simp [h]
theorem and_no2 {a b : Bool} (h : b = false) : (a && b) = false := by simp [h]
theorem and_yes {a b : Bool} (h : a = true) (h2 : b = true) : (a && b) = true := by simp [h, h2]
theorem l02Ok_val {n d : Int} {v : Bool} (w : World) (hn : -9223372036854775808 ≤ n ∧ n ≤ 9223372036854775807) (hd : -9223372036854775808 ≤ d ∧ d ≤ 9223372036854775807) (h : validB n d = v) :
    Calls Tryd.prog 58 #[.agg #[.int .i64 n, .int .i64 d]] w (Boxed 47 n d (.bool v) w) := by
  rw [← h]; exact l02Ok_any n d w hn hd
theorem implValidFrac_val {n d : Int} {v : Bool} (w : World) (hn : -9223372036854775808 ≤ n ∧ n ≤ 9223372036854775807) (hd : -9223372036854775808 ≤ d ∧ d ≤ 9223372036854775807) (h : validB n d = v) :
    Calls Tryd.prog 62 #[.agg #[.int .i64 n, .int .i64 d]] w (Boxed 47 n d (.bool v) w) := by
  rw [← h]; exact implValidFrac_any n d w hn hd
theorem below3 {w w3 : World} {A B R : Obj} (hb : Below (((w.alloc A).alloc B).alloc R).heap.size (((w.alloc A).alloc B).alloc R) w3) : Below w.heap.size w w3 :=
  ((((Below.refl _ _).alloc (Nat.le_refl _) _).alloc (by simp) _).alloc (by simp; omega) _).trans (hb.mono (by simp; omega))

theorem below_dr {B : Nat} {a w : World} (h : Below B a w) (n : Nat) : Below B a (w.drewN n) := h.trans (Joins.below_draws _ _ _)

end Go.Proofs.YtonoldjhfhngfaaDoor
