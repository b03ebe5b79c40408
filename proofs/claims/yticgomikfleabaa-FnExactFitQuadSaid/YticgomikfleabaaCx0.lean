/- What CubicAt and QuadAt answer; which levels there are. -/
import Derived.Test.YticgomikfleabaaCs
import Derived.Test.YticgomikfleabaaCa
namespace Go.Proofs.Yticgomikfleabaa
open Go.RowKit
def pw (level : Int) : Int := 2 ^ level.toNat
def caOk (k level : Int) : Bool := decide (0 ≤ level ∧ level ≤ 6 ∧ 0 ≤ k ∧ k ≤ pw level)
def caV (ok : Bool) (k level v : Int) : Int := bif ok then (bif caOk k level then v else 0) else 0
def caC (ok : Bool) (k level : Int) : Int := bif ok then (bif caOk k level then 0 else 2) else 1
def CaRet (ok : Bool) (k level x y : Int) (w : World) (e : Ending) (w' : World) : Prop :=
  e = .returned (.tuple #[.agg #[.int .i64 (caV ok k level x), .int .i64 (caV ok k level y)], .int .i64 (caC ok k level)]) ∧ Below w.heap.size w w'
theorem CaRet.f {ok : Bool} {k level x y : Int} {w w' : World} (h : ok = false) (hb : Below w.heap.size w w') : CaRet ok k level x y w (.returned (.tuple #[.agg #[.int .i64 0, .int .i64 0], .int .i64 1])) w' := by
  subst h; exact ⟨rfl, hb⟩
theorem CaRet.r {ok : Bool} {k level x y : Int} {w w' : World} (h : ok = true) (h2 : caOk k level = false) (hb : Below w.heap.size w w') : CaRet ok k level x y w (.returned (.tuple #[.agg #[.int .i64 0, .int .i64 0], .int .i64 2])) w' := by
  subst h; unfold CaRet caV caC; rw [h2]; exact ⟨rfl, hb⟩
theorem CaRet.t {ok : Bool} {k level x y : Int} {w w' : World} (h : ok = true) (h2 : caOk k level = true) (hb : Below w.heap.size w w') : CaRet ok k level x y w (.returned (.tuple #[.agg #[.int .i64 x, .int .i64 y], .int .i64 0])) w' := by
  subst h; unfold CaRet caV caC; rw [h2]; exact ⟨rfl, hb⟩
theorem caOk_level {k level : Int} (h : level < 0 ∨ 6 < level) : caOk k level = false := by
  unfold caOk; rw [decide_eq_false_iff_not]; omega
theorem caOk_no {k level : Int} (h : k < 0 ∨ pw level < k) : caOk k level = false := by
  unfold caOk; rw [decide_eq_false_iff_not]; omega
theorem caOk_yes {k level : Int} (h1 : 0 ≤ level) (h2 : level ≤ 6) (h3 : 0 ≤ k) (h4 : k ≤ pw level) : caOk k level = true := by
  unfold caOk; exact decide_eq_true ⟨h1, h2, h3, h4⟩
theorem seven {level : Int} (h1 : 0 ≤ level) (h2 : level ≤ 6) : level = 0 ∨ level = 1 ∨ level = 2 ∨ level = 3 ∨ level = 4 ∨ level = 5 ∨ level = 6 := by omega
end Go.Proofs.Yticgomikfleabaa
