/- Walks: which curves are valid, the reference's side: plain facts. -/
import Derived.Test.YtjlmoadnbbeloaaDoorKw
namespace Go.Proofs.YtjlmoadnbbeloaaDoor
open Go.RowKit
set_option linter.unusedVariables false
theorem endB_ok {f : Bool} {x y : Int} (h : endB f x y = true) : okB x y = true := by unfold endB at h; simp at h; exact h.1
theorem endB_bad {f : Bool} {x y : Int} (h : okB x y = true) (h2 : f = false) (h3 : ¬ (x = 0 ∧ y = 0)) : endB f x y = false := by unfold endB; rw [h, h2, decide_eq_false h3]; rfl
theorem endB_zero {f : Bool} {x y : Int} (h : okB x y = true) (h3 : x = 0 ∧ y = 0) : endB f x y = true := by unfold endB; rw [h, decide_eq_true h3]; simp
theorem endB_fix {x y : Int} (h : okB x y = true) : endB true x y = true := by unfold endB; rw [h]; rfl
end Go.Proofs.YtjlmoadnbbeloaaDoor
