/- Walks: which rings are the same, on both sides. -/
import Derived.Test.YtdeemhfhmgnbgaaVg
import Derived.Deep.QuietTactic
import Derived.BigQuiet
namespace Go.Proofs.Ytdeemhfhmgnbgaa
open Go.RowKit
set_option linter.unusedVariables false
def sUp (l m : List APt) (k : Nat) : Bool := decide (l.take k = m.take k)
def sEq (l m : List APt) : Bool := decide (l = m)
theorem sUp_zero (l m : List APt) : sUp l m 0 = true := by simp [sUp]
theorem sUp_succ {l m : List APt} {k : Nat} {a b : APt} (h : sUp l m k = true) (ha : l[k]? = some a) (hb : m[k]? = some b) (he : a = b) : sUp l m (k + 1) = true := by
  unfold sUp at *
  rw [List.take_add_one, List.take_add_one, ha, hb]
  simp only [decide_eq_true_eq] at h
  simp [h, he]
theorem sEq_len {l m : List APt} (h : ¬ l.length = m.length) : false = sEq l m := by
  unfold sEq; symm; rw [decide_eq_false_iff_not]; intro e; apply h; rw [e]
theorem sEq_no {l m : List APt} {k : Nat} {a b : APt} (ha : l[k]? = some a) (hb : m[k]? = some b) (he : ¬ a = b) : false = sEq l m := by
  unfold sEq; symm; rw [decide_eq_false_iff_not]; intro e; apply he
  rw [e, hb] at ha
  exact (Option.some.inj ha).symm
theorem sEq_yes {l m : List APt} (hl : l.length = m.length) (h : sUp l m l.length = true) : true = sEq l m := by
  unfold sUp at h
  rw [List.take_length, hl, List.take_length] at h
  unfold sEq; exact h.symm
theorem neq_pt {a b c d : Int} (w : World) : (Go.binOp BinOp.neq 26 (.agg #[.int .i64 a, .int .i64 b]) (.agg #[.int .i64 c, .int .i64 d])).run Try.prog w = Result.ok (.bool (!decide (a = c ∧ b = d))) w := by
  by_cases h1 : a = c
  · subst h1
    by_cases h2 : b = d
    · subst h2; simp [go_sem]
    · simp [go_sem, h2]
  · simp [go_sem, h1]
theorem pt_pair {x y u v : Int} (h : x = u ∧ y = v) : ((x, y) : APt) = (u, v) := by rw [h.1, h.2]
theorem pt_not {x y u v : Int} (h : ¬ (x = u ∧ y = v)) : ¬ ((x, y) : APt) = (u, v) := fun e => h ⟨congrArg Prod.fst e, congrArg Prod.snd e⟩
end Go.Proofs.Ytdeemhfhmgnbgaa
