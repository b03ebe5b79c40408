/- Walks: expressions that are the same, on both sides. -/
import Derived.Test.YtjpadamlfhceaaaHxa
import Derived.Test.YtjpadamlfhceaaaPa
namespace Go.Proofs.Ytjpadamlfhceaaa
open Go.RowKit
set_option linter.unusedVariables false
/-- Are two expressions the same? -/
def sLin (n d : Int) (l : List DTerm) (n' d' : Int) (m : List DTerm) : Bool := decide (n = n' ∧ d = d') && eqG kT l m
theorem sLin_n1 {n d n' d' : Int} {l m : List DTerm} (h : ¬ (n = n' ∧ d = d')) : false = sLin n d l n' d' m := by unfold sLin; rw [decide_eq_false h]; rfl
theorem sLin_b {n d n' d' : Int} {l m : List DTerm} {v : Bool} (h : n = n' ∧ d = d') (hv : v = eqG kT l m) : v = sLin n d l n' d' m := by unfold sLin; rw [decide_eq_true h, hv]; rfl
theorem eql_frac {a b c d : Int} (w : World) : (Go.binOp BinOp.eql 33 (.agg #[.int .i64 a, .int .i64 b]) (.agg #[.int .i64 c, .int .i64 d])).run Try.prog w = Result.ok (.bool (decide (a = c ∧ b = d))) w := by
  by_cases h1 : a = c
  · subst h1
    by_cases h2 : b = d
    · subst h2; simp [go_sem]
    · simp [go_sem, h2]
  · simp [go_sem, h1]
theorem neq_frac {a b c d : Int} (w : World) : (Go.binOp BinOp.neq 33 (.agg #[.int .i64 a, .int .i64 b]) (.agg #[.int .i64 c, .int .i64 d])).run Try.prog w = Result.ok (.bool (!decide (a = c ∧ b = d))) w := by
  by_cases h1 : a = c
  · subst h1
    by_cases h2 : b = d
    · subst h2; simp [go_sem]
    · simp [go_sem, h2]
  · simp [go_sem, h1]
set_option maxHeartbeats 1600000 in
theorem implSameLinear_any (n d : Int) (A : Option Addr) (c : Nat) (l : List DTerm) (n' d' : Int) (A' : Option Addr) (c' : Nat) (m : List DTerm) (w : World) (hl : l.length ≤ 1048576) (hm : m.length ≤ 1048576) (r : Row RvTerm 3 w w.heap.size A l) (r' : Row RvTerm 3 w w.heap.size A' m) :
    Calls Try.prog 34 #[.agg #[.int .i64 n, .int .i64 d, .slice A l.length c], .agg #[.int .i64 n', .int .i64 d', .slice A' m.length c']] w fun e w' => e = .returned (.bool (sLin n d l n' d' m)) ∧ Below w.heap.size w w' := by
  have e1 := fun w => eql_frac (a := n) (b := d) (c := n') (d := d') w
  by_cases hf : n = n' ∧ d = d'
  · have H := Lib.hid (fun v (h : v = eqG kT l m) => sLin_b (n := n) (d := d) (n' := n') (d' := d') hf h)
    rw [decide_eq_true hf] at e1
    clear hf
    have C := Lib.hid (fun w r r' => slicesEqT_any l m A A' c c' w.heap.size w hl hm r r')
    generalize eqG kT l m = v at C H
    go_enter Try.func34, Try.ntmps34
    go_wp2_with fail
    refine (C.out _ ?_ ?_).mono ?_
    · exact (((r.alloc (Nat.le_refl _) _).alloc (by simp) _).more (by simp; omega))
    · exact (((r'.alloc (Nat.le_refl _) _).alloc (by simp) _).more (by simp; omega))
    rintro e w1 ⟨rfl, q, rfl⟩
    go_wp2_with fail
    go_ret
    exact ⟨ret_bool (H.out _ rfl), by repeat' (first | with_reducible assumption | with_reducible exact Below.refl _ _ | (with_reducible refine Below.setCell ?_ ?_ _) | (with_reducible refine Below.alloc ?_ ?_ _) | (with_reducible refine Below.drew ?_) | (with_reducible refine below_dr ?_ _) | (with_reducible refine Below.trans ?_ (Below.mono (by with_reducible assumption) ?_)) | omega | (simp; done) | (simp; omega))⟩
  · have H := Lib.hid (sLin_n1 (l := l) (m := m) hf)
    rw [decide_eq_false hf] at e1
    clear hf
    go_enter Try.func34, Try.ntmps34
    go_wp2_with fail
    go_ret
    exact ⟨ret_bool H.out, by repeat' (first | with_reducible assumption | with_reducible exact Below.refl _ _ | (with_reducible refine Below.setCell ?_ ?_ _) | (with_reducible refine Below.alloc ?_ ?_ _) | (with_reducible refine Below.drew ?_) | (with_reducible refine below_dr ?_ _) | (with_reducible refine Below.trans ?_ (Below.mono (by with_reducible assumption) ?_)) | omega | (simp; done) | (simp; omega))⟩
end Go.Proofs.Ytjpadamlfhceaaa
