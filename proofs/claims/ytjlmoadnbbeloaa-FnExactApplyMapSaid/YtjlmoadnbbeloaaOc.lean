/- Contracts of sums and products of valid fractions, said with fractions that may not exist. -/
import Derived.Test.YtjlmoadnbbeloaaWAdd
import Derived.Test.YtjlmoadnbbeloaaWMul
import Derived.Test.YtjlmoadnbbeloaaMr
namespace Go.Proofs.Ytjlmoadnbbeloaa
open Go.RowKit

theorem vb_n {a b : Int} (h : validB a b = true) : -9223372036854775808 ≤ a ∧ a ≤ 9223372036854775807 := by have := validB_bounds h; omega
theorem vb_d {a b : Int} (h : validB a b = true) : -9223372036854775808 ≤ b ∧ b ≤ 9223372036854775807 := by have := validB_bounds h; omega
/-- A fraction and a code are handed back. -/
def FRet (o : OF) (w : World) (e : Ending) (w' : World) : Prop := e = .returned (.tuple #[.agg #[.int .i64 (oN o), .int .i64 (oD o)], .int .i64 (oC o)]) ∧ Below w.heap.size w w'
theorem FRet.none {o : OF} {w w' : World} (h : o = none) (hb : Below w.heap.size w w') : FRet o w (.returned (.tuple #[.agg #[.int .i64 0, .int .i64 0], .int .i64 2])) w' := by
  subst h; exact ⟨rfl, hb⟩
theorem FRet.some {o : OF} {s t : Int} {w w' : World} (h : o = some (s, t)) (hb : Below w.heap.size w w') : FRet o w (.returned (.tuple #[.agg #[.int .i64 s, .int .i64 t], .int .i64 0])) w' := by
  subst h; exact ⟨rfl, hb⟩
/-- A fraction and a boolean are handed back. -/
def BRet (o : OF) (w : World) (e : Ending) (w' : World) : Prop := e = .returned (.tuple #[.agg #[.int .i64 (oN o), .int .i64 (oD o)], .bool (decide (oC o = 0))]) ∧ Below w.heap.size w w'
theorem BRet.none {o : OF} {w w' : World} (h : o = none) (hb : Below w.heap.size w w') : BRet o w (.returned (.tuple #[.agg #[.int .i64 0, .int .i64 0], .bool false])) w' := by
  subst h; exact ⟨rfl, hb⟩
theorem BRet.some {o : OF} {s t : Int} {w w' : World} (h : o = some (s, t)) (hb : Below w.heap.size w w') : BRet o w (.returned (.tuple #[.agg #[.int .i64 s, .int .i64 t], .bool true])) w' := by
  subst h; exact ⟨rfl, hb⟩
theorem specMul_f {a b c d : Int} (h1 : validB a b = true) (h2 : validB c d = true) (w : World) :
    Calls Try.prog 64 #[.agg #[.int .i64 a, .int .i64 b], .agg #[.int .i64 c, .int .i64 d]] w (FRet (mulF a b c d) w) := by
  have h := specMul_any a b c d w (vb_n h1) (vb_d h1) (vb_n h2) (vb_d h2)
  obtain ⟨e1, e2, e3⟩ := mulF_is h1 h2
  unfold FRet
  rw [e1, e2, e3]
  unfold OpRet at h
  rw [h1, h2] at h
  exact h
theorem specMul_none {a b c d : Int} (h1 : validB a b = true) (h2 : validB c d = true) (h : mulF a b c d = none) (w : World) :
    Calls Try.prog 64 #[.agg #[.int .i64 a, .int .i64 b], .agg #[.int .i64 c, .int .i64 d]] w fun e w' => e = .returned (.tuple #[.agg #[.int .i64 0, .int .i64 0], .int .i64 2]) ∧ Below w.heap.size w w' := by
  have k := specMul_f h1 h2 w
  rw [h] at k
  exact k
theorem specMul_some {a b c d s t : Int} (h1 : validB a b = true) (h2 : validB c d = true) (h : mulF a b c d = some (s, t)) (w : World) :
    Calls Try.prog 64 #[.agg #[.int .i64 a, .int .i64 b], .agg #[.int .i64 c, .int .i64 d]] w fun e w' => e = .returned (.tuple #[.agg #[.int .i64 s, .int .i64 t], .int .i64 0]) ∧ Below w.heap.size w w' := by
  have k := specMul_f h1 h2 w
  rw [h] at k
  exact k
theorem specAdd_f {a b c d : Int} (h1 : validB a b = true) (h2 : validB c d = true) (w : World) :
    Calls Try.prog 60 #[.agg #[.int .i64 a, .int .i64 b], .agg #[.int .i64 c, .int .i64 d]] w (FRet (addF a b c d) w) := by
  have h := specAdd_any a b c d w (vb_n h1) (vb_d h1) (vb_n h2) (vb_d h2)
  obtain ⟨e1, e2, e3⟩ := addF_is h1 h2
  unfold FRet
  rw [e1, e2, e3]
  unfold OpRet at h
  rw [h1, h2] at h
  exact h
theorem specAdd_none {a b c d : Int} (h1 : validB a b = true) (h2 : validB c d = true) (h : addF a b c d = none) (w : World) :
    Calls Try.prog 60 #[.agg #[.int .i64 a, .int .i64 b], .agg #[.int .i64 c, .int .i64 d]] w fun e w' => e = .returned (.tuple #[.agg #[.int .i64 0, .int .i64 0], .int .i64 2]) ∧ Below w.heap.size w w' := by
  have k := specAdd_f h1 h2 w
  rw [h] at k
  exact k
theorem specAdd_some {a b c d s t : Int} (h1 : validB a b = true) (h2 : validB c d = true) (h : addF a b c d = some (s, t)) (w : World) :
    Calls Try.prog 60 #[.agg #[.int .i64 a, .int .i64 b], .agg #[.int .i64 c, .int .i64 d]] w fun e w' => e = .returned (.tuple #[.agg #[.int .i64 s, .int .i64 t], .int .i64 0]) ∧ Below w.heap.size w w' := by
  have k := specAdd_f h1 h2 w
  rw [h] at k
  exact k
theorem implMul_f {a b c d : Int} (h1 : validB a b = true) (h2 : validB c d = true) (w : World) :
    Calls Try.prog 69 #[.agg #[.int .i64 a, .int .i64 b], .agg #[.int .i64 c, .int .i64 d]] w (FRet (mulF a b c d) w) := by
  have h := implMul_any a b c d w (vb_n h1) (vb_d h1) (vb_n h2) (vb_d h2)
  obtain ⟨e1, e2, e3⟩ := mulF_is h1 h2
  unfold FRet
  rw [e1, e2, e3]
  unfold OpRet at h
  rw [h1, h2] at h
  exact h
theorem implMul_none {a b c d : Int} (h1 : validB a b = true) (h2 : validB c d = true) (h : mulF a b c d = none) (w : World) :
    Calls Try.prog 69 #[.agg #[.int .i64 a, .int .i64 b], .agg #[.int .i64 c, .int .i64 d]] w fun e w' => e = .returned (.tuple #[.agg #[.int .i64 0, .int .i64 0], .int .i64 2]) ∧ Below w.heap.size w w' := by
  have k := implMul_f h1 h2 w
  rw [h] at k
  exact k
theorem implMul_some {a b c d s t : Int} (h1 : validB a b = true) (h2 : validB c d = true) (h : mulF a b c d = some (s, t)) (w : World) :
    Calls Try.prog 69 #[.agg #[.int .i64 a, .int .i64 b], .agg #[.int .i64 c, .int .i64 d]] w fun e w' => e = .returned (.tuple #[.agg #[.int .i64 s, .int .i64 t], .int .i64 0]) ∧ Below w.heap.size w w' := by
  have k := implMul_f h1 h2 w
  rw [h] at k
  exact k
theorem implAdd_f {a b c d : Int} (h1 : validB a b = true) (h2 : validB c d = true) (w : World) :
    Calls Try.prog 70 #[.agg #[.int .i64 a, .int .i64 b], .agg #[.int .i64 c, .int .i64 d]] w (FRet (addF a b c d) w) := by
  have h := implAdd_any a b c d w (vb_n h1) (vb_d h1) (vb_n h2) (vb_d h2)
  obtain ⟨e1, e2, e3⟩ := addF_is h1 h2
  unfold FRet
  rw [e1, e2, e3]
  unfold OpRet at h
  rw [h1, h2] at h
  exact h
theorem implAdd_none {a b c d : Int} (h1 : validB a b = true) (h2 : validB c d = true) (h : addF a b c d = none) (w : World) :
    Calls Try.prog 70 #[.agg #[.int .i64 a, .int .i64 b], .agg #[.int .i64 c, .int .i64 d]] w fun e w' => e = .returned (.tuple #[.agg #[.int .i64 0, .int .i64 0], .int .i64 2]) ∧ Below w.heap.size w w' := by
  have k := implAdd_f h1 h2 w
  rw [h] at k
  exact k
theorem implAdd_some {a b c d s t : Int} (h1 : validB a b = true) (h2 : validB c d = true) (h : addF a b c d = some (s, t)) (w : World) :
    Calls Try.prog 70 #[.agg #[.int .i64 a, .int .i64 b], .agg #[.int .i64 c, .int .i64 d]] w fun e w' => e = .returned (.tuple #[.agg #[.int .i64 s, .int .i64 t], .int .i64 0]) ∧ Below w.heap.size w w' := by
  have k := implAdd_f h1 h2 w
  rw [h] at k
  exact k
theorem accF_none {N D X Y : Nat → Int} {k : Nat} (h : accF N D X Y k = none) : ∀ n, k ≤ n → accF N D X Y n = none := by
  intro n hn
  induction n with
  | zero => obtain rfl : k = 0 := by omega
            exact h
  | succ n ih =>
    rcases Nat.lt_or_ge n k with hk | hk
    · obtain rfl : k = n + 1 := by omega
      exact h
    · show plusF (accF N D X Y n) _ = none
      rw [ih hk]; rfl
theorem plusF_some {o q : OF} {s t u v : Int} (h1 : o = some (s, t)) (h2 : q = some (u, v)) : plusF o q = addF s t u v := by subst h1; subst h2; rfl
theorem plusF_none_r' {o q : OF} (h2 : q = none) : plusF o q = none := by subst h2; exact plusF_none_r o
end Go.Proofs.Ytjlmoadnbbeloaa
