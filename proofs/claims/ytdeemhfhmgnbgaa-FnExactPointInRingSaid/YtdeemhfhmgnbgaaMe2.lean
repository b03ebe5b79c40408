/- Walks: the different ends that are on both of two segments, the reference's side. -/
import Derived.Test.YtdeemhfhmgnbgaaMi
import Derived.Test.YtdeemhfhmgnbgaaMem
import Derived.Test.YtdeemhfhmgnbgaaAw
namespace Go.Proofs.Ytdeemhfhmgnbgaa
open Go.RowKit

def cellsP (l : List (Int × Int)) : List Value := l.flatMap fun p => [.int .i64 p.1, .int .i64 p.2]
theorem cellsP_length (l : List (Int × Int)) : (cellsP l).length = l.length * 2 := by
  induction l with
  | nil => rfl
  | cons p l ih =>
    show (([.int .i64 p.1, .int .i64 p.2] : List Value) ++ cellsP l).length = _
    rw [List.length_append, ih]; simp only [List.length_cons, List.length_nil]; omega
theorem cellsP_at : ∀ (l : List (Int × Int)) (j : Nat) (p : Int × Int), l[j]? = some p → (cellsP l)[j * 2]? = some (.int .i64 p.1) ∧ (cellsP l)[j * 2 + 1]? = some (.int .i64 p.2)
  | [], j, p, h => by simp at h
  | q :: l, 0, p, h => by
    simp only [List.getElem?_cons_zero, Option.some.injEq] at h
    subst h; exact ⟨rfl, rfl⟩
  | q :: l, j + 1, p, h => by
    simp only [List.getElem?_cons_succ] at h
    have := cellsP_at l j p h
    show (([.int .i64 q.1, .int .i64 q.2] : List Value) ++ cellsP l)[(j + 1) * 2]? = _ ∧ (([.int .i64 q.1, .int .i64 q.2] : List Value) ++ cellsP l)[(j + 1) * 2 + 1]? = _
    rw [List.getElem?_append_right (by simp; omega), List.getElem?_append_right (by simp; omega)]
    simp only [List.length_cons, List.length_nil]
    rw [show (j + 1) * 2 - (0 + 1 + 1) = j * 2 by omega, show (j + 1) * 2 + 1 - (0 + 1 + 1) = j * 2 + 1 by omega]
    exact this
theorem cellsP_snoc (l : List (Int × Int)) (p : Int × Int) : cellsP l ++ [.int .i64 p.1, .int .i64 p.2] = cellsP (l ++ [p]) := by
  unfold cellsP; rw [List.flatMap_append]; rfl
theorem cellsP_one (l : List (Int × Int)) : ∀ u ∈ cellsP l, u.oneCell' = true := by
  intro u hu
  obtain ⟨p, _, hp⟩ := List.mem_flatMap.1 hu
  simp at hp
  rcases hp with rfl | rfl <;> rfl
theorem ends_snoc (f : Int × Int → Bool) (l : List (Int × Int)) (p : Int × Int) : endsF f (l ++ [p]) = if p ∈ endsF f l then endsF f l else if f p then endsF f l ++ [p] else endsF f l := by
  unfold endsF; rw [List.foldl_append]; rfl
theorem heap_new (wr : World) (o : Obj) : (wr.alloc o).heap[wr.heap.size]? = some o := by
  show (wr.heap.push o)[wr.heap.size]? = _
  simp
theorem own_empty (wr : World) (base : Nat) (e : TypeId) (hb : base ≤ wr.heap.size) : (wr.alloc (.cells #[] e)).ownsRow base e 2 (.slice (some ⟨wr.heap.size, 0, none⟩) 0 0) 0 [] :=
  ⟨rfl, Or.inr ⟨wr.heap.size, 0, #[], rfl, hb, heap_new wr _, Nat.le_refl _, by unfold maxLen; omega, rfl, rfl⟩⟩
theorem own_pair (wr : World) (base : Nat) (e : TypeId) (x y : Value) (hb : base ≤ wr.heap.size) : (wr.alloc (.cells #[x, y] e)).ownsRow base e 2 (.slice (some ⟨wr.heap.size, 0, none⟩) 1 1) 1 [x, y] :=
  ⟨rfl, Or.inr ⟨wr.heap.size, 1, #[x, y], rfl, hb, heap_new wr _, Nat.le_refl _, by unfold maxLen; omega, rfl, rfl⟩⟩
theorem eq_pt_at {a b c d : Int} (w : World) : (Go.binOp BinOp.eql 26 (.agg #[.int .i64 a, .int .i64 b]) (.agg #[.int .i64 c, .int .i64 d])).run Try.prog w = Result.ok (.bool (decide ((a, b) = (c, d)))) w := by
  by_cases h1 : a = c
  · subst h1
    by_cases h2 : b = d
    · subst h2; simp [go_sem]
    · simp [go_sem, h2]
  · simp [go_sem, h1]
/-- Cell j of what the call owns. -/
theorem own_cell {w : World} {base : Nat} {e : TypeId} {g n cap : Nat} {xs : List Value} (h : w.ownsRow base e 2 (.slice (some ⟨g, 0, none⟩) n cap) n xs) {j : Nat} {u : Value} (hu : xs[j]? = some u) : w.cell? ⟨g, j, none⟩ = some u := by
  obtain ⟨hl, h⟩ := h
  rcases h with ⟨h, _⟩ | ⟨g', cap', cur, hv, _, hh, _, _, hs, ht⟩
  · simp at h
  · injection hv with h1 h2 h3
    injection h1 with h1; injection h1 with h1
    subst h1
    have hj : j < xs.length := by
      rcases Nat.lt_or_ge j xs.length with k | k
      · exact k
      · rw [List.getElem?_eq_none k] at hu; simp at hu
    rw [← ht, List.getElem?_take] at hu
    split at hu
    · simp only [World.cell?, hh]
      simpa using hu
    · simp at hu
theorem own_below {w w' : World} {base B : Nat} {e : TypeId} {g n cap : Nat} {xs : List Value} (h : w.ownsRow base e 2 (.slice (some ⟨g, 0, none⟩) n cap) n xs) (hb : Below B w w') (hg : g < B) : w'.ownsRow base e 2 (.slice (some ⟨g, 0, none⟩) n cap) n xs := by
  obtain ⟨hl, h⟩ := h
  refine ⟨hl, ?_⟩
  rcases h with ⟨h, _⟩ | ⟨g', cap', cur, hv, r1, hh, r2⟩
  · simp at h
  · refine Or.inr ⟨g', cap', cur, hv, r1, ?_, r2⟩
    injection hv with h1 h2 h3
    injection h1 with h1; injection h1 with h1
    subst h1
    rw [hb.block _ hg]; exact hh
theorem own_form {w : World} {base : Nat} {e : TypeId} {v : Value} {n : Nat} {xs : List Value} (h : w.ownsRow base e 2 v (n + 1) xs) : ∃ q cap, v = .slice (some ⟨q, 0, none⟩) (n + 1) cap ∧ q < w.heap.size := by
  obtain ⟨hl, h⟩ := h
  rcases h with ⟨_, h⟩ | ⟨g', cap', cur, hv, r1, hh, r2⟩
  · omega
  · refine ⟨g', cap', hv, ?_⟩
    rcases Nat.lt_or_ge g' w.heap.size with k | k
    · exact k
    · rw [Array.getElem?_eq_none k] at hh; simp at hh
theorem pt_info : (Try.prog.info? 26).map (fun i => (i.zero, i.size, i.bytes)) = some (some (.agg #[.int .i64 0, .int .i64 0]), 2, 16) := by kernel_rfl
/-- The outer loop. -/
def ERel (f : Int × Int → Bool) (pts : List (Int × Int)) (W0 : World) (g G : Nat) (v i : Value) (wr : World) : Prop :=
  ∃ (k q cap : Nat) (L : List (Int × Int)), k ≤ 4 ∧ i = .int .i64 k ∧ v = .slice (some ⟨q, 0, none⟩) L.length cap ∧ L = endsF f (pts.take k) ∧ L.length ≤ k ∧ wr.ownsRow g 26 2 v L.length (cellsP L) ∧ (q = g ∨ G ≤ q) ∧ q < wr.heap.size ∧ Below g W0 wr ∧ (∀ o, wr.cell? ⟨g + 1, o, none⟩ = W0.cell? ⟨g + 1, o, none⟩) ∧ G ≤ wr.heap.size
/-- The inner loop. -/
def IRel (L : List (Int × Int)) (p : Int × Int) (W1 : World) (tw i : Value) (wr : World) : Prop :=
  ∃ j n : Nat, j ≤ L.length ∧ i = .int .i64 j ∧ tw = .bool (decide (p ∈ L.take j)) ∧ wr = W1.drewN n
end Go.Proofs.Ytdeemhfhmgnbgaa
