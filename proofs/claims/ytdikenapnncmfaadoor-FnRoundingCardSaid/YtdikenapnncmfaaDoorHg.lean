/- Lists of things of some cells each, in memory: plain facts. -/
import Derived.Test.YtdikenapnncmfaaDoorMem
namespace Go.Proofs.YtdikenapnncmfaaDoor
open Go.RowKit

/-- The cells of a list of things. -/
def cellsF {α : Type} (f : α → List Value) (l : List α) : List Value := l.flatMap f
section
variable {α : Type} {f : α → List Value} {s : Nat}
theorem cellsF_len (hf : ∀ a, (f a).length = s) (l : List α) : (cellsF f l).length = l.length * s := by
  induction l with
  | nil => simp [cellsF]
  | cons a l ih =>
    show (f a ++ cellsF f l).length = _
    rw [List.length_append, ih, hf, List.length_cons, Nat.succ_mul, Nat.add_comm]
theorem cellsF_at (hf : ∀ a, (f a).length = s) : ∀ (l : List α) (k : Nat) (a : α), l[k]? = some a → ∀ i, i < s → (cellsF f l)[k * s + i]? = (f a)[i]?
  | [], k, a, h, i, hi => by simp at h
  | b :: l, 0, a, h, i, hi => by
    simp only [List.getElem?_cons_zero, Option.some.injEq] at h
    subst h
    show (f b ++ cellsF f l)[0 * s + i]? = _
    rw [List.getElem?_append_left (by rw [hf]; omega)]
    simp
  | b :: l, k + 1, a, h, i, hi => by
    simp only [List.getElem?_cons_succ] at h
    show (f b ++ cellsF f l)[(k + 1) * s + i]? = _
    rw [Nat.succ_mul, List.getElem?_append_right (by rw [hf]; omega), hf]
    rw [show k * s + s + i - s = k * s + i by omega]
    exact cellsF_at hf l k a h i hi
theorem cellsF_snoc (l : List α) (a : α) : cellsF f l ++ f a = cellsF f (l ++ [a]) := by
  unfold cellsF; rw [List.flatMap_append]; simp
theorem cellsF_one (h1 : ∀ a, ∀ u ∈ f a, u.oneCell' = true) (l : List α) : ∀ u ∈ cellsF f l, u.oneCell' = true := by
  intro u hu
  obtain ⟨a, _, ha⟩ := List.mem_flatMap.1 hu
  exact h1 a u ha
theorem cellsF_set3 (hf : ∀ a, (f a).length = s) : ∀ (l : List α) (k : Nat) (b : α) (xs : List Value), k < l.length → xs.length = l.length * s → (∀ j, (j < k * s ∨ k * s + s ≤ j) → xs[j]? = (cellsF f l)[j]?) → (∀ i, i < s → xs[k * s + i]? = (f b)[i]?) → xs = cellsF f (l.set k b) := by
  intro l k b xs hk hx ho hb
  apply List.ext_getElem?
  intro j
  by_cases hj : j < l.length * s
  · have hs : 0 < s := by
      rcases Nat.eq_zero_or_pos s with h | h
      · subst h; omega
      · exact h
    have hdm := Nat.div_add_mod j s
    have hm := Nat.mod_lt j hs
    have hq : j / s < l.length := Nat.div_lt_of_lt_mul (by rw [Nat.mul_comm]; exact hj)
    have hjj : j = j / s * s + j % s := by rw [Nat.mul_comm]; omega
    by_cases he : j / s = k
    · rw [hjj, he, hb _ hm, cellsF_at hf (l.set k b) k b (by simp [hk]) _ hm]
    · have hout : j < k * s ∨ k * s + s ≤ j := by
        rcases Nat.lt_or_ge (j / s) k with h | h
        · left
          have := Nat.mul_le_mul_right s (show j / s + 1 ≤ k by omega)
          rw [Nat.succ_mul] at this
          omega
        · right
          have := Nat.mul_le_mul_right s (show k + 1 ≤ j / s by omega)
          rw [Nat.succ_mul] at this
          omega
      rw [ho j hout]
      have hget : l[j / s]? = some (l[j / s]'hq) := List.getElem?_eq_getElem hq
      have hget2 : (l.set k b)[j / s]? = some (l[j / s]'hq) := by rw [List.getElem?_set_ne (by omega)]; exact hget
      rw [hjj, cellsF_at hf l _ _ hget _ hm, cellsF_at hf _ _ _ hget2 _ hm]
  · rw [List.getElem?_eq_none (by omega), List.getElem?_eq_none (by rw [cellsF_len hf, List.length_set]; omega)]
end

/-- A slice at A that reads as the list l: each element lies in s cells that stand for it. -/
def Rd {α : Type} (f : α → List Value) (s : Nat) (w : World) (B : Nat) (A : Option Addr) (l : List α) : Prop :=
  l = [] ∨ ∃ g o, A = some ⟨g, o, none⟩ ∧ g < B ∧ ∀ k a, l[k]? = some a → ∀ i u, (f a)[i]? = some u → w.cell? ⟨g, o + k * s + i, none⟩ = some u
section
variable {α : Type} {f : α → List Value} {s : Nat} {w w' : World} {B B' : Nat} {A : Option Addr} {l : List α}
theorem Rd.nil_ : Rd f s w B A [] := .inl rfl
theorem Rd.elem (h : Rd f s w B A l) {k : Nat} {a : α} (hk : l[k]? = some a) : ∃ g o, A = some ⟨g, o, none⟩ ∧ g < B ∧ ∀ i u, (f a)[i]? = some u → w.cell? ⟨g, o + k * s + i, none⟩ = some u := by
  rcases h with rfl | ⟨g, o, hA, hg, h⟩
  · simp at hk
  · exact ⟨g, o, hA, hg, h k a hk⟩
theorem Rd.keep (h : Rd f s w B A l) (hk : ∀ p : Addr, p.block < B → w'.cell? p = w.cell? p) : Rd f s w' B A l := by
  rcases h with rfl | ⟨g, o, hA, hg, h⟩
  · exact .inl rfl
  · exact .inr ⟨g, o, hA, hg, fun k a hka i u hu => (hk _ hg).trans (h k a hka i u hu)⟩
theorem Rd.more (h : Rd f s w B A l) (hB : B ≤ B') : Rd f s w B' A l := by
  rcases h with rfl | ⟨g, o, hA, hg, h⟩
  · exact .inl rfl
  · exact .inr ⟨g, o, hA, by omega, h⟩
theorem Rd.below (h : Rd f s w B A l) (hb : Below B w w') : Rd f s w' B A l := h.keep fun _ hp => hb.cell hp
theorem Rd.drew (h : Rd f s w B A l) : Rd f s w.drew B A l := h
theorem Rd.drewN (h : Rd f s w B A l) (k : Nat) : Rd f s (w.drewN k) B A l := h
theorem Rd.alloc (h : Rd f s w B A l) (hB : B ≤ w.heap.size) (o : Obj) : Rd f s (w.alloc o) B A l := h.keep fun p hp => World.cell?_alloc_lt w o p (by omega)
theorem Rd.setCell (h : Rd f s w B A l) {p : Addr} (hB : B ≤ p.block) (u : Value) : Rd f s (w.setCell p u) B A l :=
  h.keep fun q hq => World.cell?_setCell_other w p q u (fun e => by subst e; omega)
theorem Rd.grown (h : Rd f s w B A l) {row : Option Nat} (hg : w.grownBy w' row) (hB : B ≤ w.heap.size) (hr : ∀ g, row = some g → B ≤ g) : Rd f s w' B A l :=
  h.keep fun p hp => World.cell?_of_block (hg.block p.block (by omega) (fun e => by have := hr _ e.symm; omega))
theorem Rd.of_own (hf : ∀ a, (f a).length = s) (hs : 0 < s) {base : Nat} {e : TypeId} {n c : Nat} (h : w.ownsRow base e s (.slice A n c) n (cellsF f l)) (hB : w.heap.size ≤ B) : Rd f s w B A l := by
  have hln : l.length = n := by
    have := h.1
    rw [cellsF_len hf] at this
    exact Nat.eq_of_mul_eq_mul_right hs this
  rcases l with _ | ⟨a, l⟩
  · exact .inl rfl
  · have hn : 0 < n := by rw [← hln]; simp
    obtain ⟨g, cap, hv, _, hlt⟩ := h.form hn
    have hA : A = some ⟨g, 0, none⟩ := by injection hv
    subst hA
    refine .inr ⟨g, 0, rfl, by omega, fun k b hb i u hu => ?_⟩
    have hi : i < s := by
      rw [← hf b]
      rcases Nat.lt_or_ge i (f b).length with h | h
      · exact h
      · rw [List.getElem?_eq_none h] at hu; cases hu
    have h1 := cellsF_at hf (a :: l) k b hb i hi
    have hj : k * s + i < n * s := by
      have hk : k < (a :: l).length := by
        rcases Nat.lt_or_ge k (a :: l).length with h | h
        · exact h
        · rw [List.getElem?_eq_none h] at hb; cases hb
      have := Nat.mul_le_mul_right s (show k + 1 ≤ n by omega)
      rw [Nat.succ_mul] at this
      omega
    have h2 := h.cellAt (k * s + i) hj
    rw [h1, hu] at h2
    rw [Nat.zero_add]
    exact h2
end
theorem list_of {α : Type} {P : Nat → α → Prop} : ∀ {n : Nat}, (∀ i, i < n → ∃ a, P i a) → ∃ l : List α, l.length = n ∧ ∀ i a, l[i]? = some a → P i a
  | 0, _ => ⟨[], rfl, fun i a h => by simp at h⟩
  | n + 1, h => by
    obtain ⟨l, hl, hp⟩ := list_of (n := n) fun i hi => h i (by omega)
    obtain ⟨a, ha⟩ := h n (by omega)
    refine ⟨l ++ [a], by simp [hl], fun i b hb => ?_⟩
    rcases Nat.lt_or_ge i l.length with hi | hi
    · rw [List.getElem?_append_left hi] at hb; exact hp i b hb
    · rw [List.getElem?_append_right hi] at hb
      have : i - l.length = 0 := by
        rcases Nat.eq_zero_or_pos (i - l.length) with h0 | h0
        · exact h0
        · rw [List.getElem?_eq_none (by simp; omega)] at hb; cases hb
      rw [this] at hb
      simp at hb
      subst hb
      have : i = n := by omega
      subst this; exact ha
theorem cell_lt {w : World} {a : Addr} {v : Value} (h : w.cell? a = some v) : a.block < w.heap.size ∧ a.spot = none := by
  unfold World.cell? at h
  constructor
  · rcases Nat.lt_or_ge a.block w.heap.size with k | k
    · exact k
    · rw [Array.getElem?_eq_none k] at h; simp at h
  · split at h
    · split at h
      · cases h
      · rename_i hs; simpa using hs
    · cases h
end Go.Proofs.YtdikenapnncmfaaDoor
