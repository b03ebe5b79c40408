/- Walks: the points of a ring at which it does not turn. -/
import Derived.Test.YtdeemhfhmgnbgaaDoorVd
namespace Go.Proofs.YtdeemhfhmgnbgaaDoor
open Go.RowKit
set_option linter.unusedVariables false
/-- Whether a ring does not turn at its k-th point. -/
def idleB (l : List APt) (k : Nat) : Bool :=
  match l[(k + l.length - 1) % l.length]?, l[k]?, l[(k + 1) % l.length]? with
  | some a, some b, some c => decide (turnI a.1 a.2 b.1 b.2 c.1 c.2 = 0)
  | _, _, _ => false
theorem idleB_is {l : List APt} {k i j : Nat} {a0 a1 b0 b1 c0 c1 : Int} (hi : (k + l.length - 1) % l.length = i) (ha : l[i]? = some (a0, a1)) (hb : l[k]? = some (b0, b1)) (hj : (k + 1) % l.length = j) (hc : l[j]? = some (c0, c1)) : idleB l k = decide (turnI a0 a1 b0 b1 c0 c1 = 0) := by
  unfold idleB; rw [hi, ha, hb, hj, hc]
/-- The first such point's index; the number of points if there is none. -/
def idlN (l : List APt) : Nat := (List.range l.length).findIdx (idleB l)
theorem idlN_le (l : List APt) : idlN l ≤ l.length := by
  have := List.findIdx_le_length (xs := List.range l.length) (p := idleB l)
  rw [List.length_range] at this; exact this
theorem idlN_at {l : List APt} {k : Nat} (hk : k < l.length) (h : idleB l k = true) (h0 : ∀ j, j < k → idleB l j = false) : idlN l = k := by
  unfold idlN
  have hr : k < (List.range l.length).length := by rw [List.length_range]; exact hk
  refine (List.findIdx_eq hr).2 ⟨?_, ?_⟩
  · rw [List.getElem_range]; exact h
  · intro j hj; rw [List.getElem_range]; exact h0 j hj
theorem idlN_none {l : List APt} (h0 : ∀ j, j < l.length → idleB l j = false) : idlN l = l.length := by
  unfold idlN
  have h : List.findIdx (idleB l) (List.range l.length) = (List.range l.length).length := by
    rw [List.findIdx_eq_length]
    intro x hx; exact h0 x (List.mem_range.1 hx)
  rw [h, List.length_range]
/-- A ring without such points: the first one is taken away, again and again. -/
def smp : Nat → List APt → List APt
  | 0, l => l
  | f + 1, l => if idlN l < l.length then smp f (l.eraseIdx (idlN l)) else l
theorem smp_nil : ∀ f, smp f [] = []
  | 0 => rfl
  | f + 1 => by unfold smp; rw [if_neg (by simp)]
theorem smp_stop {f : Nat} {l : List APt} (h : idlN l = l.length) : smp f l = l := by
  cases f with
  | zero => rfl
  | succ f => unfold smp; rw [if_neg (by omega)]
theorem smp_step {f k : Nat} {l : List APt} (hk : k < l.length) (h : idlN l = k) : smp (f + 1) l = smp f (l.eraseIdx k) := by
  conv => lhs; unfold smp
  rw [h, if_pos hk]
theorem smp_len : ∀ (f : Nat) (l : List APt), (smp f l).length ≤ l.length
  | 0, l => Nat.le_refl _
  | f + 1, l => by
    unfold smp
    split
    · refine Nat.le_trans (smp_len f _) ?_
      rw [List.length_eraseIdx]; split <;> omega
    · exact Nat.le_refl _
theorem pts_of {l : List APt} (h : ∀ (k : Nat) (x y : Int), l[k]? = some (x, y) → okB x y = true) : ptsUp l l.length = true := by
  unfold ptsUp
  rw [List.all_eq_true]
  intro k hk
  rw [List.mem_range] at hk
  unfold pOk
  rcases hx : l[k]? with _ | ⟨x, y⟩
  · rfl
  · exact h k x y hx
theorem erase_parts (l : List APt) (k : Nat) : l.eraseIdx k = l.take k ++ l.drop (k + 1) := List.eraseIdx_eq_take_drop_succ l k
theorem pts_erase {l : List APt} (h : ptsUp l l.length = true) (k : Nat) : ptsUp (l.eraseIdx k) (l.eraseIdx k).length = true :=
  pts_of fun j x y hj => by
    have hm := List.mem_of_getElem? hj
    obtain ⟨i, hi⟩ := List.getElem?_of_mem (List.mem_of_mem_eraseIdx hm)
    exact pts_all h hi
end Go.Proofs.YtdeemhfhmgnbgaaDoor
