/- Lists of loops that are a call's own: each its own block; what changes between two blocks. -/
import Derived.Test.YtaikdjonecmlgaaLm
import Derived.Test.YtaikdjonecmlgaaLg
namespace Go.Proofs.Ytaikdjonecmlgaa
open Go.RowKit
set_option linter.unusedVariables false
/-- Only blocks from lo to hi change. -/
structure Mid (lo hi : Nat) (w w' : World) : Prop where
  os : w'.os = w.os
  tape : w'.tape = w.tape
  output : w'.output = w.output
  size : w.heap.size ≤ w'.heap.size
  block : ∀ k, k < w.heap.size → (k < lo ∨ hi ≤ k) → w'.heap[k]? = w.heap[k]?
theorem Mid.of_grown {lo hi : Nat} {w w' : World} {row : Option Nat} (h : w.grownBy w' row) (hr : ∀ q, row = some q → lo ≤ q ∧ q < hi) : Mid lo hi w w' :=
  ⟨h.os, h.tape, h.output, h.size, fun k hk hor => h.block k hk (fun e => by have := hr k e.symm; omega)⟩
theorem Mid.of_below {lo hi : Nat} {w w' : World} (h : Below w.heap.size w w') : Mid lo hi w w' :=
  ⟨h.os, h.tape, h.output, h.size, fun k hk _ => h.block k hk⟩
theorem Mid.refl (lo hi : Nat) (w : World) : Mid lo hi w w := ⟨rfl, rfl, rfl, Nat.le_refl _, fun _ _ _ => rfl⟩
theorem Mid.trans {lo hi : Nat} {w w1 w2 : World} (h : Mid lo hi w w1) (k : Mid lo hi w1 w2) : Mid lo hi w w2 :=
  ⟨k.os.trans h.os, k.tape.trans h.tape, k.output.trans h.output, Nat.le_trans h.size k.size, fun i hi' hor => (k.block i (Nat.lt_of_lt_of_le hi' h.size) hor).trans (h.block i hi' hor)⟩
theorem own_mid {lo hi : Nat} {w w' : World} {base e s n : Nat} {v : Value} {xs : List Value} (h : w.ownsRow base e s v n xs) (hm : Mid lo hi w w') (hr : ∀ q, v.ownBlock = some q → q < lo ∨ hi ≤ q) : w'.ownsRow base e s v n xs := by
  obtain ⟨hl, h⟩ := h
  refine ⟨hl, ?_⟩
  rcases h with h | ⟨g, cap, cur, hv, hb, hh, r⟩
  · exact .inl h
  · have hlt : g < w.heap.size := by
      rcases Nat.lt_or_ge g w.heap.size with k | k
      · exact k
      · rw [Array.getElem?_eq_none k] at hh; cases hh
    exact .inr ⟨g, cap, cur, hv, hb, (hm.block g hlt (hr g (by rw [hv]; rfl))).trans hh, r⟩
abbrev hdL (a : ALoop) : Value := .slice a.1 a.2.2.length a.2.1
/-- A slice of loops of one's own, all blocks between lo and hi and apart. -/
def OwnLoop (w : World) (lo hi : Nat) (A : Option Addr) (c : Nat) (ds : List DLoop) : Prop :=
  ∃ rows : List ALoop, rows.map dLoop = ds ∧ w.ownsRow lo 62 1 (.slice A ds.length c) ds.length (cellsF cLoop rows) ∧
    (∀ q, (Value.slice A ds.length c).ownBlock = some q → q < hi) ∧
    (∀ (i : Nat) (a : ALoop), rows[i]? = some a → w.ownsRow lo 69 3 (hdL a) a.2.2.length (cellsF cKnot a.2.2) ∧ ∀ q, (hdL a).ownBlock = some q → q < hi ∧ ¬ (Value.slice A ds.length c).ownBlock = some q) ∧
    (∀ (i j : Nat) (a b : ALoop), i ≠ j → rows[i]? = some a → rows[j]? = some b → ∀ q, (hdL a).ownBlock = some q → ¬ (hdL b).ownBlock = some q)
theorem OwnLoop.mid {lo hi lo' hi' : Nat} {w w' : World} {A : Option Addr} {c : Nat} {ds : List DLoop} (h : OwnLoop w lo hi A c ds) (hm : Mid lo' hi' w w') (hx : hi ≤ lo' ∨ hi' ≤ lo) : OwnLoop w' lo hi A c ds := by
  obtain ⟨rows, h1, h2, h3, h4, h5⟩ := h
  refine ⟨rows, h1, own_mid h2 hm (fun q hq => ?_), h3, fun i a ha => ⟨own_mid (h4 i a ha).1 hm (fun q hq => ?_), (h4 i a ha).2⟩, h5⟩
  · have := h3 q hq; have := (own_block h2 hq).1; omega
  · have := ((h4 i a ha).2 q hq).1; have := (own_block (h4 i a ha).1 hq).1; omega
theorem OwnLoop.carry {lo hi : Nat} {w w' : World} {A : Option Addr} {c : Nat} {ds : List DLoop} (h : OwnLoop w lo hi A c ds) (hb : Below w.heap.size w w') : OwnLoop w' lo hi A c ds := by
  obtain ⟨rows, h1, h2, h3, h4, h5⟩ := h
  exact ⟨rows, h1, own_stays h2 hb, h3, fun i a ha => ⟨own_stays (h4 i a ha).1 hb, (h4 i a ha).2⟩, h5⟩
theorem OwnLoop.rd {lo hi : Nat} {w : World} {A : Option Addr} {c : Nat} {ds : List DLoop} (h : OwnLoop w lo hi A c ds) : RdLoop w w.heap.size A ds := by
  obtain ⟨rows, rfl, h2, h3, h4, h5⟩ := h
  rw [List.length_map] at h2
  exact ⟨rows, rfl, Rd.of_own (fun a => cLoop_len a) (by omega) h2 (Nat.le_refl _), fun i a ha => Rd.of_own (fun a => cKnot_len a) (by omega) (h4 i a ha).1 (Nat.le_refl _)⟩
/-- Where the marks of loop i begin. -/
def kAt (k : Nat) (ds : List DLoop) (i : Nat) : Nat := k + 3 * ((ds.take i).map List.length).sum
def mds (k : Nat) (ds : List DLoop) : List DLoop := ds.mapIdx fun i l => marksKnot (kAt k ds i) l.length
theorem mds_len (k : Nat) (ds : List DLoop) : (mds k ds).length = ds.length := by simp [mds]
theorem mds_at {k i : Nat} {ds : List DLoop} {l : DLoop} (h : ds[i]? = some l) : (mds k ds)[i]? = some (marksKnot (kAt k ds i) l.length) := by simp [mds, h]
theorem kAt_zero (k : Nat) (ds : List DLoop) : kAt k ds 0 = k := by simp [kAt]
theorem kAt_succ {k i : Nat} {ds : List DLoop} {l : DLoop} (h : ds[i]? = some l) : kAt k ds (i + 1) = kAt k ds i + 3 * l.length := by
  unfold kAt
  rw [List.take_add_one, h, List.map_append, List.sum_append]
  simp
  omega
theorem kAt_le (k : Nat) (ds : List DLoop) (i : Nat) : k ≤ kAt k ds i ∧ kAt k ds i ≤ kAt k ds ds.length := by
  unfold kAt
  rw [List.take_length]
  have h : (ds.map List.length).sum = ((ds.take i).map List.length).sum + ((ds.drop i).map List.length).sum := by
    rw [← List.sum_append, ← List.map_append, List.take_append_drop]
  omega
end Go.Proofs.Ytaikdjonecmlgaa
