/- Lists of rings of the call's own: one more, wider bounds; regions are taken over into memory of the call's own. -/
import Derived.Test.YtdeemhfhmgnbgaaYb
namespace Go.Proofs.Ytdeemhfhmgnbgaa
open Go.RowKit
set_option linter.unusedVariables false
theorem own_snoc {lo hi k : Nat} {w w2 : World} {A A2 : Option Addr} {c c2 : Nat} {rows : List ARing} {a : ARing} {ds : List DRing} (hk : rows.length = k)
    (h2 : w.ownsRow lo 55 1 (.slice A k c) k (cellsF cRing rows)) (h3 : ∀ q, (Value.slice A k c).ownBlock = some q → q < hi)
    (h4 : ∀ (i : Nat) (a : ARing), rows[i]? = some a → w.ownsRow lo 26 2 (hdL a) a.2.2.length (cellsF cPt a.2.2) ∧ ∀ q, (hdL a).ownBlock = some q → q < hi ∧ ¬ (Value.slice A k c).ownBlock = some q)
    (h5 : ∀ (i j : Nat) (a b : ARing), i ≠ j → rows[i]? = some a → rows[j]? = some b → ∀ q, (hdL a).ownBlock = some q → ¬ (hdL b).ownBlock = some q)
    (hn : w.ownsRow hi 26 2 (hdL a) a.2.2.length (cellsF cPt a.2.2)) (hhi : hi ≤ w.heap.size) (hlo : lo ≤ hi) (hg : w.grownBy w2 (Value.slice A k c).ownBlock)
    (ho : w2.ownsRow lo 55 1 (.slice A2 (k + 1) c2) (k + 1) (cellsF cRing rows ++ [hdL a])) (hat : (Value.slice A2 (k + 1) c2).ownBlock = (Value.slice A k c).ownBlock ∨ (Value.slice A2 (k + 1) c2).ownBlock = some w.heap.size)
    (hds : (rows ++ [a]).map dRing = ds) : OwnRing w2 lo w2.heap.size A2 c2 ds := by
  have hsz := hg.size
  have hl : ds.length = k + 1 := by rw [← hds]; simp [hk]
  have hnw : ∀ q, (hdL a).ownBlock = some q → hi ≤ q ∧ q < w.heap.size := fun q hq => own_block hn hq
  have hno : ∀ q, (hdL a).ownBlock = some q → ¬ (Value.slice A k c).ownBlock = some q := fun q hq hq2 => by have := (hnw q hq).1; have := h3 q hq2; omega
  refine ⟨rows ++ [a], hds, ?_, ?_, ?_, ?_⟩
  · rw [hl]
    have : cellsF cRing (rows ++ [a]) = cellsF cRing rows ++ [hdL a] := (cellsF_snoc rows a).symm
    rw [this]; exact ho
  · rw [hl]
    intro q hq
    exact (own_block ho hq).2
  · intro i b hb
    rw [hl]
    have key : w2.ownsRow lo 26 2 (hdL b) b.2.2.length (cellsF cPt b.2.2) ∧ (∀ q, (hdL b).ownBlock = some q → q < w.heap.size ∧ ¬ (Value.slice A k c).ownBlock = some q) := by
      rcases Nat.lt_or_ge i rows.length with hi' | hi'
      · rw [List.getElem?_append_left hi'] at hb
        exact ⟨own_grown (h4 i b hb).1 hg (fun q hq hr => ((h4 i b hb).2 q hq).2 hr), fun q hq => ⟨by have := ((h4 i b hb).2 q hq).1; omega, ((h4 i b hb).2 q hq).2⟩⟩
      · rw [List.getElem?_append_right hi'] at hb
        have h0 : i - rows.length = 0 := by
          rcases Nat.eq_zero_or_pos (i - rows.length) with h0 | h0
          · exact h0
          · rw [List.getElem?_eq_none (by simp; omega)] at hb; cases hb
        rw [h0] at hb
        obtain rfl : a = b := by simpa using hb
        exact ⟨own_base (own_grown hn hg (fun q hq hr => hno q hq hr)) hlo, fun q hq => ⟨(hnw q hq).2, hno q hq⟩⟩
    refine ⟨key.1, fun q hq => ⟨by have := (key.2 q hq).1; omega, fun hq2 => ?_⟩⟩
    rcases hat with h | h
    · exact (key.2 q hq).2 (h.symm.trans hq2)
    · have := (key.2 q hq).1
      have := Option.some.inj (h.symm.trans hq2)
      omega
  · intro i j x y hij hx hy q hqx hqy
    have split : ∀ {i : Nat} {x : ARing}, (rows ++ [a])[i]? = some x → (rows[i]? = some x ∧ i < rows.length) ∨ (i = rows.length ∧ x = a) := by
      intro i x hx
      rcases Nat.lt_or_ge i rows.length with hi' | hi'
      · rw [List.getElem?_append_left hi'] at hx; exact .inl ⟨hx, hi'⟩
      · rw [List.getElem?_append_right hi'] at hx
        have h0 : i - rows.length = 0 := by
          rcases Nat.eq_zero_or_pos (i - rows.length) with h0 | h0
          · exact h0
          · rw [List.getElem?_eq_none (by simp; omega)] at hx; cases hx
        rw [h0] at hx
        exact .inr ⟨by omega, by simpa using hx.symm⟩
    rcases split hx with ⟨hx1, hil⟩ | ⟨hi1, hx1⟩
    · rcases split hy with ⟨hy1, hjl⟩ | ⟨hj1, hy1⟩
      · exact h5 i j x y hij hx1 hy1 q hqx hqy
      · rw [hy1] at hqy
        have := ((h4 i x hx1).2 q hqx).1; have := (hnw q hqy).1; omega
    · rw [hx1] at hqx
      rcases split hy with ⟨hy1, hjl⟩ | ⟨hj1, hy1⟩
      · have := ((h4 j y hy1).2 q hqy).1; have := (hnw q hqx).1; omega
      · omega
theorem Mid.of_set (w : World) (p i : Nat) (v : Value) : Mid p (p + 1) w (w.setCell ⟨p, i, none⟩ v) :=
  ⟨rfl, rfl, rfl, by simp, fun k _ hor => Below.heap_setCell w ⟨p, i, none⟩ v k (by simp only; omega)⟩
theorem OwnRing.wide {lo lo' hi hi' : Nat} {w : World} {A : Option Addr} {c : Nat} {ds : List DRing} (h : OwnRing w lo hi A c ds) (hl : lo' ≤ lo) (hh : hi ≤ hi') : OwnRing w lo' hi' A c ds := by
  obtain ⟨rows, h1, h2, h3, h4, h5⟩ := h
  exact ⟨rows, h1, own_base h2 hl, fun q hq => by have := h3 q hq; omega, fun i a ha => ⟨own_base (h4 i a ha).1 hl, fun q hq => ⟨by have := ((h4 i a ha).2 q hq).1; omega, ((h4 i a ha).2 q hq).2⟩⟩, h5⟩
theorem OwnRing.nil (w : World) (lo hi : Nat) : OwnRing w lo hi none 0 [] :=
  ⟨[], rfl, ⟨rfl, .inl ⟨rfl, rfl⟩⟩, fun q hq => (by cases hq), fun i a ha => (by cases ha), fun i j a b _ ha => (by cases ha)⟩
theorem OwnRing.drew {lo hi : Nat} {w : World} {A : Option Addr} {c : Nat} {ds : List DRing} (h : OwnRing w lo hi A c ds) : OwnRing w.drew lo hi A c ds := h
/-- An outline of the call's own is handed back, and a code. -/
def OutRet (code : Int) (ds : List DRing) (w : World) (e : Ending) (w' : World) : Prop :=
  ∃ (A : Option Addr) (c : Nat), e = .returned (.tuple #[.agg #[.slice A ds.length c], .int .i64 code]) ∧ OwnRing w' w.heap.size w'.heap.size A c ds ∧ Below w.heap.size w w'

theorem own_setK {w : World} {base e n c g k : Nat} {u : Value} {xs : List Value} (h : w.ownsRow base e 1 (.slice (some ⟨g, 0, none⟩) n c) n xs) : (w.setCell ⟨g, k, none⟩ u).ownsRow base e 1 (.slice (some ⟨g, 0, none⟩) n c) n (xs.set k u) := by
  obtain ⟨hl, h | ⟨g', cap, cur, hv, hb, hh, hnc, hcm, hcs, htk⟩⟩ := h
  · exact absurd h.1 (by simp)
  · obtain ⟨rfl, rfl⟩ : g = g' ∧ c = cap := by injection hv with a b c; injection a with a; injection a with a; exact ⟨a, c⟩
    have hblk : Blk w g e cur := hh
    refine ⟨by rw [List.length_set]; exact hl, .inr ⟨g, c, _, rfl, hb, hblk.set_ k u, hnc, hcm, by simp [hcs], ?_⟩⟩
    rw [← htk, Array.toList_setIfInBounds, List.take_set]
theorem cellsF_set (a : ARing) : ∀ (rows : List ARing) (k : Nat), cellsF cRing (rows.set k a) = (cellsF cRing rows).set k (hdL a)
  | [], k => rfl
  | b :: t, 0 => rfl
  | b :: t, k + 1 => by
    rw [List.set_cons_succ, show cellsF cRing (b :: t.set k a) = hdL b :: cellsF cRing (t.set k a) from rfl, cellsF_set a t k]
    rfl
theorem OwnRing.set {w : World} {lo hi k g c c2 : Nat} {A2 : Option Addr} {ds : List DRing} {l : List APt} (h : OwnRing w lo hi (some ⟨g, 0, none⟩) c ds)
    (hn : w.ownsRow hi 26 2 (.slice A2 l.length c2) l.length (cellsF cPt l)) (hhi : hi ≤ w.heap.size) (hlo : lo ≤ hi) : OwnRing (w.setCell ⟨g, k, none⟩ (.slice A2 l.length c2)) lo w.heap.size (some ⟨g, 0, none⟩) c (ds.set k l) := by
  obtain ⟨rows, h1, h2, h3, h4, h5⟩ := h
  have hlen : (ds.set k l).length = ds.length := List.length_set
  have hg : g < hi := h3 g rfl
  have hnw : ∀ q, (hdL (A2, c2, l)).ownBlock = some q → hi ≤ q ∧ q < w.heap.size := fun q hq => own_block hn hq
  have split : ∀ {i : Nat} {x : ARing}, (rows.set k (A2, c2, l))[i]? = some x → (rows[i]? = some x ∧ ¬ i = k) ∨ (i = k ∧ x = (A2, c2, l)) := by
    intro i x hx
    rw [List.getElem?_set] at hx
    by_cases hik : k = i
    · subst hik
      rw [if_pos rfl] at hx
      split at hx
      · exact .inr ⟨rfl, (Option.some.inj hx).symm⟩
      · cases hx
    · rw [if_neg hik] at hx
      exact .inl ⟨hx, fun e => hik e.symm⟩
  refine ⟨rows.set k (A2, c2, l), by rw [List.map_set, h1]; rfl, ?_, fun q hq => ?_, fun i a ha => ?_, fun i j x y hij hx hy q hqx hqy => ?_⟩
  · rw [hlen, cellsF_set]
    exact own_setK h2
  · have : g = q := Option.some.inj hq
    omega
  · rcases split ha with ⟨hx, hik⟩ | ⟨hik, rfl⟩
    · refine ⟨own_keep (p := ⟨g, k, none⟩) (h4 i a hx).1 (fun q hq e => ((h4 i a hx).2 q hq).2 (congrArg some e)) _, fun q hq => ⟨by have := ((h4 i a hx).2 q hq).1; omega, fun e => ((h4 i a hx).2 q hq).2 e⟩⟩
    · refine ⟨own_keep (p := ⟨g, k, none⟩) (own_base hn hlo) (fun q hq e => by have := (hnw q hq).1; simp only at e; omega) _, fun q hq => ⟨(hnw q hq).2, fun e => ?_⟩⟩
      have e2 : g = q := Option.some.inj e
      have := (hnw q hq).1
      omega
  · rcases split hx with ⟨hx1, hik⟩ | ⟨hik, rfl⟩
    · rcases split hy with ⟨hy1, hjk⟩ | ⟨hjk, rfl⟩
      · exact h5 i j x y hij hx1 hy1 q hqx hqy
      · have := ((h4 i x hx1).2 q hqx).1; have := (hnw q hqy).1; omega
    · rcases split hy with ⟨hy1, hjk⟩ | ⟨hjk, rfl⟩
      · have := ((h4 j y hy1).2 q hqy).1; have := (hnw q hqx).1; omega
      · omega
/-- A list of empty loops, as it is made. -/
theorem OwnRing.made {w : World} {lo hi g n : Nat} (h : w.ownsRow lo 55 1 (.slice (some ⟨g, 0, none⟩) n n) n (List.replicate n (.slice none 0 0))) (hg : g < hi) : OwnRing w lo hi (some ⟨g, 0, none⟩) n (List.replicate n []) := by
  have hl : (List.replicate n ([] : List APt)).length = n := List.length_replicate
  have hc : ∀ n, cellsF cRing (List.replicate n ((none, 0, []) : ARing)) = List.replicate n (.slice none 0 0) := by
    intro n
    induction n with
    | zero => rfl
    | succ n ih => rw [List.replicate_succ, List.replicate_succ, ← ih]; rfl
  have ha : ∀ {i : Nat} {a : ARing}, (List.replicate n ((none, 0, []) : ARing))[i]? = some a → a = (none, 0, []) := fun {i a} h => List.eq_of_mem_replicate (List.mem_of_getElem? h)
  refine ⟨List.replicate n (none, 0, []), by rw [List.map_replicate]; rfl, by rw [hl, hc]; exact h, fun q hq => ?_, fun i a hx => ?_, fun i j a b _ hx _ q hq => ?_⟩
  · have : g = q := Option.some.inj hq
    omega
  · rw [ha hx]
    exact ⟨⟨rfl, .inl ⟨rfl, rfl⟩⟩, fun q hq => by cases hq⟩
  · rw [ha hx] at hq
    cases hq

end Go.Proofs.Ytdeemhfhmgnbgaa
