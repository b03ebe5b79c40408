/- Lists of loops that are a call's own: one of them is laid anew. -/
import Derived.Test.YtaikdjonecmlgaaLt
namespace Go.Proofs.Ytaikdjonecmlgaa
open Go.RowKit
set_option linter.unusedVariables false
theorem own_setK {w : World} {base e n c g k : Nat} {u : Value} {xs : List Value} (h : w.ownsRow base e 1 (.slice (some ⟨g, 0, none⟩) n c) n xs) : (w.setCell ⟨g, k, none⟩ u).ownsRow base e 1 (.slice (some ⟨g, 0, none⟩) n c) n (xs.set k u) := by
  obtain ⟨hl, h | ⟨g', cap, cur, hv, hb, hh, hnc, hcm, hcs, htk⟩⟩ := h
  · exact absurd h.1 (by simp)
  · obtain ⟨rfl, rfl⟩ : g = g' ∧ c = cap := by injection hv with a b c; injection a with a; injection a with a; exact ⟨a, c⟩
    have hblk : Blk w g e cur := hh
    refine ⟨by rw [List.length_set]; exact hl, .inr ⟨g, c, _, rfl, hb, hblk.set_ k u, hnc, hcm, by simp [hcs], ?_⟩⟩
    rw [← htk, Array.toList_setIfInBounds, List.take_set]
theorem cellsF_set (a : ALoop) : ∀ (rows : List ALoop) (k : Nat), cellsF cLoop (rows.set k a) = (cellsF cLoop rows).set k (hdL a)
  | [], k => rfl
  | b :: t, 0 => rfl
  | b :: t, k + 1 => by
    rw [List.set_cons_succ, show cellsF cLoop (b :: t.set k a) = hdL b :: cellsF cLoop (t.set k a) from rfl, cellsF_set a t k]
    rfl
theorem OwnLoop.set {w : World} {lo hi k g c c2 : Nat} {A2 : Option Addr} {ds : List DLoop} {l : List AKnot} (h : OwnLoop w lo hi (some ⟨g, 0, none⟩) c ds)
    (hn : w.ownsRow hi 69 3 (.slice A2 l.length c2) l.length (cellsF cKnot l)) (hhi : hi ≤ w.heap.size) (hlo : lo ≤ hi) : OwnLoop (w.setCell ⟨g, k, none⟩ (.slice A2 l.length c2)) lo w.heap.size (some ⟨g, 0, none⟩) c (ds.set k l) := by
  obtain ⟨rows, h1, h2, h3, h4, h5⟩ := h
  have hlen : (ds.set k l).length = ds.length := List.length_set
  have hg : g < hi := h3 g rfl
  have hnw : ∀ q, (hdL (A2, c2, l)).ownBlock = some q → hi ≤ q ∧ q < w.heap.size := fun q hq => own_block hn hq
  have split : ∀ {i : Nat} {x : ALoop}, (rows.set k (A2, c2, l))[i]? = some x → (rows[i]? = some x ∧ ¬ i = k) ∨ (i = k ∧ x = (A2, c2, l)) := by
    intro i x hx
    rw [List.getElem?_set] at hx
    by_cases hik : k = i
    · subst hik
      rw [if_pos rfl] at hx
      split at hx
      · exact .inr ⟨rfl, (Option.some.inj hx).symm⟩
      · cases hx
    · rw [if_neg hik] at hx
      exact .inl ⟨hx, fun e => hik e.symm⟩
  refine ⟨rows.set k (A2, c2, l), by rw [List.map_set, h1]; rfl, ?_, fun q hq => ?_, fun i a ha => ?_, fun i j x y hij hx hy q hqx hqy => ?_⟩
  · rw [hlen, cellsF_set]
    exact own_setK h2
  · have : g = q := Option.some.inj hq
    omega
  · rcases split ha with ⟨hx, hik⟩ | ⟨hik, rfl⟩
    · refine ⟨own_keep (p := ⟨g, k, none⟩) (h4 i a hx).1 (fun q hq e => ((h4 i a hx).2 q hq).2 (congrArg some e)) _, fun q hq => ⟨by have := ((h4 i a hx).2 q hq).1; omega, fun e => ((h4 i a hx).2 q hq).2 e⟩⟩
    · refine ⟨own_keep (p := ⟨g, k, none⟩) (own_base hn hlo) (fun q hq e => by have := (hnw q hq).1; simp only at e; omega) _, fun q hq => ⟨(hnw q hq).2, fun e => ?_⟩⟩
      have e2 : g = q := Option.some.inj e
      have := (hnw q hq).1
      omega
  · rcases split hx with ⟨hx1, hik⟩ | ⟨hik, rfl⟩
    · rcases split hy with ⟨hy1, hjk⟩ | ⟨hjk, rfl⟩
      · exact h5 i j x y hij hx1 hy1 q hqx hqy
      · have := ((h4 i x hx1).2 q hqx).1; have := (hnw q hqy).1; omega
    · rcases split hy with ⟨hy1, hjk⟩ | ⟨hjk, rfl⟩
      · have := ((h4 j y hy1).2 q hqy).1; have := (hnw q hqx).1; omega
      · omega
/-- A list of empty loops, as it is made. -/
theorem OwnLoop.made {w : World} {lo hi g n : Nat} (h : w.ownsRow lo 62 1 (.slice (some ⟨g, 0, none⟩) n n) n (List.replicate n (.slice none 0 0))) (hg : g < hi) : OwnLoop w lo hi (some ⟨g, 0, none⟩) n (List.replicate n []) := by
  have hl : (List.replicate n ([] : List AKnot)).length = n := List.length_replicate
  have hc : ∀ n, cellsF cLoop (List.replicate n ((none, 0, []) : ALoop)) = List.replicate n (.slice none 0 0) := by
    intro n
    induction n with
    | zero => rfl
    | succ n ih => rw [List.replicate_succ, List.replicate_succ, ← ih]; rfl
  have ha : ∀ {i : Nat} {a : ALoop}, (List.replicate n ((none, 0, []) : ALoop))[i]? = some a → a = (none, 0, []) := fun {i a} h => List.eq_of_mem_replicate (List.mem_of_getElem? h)
  refine ⟨List.replicate n (none, 0, []), by rw [List.map_replicate]; rfl, by rw [hl, hc]; exact h, fun q hq => ?_, fun i a hx => ?_, fun i j a b _ hx _ q hq => ?_⟩
  · have : g = q := Option.some.inj hq
    omega
  · rw [ha hx]
    exact ⟨⟨rfl, .inl ⟨rfl, rfl⟩⟩, fun q hq => by cases hq⟩
  · rw [ha hx] at hq
    cases hq
end Go.Proofs.Ytaikdjonecmlgaa
