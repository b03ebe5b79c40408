/- Walks: an outline turned round, the reference's side. -/
import Derived.Test.YtaikdjonecmlgaaLp
import Derived.Test.YtaikdjonecmlgaaLh
namespace Go.Proofs.Ytaikdjonecmlgaa
open Go.RowKit
set_option linter.unusedVariables false
theorem own_snoc {lo hi k : Nat} {w w2 : World} {A A2 : Option Addr} {c c2 : Nat} {rows : List ALoop} {a : ALoop} {ds : List DLoop} (hk : rows.length = k)
    (h2 : w.ownsRow lo 62 1 (.slice A k c) k (cellsF cLoop rows)) (h3 : ∀ q, (Value.slice A k c).ownBlock = some q → q < hi)
    (h4 : ∀ (i : Nat) (a : ALoop), rows[i]? = some a → w.ownsRow lo 69 3 (hdL a) a.2.2.length (cellsF cKnot a.2.2) ∧ ∀ q, (hdL a).ownBlock = some q → q < hi ∧ ¬ (Value.slice A k c).ownBlock = some q)
    (h5 : ∀ (i j : Nat) (a b : ALoop), i ≠ j → rows[i]? = some a → rows[j]? = some b → ∀ q, (hdL a).ownBlock = some q → ¬ (hdL b).ownBlock = some q)
    (hn : w.ownsRow hi 69 3 (hdL a) a.2.2.length (cellsF cKnot a.2.2)) (hhi : hi ≤ w.heap.size) (hlo : lo ≤ hi) (hg : w.grownBy w2 (Value.slice A k c).ownBlock)
    (ho : w2.ownsRow lo 62 1 (.slice A2 (k + 1) c2) (k + 1) (cellsF cLoop rows ++ [hdL a])) (hat : (Value.slice A2 (k + 1) c2).ownBlock = (Value.slice A k c).ownBlock ∨ (Value.slice A2 (k + 1) c2).ownBlock = some w.heap.size)
    (hds : (rows ++ [a]).map dLoop = ds) : OwnLoop w2 lo w2.heap.size A2 c2 ds := by
  have hsz := hg.size
  have hl : ds.length = k + 1 := by rw [← hds]; simp [hk]
  have hnw : ∀ q, (hdL a).ownBlock = some q → hi ≤ q ∧ q < w.heap.size := fun q hq => own_block hn hq
  have hno : ∀ q, (hdL a).ownBlock = some q → ¬ (Value.slice A k c).ownBlock = some q := fun q hq hq2 => by have := (hnw q hq).1; have := h3 q hq2; omega
  refine ⟨rows ++ [a], hds, ?_, ?_, ?_, ?_⟩
  · rw [hl]
    have : cellsF cLoop (rows ++ [a]) = cellsF cLoop rows ++ [hdL a] := (cellsF_snoc rows a).symm
    rw [this]; exact ho
  · rw [hl]
    intro q hq
    exact (own_block ho hq).2
  · intro i b hb
    rw [hl]
    have key : w2.ownsRow lo 69 3 (hdL b) b.2.2.length (cellsF cKnot b.2.2) ∧ (∀ q, (hdL b).ownBlock = some q → q < w.heap.size ∧ ¬ (Value.slice A k c).ownBlock = some q) := by
      rcases Nat.lt_or_ge i rows.length with hi' | hi'
      · rw [List.getElem?_append_left hi'] at hb
        exact ⟨own_grown (h4 i b hb).1 hg (fun q hq hr => ((h4 i b hb).2 q hq).2 hr), fun q hq => ⟨by have := ((h4 i b hb).2 q hq).1; omega, ((h4 i b hb).2 q hq).2⟩⟩
      · rw [List.getElem?_append_right hi'] at hb
        have h0 : i - rows.length = 0 := by
          rcases Nat.eq_zero_or_pos (i - rows.length) with h0 | h0
          · exact h0
          · rw [List.getElem?_eq_none (by simp; omega)] at hb; cases hb
        rw [h0] at hb
        obtain rfl : a = b := by simpa using hb
        exact ⟨own_base (own_grown hn hg (fun q hq hr => hno q hq hr)) hlo, fun q hq => ⟨(hnw q hq).2, hno q hq⟩⟩
    refine ⟨key.1, fun q hq => ⟨by have := (key.2 q hq).1; omega, fun hq2 => ?_⟩⟩
    rcases hat with h | h
    · exact (key.2 q hq).2 (h.symm.trans hq2)
    · have := (key.2 q hq).1
      have := Option.some.inj (h.symm.trans hq2)
      omega
  · intro i j x y hij hx hy q hqx hqy
    have split : ∀ {i : Nat} {x : ALoop}, (rows ++ [a])[i]? = some x → (rows[i]? = some x ∧ i < rows.length) ∨ (i = rows.length ∧ x = a) := by
      intro i x hx
      rcases Nat.lt_or_ge i rows.length with hi' | hi'
      · rw [List.getElem?_append_left hi'] at hx; exact .inl ⟨hx, hi'⟩
      · rw [List.getElem?_append_right hi'] at hx
        have h0 : i - rows.length = 0 := by
          rcases Nat.eq_zero_or_pos (i - rows.length) with h0 | h0
          · exact h0
          · rw [List.getElem?_eq_none (by simp; omega)] at hx; cases hx
        rw [h0] at hx
        exact .inr ⟨by omega, by simpa using hx.symm⟩
    rcases split hx with ⟨hx1, hil⟩ | ⟨hi1, hx1⟩
    · rcases split hy with ⟨hy1, hjl⟩ | ⟨hj1, hy1⟩
      · exact h5 i j x y hij hx1 hy1 q hqx hqy
      · rw [hy1] at hqy
        have := ((h4 i x hx1).2 q hqx).1; have := (hnw q hqy).1; omega
    · rw [hx1] at hqx
      rcases split hy with ⟨hy1, hjl⟩ | ⟨hj1, hy1⟩
      · have := ((h4 j y hy1).2 q hqy).1; have := (hnw q hqx).1; omega
      · omega
theorem Mid.of_set (w : World) (p i : Nat) (v : Value) : Mid p (p + 1) w (w.setCell ⟨p, i, none⟩ v) :=
  ⟨rfl, rfl, rfl, by simp, fun k _ hor => Below.heap_setCell w ⟨p, i, none⟩ v k (by simp only; omega)⟩
theorem OwnLoop.wide {lo lo' hi hi' : Nat} {w : World} {A : Option Addr} {c : Nat} {ds : List DLoop} (h : OwnLoop w lo hi A c ds) (hl : lo' ≤ lo) (hh : hi ≤ hi') : OwnLoop w lo' hi' A c ds := by
  obtain ⟨rows, h1, h2, h3, h4, h5⟩ := h
  exact ⟨rows, h1, own_base h2 hl, fun q hq => by have := h3 q hq; omega, fun i a ha => ⟨own_base (h4 i a ha).1 hl, fun q hq => ⟨by have := ((h4 i a ha).2 q hq).1; omega, ((h4 i a ha).2 q hq).2⟩⟩, h5⟩
theorem OwnLoop.nil (w : World) (lo hi : Nat) : OwnLoop w lo hi none 0 [] :=
  ⟨[], rfl, ⟨rfl, .inl ⟨rfl, rfl⟩⟩, fun q hq => (by cases hq), fun i a ha => (by cases ha), fun i j a b _ ha => (by cases ha)⟩
theorem OwnLoop.drew {lo hi : Nat} {w : World} {A : Option Addr} {c : Nat} {ds : List DLoop} (h : OwnLoop w lo hi A c ds) : OwnLoop w.drew lo hi A c ds := h
/-- An outline of the call's own is handed back, and a code. -/
def OutRet (code : Int) (ds : List DLoop) (w : World) (e : Ending) (w' : World) : Prop :=
  ∃ (A : Option Addr) (c : Nat), e = .returned (.tuple #[.agg #[.slice A ds.length c], .int .i64 code]) ∧ OwnLoop w' w.heap.size w'.heap.size A c ds ∧ Below w.heap.size w w'
theorem vOl_parts {ds : List DLoop} (h : vOl ds = true) : ds.length ≤ 12 ∧ ∀ (i : Nat) (d : DLoop), ds[i]? = some d → 1 ≤ d.length ∧ d.length ≤ 60 := by
  unfold vOl lUp at h
  simp only [Bool.and_eq_true, decide_eq_true_eq] at h
  refine ⟨h.1, fun i d hd => ?_⟩
  have h2 := h.2
  rw [List.take_length, List.all_eq_true] at h2
  have h3 := h2 d (List.mem_of_getElem? hd)
  unfold vLp at h3
  simp only [Bool.and_eq_true, decide_eq_true_eq] at h3
  exact h3.1.1
end Go.Proofs.Ytaikdjonecmlgaa
