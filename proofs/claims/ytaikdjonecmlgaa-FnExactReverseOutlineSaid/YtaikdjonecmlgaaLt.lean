/- Walks: the knots behind the first one are turned in their place by the library. -/
import Derived.Test.YtaikdjonecmlgaaLs
import Derived.Shelf.SlicesQ.Reverse
namespace Go.Proofs.Ytaikdjonecmlgaa
open Go.RowKit Go.Sort
set_option linter.unusedVariables false
def revRenK : Go.Shelf.Ren := ⟨fun | 35 => 49 | n => n, fun | 22 => 60 | 23 => 69 | n => n, fun n => n⟩
theorem revLaysK : Go.Proofs.SlLaysE0.n35 Try.prog revRenK := {
  mixed := by kernel_rfl
  f35 := ⟨Try.f49.name, by decide, Try.func49.trans (congrArg some (by kernel_rfl))⟩
  t0 := Try.underlying0
  a0 := Try.isAgg0
  z0 := Try.sizeOf0
  v0 := Try.zeroValue0
  t3 := Try.underlying3
  a3 := Try.isAgg3
  z3 := Try.sizeOf3
  v3 := Try.zeroValue3
  t4 := Try.underlying4
  a4 := Try.isAgg4
  z4 := Try.sizeOf4
  v4 := Try.zeroValue4
  t22 := Try.underlying60
  a22 := Try.isAgg60
  z22 := Try.sizeOf60
  v22 := Try.zeroValue60 }
theorem flat_atK (l : List AKnot) (j : Nat) (h : j < l.length * 3) : (cellsF cKnot l)[j]? = some ((flatK cKnot 3 l.toArray)[j]!) := by
  have hk : j / 3 < l.length := by omega
  have h2 := cellsF_at (fun a => cKnot_len a) l (j / 3) _ (List.getElem?_eq_getElem hk) (j % 3) (Nat.mod_lt _ (by omega))
  rw [show j / 3 * 3 + j % 3 = j by omega] at h2
  rw [h2, get_flatK _ _ _ _ (by simpa using h), getElem!_pos l.toArray (j / 3) (by simpa using hk)]
  have h3 : j % 3 < (cKnot (l.toArray[j / 3]'(by simpa using hk))).length := by rw [cKnot_len]; exact Nat.mod_lt _ (by omega)
  rw [getElem!_pos (cKnot (l.toArray[j / 3]'(by simpa using hk))) (j % 3) h3]
  simp only [List.getElem_toArray]
  exact List.getElem?_eq_getElem _
theorem cellsF_cons_tail (a : AKnot) (t : List AKnot) (j : Nat) : (cellsF cKnot (a :: t))[3 + j]? = (cellsF cKnot t)[j]? := by
  rw [show cellsF cKnot (a :: t) = cKnot a ++ cellsF cKnot t from rfl, List.getElem?_append_right (by rw [cKnot_len]; omega), cKnot_len, Nat.add_sub_cancel_left]
theorem cellsF_cons_head (a : AKnot) (t : List AKnot) (j : Nat) (h : j < 3) : (cellsF cKnot (a :: t))[j]? = (cKnot a)[j]? := by
  rw [show cellsF cKnot (a :: t) = cKnot a ++ cellsF cKnot t from rfl, List.getElem?_append_left (by rw [cKnot_len]; omega)]
set_option maxRecDepth 100000 in
theorem revTail_own (a : AKnot) (t : List AKnot) (g c base : Nat) (w : World) (h2 : t.length ≤ 60) (ho : w.ownsRow base 69 3 (.slice (some ⟨g, 0, none⟩) (t.length + 1) c) (t.length + 1) (cellsF cKnot (a :: t))) :
    Calls Try.prog 49 #[.slice (some ⟨g, 3, none⟩) t.length (c - 1)] w fun e w' => e = .returned (.tuple #[]) ∧ w'.ownsRow base 69 3 (.slice (some ⟨g, 0, none⟩) (t.length + 1) c) (t.length + 1) (cellsF cKnot (a :: t.reverse)) ∧ Below base w w' ∧ ∀ q, ¬ q = g → w'.heap[q]? = w.heap[q]? := by
  obtain ⟨hl, h | ⟨g', cap, cur, hv, hb, hh, hnc, hcm, hcs, htk⟩⟩ := ho
  · exact absurd h.1 (by simp)
  · obtain ⟨rfl, rfl⟩ : g = g' ∧ c = cap := by injection hv with a b c; injection a with a; injection a with a; exact ⟨a, c⟩
    have hcell : ∀ j, j < t.length * 3 → cur[3 + j]? = some ((flatK cKnot 3 t.toArray)[j]!) := by
      intro j hj
      rw [← flat_atK t j hj, ← cellsF_cons_tail a t j, ← htk, List.getElem?_take_of_lt (by omega), Array.getElem?_toList]
    have hblk : Blk w g 69 cur := hh
    have hH : HoldsK cKnot 3 w g 3 t.toArray := by
      intro j hj
      have hj' : j < t.length * 3 := by simpa using hj
      exact ⟨hblk.cell (3 + j) (hcell j hj'), hblk.frozen (3 + j)⟩
    have hc := AnyQ.slices_Reverse revLaysK 3 Try.isAgg69 Try.sizeOf69 cKnot (fun a => cKnot_len a) (fun a => cKnot_one a) g 3 (c - 1) t.toArray w hH (by simp; omega)
    simp only [List.size_toArray, List.reverse_toArray] at hc
    refine hc.mono ?_
    rintro e w' ⟨rfl, n, rfl⟩
    have hheap : (putRowK cKnot 3 (Go.Sort.ahead w n) g 3 t.reverse.toArray).heap[g]? = some (.cells (putCells id 3 (flatK cKnot 3 t.reverse.toArray) cur) 69 (0, 0)) := by
      simp [putRowK, putRow, mapBlock, Go.Sort.ahead, Array.getElem?_modify, hh, onCells]
    have hoth : ∀ q, ¬ q = g → (putRowK cKnot 3 (Go.Sort.ahead w n) g 3 t.reverse.toArray).heap[q]? = w.heap[q]? := by
      intro q hq
      simp [putRowK, putRow, mapBlock, Go.Sort.ahead, Array.getElem?_modify, Ne.symm hq]
    refine ⟨rfl, ⟨by rw [cellsF_len (fun a => cKnot_len a)]; simp, .inr ⟨g, c, _, rfl, hb, hheap, hnc, hcm, by simp [putCells, hcs], ?_⟩⟩, ⟨rfl, rfl, rfl, ?_, ?_⟩, hoth⟩
    · apply List.ext_getElem?
      intro j
      by_cases hj : j < (t.length + 1) * 3
      · have hcj : j < cur.size := by rw [hcs]; have := Nat.mul_le_mul_right 3 hnc; omega
        rw [List.getElem?_take_of_lt hj]
        simp only [putCells, Array.getElem?_toList, Array.getElem?_mapIdx, Array.getElem?_eq_getElem hcj, Option.map_some]
        by_cases h3 : 3 ≤ j
        · obtain ⟨i, rfl⟩ : ∃ i, j = 3 + i := ⟨j - 3, by omega⟩
          rw [if_pos ⟨h3, by rw [size_flatK]; simp; omega⟩, cellsF_cons_tail, flat_atK t.reverse i (by simp; omega)]
          simp
        · rw [if_neg (fun h => h3 h.1), cellsF_cons_head _ _ _ (by omega), ← cellsF_cons_head a t j (by omega), ← htk, List.getElem?_take_of_lt hj, Array.getElem?_toList, Array.getElem?_eq_getElem hcj]
      · rw [List.getElem?_eq_none (by simp; omega), List.getElem?_eq_none (by rw [cellsF_len (fun a => cKnot_len a)]; simp; omega)]
    · simp [putRowK, putRow, mapBlock, Go.Sort.ahead]
    · intro k hk
      exact hoth k (by omega)
end Go.Proofs.Ytaikdjonecmlgaa
