/- Walks: a list of points of one's own is turned in its place by the library. -/
import Derived.Test.YthedimnjbfeaiaaKz
import Derived.Shelf.SlicesQ.Reverse
namespace Go.Proofs.Ythedimnjbfeaiaa
open Go.RowKit Go.Sort
set_option linter.unusedVariables false
def revRen : Go.Shelf.Ren := ⟨fun | 35 => 64 | n => n, fun | 22 => 29 | 23 => 30 | n => n, fun n => n⟩
theorem revLays : Go.Proofs.SlLaysE0.n35 Try.prog revRen := {
  mixed := by kernel_rfl
  f35 := ⟨Try.f64.name, by decide, Try.func64.trans (congrArg some (by kernel_rfl))⟩
  t0 := Try.underlying0
  a0 := Try.isAgg0
  z0 := Try.sizeOf0
  v0 := Try.zeroValue0
  t3 := Try.underlying3
  a3 := Try.isAgg3
  z3 := Try.sizeOf3
  v3 := Try.zeroValue3
  t4 := Try.underlying4
  a4 := Try.isAgg4
  z4 := Try.sizeOf4
  v4 := Try.zeroValue4
  t22 := Try.underlying29
  a22 := Try.isAgg29
  z22 := Try.sizeOf29
  v22 := Try.zeroValue29 }
theorem flat_at (l : List APt) (j : Nat) (h : j < l.length * 2) : (cellsF cPt l)[j]? = some ((flatK cPt 2 l.toArray)[j]!) := by
  have hk : j / 2 < l.length := by omega
  have h2 := cellsF_at (fun a => cPt_len a) l (j / 2) _ (List.getElem?_eq_getElem hk) (j % 2) (Nat.mod_lt _ (by omega))
  rw [show j / 2 * 2 + j % 2 = j by omega] at h2
  rw [h2, get_flatK _ _ _ _ (by simpa using h), getElem!_pos l.toArray (j / 2) (by simpa using hk)]
  have h3 : j % 2 < (cPt (l.toArray[j / 2]'(by simpa using hk))).length := by rw [cPt_len]; exact Nat.mod_lt _ (by omega)
  rw [getElem!_pos (cPt (l.toArray[j / 2]'(by simpa using hk))) (j % 2) h3]
  simp only [List.getElem_toArray]
  exact List.getElem?_eq_getElem _
set_option maxRecDepth 100000 in
theorem reverse_own (l : List APt) (A : Option Addr) (c base : Nat) (w : World) (h1 : 1 ≤ l.length) (h2 : l.length ≤ 10) (ho : w.ownsRow base 30 2 (.slice A l.length c) l.length (cellsF cPt l)) :
    Calls Try.prog 64 #[.slice A l.length c] w fun e w' => e = .returned (.tuple #[]) ∧ w'.ownsRow base 30 2 (.slice A l.length c) l.length (cellsF cPt l.reverse) ∧ Below base w w' ∧ ∀ g, (∀ q, (Value.slice A l.length c).ownBlock = some q → ¬ g = q) → w'.heap[g]? = w.heap[g]? := by
  obtain ⟨hl, h | ⟨g, cap, cur, hv, hb, hh, hnc, hcm, hcs, htk⟩⟩ := ho
  · omega
  · obtain ⟨rfl, rfl⟩ : A = some ⟨g, 0, none⟩ ∧ c = cap := by injection hv with a b c; exact ⟨a, c⟩
    have hcell : ∀ j, j < l.length * 2 → cur[j]? = some ((flatK cPt 2 l.toArray)[j]!) := by
      intro j hj
      rw [← flat_at l j hj, ← htk, List.getElem?_take_of_lt hj, Array.getElem?_toList]
    have hblk : Blk w g 30 cur := hh
    have hH : HoldsK cPt 2 w g 0 l.toArray := by
      intro j hj
      have hj' : j < l.length * 2 := by simpa using hj
      rw [Nat.zero_add]
      exact ⟨hblk.cell j (hcell j hj'), hblk.frozen j⟩
    have hc := AnyQ.slices_Reverse revLays 2 Try.isAgg30 Try.sizeOf30 cPt (fun a => cPt_len a) (fun a => cPt_one a) g 0 c l.toArray w hH (by simp; omega)
    simp only [List.size_toArray, List.reverse_toArray] at hc
    refine hc.mono ?_
    rintro e w' ⟨rfl, n, rfl⟩
    have hheap : (putRowK cPt 2 (Go.Sort.ahead w n) g 0 l.reverse.toArray).heap[g]? = some (.cells (putCells id 0 (flatK cPt 2 l.reverse.toArray) cur) 30 (0, 0)) := by
      simp [putRowK, putRow, mapBlock, Go.Sort.ahead, Array.getElem?_modify, hh, onCells]
    have hoth : ∀ q, ¬ q = g → (putRowK cPt 2 (Go.Sort.ahead w n) g 0 l.reverse.toArray).heap[q]? = w.heap[q]? := by
      intro q hq
      simp [putRowK, putRow, mapBlock, Go.Sort.ahead, Array.getElem?_modify, Ne.symm hq]
    refine ⟨rfl, ⟨by rw [cellsF_len (fun a => cPt_len a)]; simp, .inr ⟨g, c, _, rfl, hb, hheap, hnc, hcm, by simp [putCells, hcs], ?_⟩⟩, ⟨rfl, rfl, rfl, ?_, ?_⟩, fun q hq => hoth q (hq g rfl)⟩
    · apply List.ext_getElem?
      intro j
      by_cases hj : j < l.length * 2
      · rw [List.getElem?_take_of_lt hj, flat_at l.reverse j (by simpa using hj)]
        have hcj : j < cur.size := by rw [hcs]; have := Nat.mul_le_mul_right 2 hnc; omega
        simp only [putCells, Array.getElem?_toList, Array.getElem?_mapIdx, Array.getElem?_eq_getElem hcj, Option.map_some]
        rw [if_pos ⟨Nat.zero_le _, by rw [size_flatK]; simp; omega⟩]
        simp
      · rw [List.getElem?_eq_none (by simp; omega), List.getElem?_eq_none (by rw [cellsF_len (fun a => cPt_len a)]; simp; omega)]
    · simp [putRowK, putRow, mapBlock, Go.Sort.ahead]
    · intro k hk
      exact hoth k (by omega)
end Go.Proofs.Ythedimnjbfeaiaa
