/- Walks: slices.Delete of one point, in the list's own place. -/
import Derived.Test.YtdeemhfhmgnbgaaDoorSmd
import Derived.Lib.SlicesDelete
import Derived.Deep.RegionLaw
namespace Go.Proofs.YtdeemhfhmgnbgaaDoor
open Go.RowKit Go.Lib
set_option linter.unusedVariables false
theorem below_sets {base b : Nat} {w : World} (hb : base ≤ b) : ∀ (vs : List Value) (o : Nat) (w' : World), RowKit.Below base w w' → RowKit.Below base w (w'.setCells b o vs)
  | [], _, _, h => h
  | v :: vs, o, w', h => below_sets hb vs (o + 1) _ (h.setCell hb v)
theorem blk_sets {g : Nat} {t : TypeId} : ∀ (vs : List Value) (o : Nat) (w : World) (cs : Array Value), Blk w g t cs → Blk (w.setCells g o vs) g t (lay cs o vs)
  | [], _, _, _, h => h
  | v :: vs, o, w, cs, h => blk_sets vs (o + 1) _ _ (h.set_ o v)
theorem frozen_blk {w : World} {g : Nat} {t : TypeId} {cs : Array Value} (h : Blk w g t cs) {i : Nat} (hi : i < cs.size) : (w.cell? ⟨g, i, none⟩).isSome = true ∧ w.frozen? ⟨g, i, none⟩ = false :=
  ⟨by rw [h.cell i (Array.getElem?_eq_getElem hi)]; rfl, h.frozen i⟩
theorem run_clear_pt (w : World) (ty : TypeId) (b o c : Nat) (hc : ∀ j, j < 2 → (w.cell? ⟨b, o + j, none⟩).isSome = true) (hf : ∀ j, j < 2 → w.frozen? ⟨b, o + j, none⟩ = false) :
    (Builtin.clear_ #[26] ty #[.slice (some ⟨b, o, none⟩) 1 c]).run Tryd.prog w = .ok (.tuple #[]) (w.setCells b o [.int .i64 0, .int .i64 0]) := by
  have hst := run_storeCells_cells (P := Tryd.prog) b o [.int .i64 0, .int .i64 0] 0 w (by simpa using hc) (by simpa using hf) (by intro v hv'; simp at hv'; subst hv'; rfl)
  simp only [Nat.add_zero] at hst
  have hv : ∀ w, (zeroValue 52).run Tryd.prog w = .ok (.agg #[.int .i64 0, .int .i64 0]) w := fun w => by
    have hz : Tryd.t52.zero = some (.agg #[.int .i64 0, .int .i64 0]) := by kernel_rfl
    simp [zeroValue]
    rw [hz]
    rfl
  have hzc : (Builtin.zeroCells (Value.agg #[.int .i64 0, .int .i64 0]).cells 1).toList = [.int .i64 0, .int .i64 0] := by
    have e : (Value.agg #[.int .i64 0, .int .i64 0]).cells = #[.int .i64 0, .int .i64 0] := by simp [Value.cells]
    rw [e]
    simp [Builtin.zeroCells, Array.range]
  simp [Builtin.clear_, run_underlying Tryd.underlying26, hv, hzc, hst]
/-- What the block holds: the points ahead of k, those behind it, then a point of zeros. -/
theorem del_arr {cur : Array Value} {l : List APt} {m k c : Nat} {news : List Value} (hm : m = l.length) (hk : k < m) (hcap : m ≤ c) (hsz : cur.size = c * 2) (htk : cur.toList.take (m * 2) = cellsF cPt l) (hn : news = cellsF cPt (l.drop (k + 1))) :
    (lay (lay cur (k * 2) news) ((m - 1) * 2) [.int .i64 0, .int .i64 0]).toList.take ((m - 1) * 2) = cellsF cPt (l.eraseIdx k) := by
  have l1 : (cellsF cPt (l.take k)).length = k * 2 := by rw [cellsF_len (fun a => cPt_len a), List.length_take]; omega
  have l2 : news.length = (m - 1 - k) * 2 := by rw [hn, cellsF_len (fun a => cPt_len a), List.length_drop]; omega
  have l3 : (l.eraseIdx k).length = m - 1 := by rw [erase_len (by omega)]; omega
  rw [← own_drop_app, ← hn]
  apply List.ext_getElem?
  intro t
  rw [List.getElem?_take, Array.getElem?_toList, lay_get? _ _ _ _ (by rw [lay_size]; simp; omega), lay_get? _ _ _ _ (by rw [l2]; omega), l2]
  by_cases h1 : t < (m - 1) * 2
  · rw [if_pos h1, if_neg (by omega)]
    by_cases h2 : t < k * 2
    · rw [if_neg (by omega), List.getElem?_append_left (by omega)]
      have h3 : (cellsF cPt l)[t]? = (cellsF cPt (l.take k))[t]? := by
        have e : cellsF cPt l = cellsF cPt (l.take k) ++ cellsF cPt (l.drop k) := by rw [cells_app, List.take_append_drop]
        rw [e, List.getElem?_append_left (by omega)]
      rw [← h3, ← htk, List.getElem?_take, if_pos (by omega), Array.getElem?_toList]
    · rw [if_pos (by omega), List.getElem?_append_right (by omega), l1]
  · rw [if_neg h1, List.getElem?_eq_none (by simp only [List.length_append, l1, l2]; omega)]
end Go.Proofs.YtdeemhfhmgnbgaaDoor
