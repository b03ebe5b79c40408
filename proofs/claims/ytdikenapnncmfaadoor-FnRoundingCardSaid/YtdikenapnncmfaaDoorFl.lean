/- Structs of integers, however nested, that come in by value: opened to their cells by their typing alone. -/
import Derived.Test.YtdikenapnncmfaaDoorRows
import Derived.Below
import Derived.Carry
import Derived.OpenShut
import Derived.Lib.SmallJoins
namespace Go.Proofs.YtdikenapnncmfaaDoor
open Go.RowKit

theorem wf_of_has {a : Int} (h : IntKind.i64.has a) : (Lit.int .i64 a).wf = true := by
  simpa [Lit.wf, IntKind.has] using h
theorem cell_int {P : Program} {w : World} {r : Reach} {base : Nat} {t : TypeId} {v : Value} (ht : P.underlying t = some (.int .i64)) (h : Cell.okWide P w r base t v) : ∃ a : Int, v = .int .i64 a ∧ (Lit.int .i64 a).wf = true := by
  unfold Cell.okWide at h
  rw [ht] at h
  simp only at h
  unfold Cell.ok at h
  rw [ht] at h
  cases v <;> simp at h
  case int k n =>
    obtain ⟨rfl, h⟩ := h
    exact ⟨n, rfl, wf_of_has h⟩
theorem ints_of_cells : ∀ (cs : List Value), (∀ v ∈ cs, ∃ a : Int, v = .int .i64 a ∧ (Lit.int .i64 a).wf = true) → ∃ l : List Int, l.length = cs.length ∧ (∀ a ∈ l, (Lit.int .i64 a).wf = true) ∧ cs = l.map (Value.int .i64)
  | [], _ => ⟨[], rfl, by simp, rfl⟩
  | v :: cs, h => by
    obtain ⟨a, rfl, wa⟩ := h v (by simp)
    obtain ⟨l, hl, hw, rfl⟩ := ints_of_cells cs (fun v hv => h v (by simp [hv]))
    refine ⟨a :: l, by rw [List.length_cons, List.length_cons, hl], ?_, rfl⟩
    intro x hx
    rcases List.mem_cons.1 hx with e | hx
    · rw [e]; exact wa
    · exact hw x hx
theorem trod_lt {H : Type} {enc : TypeId × Value → H} {P : Program} {w : World} {base : Nat} {sp : Nat → Bool} {held : Bool} {t : TypeId} {v : Value} {d : DataW H} {p : List MemPlace} (h : DataW.Trod enc P w base sp held t v d p) : ∀ x ∈ p, x.block < w.heap.size := by
  obtain ⟨n, hn⟩ := h
  exact DataW.trod_lt n _ _ _ hn
/-- A struct all of whose cells are integers, by value. -/
theorem flat_ints {P : Program} {w : World} {r : Reach} {base : Nat} {t I : TypeId} {v : Value} {fs : Array Field} {k : Nat} (hs : P.underlying t = some (.struct fs)) (hI : P.underlying I = some (.int .i64))
    (hts : P.cellTypes P.depth t = some (List.replicate k I)) (hC : P.cellsOf t = k) (h : Value.okWide P w r base t v) :
    ∃ l : List Int, l.length = k ∧ (∀ a ∈ l, (Lit.int .i64 a).wf = true) ∧ v = .agg (l.map (Value.int .i64)).toArray := by
  unfold Value.okWide at h
  rw [hs] at h
  obtain ⟨cs, rfl, hsz, ts, hts', _, hc⟩ := h
  obtain rfl := Option.some.inj (hts.symm.trans hts')
  obtain ⟨l, hl, hw, hcs⟩ := ints_of_cells cs.toList (fun v hv => by
    obtain ⟨i, hi, rfl⟩ := List.mem_iff_getElem.1 hv
    obtain ⟨u, hu, hcell⟩ := hc i cs.toList[i] (by simp at hi; simp [hi])
    have : u = I := List.eq_of_mem_replicate (List.mem_of_getElem? hu)
    subst this
    exact cell_int hI hcell)
  refine ⟨l, by rw [hl]; simpa using hsz.trans hC, hw, ?_⟩
  congr 1
  rw [← hcs]
theorem list_1 {l : List Int} (h : l.length = 1) : ∃ a0 : Int, l = [a0] := by
  match l, h with
  | [a0], _ => exact ⟨a0, rfl⟩
theorem list_2 {l : List Int} (h : l.length = 2) : ∃ a0 a1 : Int, l = [a0, a1] := by
  match l, h with
  | [a0, a1], _ => exact ⟨a0, a1, rfl⟩
theorem list_3 {l : List Int} (h : l.length = 3) : ∃ a0 a1 a2 : Int, l = [a0, a1, a2] := by
  match l, h with
  | [a0, a1, a2], _ => exact ⟨a0, a1, a2, rfl⟩
theorem list_4 {l : List Int} (h : l.length = 4) : ∃ a0 a1 a2 a3 : Int, l = [a0, a1, a2, a3] := by
  match l, h with
  | [a0, a1, a2, a3], _ => exact ⟨a0, a1, a2, a3, rfl⟩
theorem list_6 {l : List Int} (h : l.length = 6) : ∃ a0 a1 a2 a3 a4 a5 : Int, l = [a0, a1, a2, a3, a4, a5] := by
  match l, h with
  | [a0, a1, a2, a3, a4, a5], _ => exact ⟨a0, a1, a2, a3, a4, a5, rfl⟩
theorem list_8 {l : List Int} (h : l.length = 8) : ∃ a0 a1 a2 a3 a4 a5 a6 a7 : Int, l = [a0, a1, a2, a3, a4, a5, a6, a7] := by
  match l, h with
  | [a0, a1, a2, a3, a4, a5, a6, a7], _ => exact ⟨a0, a1, a2, a3, a4, a5, a6, a7, rfl⟩
theorem list_12 {l : List Int} (h : l.length = 12) : ∃ a0 a1 a2 a3 a4 a5 a6 a7 a8 a9 a10 a11 : Int, l = [a0, a1, a2, a3, a4, a5, a6, a7, a8, a9, a10, a11] := by
  match l, h with
  | [a0, a1, a2, a3, a4, a5, a6, a7, a8, a9, a10, a11], _ => exact ⟨a0, a1, a2, a3, a4, a5, a6, a7, a8, a9, a10, a11, rfl⟩
end Go.Proofs.YtdikenapnncmfaaDoor
