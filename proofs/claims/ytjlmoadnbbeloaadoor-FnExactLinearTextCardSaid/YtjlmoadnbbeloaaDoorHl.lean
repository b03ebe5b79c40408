/- Expressions and systems that come in: opened to their cells. -/
import Derived.Test.YtjlmoadnbbeloaaDoorRows
import Derived.Test.YtjlmoadnbbeloaaDoorHo
import Derived.OpenShut
import Derived.Below
import Derived.Carry
namespace Go.Proofs.YtjlmoadnbbeloaaDoor
open Go.RowKit Go.ChangeShapes Go.WideShapes Go.Deep Go.Joins
set_option linter.unusedVariables false
abbrev ATerm : Type := ByteArray × Int × Int
def cTerm (a : ATerm) : List Value := [.string a.1, .int .i64 a.2.1, .int .i64 a.2.2]
theorem cTerm_len (a : ATerm) : (cTerm a).length = 3 := rfl
theorem cTerm_one (a : ATerm) : ∀ u ∈ cTerm a, u.oneCell' = true := by
  intro u hu
  simp only [cTerm, List.mem_cons, List.not_mem_nil, or_false] at hu
  rcases hu with rfl | rfl | rfl <;> rfl
def okTerm (w : World) (B : Nat) (a : ATerm) : Prop := a.1.size ≤ maxLen ∧ (Lit.int .i64 a.2.1).wf = true ∧ (Lit.int .i64 a.2.2).wf = true
theorem open_TermS {H : Type} {enc : TypeId × Value → H} {w : World} {base : Nat} {spare : Nat → Bool} {held : Bool} {fuel : Nat} {cs : List Value} {x : DataW H × List MemPlace} (h : DataW.trod enc Tryd.prog w base spare held fuel (32 : Nat) cs = some x) :
    ∃ (A : Option Addr) (n c : Nat) (l : List ATerm), cs = [.slice A n c] ∧ l.length = n ∧ n ≤ c ∧ c ≤ maxLen ∧ Rd cTerm 3 w w.heap.size A l ∧ ∀ (i : Nat) (a : ATerm), l[i]? = some a → okTerm w w.heap.size a := by
  obtain ⟨A, n, c, hcs, hnc, hcm, hr⟩ := open_rows Tryd.underlying32 (k := 3) (by kernel_rfl) (by omega) h
  refine ⟨A, n, c, ?_⟩
  rcases hr with h0 | ⟨g, o, hA, hg, hel⟩
  · subst h0; exact ⟨[], hcs, rfl, hnc, hcm, Rd.nil_, fun i a h => by simp at h⟩
  · have hall : ∀ i, i < n → ∃ a : ATerm, (∀ j u, (cTerm a)[j]? = some u → w.cell? ⟨g, o + i * 3 + j, none⟩ = some u) ∧ okTerm w w.heap.size a := by
      intro i hi
      obtain ⟨es, m, y, hes, hcell, ht⟩ := hel i hi
      match es, hes with
      | [c0, c1, c2], _ =>
        obtain ⟨n_ht_0, y_ht_0, ht_0⟩ := trod_field Tryd.underlying139 ht 0 _ rfl (k := 1) (by kernel_rfl); replace ht_0 : DataW.trod enc Tryd.prog _ _ _ _ n_ht_0 (9 : Nat) [c0] = some y_ht_0 := ht_0
        obtain ⟨c0', e_c0, -, w_c0⟩ := DataW.trod_string Tryd.underlying9 ht_0; obtain rfl := (List.cons.inj e_c0).1
        obtain ⟨n_ht_1, y_ht_1, ht_1⟩ := trod_field Tryd.underlying139 ht 1 _ rfl (k := 2) (by kernel_rfl); replace ht_1 : DataW.trod enc Tryd.prog _ _ _ _ n_ht_1 (23 : Nat) [c1, c2] = some y_ht_1 := ht_1
        obtain ⟨n_ht_1_0, y_ht_1_0, ht_1_0⟩ := trod_field Tryd.underlying23 ht_1 0 _ rfl (k := 1) (by kernel_rfl); replace ht_1_0 : DataW.trod enc Tryd.prog _ _ _ _ n_ht_1_0 (2 : Nat) [c1] = some y_ht_1_0 := ht_1_0
        obtain ⟨c1', e_c1, -, w_c1⟩ := DataW.trod_int Tryd.underlying2 ht_1_0; obtain rfl := (List.cons.inj e_c1).1
        obtain ⟨n_ht_1_1, y_ht_1_1, ht_1_1⟩ := trod_field Tryd.underlying23 ht_1 1 _ rfl (k := 1) (by kernel_rfl); replace ht_1_1 : DataW.trod enc Tryd.prog _ _ _ _ n_ht_1_1 (2 : Nat) [c2] = some y_ht_1_1 := ht_1_1
        obtain ⟨c2', e_c2, -, w_c2⟩ := DataW.trod_int Tryd.underlying2 ht_1_1; obtain rfl := (List.cons.inj e_c2).1
        exact ⟨(c0', c1', c2'), hcell, ⟨w_c0, w_c1, w_c2⟩⟩
    obtain ⟨l, hl, hp⟩ := list_of hall
    exact ⟨l, hcs, hl, hnc, hcm, .inr ⟨g, o, hA, hg, fun k a hk => (hp k a hk).1⟩, fun i a hi => (hp i a hi).2⟩
abbrev ALinear : Type := Int × Int × (Option Addr × Nat × List ATerm)
def cLinear (a : ALinear) : List Value := [.int .i64 a.1, .int .i64 a.2.1, .slice a.2.2.1 a.2.2.2.2.length a.2.2.2.1]
theorem cLinear_len (a : ALinear) : (cLinear a).length = 3 := rfl
theorem cLinear_one (a : ALinear) : ∀ u ∈ cLinear a, u.oneCell' = true := by
  intro u hu
  simp only [cLinear, List.mem_cons, List.not_mem_nil, or_false] at hu
  rcases hu with rfl | rfl | rfl <;> rfl
def okLinear (w : World) (B : Nat) (a : ALinear) : Prop := (Lit.int .i64 a.1).wf = true ∧ (Lit.int .i64 a.2.1).wf = true ∧ a.2.2.2.2.length ≤ a.2.2.2.1 ∧ a.2.2.2.1 ≤ maxLen ∧ Rd cTerm 3 w B a.2.2.1 a.2.2.2.2 ∧ (∀ (i : Nat) (b : ATerm), a.2.2.2.2[i]? = some b → okTerm w B b)
set_option maxRecDepth 100000 in
theorem open_Linear {H : Type} {enc : TypeId × Value → H} {w : World} {r : Reach} {base b0 : Nat} {spare : Nat → Bool} {held : Bool} {v : Value} {d : DataW H} {p : List MemPlace} (hv : Value.okWide Tryd.prog w r b0 (34 : Nat) v) (h : DataW.Trod enc Tryd.prog w base spare held (34 : Nat) v d p) :
    ∃ a : ALinear, v = .agg #[.int .i64 a.1, .int .i64 a.2.1, .slice a.2.2.1 a.2.2.2.2.length a.2.2.2.1] ∧ okLinear w w.heap.size a := by
  obtain ⟨l, fuel, rfl, hk, hf⟩ := open_cells Tryd.underlying34 (k := 3) (by kernel_rfl) hv h
  match l, hk with
  | [c0, c1, c2], _ =>
    replace hf : DataW.trod enc Tryd.prog _ _ _ _ fuel (34 : Nat) [c0, c1, c2] = some _ := hf
    obtain ⟨n_hf_0, y_hf_0, hf_0⟩ := trod_field Tryd.underlying34 hf 0 _ rfl (k := 2) (by kernel_rfl); replace hf_0 : DataW.trod enc Tryd.prog _ _ _ _ n_hf_0 (23 : Nat) [c0, c1] = some y_hf_0 := hf_0
    obtain ⟨n_hf_0_0, y_hf_0_0, hf_0_0⟩ := trod_field Tryd.underlying23 hf_0 0 _ rfl (k := 1) (by kernel_rfl); replace hf_0_0 : DataW.trod enc Tryd.prog _ _ _ _ n_hf_0_0 (2 : Nat) [c0] = some y_hf_0_0 := hf_0_0
    obtain ⟨c0', e_c0, -, w_c0⟩ := DataW.trod_int Tryd.underlying2 hf_0_0; obtain rfl := (List.cons.inj e_c0).1
    obtain ⟨n_hf_0_1, y_hf_0_1, hf_0_1⟩ := trod_field Tryd.underlying23 hf_0 1 _ rfl (k := 1) (by kernel_rfl); replace hf_0_1 : DataW.trod enc Tryd.prog _ _ _ _ n_hf_0_1 (2 : Nat) [c1] = some y_hf_0_1 := hf_0_1
    obtain ⟨c1', e_c1, -, w_c1⟩ := DataW.trod_int Tryd.underlying2 hf_0_1; obtain rfl := (List.cons.inj e_c1).1
    obtain ⟨n_hf_1, y_hf_1, hf_1⟩ := trod_field Tryd.underlying34 hf 1 _ rfl (k := 1) (by kernel_rfl); replace hf_1 : DataW.trod enc Tryd.prog _ _ _ _ n_hf_1 (32 : Nat) [c2] = some y_hf_1 := hf_1
    obtain ⟨c2A, c2n, c2c, c2l, e_c2, c2ln, c2nc, c2cm, c2rd, c2ok⟩ := open_TermS hf_1; obtain rfl := (List.cons.inj e_c2).1; subst c2ln
    exact ⟨(c0', c1', (c2A, c2c, c2l)), rfl, ⟨w_c0, w_c1, c2nc, c2cm, c2rd, c2ok⟩⟩
abbrev ARow : Type := ByteArray × Int × Int × (Option Addr × Nat × List ATerm)
def cRow (a : ARow) : List Value := [.string a.1, .int .i64 a.2.1, .int .i64 a.2.2.1, .slice a.2.2.2.1 a.2.2.2.2.2.length a.2.2.2.2.1]
theorem cRow_len (a : ARow) : (cRow a).length = 4 := rfl
theorem cRow_one (a : ARow) : ∀ u ∈ cRow a, u.oneCell' = true := by
  intro u hu
  simp only [cRow, List.mem_cons, List.not_mem_nil, or_false] at hu
  rcases hu with rfl | rfl | rfl | rfl <;> rfl
def okRow (w : World) (B : Nat) (a : ARow) : Prop := a.1.size ≤ maxLen ∧ (Lit.int .i64 a.2.1).wf = true ∧ (Lit.int .i64 a.2.2.1).wf = true ∧ a.2.2.2.2.2.length ≤ a.2.2.2.2.1 ∧ a.2.2.2.2.1 ≤ maxLen ∧ Rd cTerm 3 w B a.2.2.2.1 a.2.2.2.2.2 ∧ (∀ (i : Nat) (b : ATerm), a.2.2.2.2.2[i]? = some b → okTerm w B b)
abbrev ASystem : Type := (Option Addr × Nat × List ARow)
def cSystem (a : ASystem) : List Value := [.slice a.1 a.2.2.length a.2.1]
theorem cSystem_len (a : ASystem) : (cSystem a).length = 1 := rfl
theorem cSystem_one (a : ASystem) : ∀ u ∈ cSystem a, u.oneCell' = true := by
  intro u hu
  simp only [cSystem, List.mem_cons, List.not_mem_nil, or_false] at hu
  subst hu; rfl
def okSystem (w : World) (B : Nat) (a : ASystem) : Prop := a.2.2.length ≤ a.2.1 ∧ a.2.1 ≤ maxLen ∧ Rd cRow 4 w B a.1 a.2.2 ∧ (∀ (i : Nat) (b : ARow), a.2.2[i]? = some b → okRow w B b)
end Go.Proofs.YtjlmoadnbbeloaaDoor
