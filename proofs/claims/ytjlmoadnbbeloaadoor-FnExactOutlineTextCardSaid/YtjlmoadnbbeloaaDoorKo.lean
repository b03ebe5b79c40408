/- Curves that come in: opened to their cells. -/
import Derived.Test.YtjlmoadnbbeloaaDoorProg
import Derived.Test.YtjlmoadnbbeloaaDoorHo
import Derived.OpenShut
import Derived.Below
import Derived.Carry
namespace Go.Proofs.YtjlmoadnbbeloaaDoor
open Go.RowKit Go.ChangeShapes Go.WideShapes Go.Deep Go.Joins
set_option linter.unusedVariables false
abbrev APt : Type := Int × Int
def cPt (a : APt) : List Value := [.int .i64 a.1, .int .i64 a.2]
theorem cPt_len (a : APt) : (cPt a).length = 2 := rfl
theorem cPt_one (a : APt) : ∀ u ∈ cPt a, u.oneCell' = true := by
  intro u hu
  simp only [cPt, List.mem_cons, List.not_mem_nil, or_false] at hu
  rcases hu with rfl | rfl <;> rfl
def okPt (w : World) (B : Nat) (a : APt) : Prop := (Lit.int .i64 a.1).wf = true ∧ (Lit.int .i64 a.2).wf = true
theorem open_PtS {H : Type} {enc : TypeId × Value → H} {w : World} {base : Nat} {spare : Nat → Bool} {held : Bool} {fuel : Nat} {cs : List Value} {x : DataW H × List MemPlace} (h : DataW.trod enc Tryd.prog w base spare held fuel (43 : Nat) cs = some x) :
    ∃ (A : Option Addr) (n c : Nat) (l : List APt), cs = [.slice A n c] ∧ l.length = n ∧ n ≤ c ∧ c ≤ maxLen ∧ Rd cPt 2 w w.heap.size A l ∧ ∀ (i : Nat) (a : APt), l[i]? = some a → okPt w w.heap.size a := by
  obtain ⟨A, n, c, hcs, hnc, hcm, hr⟩ := open_rows Tryd.underlying43 (k := 2) (by kernel_rfl) (by omega) h
  refine ⟨A, n, c, ?_⟩
  rcases hr with h0 | ⟨g, o, hA, hg, hel⟩
  · subst h0; exact ⟨[], hcs, rfl, hnc, hcm, Rd.nil_, fun i a h => by simp at h⟩
  · have hall : ∀ i, i < n → ∃ a : APt, (∀ j u, (cPt a)[j]? = some u → w.cell? ⟨g, o + i * 2 + j, none⟩ = some u) ∧ okPt w w.heap.size a := by
      intro i hi
      obtain ⟨es, m, y, hes, hcell, ht⟩ := hel i hi
      match es, hes with
      | [c0, c1], _ =>
        obtain ⟨n_ht_0, y_ht_0, ht_0⟩ := trod_field Tryd.underlying45 ht 0 _ rfl (k := 1) (by kernel_rfl); replace ht_0 : DataW.trod enc Tryd.prog _ _ _ _ n_ht_0 (2 : Nat) [c0] = some y_ht_0 := ht_0
        obtain ⟨c0', e_c0, -, w_c0⟩ := DataW.trod_int Tryd.underlying2 ht_0; obtain rfl := (List.cons.inj e_c0).1
        obtain ⟨n_ht_1, y_ht_1, ht_1⟩ := trod_field Tryd.underlying45 ht 1 _ rfl (k := 1) (by kernel_rfl); replace ht_1 : DataW.trod enc Tryd.prog _ _ _ _ n_ht_1 (2 : Nat) [c1] = some y_ht_1 := ht_1
        obtain ⟨c1', e_c1, -, w_c1⟩ := DataW.trod_int Tryd.underlying2 ht_1; obtain rfl := (List.cons.inj e_c1).1
        exact ⟨(c0', c1'), hcell, ⟨w_c0, w_c1⟩⟩
    obtain ⟨l, hl, hp⟩ := list_of hall
    exact ⟨l, hcs, hl, hnc, hcm, .inr ⟨g, o, hA, hg, fun k a hk => (hp k a hk).1⟩, fun i a hi => (hp i a hi).2⟩
abbrev ACurve : Type := (Option Addr × Nat × List APt) × Bool × Int × Bool × Bool × Int × Int × Int × Int
def cCurve (a : ACurve) : List Value := [.slice a.1.1 a.1.2.2.length a.1.2.1, .bool a.2.1, .int .i64 a.2.2.1, .bool a.2.2.2.1, .bool a.2.2.2.2.1, .int .i64 a.2.2.2.2.2.1, .int .i64 a.2.2.2.2.2.2.1, .int .i64 a.2.2.2.2.2.2.2.1, .int .i64 a.2.2.2.2.2.2.2.2]
theorem cCurve_len (a : ACurve) : (cCurve a).length = 9 := rfl
theorem cCurve_one (a : ACurve) : ∀ u ∈ cCurve a, u.oneCell' = true := by
  intro u hu
  simp only [cCurve, List.mem_cons, List.not_mem_nil, or_false] at hu
  rcases hu with rfl | rfl | rfl | rfl | rfl | rfl | rfl | rfl | rfl <;> rfl
def okCurve (w : World) (B : Nat) (a : ACurve) : Prop := a.1.2.2.length ≤ a.1.2.1 ∧ a.1.2.1 ≤ maxLen ∧ Rd cPt 2 w B a.1.1 a.1.2.2 ∧ (∀ (i : Nat) (b : APt), a.1.2.2[i]? = some b → okPt w B b) ∧ (Lit.int .i64 a.2.2.1).wf = true ∧ (Lit.int .i64 a.2.2.2.2.2.1).wf = true ∧ (Lit.int .i64 a.2.2.2.2.2.2.1).wf = true ∧ (Lit.int .i64 a.2.2.2.2.2.2.2.1).wf = true ∧ (Lit.int .i64 a.2.2.2.2.2.2.2.2).wf = true
set_option maxRecDepth 100000 in
theorem open_Curve {H : Type} {enc : TypeId × Value → H} {w : World} {r : Reach} {base b0 : Nat} {spare : Nat → Bool} {held : Bool} {v : Value} {d : DataW H} {p : List MemPlace} (hv : Value.okWide Tryd.prog w r b0 (47 : Nat) v) (h : DataW.Trod enc Tryd.prog w base spare held (47 : Nat) v d p) :
    ∃ a : ACurve, v = .agg #[.slice a.1.1 a.1.2.2.length a.1.2.1, .bool a.2.1, .int .i64 a.2.2.1, .bool a.2.2.2.1, .bool a.2.2.2.2.1, .int .i64 a.2.2.2.2.2.1, .int .i64 a.2.2.2.2.2.2.1, .int .i64 a.2.2.2.2.2.2.2.1, .int .i64 a.2.2.2.2.2.2.2.2] ∧ okCurve w w.heap.size a := by
  obtain ⟨l, fuel, rfl, hk, hf⟩ := open_cells Tryd.underlying47 (k := 9) (by kernel_rfl) hv h
  match l, hk with
  | [c0, c1, c2, c3, c4, c5, c6, c7, c8], _ =>
    replace hf : DataW.trod enc Tryd.prog _ _ _ _ fuel (47 : Nat) [c0, c1, c2, c3, c4, c5, c6, c7, c8] = some _ := hf
    obtain ⟨n_hf_0, y_hf_0, hf_0⟩ := trod_field Tryd.underlying47 hf 0 _ rfl (k := 1) (by kernel_rfl); replace hf_0 : DataW.trod enc Tryd.prog _ _ _ _ n_hf_0 (43 : Nat) [c0] = some y_hf_0 := hf_0
    obtain ⟨c0A, c0n, c0c, c0l, e_c0, c0ln, c0nc, c0cm, c0rd, c0ok⟩ := open_PtS hf_0; obtain rfl := (List.cons.inj e_c0).1; subst c0ln
    obtain ⟨n_hf_1, y_hf_1, hf_1⟩ := trod_field Tryd.underlying47 hf 1 _ rfl (k := 1) (by kernel_rfl); replace hf_1 : DataW.trod enc Tryd.prog _ _ _ _ n_hf_1 (4 : Nat) [c1] = some y_hf_1 := hf_1
    obtain ⟨c1', e_c1, -⟩ := DataW.trod_bool Tryd.underlying4 hf_1; obtain rfl := (List.cons.inj e_c1).1
    obtain ⟨n_hf_2, y_hf_2, hf_2⟩ := trod_field Tryd.underlying47 hf 2 _ rfl (k := 1) (by kernel_rfl); replace hf_2 : DataW.trod enc Tryd.prog _ _ _ _ n_hf_2 (2 : Nat) [c2] = some y_hf_2 := hf_2
    obtain ⟨c2', e_c2, -, w_c2⟩ := DataW.trod_int Tryd.underlying2 hf_2; obtain rfl := (List.cons.inj e_c2).1
    obtain ⟨n_hf_3, y_hf_3, hf_3⟩ := trod_field Tryd.underlying47 hf 3 _ rfl (k := 1) (by kernel_rfl); replace hf_3 : DataW.trod enc Tryd.prog _ _ _ _ n_hf_3 (4 : Nat) [c3] = some y_hf_3 := hf_3
    obtain ⟨c3', e_c3, -⟩ := DataW.trod_bool Tryd.underlying4 hf_3; obtain rfl := (List.cons.inj e_c3).1
    obtain ⟨n_hf_4, y_hf_4, hf_4⟩ := trod_field Tryd.underlying47 hf 4 _ rfl (k := 1) (by kernel_rfl); replace hf_4 : DataW.trod enc Tryd.prog _ _ _ _ n_hf_4 (4 : Nat) [c4] = some y_hf_4 := hf_4
    obtain ⟨c4', e_c4, -⟩ := DataW.trod_bool Tryd.underlying4 hf_4; obtain rfl := (List.cons.inj e_c4).1
    obtain ⟨n_hf_5, y_hf_5, hf_5⟩ := trod_field Tryd.underlying47 hf 5 _ rfl (k := 2) (by kernel_rfl); replace hf_5 : DataW.trod enc Tryd.prog _ _ _ _ n_hf_5 (45 : Nat) [c5, c6] = some y_hf_5 := hf_5
    obtain ⟨n_hf_5_0, y_hf_5_0, hf_5_0⟩ := trod_field Tryd.underlying45 hf_5 0 _ rfl (k := 1) (by kernel_rfl); replace hf_5_0 : DataW.trod enc Tryd.prog _ _ _ _ n_hf_5_0 (2 : Nat) [c5] = some y_hf_5_0 := hf_5_0
    obtain ⟨c5', e_c5, -, w_c5⟩ := DataW.trod_int Tryd.underlying2 hf_5_0; obtain rfl := (List.cons.inj e_c5).1
    obtain ⟨n_hf_5_1, y_hf_5_1, hf_5_1⟩ := trod_field Tryd.underlying45 hf_5 1 _ rfl (k := 1) (by kernel_rfl); replace hf_5_1 : DataW.trod enc Tryd.prog _ _ _ _ n_hf_5_1 (2 : Nat) [c6] = some y_hf_5_1 := hf_5_1
    obtain ⟨c6', e_c6, -, w_c6⟩ := DataW.trod_int Tryd.underlying2 hf_5_1; obtain rfl := (List.cons.inj e_c6).1
    obtain ⟨n_hf_6, y_hf_6, hf_6⟩ := trod_field Tryd.underlying47 hf 6 _ rfl (k := 2) (by kernel_rfl); replace hf_6 : DataW.trod enc Tryd.prog _ _ _ _ n_hf_6 (45 : Nat) [c7, c8] = some y_hf_6 := hf_6
    obtain ⟨n_hf_6_0, y_hf_6_0, hf_6_0⟩ := trod_field Tryd.underlying45 hf_6 0 _ rfl (k := 1) (by kernel_rfl); replace hf_6_0 : DataW.trod enc Tryd.prog _ _ _ _ n_hf_6_0 (2 : Nat) [c7] = some y_hf_6_0 := hf_6_0
    obtain ⟨c7', e_c7, -, w_c7⟩ := DataW.trod_int Tryd.underlying2 hf_6_0; obtain rfl := (List.cons.inj e_c7).1
    obtain ⟨n_hf_6_1, y_hf_6_1, hf_6_1⟩ := trod_field Tryd.underlying45 hf_6 1 _ rfl (k := 1) (by kernel_rfl); replace hf_6_1 : DataW.trod enc Tryd.prog _ _ _ _ n_hf_6_1 (2 : Nat) [c8] = some y_hf_6_1 := hf_6_1
    obtain ⟨c8', e_c8, -, w_c8⟩ := DataW.trod_int Tryd.underlying2 hf_6_1; obtain rfl := (List.cons.inj e_c8).1
    exact ⟨((c0A, c0c, c0l), c1', c2', c3', c4', c5', c6', c7', c8'), rfl, ⟨c0nc, c0cm, c0rd, c0ok, w_c2, w_c5, w_c6, w_c7, w_c8⟩⟩
end Go.Proofs.YtjlmoadnbbeloaaDoor
