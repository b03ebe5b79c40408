/- Values of Hinter that come in: opened to their cells, as data. -/
import Derived.Test.YtdikenapnncmfaaHx
import Derived.Test.YtdikenapnncmfaaProg
import Derived.OpenShut
import Derived.Below
import Derived.Carry
namespace Go.Proofs.Ytdikenapnncmfaa
open Go.RowKit Go.ChangeShapes Go.WideShapes Go.Deep Go.Joins
set_option linter.unusedVariables false
abbrev APt : Type := Int × Int
def cPt (a : APt) : List Value := [.int .i64 a.1, .int .i64 a.2]
theorem cPt_len (a : APt) : (cPt a).length = 2 := rfl
theorem cPt_one (a : APt) : ∀ u ∈ cPt a, u.oneCell' = true := by
  intro u hu
  simp only [cPt, List.mem_cons, List.not_mem_nil, or_false] at hu
  rcases hu with rfl | rfl <;> rfl
def okPt (w : World) (B : Nat) (a : APt) : Prop := (Lit.int .i64 a.1).wf = true ∧ (Lit.int .i64 a.2).wf = true
theorem open_PtS {H : Type} {enc : TypeId × Value → H} {w : World} {base : Nat} {spare : Nat → Bool} {held : Bool} {fuel : Nat} {cs : List Value} {x : DataW H × List MemPlace} (h : DataW.trod enc Try.prog w base spare held fuel (74 : Nat) cs = some x) :
    ∃ (A : Option Addr) (n c : Nat) (l : List APt), cs = [.slice A n c] ∧ l.length = n ∧ n ≤ c ∧ c ≤ maxLen ∧ Rd cPt 2 w w.heap.size A l ∧ ∀ (i : Nat) (a : APt), l[i]? = some a → okPt w w.heap.size a := by
  obtain ⟨A, n, c, hcs, hnc, hcm, hr⟩ := open_rows Try.underlying74 (k := 2) (by kernel_rfl) (by omega) h
  refine ⟨A, n, c, ?_⟩
  rcases hr with h0 | ⟨g, o, hA, hg, hel⟩
  · subst h0; exact ⟨[], hcs, rfl, hnc, hcm, Rd.nil_, fun i a h => by simp at h⟩
  · have hall : ∀ i, i < n → ∃ a : APt, (∀ j u, (cPt a)[j]? = some u → w.cell? ⟨g, o + i * 2 + j, none⟩ = some u) ∧ okPt w w.heap.size a := by
      intro i hi
      obtain ⟨es, m, y, hes, hcell, ht⟩ := hel i hi
      match es, hes with
      | [c0, c1], _ =>
        obtain ⟨n_ht_0, y_ht_0, ht_0⟩ := trod_field Try.underlying60 ht 0 _ rfl (k := 1) (by kernel_rfl); replace ht_0 : DataW.trod enc Try.prog _ _ _ _ n_ht_0 (2 : Nat) [c0] = some y_ht_0 := ht_0
        obtain ⟨c0', e_c0, -, w_c0⟩ := DataW.trod_int Try.underlying2 ht_0; obtain rfl := (List.cons.inj e_c0).1
        obtain ⟨n_ht_1, y_ht_1, ht_1⟩ := trod_field Try.underlying60 ht 1 _ rfl (k := 1) (by kernel_rfl); replace ht_1 : DataW.trod enc Try.prog _ _ _ _ n_ht_1 (2 : Nat) [c1] = some y_ht_1 := ht_1
        obtain ⟨c1', e_c1, -, w_c1⟩ := DataW.trod_int Try.underlying2 ht_1; obtain rfl := (List.cons.inj e_c1).1
        exact ⟨(c0', c1'), hcell, ⟨w_c0, w_c1⟩⟩
    obtain ⟨l, hl, hp⟩ := list_of hall
    exact ⟨l, hcs, hl, hnc, hcm, .inr ⟨g, o, hA, hg, fun k a hk => (hp k a hk).1⟩, fun i a hi => (hp i a hi).2⟩
abbrev ABool : Type := Bool
def cBool (a : ABool) : List Value := [.bool a]
theorem cBool_len (a : ABool) : (cBool a).length = 1 := rfl
theorem cBool_one (a : ABool) : ∀ u ∈ cBool a, u.oneCell' = true := by
  intro u hu
  simp only [cBool, List.mem_cons, List.not_mem_nil, or_false] at hu
  subst hu; rfl
def okBool (w : World) (B : Nat) (a : ABool) : Prop := True
theorem open_BoolS {H : Type} {enc : TypeId × Value → H} {w : World} {base : Nat} {spare : Nat → Bool} {held : Bool} {fuel : Nat} {cs : List Value} {x : DataW H × List MemPlace} (h : DataW.trod enc Try.prog w base spare held fuel (65 : Nat) cs = some x) :
    ∃ (A : Option Addr) (n c : Nat) (l : List ABool), cs = [.slice A n c] ∧ l.length = n ∧ n ≤ c ∧ c ≤ maxLen ∧ Rd cBool 1 w w.heap.size A l ∧ ∀ (i : Nat) (a : ABool), l[i]? = some a → okBool w w.heap.size a := by
  obtain ⟨A, n, c, hcs, hnc, hcm, hr⟩ := open_rows Try.underlying65 (k := 1) (by kernel_rfl) (by omega) h
  refine ⟨A, n, c, ?_⟩
  rcases hr with h0 | ⟨g, o, hA, hg, hel⟩
  · subst h0; exact ⟨[], hcs, rfl, hnc, hcm, Rd.nil_, fun i a h => by simp at h⟩
  · have hall : ∀ i, i < n → ∃ a : ABool, (∀ j u, (cBool a)[j]? = some u → w.cell? ⟨g, o + i * 1 + j, none⟩ = some u) ∧ okBool w w.heap.size a := by
      intro i hi
      obtain ⟨es, m, y, hes, hcell, ht⟩ := hel i hi
      match es, hes with
      | [c0], _ =>
        obtain ⟨c0', e_c0, -⟩ := DataW.trod_bool Try.underlying4 ht; obtain rfl := (List.cons.inj e_c0).1
        exact ⟨c0', hcell, trivial⟩
    obtain ⟨l, hl, hp⟩ := list_of hall
    exact ⟨l, hcs, hl, hnc, hcm, .inr ⟨g, o, hA, hg, fun k a hk => (hp k a hk).1⟩, fun i a hi => (hp i a hi).2⟩
abbrev AInt64 : Type := Int
def cInt64 (a : AInt64) : List Value := [.int .i64 a]
theorem cInt64_len (a : AInt64) : (cInt64 a).length = 1 := rfl
theorem cInt64_one (a : AInt64) : ∀ u ∈ cInt64 a, u.oneCell' = true := by
  intro u hu
  simp only [cInt64, List.mem_cons, List.not_mem_nil, or_false] at hu
  subst hu; rfl
def okInt64 (w : World) (B : Nat) (a : AInt64) : Prop := (Lit.int .i64 a).wf = true
theorem open_Int64S {H : Type} {enc : TypeId × Value → H} {w : World} {base : Nat} {spare : Nat → Bool} {held : Bool} {fuel : Nat} {cs : List Value} {x : DataW H × List MemPlace} (h : DataW.trod enc Try.prog w base spare held fuel (26 : Nat) cs = some x) :
    ∃ (A : Option Addr) (n c : Nat) (l : List AInt64), cs = [.slice A n c] ∧ l.length = n ∧ n ≤ c ∧ c ≤ maxLen ∧ Rd cInt64 1 w w.heap.size A l ∧ ∀ (i : Nat) (a : AInt64), l[i]? = some a → okInt64 w w.heap.size a := by
  obtain ⟨A, n, c, hcs, hnc, hcm, hr⟩ := open_rows Try.underlying26 (k := 1) (by kernel_rfl) (by omega) h
  refine ⟨A, n, c, ?_⟩
  rcases hr with h0 | ⟨g, o, hA, hg, hel⟩
  · subst h0; exact ⟨[], hcs, rfl, hnc, hcm, Rd.nil_, fun i a h => by simp at h⟩
  · have hall : ∀ i, i < n → ∃ a : AInt64, (∀ j u, (cInt64 a)[j]? = some u → w.cell? ⟨g, o + i * 1 + j, none⟩ = some u) ∧ okInt64 w w.heap.size a := by
      intro i hi
      obtain ⟨es, m, y, hes, hcell, ht⟩ := hel i hi
      match es, hes with
      | [c0], _ =>
        obtain ⟨c0', e_c0, -, w_c0⟩ := DataW.trod_int Try.underlying2 ht; obtain rfl := (List.cons.inj e_c0).1
        exact ⟨c0', hcell, w_c0⟩
    obtain ⟨l, hl, hp⟩ := list_of hall
    exact ⟨l, hcs, hl, hnc, hcm, .inr ⟨g, o, hA, hg, fun k a hk => (hp k a hk).1⟩, fun i a hi => (hp i a hi).2⟩
abbrev AHinter : Type := Int × (Option Addr × Nat × List APt) × (Option Addr × Nat × List APt) × (Option Addr × Nat × List ABool) × (Option Addr × Nat × List ABool) × (Option Addr × Nat × List AInt64) × (Option Addr × Nat × List AInt64) × (Option Addr × Nat × List AInt64) × Bool × Int × Int × Int × Int
def cHinter (a : AHinter) : List Value := [.int .i64 a.1, .slice a.2.1.1 a.2.1.2.2.length a.2.1.2.1, .slice a.2.2.1.1 a.2.2.1.2.2.length a.2.2.1.2.1, .slice a.2.2.2.1.1 a.2.2.2.1.2.2.length a.2.2.2.1.2.1, .slice a.2.2.2.2.1.1 a.2.2.2.2.1.2.2.length a.2.2.2.2.1.2.1, .slice a.2.2.2.2.2.1.1 a.2.2.2.2.2.1.2.2.length a.2.2.2.2.2.1.2.1, .slice a.2.2.2.2.2.2.1.1 a.2.2.2.2.2.2.1.2.2.length a.2.2.2.2.2.2.1.2.1, .slice a.2.2.2.2.2.2.2.1.1 a.2.2.2.2.2.2.2.1.2.2.length a.2.2.2.2.2.2.2.1.2.1, .bool a.2.2.2.2.2.2.2.2.1, .int .i64 a.2.2.2.2.2.2.2.2.2.1, .int .i64 a.2.2.2.2.2.2.2.2.2.2.1, .int .i64 a.2.2.2.2.2.2.2.2.2.2.2.1, .int .i64 a.2.2.2.2.2.2.2.2.2.2.2.2]
theorem cHinter_len (a : AHinter) : (cHinter a).length = 13 := rfl
theorem cHinter_one (a : AHinter) : ∀ u ∈ cHinter a, u.oneCell' = true := by
  intro u hu
  simp only [cHinter, List.mem_cons, List.not_mem_nil, or_false] at hu
  rcases hu with rfl | rfl | rfl | rfl | rfl | rfl | rfl | rfl | rfl | rfl | rfl | rfl | rfl <;> rfl
def okHinter (w : World) (B : Nat) (a : AHinter) : Prop := (Lit.int .i64 a.1).wf = true ∧ a.2.1.2.2.length ≤ a.2.1.2.1 ∧ a.2.1.2.1 ≤ maxLen ∧ Rd cPt 2 w B a.2.1.1 a.2.1.2.2 ∧ (∀ (i : Nat) (b : APt), a.2.1.2.2[i]? = some b → okPt w B b) ∧ a.2.2.1.2.2.length ≤ a.2.2.1.2.1 ∧ a.2.2.1.2.1 ≤ maxLen ∧ Rd cPt 2 w B a.2.2.1.1 a.2.2.1.2.2 ∧ (∀ (i : Nat) (b : APt), a.2.2.1.2.2[i]? = some b → okPt w B b) ∧ a.2.2.2.1.2.2.length ≤ a.2.2.2.1.2.1 ∧ a.2.2.2.1.2.1 ≤ maxLen ∧ Rd cBool 1 w B a.2.2.2.1.1 a.2.2.2.1.2.2 ∧ (∀ (i : Nat) (b : ABool), a.2.2.2.1.2.2[i]? = some b → okBool w B b) ∧ a.2.2.2.2.1.2.2.length ≤ a.2.2.2.2.1.2.1 ∧ a.2.2.2.2.1.2.1 ≤ maxLen ∧ Rd cBool 1 w B a.2.2.2.2.1.1 a.2.2.2.2.1.2.2 ∧ (∀ (i : Nat) (b : ABool), a.2.2.2.2.1.2.2[i]? = some b → okBool w B b) ∧ a.2.2.2.2.2.1.2.2.length ≤ a.2.2.2.2.2.1.2.1 ∧ a.2.2.2.2.2.1.2.1 ≤ maxLen ∧ Rd cInt64 1 w B a.2.2.2.2.2.1.1 a.2.2.2.2.2.1.2.2 ∧ (∀ (i : Nat) (b : AInt64), a.2.2.2.2.2.1.2.2[i]? = some b → okInt64 w B b) ∧ a.2.2.2.2.2.2.1.2.2.length ≤ a.2.2.2.2.2.2.1.2.1 ∧ a.2.2.2.2.2.2.1.2.1 ≤ maxLen ∧ Rd cInt64 1 w B a.2.2.2.2.2.2.1.1 a.2.2.2.2.2.2.1.2.2 ∧ (∀ (i : Nat) (b : AInt64), a.2.2.2.2.2.2.1.2.2[i]? = some b → okInt64 w B b) ∧ a.2.2.2.2.2.2.2.1.2.2.length ≤ a.2.2.2.2.2.2.2.1.2.1 ∧ a.2.2.2.2.2.2.2.1.2.1 ≤ maxLen ∧ Rd cInt64 1 w B a.2.2.2.2.2.2.2.1.1 a.2.2.2.2.2.2.2.1.2.2 ∧ (∀ (i : Nat) (b : AInt64), a.2.2.2.2.2.2.2.1.2.2[i]? = some b → okInt64 w B b) ∧ (Lit.int .i64 a.2.2.2.2.2.2.2.2.2.1).wf = true ∧ (Lit.int .i64 a.2.2.2.2.2.2.2.2.2.2.1).wf = true ∧ (Lit.int .i64 a.2.2.2.2.2.2.2.2.2.2.2.1).wf = true ∧ (Lit.int .i64 a.2.2.2.2.2.2.2.2.2.2.2.2).wf = true
set_option maxRecDepth 100000 in
theorem open_Hinter {H : Type} {enc : TypeId × Value → H} {w : World} {r : Reach} {base b0 : Nat} {spare : Nat → Bool} {held : Bool} {v : Value} {d : DataW H} {p : List MemPlace} (hv : Value.okWide Try.prog w r b0 (76 : Nat) v) (h : DataW.Trod enc Try.prog w base spare held (76 : Nat) v d p) :
    ∃ a : AHinter, v = .agg #[.int .i64 a.1, .slice a.2.1.1 a.2.1.2.2.length a.2.1.2.1, .slice a.2.2.1.1 a.2.2.1.2.2.length a.2.2.1.2.1, .slice a.2.2.2.1.1 a.2.2.2.1.2.2.length a.2.2.2.1.2.1, .slice a.2.2.2.2.1.1 a.2.2.2.2.1.2.2.length a.2.2.2.2.1.2.1, .slice a.2.2.2.2.2.1.1 a.2.2.2.2.2.1.2.2.length a.2.2.2.2.2.1.2.1, .slice a.2.2.2.2.2.2.1.1 a.2.2.2.2.2.2.1.2.2.length a.2.2.2.2.2.2.1.2.1, .slice a.2.2.2.2.2.2.2.1.1 a.2.2.2.2.2.2.2.1.2.2.length a.2.2.2.2.2.2.2.1.2.1, .bool a.2.2.2.2.2.2.2.2.1, .int .i64 a.2.2.2.2.2.2.2.2.2.1, .int .i64 a.2.2.2.2.2.2.2.2.2.2.1, .int .i64 a.2.2.2.2.2.2.2.2.2.2.2.1, .int .i64 a.2.2.2.2.2.2.2.2.2.2.2.2] ∧ okHinter w w.heap.size a := by
  obtain ⟨l, fuel, rfl, hk, hf⟩ := open_cells Try.underlying76 (k := 13) (by kernel_rfl) hv h
  match l, hk with
  | [c0, c1, c2, c3, c4, c5, c6, c7, c8, c9, c10, c11, c12], _ =>
    replace hf : DataW.trod enc Try.prog _ _ _ _ fuel (76 : Nat) [c0, c1, c2, c3, c4, c5, c6, c7, c8, c9, c10, c11, c12] = some _ := hf
    obtain ⟨n_hf_0, y_hf_0, hf_0⟩ := trod_field Try.underlying76 hf 0 _ rfl (k := 1) (by kernel_rfl); replace hf_0 : DataW.trod enc Try.prog _ _ _ _ n_hf_0 (2 : Nat) [c0] = some y_hf_0 := hf_0
    obtain ⟨c0', e_c0, -, w_c0⟩ := DataW.trod_int Try.underlying2 hf_0; obtain rfl := (List.cons.inj e_c0).1
    obtain ⟨n_hf_1, y_hf_1, hf_1⟩ := trod_field Try.underlying76 hf 1 _ rfl (k := 1) (by kernel_rfl); replace hf_1 : DataW.trod enc Try.prog _ _ _ _ n_hf_1 (74 : Nat) [c1] = some y_hf_1 := hf_1
    obtain ⟨c1A, c1n, c1c, c1l, e_c1, c1ln, c1nc, c1cm, c1rd, c1ok⟩ := open_PtS hf_1; obtain rfl := (List.cons.inj e_c1).1; subst c1ln
    obtain ⟨n_hf_2, y_hf_2, hf_2⟩ := trod_field Try.underlying76 hf 2 _ rfl (k := 1) (by kernel_rfl); replace hf_2 : DataW.trod enc Try.prog _ _ _ _ n_hf_2 (74 : Nat) [c2] = some y_hf_2 := hf_2
    obtain ⟨c2A, c2n, c2c, c2l, e_c2, c2ln, c2nc, c2cm, c2rd, c2ok⟩ := open_PtS hf_2; obtain rfl := (List.cons.inj e_c2).1; subst c2ln
    obtain ⟨n_hf_3, y_hf_3, hf_3⟩ := trod_field Try.underlying76 hf 3 _ rfl (k := 1) (by kernel_rfl); replace hf_3 : DataW.trod enc Try.prog _ _ _ _ n_hf_3 (65 : Nat) [c3] = some y_hf_3 := hf_3
    obtain ⟨c3A, c3n, c3c, c3l, e_c3, c3ln, c3nc, c3cm, c3rd, c3ok⟩ := open_BoolS hf_3; obtain rfl := (List.cons.inj e_c3).1; subst c3ln
    obtain ⟨n_hf_4, y_hf_4, hf_4⟩ := trod_field Try.underlying76 hf 4 _ rfl (k := 1) (by kernel_rfl); replace hf_4 : DataW.trod enc Try.prog _ _ _ _ n_hf_4 (65 : Nat) [c4] = some y_hf_4 := hf_4
    obtain ⟨c4A, c4n, c4c, c4l, e_c4, c4ln, c4nc, c4cm, c4rd, c4ok⟩ := open_BoolS hf_4; obtain rfl := (List.cons.inj e_c4).1; subst c4ln
    obtain ⟨n_hf_5, y_hf_5, hf_5⟩ := trod_field Try.underlying76 hf 5 _ rfl (k := 1) (by kernel_rfl); replace hf_5 : DataW.trod enc Try.prog _ _ _ _ n_hf_5 (26 : Nat) [c5] = some y_hf_5 := hf_5
    obtain ⟨c5A, c5n, c5c, c5l, e_c5, c5ln, c5nc, c5cm, c5rd, c5ok⟩ := open_Int64S hf_5; obtain rfl := (List.cons.inj e_c5).1; subst c5ln
    obtain ⟨n_hf_6, y_hf_6, hf_6⟩ := trod_field Try.underlying76 hf 6 _ rfl (k := 1) (by kernel_rfl); replace hf_6 : DataW.trod enc Try.prog _ _ _ _ n_hf_6 (26 : Nat) [c6] = some y_hf_6 := hf_6
    obtain ⟨c6A, c6n, c6c, c6l, e_c6, c6ln, c6nc, c6cm, c6rd, c6ok⟩ := open_Int64S hf_6; obtain rfl := (List.cons.inj e_c6).1; subst c6ln
    obtain ⟨n_hf_7, y_hf_7, hf_7⟩ := trod_field Try.underlying76 hf 7 _ rfl (k := 1) (by kernel_rfl); replace hf_7 : DataW.trod enc Try.prog _ _ _ _ n_hf_7 (26 : Nat) [c7] = some y_hf_7 := hf_7
    obtain ⟨c7A, c7n, c7c, c7l, e_c7, c7ln, c7nc, c7cm, c7rd, c7ok⟩ := open_Int64S hf_7; obtain rfl := (List.cons.inj e_c7).1; subst c7ln
    obtain ⟨n_hf_8, y_hf_8, hf_8⟩ := trod_field Try.underlying76 hf 8 _ rfl (k := 1) (by kernel_rfl); replace hf_8 : DataW.trod enc Try.prog _ _ _ _ n_hf_8 (4 : Nat) [c8] = some y_hf_8 := hf_8
    obtain ⟨c8', e_c8, -⟩ := DataW.trod_bool Try.underlying4 hf_8; obtain rfl := (List.cons.inj e_c8).1
    obtain ⟨n_hf_9, y_hf_9, hf_9⟩ := trod_field Try.underlying76 hf 9 _ rfl (k := 1) (by kernel_rfl); replace hf_9 : DataW.trod enc Try.prog _ _ _ _ n_hf_9 (2 : Nat) [c9] = some y_hf_9 := hf_9
    obtain ⟨c9', e_c9, -, w_c9⟩ := DataW.trod_int Try.underlying2 hf_9; obtain rfl := (List.cons.inj e_c9).1
    obtain ⟨n_hf_10, y_hf_10, hf_10⟩ := trod_field Try.underlying76 hf 10 _ rfl (k := 1) (by kernel_rfl); replace hf_10 : DataW.trod enc Try.prog _ _ _ _ n_hf_10 (2 : Nat) [c10] = some y_hf_10 := hf_10
    obtain ⟨c10', e_c10, -, w_c10⟩ := DataW.trod_int Try.underlying2 hf_10; obtain rfl := (List.cons.inj e_c10).1
    obtain ⟨n_hf_11, y_hf_11, hf_11⟩ := trod_field Try.underlying76 hf 11 _ rfl (k := 1) (by kernel_rfl); replace hf_11 : DataW.trod enc Try.prog _ _ _ _ n_hf_11 (2 : Nat) [c11] = some y_hf_11 := hf_11
    obtain ⟨c11', e_c11, -, w_c11⟩ := DataW.trod_int Try.underlying2 hf_11; obtain rfl := (List.cons.inj e_c11).1
    obtain ⟨n_hf_12, y_hf_12, hf_12⟩ := trod_field Try.underlying76 hf 12 _ rfl (k := 1) (by kernel_rfl); replace hf_12 : DataW.trod enc Try.prog _ _ _ _ n_hf_12 (2 : Nat) [c12] = some y_hf_12 := hf_12
    obtain ⟨c12', e_c12, -, w_c12⟩ := DataW.trod_int Try.underlying2 hf_12; obtain rfl := (List.cons.inj e_c12).1
    exact ⟨(c0', (c1A, c1c, c1l), (c2A, c2c, c2l), (c3A, c3c, c3l), (c4A, c4c, c4l), (c5A, c5c, c5l), (c6A, c6c, c6l), (c7A, c7c, c7l), c8', c9', c10', c11', c12'), rfl, ⟨w_c0, c1nc, c1cm, c1rd, c1ok, c2nc, c2cm, c2rd, c2ok, c3nc, c3cm, c3rd, c3ok, c4nc, c4cm, c4rd, c4ok, c5nc, c5cm, c5rd, c5ok, c6nc, c6cm, c6rd, c6ok, c7nc, c7cm, c7rd, c7ok, w_c9, w_c10, w_c11, w_c12⟩⟩
abbrev DInt64 : Type := Int
def RvInt64 : Rv DInt64 := fun _ _ row d => row = [.int .i64 d]
instance niceInt64 : Nice RvInt64 1 where
  len := by rintro w B row d rfl; rfl
  one := by
    rintro w B row d rfl u hu
    simp only [List.mem_cons, List.not_mem_nil, or_false] at hu
    subst hu; rfl
  keep := fun _ h => h
  more := fun _ h => h
def totInt64 (d : DInt64) : Nat := 0
def SzInt64 (d : DInt64) : Prop := True
abbrev DPt : Type := Int × Int
def RvPt : Rv DPt := fun _ _ row d => row = [.int .i64 d.1, .int .i64 d.2]
instance nicePt : Nice RvPt 2 where
  len := by rintro w B row d rfl; rfl
  one := by
    rintro w B row d rfl u hu
    simp only [List.mem_cons, List.not_mem_nil, or_false] at hu
    rcases hu with rfl | rfl <;> rfl
  keep := fun _ h => h
  more := fun _ h => h
def totPt (d : DPt) : Nat := 0
def SzPt (d : DPt) : Prop := True
abbrev DBool : Type := Bool
def RvBool : Rv DBool := fun _ _ row d => row = [.bool d]
instance niceBool : Nice RvBool 1 where
  len := by rintro w B row d rfl; rfl
  one := by
    rintro w B row d rfl u hu
    simp only [List.mem_cons, List.not_mem_nil, or_false] at hu
    subst hu; rfl
  keep := fun _ h => h
  more := fun _ h => h
def totBool (d : DBool) : Nat := 0
def SzBool (d : DBool) : Prop := True
abbrev DHinter : Type := Int × List DPt × List DPt × List DBool × List DBool × List DInt64 × List DInt64 × List DInt64 × Bool × Int × Int × Int × Int
def RvHinter : Rv DHinter := fun w B row d => ∃ (A1 : Option Addr) (c1 : Nat) (A2 : Option Addr) (c2 : Nat) (A3 : Option Addr) (c3 : Nat) (A4 : Option Addr) (c4 : Nat) (A5 : Option Addr) (c5 : Nat) (A6 : Option Addr) (c6 : Nat) (A7 : Option Addr) (c7 : Nat), row = [.int .i64 d.1, .slice A1 d.2.1.length c1, .slice A2 d.2.2.1.length c2, .slice A3 d.2.2.2.1.length c3, .slice A4 d.2.2.2.2.1.length c4, .slice A5 d.2.2.2.2.2.1.length c5, .slice A6 d.2.2.2.2.2.2.1.length c6, .slice A7 d.2.2.2.2.2.2.2.1.length c7, .bool d.2.2.2.2.2.2.2.2.1, .int .i64 d.2.2.2.2.2.2.2.2.2.1, .int .i64 d.2.2.2.2.2.2.2.2.2.2.1, .int .i64 d.2.2.2.2.2.2.2.2.2.2.2.1, .int .i64 d.2.2.2.2.2.2.2.2.2.2.2.2] ∧ Row RvPt 2 w B A1 d.2.1 ∧ Row RvPt 2 w B A2 d.2.2.1 ∧ Row RvBool 1 w B A3 d.2.2.2.1 ∧ Row RvBool 1 w B A4 d.2.2.2.2.1 ∧ Row RvInt64 1 w B A5 d.2.2.2.2.2.1 ∧ Row RvInt64 1 w B A6 d.2.2.2.2.2.2.1 ∧ Row RvInt64 1 w B A7 d.2.2.2.2.2.2.2.1
instance niceHinter : Nice RvHinter 13 where
  len := by rintro w B row d ⟨_, _, _, _, _, _, _, _, _, _, _, _, _, _, rfl, -⟩; rfl
  one := by
    rintro w B row d ⟨_, _, _, _, _, _, _, _, _, _, _, _, _, _, rfl, -⟩ u hu
    simp only [List.mem_cons, List.not_mem_nil, or_false] at hu
    rcases hu with rfl | rfl | rfl | rfl | rfl | rfl | rfl | rfl | rfl | rfl | rfl | rfl | rfl <;> rfl
  keep := by
    rintro w w' B row d hk ⟨A1, c1, A2, c2, A3, c3, A4, c4, A5, c5, A6, c6, A7, c7, rfl, h1, h2, h3, h4, h5, h6, h7⟩
    exact ⟨_, _, _, _, _, _, _, _, _, _, _, _, _, _, rfl, h1.keep hk, h2.keep hk, h3.keep hk, h4.keep hk, h5.keep hk, h6.keep hk, h7.keep hk⟩
  more := by
    rintro w B B' row d hB ⟨A1, c1, A2, c2, A3, c3, A4, c4, A5, c5, A6, c6, A7, c7, rfl, h1, h2, h3, h4, h5, h6, h7⟩
    exact ⟨_, _, _, _, _, _, _, _, _, _, _, _, _, _, rfl, h1.more hB, h2.more hB, h3.more hB, h4.more hB, h5.more hB, h6.more hB, h7.more hB⟩
def totHinter (d : DHinter) : Nat := totRow totPt d.2.1 + totRow totPt d.2.2.1 + totRow totBool d.2.2.2.1 + totRow totBool d.2.2.2.2.1 + totRow totInt64 d.2.2.2.2.2.1 + totRow totInt64 d.2.2.2.2.2.2.1 + totRow totInt64 d.2.2.2.2.2.2.2.1
def SzHinter (d : DHinter) : Prop := szRow SzPt d.2.1 ∧ szRow SzPt d.2.2.1 ∧ szRow SzBool d.2.2.2.1 ∧ szRow SzBool d.2.2.2.2.1 ∧ szRow SzInt64 d.2.2.2.2.2.1 ∧ szRow SzInt64 d.2.2.2.2.2.2.1 ∧ szRow SzInt64 d.2.2.2.2.2.2.2.1
theorem sz_map {α D : Type} {g : α → D} {P : D → Prop} {ok : α → Prop} {l : List α} (hz : ∀ a, ok a → P (g a)) (h : ∀ (i : Nat) (b : α), l[i]? = some b → ok b) (i : Nat) (d : D) (hd : (l.map g)[i]? = some d) : P d := by
  rw [List.getElem?_map] at hd
  cases ha : l[i]? with
  | none => rw [ha] at hd; cases hd
  | some a => rw [ha] at hd; obtain rfl := Option.some.inj hd; exact hz a (h i a ha)
def dPt (a : APt) : DPt := (a.1, a.2)
theorem rv_Pt {w : World} {B : Nat} (a : APt) (h : okPt w B a) : RvPt w B (cPt a) (dPt a) := by
  rfl
theorem sz_Pt {w : World} {B : Nat} (a : APt) (h : okPt w B a) : SzPt (dPt a) := by
  obtain ⟨_, _⟩ := h
  trivial
def dBool (a : ABool) : DBool := a
theorem rv_Bool {w : World} {B : Nat} (a : ABool) (h : okBool w B a) : RvBool w B (cBool a) (dBool a) := by
  rfl
theorem sz_Bool {w : World} {B : Nat} (a : ABool) (h : okBool w B a) : SzBool (dBool a) := by
  skip
  trivial
def dInt64 (a : AInt64) : DInt64 := a
theorem rv_Int64 {w : World} {B : Nat} (a : AInt64) (h : okInt64 w B a) : RvInt64 w B (cInt64 a) (dInt64 a) := by
  rfl
theorem sz_Int64 {w : World} {B : Nat} (a : AInt64) (h : okInt64 w B a) : SzInt64 (dInt64 a) := by
  skip
  trivial
def dHinter (a : AHinter) : DHinter := (a.1, a.2.1.2.2.map dPt, a.2.2.1.2.2.map dPt, a.2.2.2.1.2.2.map dBool, a.2.2.2.2.1.2.2.map dBool, a.2.2.2.2.2.1.2.2.map dInt64, a.2.2.2.2.2.2.1.2.2.map dInt64, a.2.2.2.2.2.2.2.1.2.2.map dInt64, a.2.2.2.2.2.2.2.2.1, a.2.2.2.2.2.2.2.2.2.1, a.2.2.2.2.2.2.2.2.2.2.1, a.2.2.2.2.2.2.2.2.2.2.2.1, a.2.2.2.2.2.2.2.2.2.2.2.2)
theorem rv_Hinter {w : World} {B : Nat} (a : AHinter) (h : okHinter w B a) : RvHinter w B (cHinter a) (dHinter a) := by
  obtain ⟨_, nc1, cm1, rd1, ok1, nc2, cm2, rd2, ok2, nc3, cm3, rd3, ok3, nc4, cm4, rd4, ok4, nc5, cm5, rd5, ok5, nc6, cm6, rd6, ok6, nc7, cm7, rd7, ok7, _, _, _, _⟩ := h
  refine ⟨a.2.1.1, a.2.1.2.1, a.2.2.1.1, a.2.2.1.2.1, a.2.2.2.1.1, a.2.2.2.1.2.1, a.2.2.2.2.1.1, a.2.2.2.2.1.2.1, a.2.2.2.2.2.1.1, a.2.2.2.2.2.1.2.1, a.2.2.2.2.2.2.1.1, a.2.2.2.2.2.2.1.2.1, a.2.2.2.2.2.2.2.1.1, a.2.2.2.2.2.2.2.1.2.1, ?_, Row.of rd1 (fun i b hb => rv_Pt _ (ok1 i b hb)), Row.of rd2 (fun i b hb => rv_Pt _ (ok2 i b hb)), Row.of rd3 (fun i b hb => rv_Bool _ (ok3 i b hb)), Row.of rd4 (fun i b hb => rv_Bool _ (ok4 i b hb)), Row.of rd5 (fun i b hb => rv_Int64 _ (ok5 i b hb)), Row.of rd6 (fun i b hb => rv_Int64 _ (ok6 i b hb)), Row.of rd7 (fun i b hb => rv_Int64 _ (ok7 i b hb))⟩
  simp [cHinter, dHinter]
theorem sz_Hinter {w : World} {B : Nat} (a : AHinter) (h : okHinter w B a) : SzHinter (dHinter a) := by
  obtain ⟨_, nc1, cm1, rd1, ok1, nc2, cm2, rd2, ok2, nc3, cm3, rd3, ok3, nc4, cm4, rd4, ok4, nc5, cm5, rd5, ok5, nc6, cm6, rd6, ok6, nc7, cm7, rd7, ok7, _, _, _, _⟩ := h
  exact ⟨⟨Nat.le_trans (Nat.le_of_eq (List.length_map _)) (Nat.le_trans nc1 cm1), fun i b hb => sz_map sz_Pt ok1 i b hb⟩, ⟨Nat.le_trans (Nat.le_of_eq (List.length_map _)) (Nat.le_trans nc2 cm2), fun i b hb => sz_map sz_Pt ok2 i b hb⟩, ⟨Nat.le_trans (Nat.le_of_eq (List.length_map _)) (Nat.le_trans nc3 cm3), fun i b hb => sz_map sz_Bool ok3 i b hb⟩, ⟨Nat.le_trans (Nat.le_of_eq (List.length_map _)) (Nat.le_trans nc4 cm4), fun i b hb => sz_map sz_Bool ok4 i b hb⟩, ⟨Nat.le_trans (Nat.le_of_eq (List.length_map _)) (Nat.le_trans nc5 cm5), fun i b hb => sz_map sz_Int64 ok5 i b hb⟩, ⟨Nat.le_trans (Nat.le_of_eq (List.length_map _)) (Nat.le_trans nc6 cm6), fun i b hb => sz_map sz_Int64 ok6 i b hb⟩, ⟨Nat.le_trans (Nat.le_of_eq (List.length_map _)) (Nat.le_trans nc7 cm7), fun i b hb => sz_map sz_Int64 ok7 i b hb⟩⟩
end Go.Proofs.Ytdikenapnncmfaa
