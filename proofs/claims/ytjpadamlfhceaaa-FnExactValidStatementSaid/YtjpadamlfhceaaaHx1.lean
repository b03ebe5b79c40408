/- Statements that come in: opened to their cells, as data. -/
import Derived.Test.YtjpadamlfhceaaaHx
import Derived.Test.YtjpadamlfhceaaaProg
import Derived.OpenShut
import Derived.Below
import Derived.Carry
namespace Go.Proofs.Ytjpadamlfhceaaa
open Go.RowKit Go.ChangeShapes Go.WideShapes Go.Deep Go.Joins
set_option linter.unusedVariables false
abbrev ATerm : Type := ByteArray × Int × Int
def cTerm (a : ATerm) : List Value := [.string a.1, .int .i64 a.2.1, .int .i64 a.2.2]
theorem cTerm_len (a : ATerm) : (cTerm a).length = 3 := rfl
theorem cTerm_one (a : ATerm) : ∀ u ∈ cTerm a, u.oneCell' = true := by
  intro u hu
  simp only [cTerm, List.mem_cons, List.not_mem_nil, or_false] at hu
  rcases hu with rfl | rfl | rfl <;> rfl
def okTerm (w : World) (B : Nat) (a : ATerm) : Prop := a.1.size ≤ maxLen ∧ (Lit.int .i64 a.2.1).wf = true ∧ (Lit.int .i64 a.2.2).wf = true
theorem open_TermS {H : Type} {enc : TypeId × Value → H} {w : World} {base : Nat} {spare : Nat → Bool} {held : Bool} {fuel : Nat} {cs : List Value} {x : DataW H × List MemPlace} (h : DataW.trod enc Try.prog w base spare held fuel (24 : Nat) cs = some x) :
    ∃ (A : Option Addr) (n c : Nat) (l : List ATerm), cs = [.slice A n c] ∧ l.length = n ∧ n ≤ c ∧ c ≤ maxLen ∧ Rd cTerm 3 w w.heap.size A l ∧ ∀ (i : Nat) (a : ATerm), l[i]? = some a → okTerm w w.heap.size a := by
  obtain ⟨A, n, c, hcs, hnc, hcm, hr⟩ := open_rows Try.underlying24 (k := 3) (by kernel_rfl) (by omega) h
  refine ⟨A, n, c, ?_⟩
  rcases hr with h0 | ⟨g, o, hA, hg, hel⟩
  · subst h0; exact ⟨[], hcs, rfl, hnc, hcm, Rd.nil_, fun i a h => by simp at h⟩
  · have hall : ∀ i, i < n → ∃ a : ATerm, (∀ j u, (cTerm a)[j]? = some u → w.cell? ⟨g, o + i * 3 + j, none⟩ = some u) ∧ okTerm w w.heap.size a := by
      intro i hi
      obtain ⟨es, m, y, hes, hcell, ht⟩ := hel i hi
      match es, hes with
      | [c0, c1, c2], _ =>
        obtain ⟨n_ht_0, y_ht_0, ht_0⟩ := trod_field Try.underlying71 ht 0 _ rfl (k := 1) (by kernel_rfl); replace ht_0 : DataW.trod enc Try.prog _ _ _ _ n_ht_0 (9 : Nat) [c0] = some y_ht_0 := ht_0
        obtain ⟨c0', e_c0, -, w_c0⟩ := DataW.trod_string Try.underlying9 ht_0; obtain rfl := (List.cons.inj e_c0).1
        obtain ⟨n_ht_1, y_ht_1, ht_1⟩ := trod_field Try.underlying71 ht 1 _ rfl (k := 2) (by kernel_rfl); replace ht_1 : DataW.trod enc Try.prog _ _ _ _ n_ht_1 (23 : Nat) [c1, c2] = some y_ht_1 := ht_1
        obtain ⟨n_ht_1_0, y_ht_1_0, ht_1_0⟩ := trod_field Try.underlying23 ht_1 0 _ rfl (k := 1) (by kernel_rfl); replace ht_1_0 : DataW.trod enc Try.prog _ _ _ _ n_ht_1_0 (2 : Nat) [c1] = some y_ht_1_0 := ht_1_0
        obtain ⟨c1', e_c1, -, w_c1⟩ := DataW.trod_int Try.underlying2 ht_1_0; obtain rfl := (List.cons.inj e_c1).1
        obtain ⟨n_ht_1_1, y_ht_1_1, ht_1_1⟩ := trod_field Try.underlying23 ht_1 1 _ rfl (k := 1) (by kernel_rfl); replace ht_1_1 : DataW.trod enc Try.prog _ _ _ _ n_ht_1_1 (2 : Nat) [c2] = some y_ht_1_1 := ht_1_1
        obtain ⟨c2', e_c2, -, w_c2⟩ := DataW.trod_int Try.underlying2 ht_1_1; obtain rfl := (List.cons.inj e_c2).1
        exact ⟨(c0', c1', c2'), hcell, ⟨w_c0, w_c1, w_c2⟩⟩
    obtain ⟨l, hl, hp⟩ := list_of hall
    exact ⟨l, hcs, hl, hnc, hcm, .inr ⟨g, o, hA, hg, fun k a hk => (hp k a hk).1⟩, fun i a hi => (hp i a hi).2⟩
abbrev AString : Type := ByteArray
def cString (a : AString) : List Value := [.string a]
theorem cString_len (a : AString) : (cString a).length = 1 := rfl
theorem cString_one (a : AString) : ∀ u ∈ cString a, u.oneCell' = true := by
  intro u hu
  simp only [cString, List.mem_cons, List.not_mem_nil, or_false] at hu
  subst hu; rfl
def okString (w : World) (B : Nat) (a : AString) : Prop := a.size ≤ maxLen
theorem open_StringS {H : Type} {enc : TypeId × Value → H} {w : World} {base : Nat} {spare : Nat → Bool} {held : Bool} {fuel : Nat} {cs : List Value} {x : DataW H × List MemPlace} (h : DataW.trod enc Try.prog w base spare held fuel (27 : Nat) cs = some x) :
    ∃ (A : Option Addr) (n c : Nat) (l : List AString), cs = [.slice A n c] ∧ l.length = n ∧ n ≤ c ∧ c ≤ maxLen ∧ Rd cString 1 w w.heap.size A l ∧ ∀ (i : Nat) (a : AString), l[i]? = some a → okString w w.heap.size a := by
  obtain ⟨A, n, c, hcs, hnc, hcm, hr⟩ := open_rows Try.underlying27 (k := 1) (by kernel_rfl) (by omega) h
  refine ⟨A, n, c, ?_⟩
  rcases hr with h0 | ⟨g, o, hA, hg, hel⟩
  · subst h0; exact ⟨[], hcs, rfl, hnc, hcm, Rd.nil_, fun i a h => by simp at h⟩
  · have hall : ∀ i, i < n → ∃ a : AString, (∀ j u, (cString a)[j]? = some u → w.cell? ⟨g, o + i * 1 + j, none⟩ = some u) ∧ okString w w.heap.size a := by
      intro i hi
      obtain ⟨es, m, y, hes, hcell, ht⟩ := hel i hi
      match es, hes with
      | [c0], _ =>
        obtain ⟨c0', e_c0, -, w_c0⟩ := DataW.trod_string Try.underlying9 ht; obtain rfl := (List.cons.inj e_c0).1
        exact ⟨c0', hcell, w_c0⟩
    obtain ⟨l, hl, hp⟩ := list_of hall
    exact ⟨l, hcs, hl, hnc, hcm, .inr ⟨g, o, hA, hg, fun k a hk => (hp k a hk).1⟩, fun i a hi => (hp i a hi).2⟩
abbrev AInt64 : Type := Int
def cInt64 (a : AInt64) : List Value := [.int .i64 a]
theorem cInt64_len (a : AInt64) : (cInt64 a).length = 1 := rfl
theorem cInt64_one (a : AInt64) : ∀ u ∈ cInt64 a, u.oneCell' = true := by
  intro u hu
  simp only [cInt64, List.mem_cons, List.not_mem_nil, or_false] at hu
  subst hu; rfl
def okInt64 (w : World) (B : Nat) (a : AInt64) : Prop := (Lit.int .i64 a).wf = true
theorem open_Int64S {H : Type} {enc : TypeId × Value → H} {w : World} {base : Nat} {spare : Nat → Bool} {held : Bool} {fuel : Nat} {cs : List Value} {x : DataW H × List MemPlace} (h : DataW.trod enc Try.prog w base spare held fuel (28 : Nat) cs = some x) :
    ∃ (A : Option Addr) (n c : Nat) (l : List AInt64), cs = [.slice A n c] ∧ l.length = n ∧ n ≤ c ∧ c ≤ maxLen ∧ Rd cInt64 1 w w.heap.size A l ∧ ∀ (i : Nat) (a : AInt64), l[i]? = some a → okInt64 w w.heap.size a := by
  obtain ⟨A, n, c, hcs, hnc, hcm, hr⟩ := open_rows Try.underlying28 (k := 1) (by kernel_rfl) (by omega) h
  refine ⟨A, n, c, ?_⟩
  rcases hr with h0 | ⟨g, o, hA, hg, hel⟩
  · subst h0; exact ⟨[], hcs, rfl, hnc, hcm, Rd.nil_, fun i a h => by simp at h⟩
  · have hall : ∀ i, i < n → ∃ a : AInt64, (∀ j u, (cInt64 a)[j]? = some u → w.cell? ⟨g, o + i * 1 + j, none⟩ = some u) ∧ okInt64 w w.heap.size a := by
      intro i hi
      obtain ⟨es, m, y, hes, hcell, ht⟩ := hel i hi
      match es, hes with
      | [c0], _ =>
        obtain ⟨c0', e_c0, -, w_c0⟩ := DataW.trod_int Try.underlying2 ht; obtain rfl := (List.cons.inj e_c0).1
        exact ⟨c0', hcell, w_c0⟩
    obtain ⟨l, hl, hp⟩ := list_of hall
    exact ⟨l, hcs, hl, hnc, hcm, .inr ⟨g, o, hA, hg, fun k a hk => (hp k a hk).1⟩, fun i a hi => (hp i a hi).2⟩
abbrev AStatement : Type := Int × ByteArray × ByteArray × Int × Int × (Option Addr × Nat × List ATerm) × Int × Int × (Option Addr × Nat × List ATerm) × (Option Addr × Nat × List AString) × (Option Addr × Nat × List AInt64) × Bool × Bool
def cStatement (a : AStatement) : List Value := [.int .i64 a.1, .string a.2.1, .string a.2.2.1, .int .i64 a.2.2.2.1, .int .i64 a.2.2.2.2.1, .slice a.2.2.2.2.2.1.1 a.2.2.2.2.2.1.2.2.length a.2.2.2.2.2.1.2.1, .int .i64 a.2.2.2.2.2.2.1, .int .i64 a.2.2.2.2.2.2.2.1, .slice a.2.2.2.2.2.2.2.2.1.1 a.2.2.2.2.2.2.2.2.1.2.2.length a.2.2.2.2.2.2.2.2.1.2.1, .slice a.2.2.2.2.2.2.2.2.2.1.1 a.2.2.2.2.2.2.2.2.2.1.2.2.length a.2.2.2.2.2.2.2.2.2.1.2.1, .slice a.2.2.2.2.2.2.2.2.2.2.1.1 a.2.2.2.2.2.2.2.2.2.2.1.2.2.length a.2.2.2.2.2.2.2.2.2.2.1.2.1, .bool a.2.2.2.2.2.2.2.2.2.2.2.1, .bool a.2.2.2.2.2.2.2.2.2.2.2.2]
theorem cStatement_len (a : AStatement) : (cStatement a).length = 13 := rfl
theorem cStatement_one (a : AStatement) : ∀ u ∈ cStatement a, u.oneCell' = true := by
  intro u hu
  simp only [cStatement, List.mem_cons, List.not_mem_nil, or_false] at hu
  rcases hu with rfl | rfl | rfl | rfl | rfl | rfl | rfl | rfl | rfl | rfl | rfl | rfl | rfl <;> rfl
def okStatement (w : World) (B : Nat) (a : AStatement) : Prop := (Lit.int .i64 a.1).wf = true ∧ a.2.1.size ≤ maxLen ∧ a.2.2.1.size ≤ maxLen ∧ (Lit.int .i64 a.2.2.2.1).wf = true ∧ (Lit.int .i64 a.2.2.2.2.1).wf = true ∧ a.2.2.2.2.2.1.2.2.length ≤ a.2.2.2.2.2.1.2.1 ∧ a.2.2.2.2.2.1.2.1 ≤ maxLen ∧ Rd cTerm 3 w B a.2.2.2.2.2.1.1 a.2.2.2.2.2.1.2.2 ∧ (∀ (i : Nat) (b : ATerm), a.2.2.2.2.2.1.2.2[i]? = some b → okTerm w B b) ∧ (Lit.int .i64 a.2.2.2.2.2.2.1).wf = true ∧ (Lit.int .i64 a.2.2.2.2.2.2.2.1).wf = true ∧ a.2.2.2.2.2.2.2.2.1.2.2.length ≤ a.2.2.2.2.2.2.2.2.1.2.1 ∧ a.2.2.2.2.2.2.2.2.1.2.1 ≤ maxLen ∧ Rd cTerm 3 w B a.2.2.2.2.2.2.2.2.1.1 a.2.2.2.2.2.2.2.2.1.2.2 ∧ (∀ (i : Nat) (b : ATerm), a.2.2.2.2.2.2.2.2.1.2.2[i]? = some b → okTerm w B b) ∧ a.2.2.2.2.2.2.2.2.2.1.2.2.length ≤ a.2.2.2.2.2.2.2.2.2.1.2.1 ∧ a.2.2.2.2.2.2.2.2.2.1.2.1 ≤ maxLen ∧ Rd cString 1 w B a.2.2.2.2.2.2.2.2.2.1.1 a.2.2.2.2.2.2.2.2.2.1.2.2 ∧ (∀ (i : Nat) (b : AString), a.2.2.2.2.2.2.2.2.2.1.2.2[i]? = some b → okString w B b) ∧ a.2.2.2.2.2.2.2.2.2.2.1.2.2.length ≤ a.2.2.2.2.2.2.2.2.2.2.1.2.1 ∧ a.2.2.2.2.2.2.2.2.2.2.1.2.1 ≤ maxLen ∧ Rd cInt64 1 w B a.2.2.2.2.2.2.2.2.2.2.1.1 a.2.2.2.2.2.2.2.2.2.2.1.2.2 ∧ (∀ (i : Nat) (b : AInt64), a.2.2.2.2.2.2.2.2.2.2.1.2.2[i]? = some b → okInt64 w B b)
set_option maxRecDepth 100000 in
theorem open_Statement {H : Type} {enc : TypeId × Value → H} {w : World} {r : Reach} {base b0 : Nat} {spare : Nat → Bool} {held : Bool} {v : Value} {d : DataW H} {p : List MemPlace} (hv : Value.okWide Try.prog w r b0 (30 : Nat) v) (h : DataW.Trod enc Try.prog w base spare held (30 : Nat) v d p) :
    ∃ a : AStatement, v = .agg #[.int .i64 a.1, .string a.2.1, .string a.2.2.1, .int .i64 a.2.2.2.1, .int .i64 a.2.2.2.2.1, .slice a.2.2.2.2.2.1.1 a.2.2.2.2.2.1.2.2.length a.2.2.2.2.2.1.2.1, .int .i64 a.2.2.2.2.2.2.1, .int .i64 a.2.2.2.2.2.2.2.1, .slice a.2.2.2.2.2.2.2.2.1.1 a.2.2.2.2.2.2.2.2.1.2.2.length a.2.2.2.2.2.2.2.2.1.2.1, .slice a.2.2.2.2.2.2.2.2.2.1.1 a.2.2.2.2.2.2.2.2.2.1.2.2.length a.2.2.2.2.2.2.2.2.2.1.2.1, .slice a.2.2.2.2.2.2.2.2.2.2.1.1 a.2.2.2.2.2.2.2.2.2.2.1.2.2.length a.2.2.2.2.2.2.2.2.2.2.1.2.1, .bool a.2.2.2.2.2.2.2.2.2.2.2.1, .bool a.2.2.2.2.2.2.2.2.2.2.2.2] ∧ okStatement w w.heap.size a := by
  obtain ⟨l, fuel, rfl, hk, hf⟩ := open_cells Try.underlying30 (k := 13) (by kernel_rfl) hv h
  match l, hk with
  | [c0, c1, c2, c3, c4, c5, c6, c7, c8, c9, c10, c11, c12], _ =>
    replace hf : DataW.trod enc Try.prog _ _ _ _ fuel (30 : Nat) [c0, c1, c2, c3, c4, c5, c6, c7, c8, c9, c10, c11, c12] = some _ := hf
    obtain ⟨n_hf_0, y_hf_0, hf_0⟩ := trod_field Try.underlying30 hf 0 _ rfl (k := 1) (by kernel_rfl); replace hf_0 : DataW.trod enc Try.prog _ _ _ _ n_hf_0 (2 : Nat) [c0] = some y_hf_0 := hf_0
    obtain ⟨c0', e_c0, -, w_c0⟩ := DataW.trod_int Try.underlying2 hf_0; obtain rfl := (List.cons.inj e_c0).1
    obtain ⟨n_hf_1, y_hf_1, hf_1⟩ := trod_field Try.underlying30 hf 1 _ rfl (k := 1) (by kernel_rfl); replace hf_1 : DataW.trod enc Try.prog _ _ _ _ n_hf_1 (9 : Nat) [c1] = some y_hf_1 := hf_1
    obtain ⟨c1', e_c1, -, w_c1⟩ := DataW.trod_string Try.underlying9 hf_1; obtain rfl := (List.cons.inj e_c1).1
    obtain ⟨n_hf_2, y_hf_2, hf_2⟩ := trod_field Try.underlying30 hf 2 _ rfl (k := 1) (by kernel_rfl); replace hf_2 : DataW.trod enc Try.prog _ _ _ _ n_hf_2 (9 : Nat) [c2] = some y_hf_2 := hf_2
    obtain ⟨c2', e_c2, -, w_c2⟩ := DataW.trod_string Try.underlying9 hf_2; obtain rfl := (List.cons.inj e_c2).1
    obtain ⟨n_hf_3, y_hf_3, hf_3⟩ := trod_field Try.underlying30 hf 3 _ rfl (k := 3) (by kernel_rfl); replace hf_3 : DataW.trod enc Try.prog _ _ _ _ n_hf_3 (26 : Nat) [c3, c4, c5] = some y_hf_3 := hf_3
    obtain ⟨n_hf_3_0, y_hf_3_0, hf_3_0⟩ := trod_field Try.underlying26 hf_3 0 _ rfl (k := 2) (by kernel_rfl); replace hf_3_0 : DataW.trod enc Try.prog _ _ _ _ n_hf_3_0 (23 : Nat) [c3, c4] = some y_hf_3_0 := hf_3_0
    obtain ⟨n_hf_3_0_0, y_hf_3_0_0, hf_3_0_0⟩ := trod_field Try.underlying23 hf_3_0 0 _ rfl (k := 1) (by kernel_rfl); replace hf_3_0_0 : DataW.trod enc Try.prog _ _ _ _ n_hf_3_0_0 (2 : Nat) [c3] = some y_hf_3_0_0 := hf_3_0_0
    obtain ⟨c3', e_c3, -, w_c3⟩ := DataW.trod_int Try.underlying2 hf_3_0_0; obtain rfl := (List.cons.inj e_c3).1
    obtain ⟨n_hf_3_0_1, y_hf_3_0_1, hf_3_0_1⟩ := trod_field Try.underlying23 hf_3_0 1 _ rfl (k := 1) (by kernel_rfl); replace hf_3_0_1 : DataW.trod enc Try.prog _ _ _ _ n_hf_3_0_1 (2 : Nat) [c4] = some y_hf_3_0_1 := hf_3_0_1
    obtain ⟨c4', e_c4, -, w_c4⟩ := DataW.trod_int Try.underlying2 hf_3_0_1; obtain rfl := (List.cons.inj e_c4).1
    obtain ⟨n_hf_3_1, y_hf_3_1, hf_3_1⟩ := trod_field Try.underlying26 hf_3 1 _ rfl (k := 1) (by kernel_rfl); replace hf_3_1 : DataW.trod enc Try.prog _ _ _ _ n_hf_3_1 (24 : Nat) [c5] = some y_hf_3_1 := hf_3_1
    obtain ⟨c5A, c5n, c5c, c5l, e_c5, c5ln, c5nc, c5cm, c5rd, c5ok⟩ := open_TermS hf_3_1; obtain rfl := (List.cons.inj e_c5).1; subst c5ln
    obtain ⟨n_hf_4, y_hf_4, hf_4⟩ := trod_field Try.underlying30 hf 4 _ rfl (k := 3) (by kernel_rfl); replace hf_4 : DataW.trod enc Try.prog _ _ _ _ n_hf_4 (26 : Nat) [c6, c7, c8] = some y_hf_4 := hf_4
    obtain ⟨n_hf_4_0, y_hf_4_0, hf_4_0⟩ := trod_field Try.underlying26 hf_4 0 _ rfl (k := 2) (by kernel_rfl); replace hf_4_0 : DataW.trod enc Try.prog _ _ _ _ n_hf_4_0 (23 : Nat) [c6, c7] = some y_hf_4_0 := hf_4_0
    obtain ⟨n_hf_4_0_0, y_hf_4_0_0, hf_4_0_0⟩ := trod_field Try.underlying23 hf_4_0 0 _ rfl (k := 1) (by kernel_rfl); replace hf_4_0_0 : DataW.trod enc Try.prog _ _ _ _ n_hf_4_0_0 (2 : Nat) [c6] = some y_hf_4_0_0 := hf_4_0_0
    obtain ⟨c6', e_c6, -, w_c6⟩ := DataW.trod_int Try.underlying2 hf_4_0_0; obtain rfl := (List.cons.inj e_c6).1
    obtain ⟨n_hf_4_0_1, y_hf_4_0_1, hf_4_0_1⟩ := trod_field Try.underlying23 hf_4_0 1 _ rfl (k := 1) (by kernel_rfl); replace hf_4_0_1 : DataW.trod enc Try.prog _ _ _ _ n_hf_4_0_1 (2 : Nat) [c7] = some y_hf_4_0_1 := hf_4_0_1
    obtain ⟨c7', e_c7, -, w_c7⟩ := DataW.trod_int Try.underlying2 hf_4_0_1; obtain rfl := (List.cons.inj e_c7).1
    obtain ⟨n_hf_4_1, y_hf_4_1, hf_4_1⟩ := trod_field Try.underlying26 hf_4 1 _ rfl (k := 1) (by kernel_rfl); replace hf_4_1 : DataW.trod enc Try.prog _ _ _ _ n_hf_4_1 (24 : Nat) [c8] = some y_hf_4_1 := hf_4_1
    obtain ⟨c8A, c8n, c8c, c8l, e_c8, c8ln, c8nc, c8cm, c8rd, c8ok⟩ := open_TermS hf_4_1; obtain rfl := (List.cons.inj e_c8).1; subst c8ln
    obtain ⟨n_hf_5, y_hf_5, hf_5⟩ := trod_field Try.underlying30 hf 5 _ rfl (k := 1) (by kernel_rfl); replace hf_5 : DataW.trod enc Try.prog _ _ _ _ n_hf_5 (27 : Nat) [c9] = some y_hf_5 := hf_5
    obtain ⟨c9A, c9n, c9c, c9l, e_c9, c9ln, c9nc, c9cm, c9rd, c9ok⟩ := open_StringS hf_5; obtain rfl := (List.cons.inj e_c9).1; subst c9ln
    obtain ⟨n_hf_6, y_hf_6, hf_6⟩ := trod_field Try.underlying30 hf 6 _ rfl (k := 1) (by kernel_rfl); replace hf_6 : DataW.trod enc Try.prog _ _ _ _ n_hf_6 (28 : Nat) [c10] = some y_hf_6 := hf_6
    obtain ⟨c10A, c10n, c10c, c10l, e_c10, c10ln, c10nc, c10cm, c10rd, c10ok⟩ := open_Int64S hf_6; obtain rfl := (List.cons.inj e_c10).1; subst c10ln
    obtain ⟨n_hf_7, y_hf_7, hf_7⟩ := trod_field Try.underlying30 hf 7 _ rfl (k := 1) (by kernel_rfl); replace hf_7 : DataW.trod enc Try.prog _ _ _ _ n_hf_7 (4 : Nat) [c11] = some y_hf_7 := hf_7
    obtain ⟨c11', e_c11, -⟩ := DataW.trod_bool Try.underlying4 hf_7; obtain rfl := (List.cons.inj e_c11).1
    obtain ⟨n_hf_8, y_hf_8, hf_8⟩ := trod_field Try.underlying30 hf 8 _ rfl (k := 1) (by kernel_rfl); replace hf_8 : DataW.trod enc Try.prog _ _ _ _ n_hf_8 (4 : Nat) [c12] = some y_hf_8 := hf_8
    obtain ⟨c12', e_c12, -⟩ := DataW.trod_bool Try.underlying4 hf_8; obtain rfl := (List.cons.inj e_c12).1
    exact ⟨(c0', c1', c2', c3', c4', (c5A, c5c, c5l), c6', c7', (c8A, c8c, c8l), (c9A, c9c, c9l), (c10A, c10c, c10l), c11', c12'), rfl, ⟨w_c0, w_c1, w_c2, w_c3, w_c4, c5nc, c5cm, c5rd, c5ok, w_c6, w_c7, c8nc, c8cm, c8rd, c8ok, c9nc, c9cm, c9rd, c9ok, c10nc, c10cm, c10rd, c10ok⟩⟩
abbrev DInt64 : Type := Int
def RvInt64 : Rv DInt64 := fun _ _ row d => row = [.int .i64 d]
instance niceInt64 : Nice RvInt64 1 where
  len := by rintro w B row d rfl; rfl
  one := by
    rintro w B row d rfl u hu
    simp only [List.mem_cons, List.not_mem_nil, or_false] at hu
    subst hu; rfl
  keep := fun _ h => h
  more := fun _ h => h
def totInt64 (d : DInt64) : Nat := 0
def SzInt64 (d : DInt64) : Prop := True
abbrev DString : Type := ByteArray
def RvString : Rv DString := fun _ _ row d => row = [.string d]
instance niceString : Nice RvString 1 where
  len := by rintro w B row d rfl; rfl
  one := by
    rintro w B row d rfl u hu
    simp only [List.mem_cons, List.not_mem_nil, or_false] at hu
    subst hu; rfl
  keep := fun _ h => h
  more := fun _ h => h
def totString (d : DString) : Nat := d.size
def SzString (d : DString) : Prop := d.size ≤ maxLen
abbrev DFrac : Type := Int × Int
def RvFrac : Rv DFrac := fun _ _ row d => row = [.int .i64 d.1, .int .i64 d.2]
instance niceFrac : Nice RvFrac 2 where
  len := by rintro w B row d rfl; rfl
  one := by
    rintro w B row d rfl u hu
    simp only [List.mem_cons, List.not_mem_nil, or_false] at hu
    rcases hu with rfl | rfl <;> rfl
  keep := fun _ h => h
  more := fun _ h => h
def totFrac (d : DFrac) : Nat := 0
def SzFrac (d : DFrac) : Prop := True
abbrev DTerm : Type := ByteArray × Int × Int
def RvTerm : Rv DTerm := fun _ _ row d => row = [.string d.1, .int .i64 d.2.1, .int .i64 d.2.2]
instance niceTerm : Nice RvTerm 3 where
  len := by rintro w B row d rfl; rfl
  one := by
    rintro w B row d rfl u hu
    simp only [List.mem_cons, List.not_mem_nil, or_false] at hu
    rcases hu with rfl | rfl | rfl <;> rfl
  keep := fun _ h => h
  more := fun _ h => h
def totTerm (d : DTerm) : Nat := d.1.size
def SzTerm (d : DTerm) : Prop := d.1.size ≤ maxLen
abbrev DLinear : Type := Int × Int × List DTerm
def RvLinear : Rv DLinear := fun w B row d => ∃ (A2 : Option Addr) (c2 : Nat), row = [.int .i64 d.1, .int .i64 d.2.1, .slice A2 d.2.2.length c2] ∧ Row RvTerm 3 w B A2 d.2.2
instance niceLinear : Nice RvLinear 3 where
  len := by rintro w B row d ⟨_, _, rfl, -⟩; rfl
  one := by
    rintro w B row d ⟨_, _, rfl, -⟩ u hu
    simp only [List.mem_cons, List.not_mem_nil, or_false] at hu
    rcases hu with rfl | rfl | rfl <;> rfl
  keep := by
    rintro w w' B row d hk ⟨A2, c2, rfl, h2⟩
    exact ⟨_, _, rfl, h2.keep hk⟩
  more := by
    rintro w B B' row d hB ⟨A2, c2, rfl, h2⟩
    exact ⟨_, _, rfl, h2.more hB⟩
def totLinear (d : DLinear) : Nat := totRow totTerm d.2.2
def SzLinear (d : DLinear) : Prop := szRow SzTerm d.2.2
abbrev DStatement : Type := Int × ByteArray × ByteArray × Int × Int × List DTerm × Int × Int × List DTerm × List DString × List DInt64 × Bool × Bool
def RvStatement : Rv DStatement := fun w B row d => ∃ (A5 : Option Addr) (c5 : Nat) (A8 : Option Addr) (c8 : Nat) (A9 : Option Addr) (c9 : Nat) (A10 : Option Addr) (c10 : Nat), row = [.int .i64 d.1, .string d.2.1, .string d.2.2.1, .int .i64 d.2.2.2.1, .int .i64 d.2.2.2.2.1, .slice A5 d.2.2.2.2.2.1.length c5, .int .i64 d.2.2.2.2.2.2.1, .int .i64 d.2.2.2.2.2.2.2.1, .slice A8 d.2.2.2.2.2.2.2.2.1.length c8, .slice A9 d.2.2.2.2.2.2.2.2.2.1.length c9, .slice A10 d.2.2.2.2.2.2.2.2.2.2.1.length c10, .bool d.2.2.2.2.2.2.2.2.2.2.2.1, .bool d.2.2.2.2.2.2.2.2.2.2.2.2] ∧ Row RvTerm 3 w B A5 d.2.2.2.2.2.1 ∧ Row RvTerm 3 w B A8 d.2.2.2.2.2.2.2.2.1 ∧ Row RvString 1 w B A9 d.2.2.2.2.2.2.2.2.2.1 ∧ Row RvInt64 1 w B A10 d.2.2.2.2.2.2.2.2.2.2.1
instance niceStatement : Nice RvStatement 13 where
  len := by rintro w B row d ⟨_, _, _, _, _, _, _, _, rfl, -⟩; rfl
  one := by
    rintro w B row d ⟨_, _, _, _, _, _, _, _, rfl, -⟩ u hu
    simp only [List.mem_cons, List.not_mem_nil, or_false] at hu
    rcases hu with rfl | rfl | rfl | rfl | rfl | rfl | rfl | rfl | rfl | rfl | rfl | rfl | rfl <;> rfl
  keep := by
    rintro w w' B row d hk ⟨A5, c5, A8, c8, A9, c9, A10, c10, rfl, h5, h8, h9, h10⟩
    exact ⟨_, _, _, _, _, _, _, _, rfl, h5.keep hk, h8.keep hk, h9.keep hk, h10.keep hk⟩
  more := by
    rintro w B B' row d hB ⟨A5, c5, A8, c8, A9, c9, A10, c10, rfl, h5, h8, h9, h10⟩
    exact ⟨_, _, _, _, _, _, _, _, rfl, h5.more hB, h8.more hB, h9.more hB, h10.more hB⟩
def totStatement (d : DStatement) : Nat := d.2.1.size + d.2.2.1.size + totRow totTerm d.2.2.2.2.2.1 + totRow totTerm d.2.2.2.2.2.2.2.2.1 + totRow totString d.2.2.2.2.2.2.2.2.2.1 + totRow totInt64 d.2.2.2.2.2.2.2.2.2.2.1
def SzStatement (d : DStatement) : Prop := d.2.1.size ≤ maxLen ∧ d.2.2.1.size ≤ maxLen ∧ szRow SzTerm d.2.2.2.2.2.1 ∧ szRow SzTerm d.2.2.2.2.2.2.2.2.1 ∧ szRow SzString d.2.2.2.2.2.2.2.2.2.1 ∧ szRow SzInt64 d.2.2.2.2.2.2.2.2.2.2.1
theorem sz_map {α D : Type} {g : α → D} {P : D → Prop} {ok : α → Prop} {l : List α} (hz : ∀ a, ok a → P (g a)) (h : ∀ (i : Nat) (b : α), l[i]? = some b → ok b) (i : Nat) (d : D) (hd : (l.map g)[i]? = some d) : P d := by
  rw [List.getElem?_map] at hd
  cases ha : l[i]? with
  | none => rw [ha] at hd; cases hd
  | some a => rw [ha] at hd; obtain rfl := Option.some.inj hd; exact hz a (h i a ha)
def dTerm (a : ATerm) : DTerm := (a.1, a.2.1, a.2.2)
theorem rv_Term {w : World} {B : Nat} (a : ATerm) (h : okTerm w B a) : RvTerm w B (cTerm a) (dTerm a) := by
  rfl
theorem sz_Term {w : World} {B : Nat} (a : ATerm) (h : okTerm w B a) : SzTerm (dTerm a) := by
  obtain ⟨s0, _, _⟩ := h
  exact s0
def dString (a : AString) : DString := a
theorem rv_String {w : World} {B : Nat} (a : AString) (h : okString w B a) : RvString w B (cString a) (dString a) := by
  rfl
theorem sz_String {w : World} {B : Nat} (a : AString) (h : okString w B a) : SzString (dString a) := by
  have s0 := h
  exact s0
def dInt64 (a : AInt64) : DInt64 := a
theorem rv_Int64 {w : World} {B : Nat} (a : AInt64) (h : okInt64 w B a) : RvInt64 w B (cInt64 a) (dInt64 a) := by
  rfl
theorem sz_Int64 {w : World} {B : Nat} (a : AInt64) (h : okInt64 w B a) : SzInt64 (dInt64 a) := by
  skip
  trivial
def dStatement (a : AStatement) : DStatement := (a.1, a.2.1, a.2.2.1, a.2.2.2.1, a.2.2.2.2.1, a.2.2.2.2.2.1.2.2.map dTerm, a.2.2.2.2.2.2.1, a.2.2.2.2.2.2.2.1, a.2.2.2.2.2.2.2.2.1.2.2.map dTerm, a.2.2.2.2.2.2.2.2.2.1.2.2.map dString, a.2.2.2.2.2.2.2.2.2.2.1.2.2.map dInt64, a.2.2.2.2.2.2.2.2.2.2.2.1, a.2.2.2.2.2.2.2.2.2.2.2.2)
theorem rv_Statement {w : World} {B : Nat} (a : AStatement) (h : okStatement w B a) : RvStatement w B (cStatement a) (dStatement a) := by
  obtain ⟨_, s1, s2, _, _, nc5, cm5, rd5, ok5, _, _, nc8, cm8, rd8, ok8, nc9, cm9, rd9, ok9, nc10, cm10, rd10, ok10⟩ := h
  refine ⟨a.2.2.2.2.2.1.1, a.2.2.2.2.2.1.2.1, a.2.2.2.2.2.2.2.2.1.1, a.2.2.2.2.2.2.2.2.1.2.1, a.2.2.2.2.2.2.2.2.2.1.1, a.2.2.2.2.2.2.2.2.2.1.2.1, a.2.2.2.2.2.2.2.2.2.2.1.1, a.2.2.2.2.2.2.2.2.2.2.1.2.1, ?_, Row.of rd5 (fun i b hb => rv_Term _ (ok5 i b hb)), Row.of rd8 (fun i b hb => rv_Term _ (ok8 i b hb)), Row.of rd9 (fun i b hb => rv_String _ (ok9 i b hb)), Row.of rd10 (fun i b hb => rv_Int64 _ (ok10 i b hb))⟩
  simp [cStatement, dStatement]
theorem sz_Statement {w : World} {B : Nat} (a : AStatement) (h : okStatement w B a) : SzStatement (dStatement a) := by
  obtain ⟨_, s1, s2, _, _, nc5, cm5, rd5, ok5, _, _, nc8, cm8, rd8, ok8, nc9, cm9, rd9, ok9, nc10, cm10, rd10, ok10⟩ := h
  exact ⟨s1, s2, ⟨Nat.le_trans (Nat.le_of_eq (List.length_map _)) (Nat.le_trans nc5 cm5), fun i b hb => sz_map sz_Term ok5 i b hb⟩, ⟨Nat.le_trans (Nat.le_of_eq (List.length_map _)) (Nat.le_trans nc8 cm8), fun i b hb => sz_map sz_Term ok8 i b hb⟩, ⟨Nat.le_trans (Nat.le_of_eq (List.length_map _)) (Nat.le_trans nc9 cm9), fun i b hb => sz_map sz_String ok9 i b hb⟩, ⟨Nat.le_trans (Nat.le_of_eq (List.length_map _)) (Nat.le_trans nc10 cm10), fun i b hb => sz_map sz_Int64 ok10 i b hb⟩⟩
end Go.Proofs.Ytjpadamlfhceaaa
