/- Values of Glyph, GlyphSet that come in: opened to their cells, as data. -/
import Derived.Test.YtelefmogmloniaaHx
import Derived.Test.YtelefmogmloniaaProg
import Derived.OpenShut
import Derived.Below
import Derived.Carry
namespace Go.Proofs.Ytelefmogmloniaa
open Go.RowKit Go.ChangeShapes Go.WideShapes Go.Deep Go.Joins
set_option linter.unusedVariables false
abbrev AKnot : Type := Int × Int × Bool
def cKnot (a : AKnot) : List Value := [.int .i64 a.1, .int .i64 a.2.1, .bool a.2.2]
theorem cKnot_len (a : AKnot) : (cKnot a).length = 3 := rfl
theorem cKnot_one (a : AKnot) : ∀ u ∈ cKnot a, u.oneCell' = true := by
  intro u hu
  simp only [cKnot, List.mem_cons, List.not_mem_nil, or_false] at hu
  rcases hu with rfl | rfl | rfl <;> rfl
def okKnot (w : World) (B : Nat) (a : AKnot) : Prop := (Lit.int .i64 a.1).wf = true ∧ (Lit.int .i64 a.2.1).wf = true
theorem open_KnotS {H : Type} {enc : TypeId × Value → H} {w : World} {base : Nat} {spare : Nat → Bool} {held : Bool} {fuel : Nat} {cs : List Value} {x : DataW H × List MemPlace} (h : DataW.trod enc Try.prog w base spare held fuel (189 : Nat) cs = some x) :
    ∃ (A : Option Addr) (n c : Nat) (l : List AKnot), cs = [.slice A n c] ∧ l.length = n ∧ n ≤ c ∧ c ≤ maxLen ∧ Rd cKnot 3 w w.heap.size A l ∧ ∀ (i : Nat) (a : AKnot), l[i]? = some a → okKnot w w.heap.size a := by
  obtain ⟨A, n, c, hcs, hnc, hcm, hr⟩ := open_rows Try.underlying189 (k := 3) (by kernel_rfl) (by omega) h
  refine ⟨A, n, c, ?_⟩
  rcases hr with h0 | ⟨g, o, hA, hg, hel⟩
  · subst h0; exact ⟨[], hcs, rfl, hnc, hcm, Rd.nil_, fun i a h => by simp at h⟩
  · have hall : ∀ i, i < n → ∃ a : AKnot, (∀ j u, (cKnot a)[j]? = some u → w.cell? ⟨g, o + i * 3 + j, none⟩ = some u) ∧ okKnot w w.heap.size a := by
      intro i hi
      obtain ⟨es, m, y, hes, hcell, ht⟩ := hel i hi
      match es, hes with
      | [c0, c1, c2], _ =>
        obtain ⟨n_ht_0, y_ht_0, ht_0⟩ := trod_field Try.underlying224 ht 0 _ rfl (k := 2) (by kernel_rfl); replace ht_0 : DataW.trod enc Try.prog _ _ _ _ n_ht_0 (143 : Nat) [c0, c1] = some y_ht_0 := ht_0
        obtain ⟨n_ht_0_0, y_ht_0_0, ht_0_0⟩ := trod_field Try.underlying143 ht_0 0 _ rfl (k := 1) (by kernel_rfl); replace ht_0_0 : DataW.trod enc Try.prog _ _ _ _ n_ht_0_0 (2 : Nat) [c0] = some y_ht_0_0 := ht_0_0
        obtain ⟨c0', e_c0, -, w_c0⟩ := DataW.trod_int Try.underlying2 ht_0_0; obtain rfl := (List.cons.inj e_c0).1
        obtain ⟨n_ht_0_1, y_ht_0_1, ht_0_1⟩ := trod_field Try.underlying143 ht_0 1 _ rfl (k := 1) (by kernel_rfl); replace ht_0_1 : DataW.trod enc Try.prog _ _ _ _ n_ht_0_1 (2 : Nat) [c1] = some y_ht_0_1 := ht_0_1
        obtain ⟨c1', e_c1, -, w_c1⟩ := DataW.trod_int Try.underlying2 ht_0_1; obtain rfl := (List.cons.inj e_c1).1
        obtain ⟨n_ht_1, y_ht_1, ht_1⟩ := trod_field Try.underlying224 ht 1 _ rfl (k := 1) (by kernel_rfl); replace ht_1 : DataW.trod enc Try.prog _ _ _ _ n_ht_1 (4 : Nat) [c2] = some y_ht_1 := ht_1
        obtain ⟨c2', e_c2, -⟩ := DataW.trod_bool Try.underlying4 ht_1; obtain rfl := (List.cons.inj e_c2).1
        exact ⟨(c0', c1', c2'), hcell, ⟨w_c0, w_c1⟩⟩
    obtain ⟨l, hl, hp⟩ := list_of hall
    exact ⟨l, hcs, hl, hnc, hcm, .inr ⟨g, o, hA, hg, fun k a hk => (hp k a hk).1⟩, fun i a hi => (hp i a hi).2⟩
abbrev ALoop : Type := (Option Addr × Nat × List AKnot)
def cLoop (a : ALoop) : List Value := [.slice a.1 a.2.2.length a.2.1]
theorem cLoop_len (a : ALoop) : (cLoop a).length = 1 := rfl
theorem cLoop_one (a : ALoop) : ∀ u ∈ cLoop a, u.oneCell' = true := by
  intro u hu
  simp only [cLoop, List.mem_cons, List.not_mem_nil, or_false] at hu
  subst hu; rfl
def okLoop (w : World) (B : Nat) (a : ALoop) : Prop := a.2.2.length ≤ a.2.1 ∧ a.2.1 ≤ maxLen ∧ Rd cKnot 3 w B a.1 a.2.2 ∧ (∀ (i : Nat) (b : AKnot), a.2.2[i]? = some b → okKnot w B b)
theorem open_LoopS {H : Type} {enc : TypeId × Value → H} {w : World} {base : Nat} {spare : Nat → Bool} {held : Bool} {fuel : Nat} {cs : List Value} {x : DataW H × List MemPlace} (h : DataW.trod enc Try.prog w base spare held fuel (22 : Nat) cs = some x) :
    ∃ (A : Option Addr) (n c : Nat) (l : List ALoop), cs = [.slice A n c] ∧ l.length = n ∧ n ≤ c ∧ c ≤ maxLen ∧ Rd cLoop 1 w w.heap.size A l ∧ ∀ (i : Nat) (a : ALoop), l[i]? = some a → okLoop w w.heap.size a := by
  obtain ⟨A, n, c, hcs, hnc, hcm, hr⟩ := open_rows Try.underlying22 (k := 1) (by kernel_rfl) (by omega) h
  refine ⟨A, n, c, ?_⟩
  rcases hr with h0 | ⟨g, o, hA, hg, hel⟩
  · subst h0; exact ⟨[], hcs, rfl, hnc, hcm, Rd.nil_, fun i a h => by simp at h⟩
  · have hall : ∀ i, i < n → ∃ a : ALoop, (∀ j u, (cLoop a)[j]? = some u → w.cell? ⟨g, o + i * 1 + j, none⟩ = some u) ∧ okLoop w w.heap.size a := by
      intro i hi
      obtain ⟨es, m, y, hes, hcell, ht⟩ := hel i hi
      match es, hes with
      | [c0], _ =>
        obtain ⟨n_ht_0, y_ht_0, ht_0⟩ := trod_field Try.underlying191 ht 0 _ rfl (k := 1) (by kernel_rfl); replace ht_0 : DataW.trod enc Try.prog _ _ _ _ n_ht_0 (189 : Nat) [c0] = some y_ht_0 := ht_0
        obtain ⟨c0A, c0n, c0c, c0l, e_c0, c0ln, c0nc, c0cm, c0rd, c0ok⟩ := open_KnotS ht_0; obtain rfl := (List.cons.inj e_c0).1; subst c0ln
        exact ⟨(c0A, c0c, c0l), hcell, ⟨c0nc, c0cm, c0rd, c0ok⟩⟩
    obtain ⟨l, hl, hp⟩ := list_of hall
    exact ⟨l, hcs, hl, hnc, hcm, .inr ⟨g, o, hA, hg, fun k a hk => (hp k a hk).1⟩, fun i a hi => (hp i a hi).2⟩
abbrev APart : Type := Int × Int × Int
def cPart (a : APart) : List Value := [.int .i64 a.1, .int .i64 a.2.1, .int .i64 a.2.2]
theorem cPart_len (a : APart) : (cPart a).length = 3 := rfl
theorem cPart_one (a : APart) : ∀ u ∈ cPart a, u.oneCell' = true := by
  intro u hu
  simp only [cPart, List.mem_cons, List.not_mem_nil, or_false] at hu
  rcases hu with rfl | rfl | rfl <;> rfl
def okPart (w : World) (B : Nat) (a : APart) : Prop := (Lit.int .i64 a.1).wf = true ∧ (Lit.int .i64 a.2.1).wf = true ∧ (Lit.int .i64 a.2.2).wf = true
theorem open_PartS {H : Type} {enc : TypeId × Value → H} {w : World} {base : Nat} {spare : Nat → Bool} {held : Bool} {fuel : Nat} {cs : List Value} {x : DataW H × List MemPlace} (h : DataW.trod enc Try.prog w base spare held fuel (25 : Nat) cs = some x) :
    ∃ (A : Option Addr) (n c : Nat) (l : List APart), cs = [.slice A n c] ∧ l.length = n ∧ n ≤ c ∧ c ≤ maxLen ∧ Rd cPart 3 w w.heap.size A l ∧ ∀ (i : Nat) (a : APart), l[i]? = some a → okPart w w.heap.size a := by
  obtain ⟨A, n, c, hcs, hnc, hcm, hr⟩ := open_rows Try.underlying25 (k := 3) (by kernel_rfl) (by omega) h
  refine ⟨A, n, c, ?_⟩
  rcases hr with h0 | ⟨g, o, hA, hg, hel⟩
  · subst h0; exact ⟨[], hcs, rfl, hnc, hcm, Rd.nil_, fun i a h => by simp at h⟩
  · have hall : ∀ i, i < n → ∃ a : APart, (∀ j u, (cPart a)[j]? = some u → w.cell? ⟨g, o + i * 3 + j, none⟩ = some u) ∧ okPart w w.heap.size a := by
      intro i hi
      obtain ⟨es, m, y, hes, hcell, ht⟩ := hel i hi
      match es, hes with
      | [c0, c1, c2], _ =>
        obtain ⟨n_ht_0, y_ht_0, ht_0⟩ := trod_field Try.underlying152 ht 0 _ rfl (k := 1) (by kernel_rfl); replace ht_0 : DataW.trod enc Try.prog _ _ _ _ n_ht_0 (2 : Nat) [c0] = some y_ht_0 := ht_0
        obtain ⟨c0', e_c0, -, w_c0⟩ := DataW.trod_int Try.underlying2 ht_0; obtain rfl := (List.cons.inj e_c0).1
        obtain ⟨n_ht_1, y_ht_1, ht_1⟩ := trod_field Try.underlying152 ht 1 _ rfl (k := 2) (by kernel_rfl); replace ht_1 : DataW.trod enc Try.prog _ _ _ _ n_ht_1 (143 : Nat) [c1, c2] = some y_ht_1 := ht_1
        obtain ⟨n_ht_1_0, y_ht_1_0, ht_1_0⟩ := trod_field Try.underlying143 ht_1 0 _ rfl (k := 1) (by kernel_rfl); replace ht_1_0 : DataW.trod enc Try.prog _ _ _ _ n_ht_1_0 (2 : Nat) [c1] = some y_ht_1_0 := ht_1_0
        obtain ⟨c1', e_c1, -, w_c1⟩ := DataW.trod_int Try.underlying2 ht_1_0; obtain rfl := (List.cons.inj e_c1).1
        obtain ⟨n_ht_1_1, y_ht_1_1, ht_1_1⟩ := trod_field Try.underlying143 ht_1 1 _ rfl (k := 1) (by kernel_rfl); replace ht_1_1 : DataW.trod enc Try.prog _ _ _ _ n_ht_1_1 (2 : Nat) [c2] = some y_ht_1_1 := ht_1_1
        obtain ⟨c2', e_c2, -, w_c2⟩ := DataW.trod_int Try.underlying2 ht_1_1; obtain rfl := (List.cons.inj e_c2).1
        exact ⟨(c0', c1', c2'), hcell, ⟨w_c0, w_c1, w_c2⟩⟩
    obtain ⟨l, hl, hp⟩ := list_of hall
    exact ⟨l, hcs, hl, hnc, hcm, .inr ⟨g, o, hA, hg, fun k a hk => (hp k a hk).1⟩, fun i a hi => (hp i a hi).2⟩
abbrev AAnchor : Type := ByteArray × Int × Int
def cAnchor (a : AAnchor) : List Value := [.string a.1, .int .i64 a.2.1, .int .i64 a.2.2]
theorem cAnchor_len (a : AAnchor) : (cAnchor a).length = 3 := rfl
theorem cAnchor_one (a : AAnchor) : ∀ u ∈ cAnchor a, u.oneCell' = true := by
  intro u hu
  simp only [cAnchor, List.mem_cons, List.not_mem_nil, or_false] at hu
  rcases hu with rfl | rfl | rfl <;> rfl
def okAnchor (w : World) (B : Nat) (a : AAnchor) : Prop := a.1.size ≤ maxLen ∧ (Lit.int .i64 a.2.1).wf = true ∧ (Lit.int .i64 a.2.2).wf = true
theorem open_AnchorS {H : Type} {enc : TypeId × Value → H} {w : World} {base : Nat} {spare : Nat → Bool} {held : Bool} {fuel : Nat} {cs : List Value} {x : DataW H × List MemPlace} (h : DataW.trod enc Try.prog w base spare held fuel (26 : Nat) cs = some x) :
    ∃ (A : Option Addr) (n c : Nat) (l : List AAnchor), cs = [.slice A n c] ∧ l.length = n ∧ n ≤ c ∧ c ≤ maxLen ∧ Rd cAnchor 3 w w.heap.size A l ∧ ∀ (i : Nat) (a : AAnchor), l[i]? = some a → okAnchor w w.heap.size a := by
  obtain ⟨A, n, c, hcs, hnc, hcm, hr⟩ := open_rows Try.underlying26 (k := 3) (by kernel_rfl) (by omega) h
  refine ⟨A, n, c, ?_⟩
  rcases hr with h0 | ⟨g, o, hA, hg, hel⟩
  · subst h0; exact ⟨[], hcs, rfl, hnc, hcm, Rd.nil_, fun i a h => by simp at h⟩
  · have hall : ∀ i, i < n → ∃ a : AAnchor, (∀ j u, (cAnchor a)[j]? = some u → w.cell? ⟨g, o + i * 3 + j, none⟩ = some u) ∧ okAnchor w w.heap.size a := by
      intro i hi
      obtain ⟨es, m, y, hes, hcell, ht⟩ := hel i hi
      match es, hes with
      | [c0, c1, c2], _ =>
        obtain ⟨n_ht_0, y_ht_0, ht_0⟩ := trod_field Try.underlying145 ht 0 _ rfl (k := 1) (by kernel_rfl); replace ht_0 : DataW.trod enc Try.prog _ _ _ _ n_ht_0 (9 : Nat) [c0] = some y_ht_0 := ht_0
        obtain ⟨c0', e_c0, -, w_c0⟩ := DataW.trod_string Try.underlying9 ht_0; obtain rfl := (List.cons.inj e_c0).1
        obtain ⟨n_ht_1, y_ht_1, ht_1⟩ := trod_field Try.underlying145 ht 1 _ rfl (k := 2) (by kernel_rfl); replace ht_1 : DataW.trod enc Try.prog _ _ _ _ n_ht_1 (143 : Nat) [c1, c2] = some y_ht_1 := ht_1
        obtain ⟨n_ht_1_0, y_ht_1_0, ht_1_0⟩ := trod_field Try.underlying143 ht_1 0 _ rfl (k := 1) (by kernel_rfl); replace ht_1_0 : DataW.trod enc Try.prog _ _ _ _ n_ht_1_0 (2 : Nat) [c1] = some y_ht_1_0 := ht_1_0
        obtain ⟨c1', e_c1, -, w_c1⟩ := DataW.trod_int Try.underlying2 ht_1_0; obtain rfl := (List.cons.inj e_c1).1
        obtain ⟨n_ht_1_1, y_ht_1_1, ht_1_1⟩ := trod_field Try.underlying143 ht_1 1 _ rfl (k := 1) (by kernel_rfl); replace ht_1_1 : DataW.trod enc Try.prog _ _ _ _ n_ht_1_1 (2 : Nat) [c2] = some y_ht_1_1 := ht_1_1
        obtain ⟨c2', e_c2, -, w_c2⟩ := DataW.trod_int Try.underlying2 ht_1_1; obtain rfl := (List.cons.inj e_c2).1
        exact ⟨(c0', c1', c2'), hcell, ⟨w_c0, w_c1, w_c2⟩⟩
    obtain ⟨l, hl, hp⟩ := list_of hall
    exact ⟨l, hcs, hl, hnc, hcm, .inr ⟨g, o, hA, hg, fun k a hk => (hp k a hk).1⟩, fun i a hi => (hp i a hi).2⟩
abbrev AGlyph : Type := ByteArray × Int × Int × (Option Addr × Nat × List ALoop) × (Option Addr × Nat × List APart) × (Option Addr × Nat × List AAnchor) × ByteArray
def cGlyph (a : AGlyph) : List Value := [.string a.1, .int .i64 a.2.1, .int .i64 a.2.2.1, .slice a.2.2.2.1.1 a.2.2.2.1.2.2.length a.2.2.2.1.2.1, .slice a.2.2.2.2.1.1 a.2.2.2.2.1.2.2.length a.2.2.2.2.1.2.1, .slice a.2.2.2.2.2.1.1 a.2.2.2.2.2.1.2.2.length a.2.2.2.2.2.1.2.1, .string a.2.2.2.2.2.2]
theorem cGlyph_len (a : AGlyph) : (cGlyph a).length = 7 := rfl
theorem cGlyph_one (a : AGlyph) : ∀ u ∈ cGlyph a, u.oneCell' = true := by
  intro u hu
  simp only [cGlyph, List.mem_cons, List.not_mem_nil, or_false] at hu
  rcases hu with rfl | rfl | rfl | rfl | rfl | rfl | rfl <;> rfl
def okGlyph (w : World) (B : Nat) (a : AGlyph) : Prop := a.1.size ≤ maxLen ∧ (Lit.int .i64 a.2.1).wf = true ∧ (Lit.int .i64 a.2.2.1).wf = true ∧ a.2.2.2.1.2.2.length ≤ a.2.2.2.1.2.1 ∧ a.2.2.2.1.2.1 ≤ maxLen ∧ Rd cLoop 1 w B a.2.2.2.1.1 a.2.2.2.1.2.2 ∧ (∀ (i : Nat) (b : ALoop), a.2.2.2.1.2.2[i]? = some b → okLoop w B b) ∧ a.2.2.2.2.1.2.2.length ≤ a.2.2.2.2.1.2.1 ∧ a.2.2.2.2.1.2.1 ≤ maxLen ∧ Rd cPart 3 w B a.2.2.2.2.1.1 a.2.2.2.2.1.2.2 ∧ (∀ (i : Nat) (b : APart), a.2.2.2.2.1.2.2[i]? = some b → okPart w B b) ∧ a.2.2.2.2.2.1.2.2.length ≤ a.2.2.2.2.2.1.2.1 ∧ a.2.2.2.2.2.1.2.1 ≤ maxLen ∧ Rd cAnchor 3 w B a.2.2.2.2.2.1.1 a.2.2.2.2.2.1.2.2 ∧ (∀ (i : Nat) (b : AAnchor), a.2.2.2.2.2.1.2.2[i]? = some b → okAnchor w B b) ∧ a.2.2.2.2.2.2.size ≤ maxLen
set_option maxRecDepth 100000 in
theorem open_Glyph {H : Type} {enc : TypeId × Value → H} {w : World} {r : Reach} {base b0 : Nat} {spare : Nat → Bool} {held : Bool} {v : Value} {d : DataW H} {p : List MemPlace} (hv : Value.okWide Try.prog w r b0 (28 : Nat) v) (h : DataW.Trod enc Try.prog w base spare held (28 : Nat) v d p) :
    ∃ a : AGlyph, v = .agg #[.string a.1, .int .i64 a.2.1, .int .i64 a.2.2.1, .slice a.2.2.2.1.1 a.2.2.2.1.2.2.length a.2.2.2.1.2.1, .slice a.2.2.2.2.1.1 a.2.2.2.2.1.2.2.length a.2.2.2.2.1.2.1, .slice a.2.2.2.2.2.1.1 a.2.2.2.2.2.1.2.2.length a.2.2.2.2.2.1.2.1, .string a.2.2.2.2.2.2] ∧ okGlyph w w.heap.size a := by
  obtain ⟨l, fuel, rfl, hk, hf⟩ := open_cells Try.underlying28 (k := 7) (by kernel_rfl) hv h
  match l, hk with
  | [c0, c1, c2, c3, c4, c5, c6], _ =>
    replace hf : DataW.trod enc Try.prog _ _ _ _ fuel (28 : Nat) [c0, c1, c2, c3, c4, c5, c6] = some _ := hf
    obtain ⟨n_hf_0, y_hf_0, hf_0⟩ := trod_field Try.underlying28 hf 0 _ rfl (k := 1) (by kernel_rfl); replace hf_0 : DataW.trod enc Try.prog _ _ _ _ n_hf_0 (9 : Nat) [c0] = some y_hf_0 := hf_0
    obtain ⟨c0', e_c0, -, w_c0⟩ := DataW.trod_string Try.underlying9 hf_0; obtain rfl := (List.cons.inj e_c0).1
    obtain ⟨n_hf_1, y_hf_1, hf_1⟩ := trod_field Try.underlying28 hf 1 _ rfl (k := 1) (by kernel_rfl); replace hf_1 : DataW.trod enc Try.prog _ _ _ _ n_hf_1 (2 : Nat) [c1] = some y_hf_1 := hf_1
    obtain ⟨c1', e_c1, -, w_c1⟩ := DataW.trod_int Try.underlying2 hf_1; obtain rfl := (List.cons.inj e_c1).1
    obtain ⟨n_hf_2, y_hf_2, hf_2⟩ := trod_field Try.underlying28 hf 2 _ rfl (k := 1) (by kernel_rfl); replace hf_2 : DataW.trod enc Try.prog _ _ _ _ n_hf_2 (2 : Nat) [c2] = some y_hf_2 := hf_2
    obtain ⟨c2', e_c2, -, w_c2⟩ := DataW.trod_int Try.underlying2 hf_2; obtain rfl := (List.cons.inj e_c2).1
    obtain ⟨n_hf_3, y_hf_3, hf_3⟩ := trod_field Try.underlying28 hf 3 _ rfl (k := 1) (by kernel_rfl); replace hf_3 : DataW.trod enc Try.prog _ _ _ _ n_hf_3 (24 : Nat) [c3] = some y_hf_3 := hf_3
    obtain ⟨n_hf_3_0, y_hf_3_0, hf_3_0⟩ := trod_field Try.underlying24 hf_3 0 _ rfl (k := 1) (by kernel_rfl); replace hf_3_0 : DataW.trod enc Try.prog _ _ _ _ n_hf_3_0 (22 : Nat) [c3] = some y_hf_3_0 := hf_3_0
    obtain ⟨c3A, c3n, c3c, c3l, e_c3, c3ln, c3nc, c3cm, c3rd, c3ok⟩ := open_LoopS hf_3_0; obtain rfl := (List.cons.inj e_c3).1; subst c3ln
    obtain ⟨n_hf_4, y_hf_4, hf_4⟩ := trod_field Try.underlying28 hf 4 _ rfl (k := 1) (by kernel_rfl); replace hf_4 : DataW.trod enc Try.prog _ _ _ _ n_hf_4 (25 : Nat) [c4] = some y_hf_4 := hf_4
    obtain ⟨c4A, c4n, c4c, c4l, e_c4, c4ln, c4nc, c4cm, c4rd, c4ok⟩ := open_PartS hf_4; obtain rfl := (List.cons.inj e_c4).1; subst c4ln
    obtain ⟨n_hf_5, y_hf_5, hf_5⟩ := trod_field Try.underlying28 hf 5 _ rfl (k := 1) (by kernel_rfl); replace hf_5 : DataW.trod enc Try.prog _ _ _ _ n_hf_5 (26 : Nat) [c5] = some y_hf_5 := hf_5
    obtain ⟨c5A, c5n, c5c, c5l, e_c5, c5ln, c5nc, c5cm, c5rd, c5ok⟩ := open_AnchorS hf_5; obtain rfl := (List.cons.inj e_c5).1; subst c5ln
    obtain ⟨n_hf_6, y_hf_6, hf_6⟩ := trod_field Try.underlying28 hf 6 _ rfl (k := 1) (by kernel_rfl); replace hf_6 : DataW.trod enc Try.prog _ _ _ _ n_hf_6 (9 : Nat) [c6] = some y_hf_6 := hf_6
    obtain ⟨c6', e_c6, -, w_c6⟩ := DataW.trod_string Try.underlying9 hf_6; obtain rfl := (List.cons.inj e_c6).1
    exact ⟨(c0', c1', c2', (c3A, c3c, c3l), (c4A, c4c, c4l), (c5A, c5c, c5l), c6'), rfl, ⟨w_c0, w_c1, w_c2, c3nc, c3cm, c3rd, c3ok, c4nc, c4cm, c4rd, c4ok, c5nc, c5cm, c5rd, c5ok, w_c6⟩⟩
theorem open_GlyphS {H : Type} {enc : TypeId × Value → H} {w : World} {base : Nat} {spare : Nat → Bool} {held : Bool} {fuel : Nat} {cs : List Value} {x : DataW H × List MemPlace} (h : DataW.trod enc Try.prog w base spare held fuel (42 : Nat) cs = some x) :
    ∃ (A : Option Addr) (n c : Nat) (l : List AGlyph), cs = [.slice A n c] ∧ l.length = n ∧ n ≤ c ∧ c ≤ maxLen ∧ Rd cGlyph 7 w w.heap.size A l ∧ ∀ (i : Nat) (a : AGlyph), l[i]? = some a → okGlyph w w.heap.size a := by
  obtain ⟨A, n, c, hcs, hnc, hcm, hr⟩ := open_rows Try.underlying42 (k := 7) (by kernel_rfl) (by omega) h
  refine ⟨A, n, c, ?_⟩
  rcases hr with h0 | ⟨g, o, hA, hg, hel⟩
  · subst h0; exact ⟨[], hcs, rfl, hnc, hcm, Rd.nil_, fun i a h => by simp at h⟩
  · have hall : ∀ i, i < n → ∃ a : AGlyph, (∀ j u, (cGlyph a)[j]? = some u → w.cell? ⟨g, o + i * 7 + j, none⟩ = some u) ∧ okGlyph w w.heap.size a := by
      intro i hi
      obtain ⟨es, m, y, hes, hcell, ht⟩ := hel i hi
      match es, hes with
      | [c0, c1, c2, c3, c4, c5, c6], _ =>
        obtain ⟨n_ht_0, y_ht_0, ht_0⟩ := trod_field Try.underlying28 ht 0 _ rfl (k := 1) (by kernel_rfl); replace ht_0 : DataW.trod enc Try.prog _ _ _ _ n_ht_0 (9 : Nat) [c0] = some y_ht_0 := ht_0
        obtain ⟨c0', e_c0, -, w_c0⟩ := DataW.trod_string Try.underlying9 ht_0; obtain rfl := (List.cons.inj e_c0).1
        obtain ⟨n_ht_1, y_ht_1, ht_1⟩ := trod_field Try.underlying28 ht 1 _ rfl (k := 1) (by kernel_rfl); replace ht_1 : DataW.trod enc Try.prog _ _ _ _ n_ht_1 (2 : Nat) [c1] = some y_ht_1 := ht_1
        obtain ⟨c1', e_c1, -, w_c1⟩ := DataW.trod_int Try.underlying2 ht_1; obtain rfl := (List.cons.inj e_c1).1
        obtain ⟨n_ht_2, y_ht_2, ht_2⟩ := trod_field Try.underlying28 ht 2 _ rfl (k := 1) (by kernel_rfl); replace ht_2 : DataW.trod enc Try.prog _ _ _ _ n_ht_2 (2 : Nat) [c2] = some y_ht_2 := ht_2
        obtain ⟨c2', e_c2, -, w_c2⟩ := DataW.trod_int Try.underlying2 ht_2; obtain rfl := (List.cons.inj e_c2).1
        obtain ⟨n_ht_3, y_ht_3, ht_3⟩ := trod_field Try.underlying28 ht 3 _ rfl (k := 1) (by kernel_rfl); replace ht_3 : DataW.trod enc Try.prog _ _ _ _ n_ht_3 (24 : Nat) [c3] = some y_ht_3 := ht_3
        obtain ⟨n_ht_3_0, y_ht_3_0, ht_3_0⟩ := trod_field Try.underlying24 ht_3 0 _ rfl (k := 1) (by kernel_rfl); replace ht_3_0 : DataW.trod enc Try.prog _ _ _ _ n_ht_3_0 (22 : Nat) [c3] = some y_ht_3_0 := ht_3_0
        obtain ⟨c3A, c3n, c3c, c3l, e_c3, c3ln, c3nc, c3cm, c3rd, c3ok⟩ := open_LoopS ht_3_0; obtain rfl := (List.cons.inj e_c3).1; subst c3ln
        obtain ⟨n_ht_4, y_ht_4, ht_4⟩ := trod_field Try.underlying28 ht 4 _ rfl (k := 1) (by kernel_rfl); replace ht_4 : DataW.trod enc Try.prog _ _ _ _ n_ht_4 (25 : Nat) [c4] = some y_ht_4 := ht_4
        obtain ⟨c4A, c4n, c4c, c4l, e_c4, c4ln, c4nc, c4cm, c4rd, c4ok⟩ := open_PartS ht_4; obtain rfl := (List.cons.inj e_c4).1; subst c4ln
        obtain ⟨n_ht_5, y_ht_5, ht_5⟩ := trod_field Try.underlying28 ht 5 _ rfl (k := 1) (by kernel_rfl); replace ht_5 : DataW.trod enc Try.prog _ _ _ _ n_ht_5 (26 : Nat) [c5] = some y_ht_5 := ht_5
        obtain ⟨c5A, c5n, c5c, c5l, e_c5, c5ln, c5nc, c5cm, c5rd, c5ok⟩ := open_AnchorS ht_5; obtain rfl := (List.cons.inj e_c5).1; subst c5ln
        obtain ⟨n_ht_6, y_ht_6, ht_6⟩ := trod_field Try.underlying28 ht 6 _ rfl (k := 1) (by kernel_rfl); replace ht_6 : DataW.trod enc Try.prog _ _ _ _ n_ht_6 (9 : Nat) [c6] = some y_ht_6 := ht_6
        obtain ⟨c6', e_c6, -, w_c6⟩ := DataW.trod_string Try.underlying9 ht_6; obtain rfl := (List.cons.inj e_c6).1
        exact ⟨(c0', c1', c2', (c3A, c3c, c3l), (c4A, c4c, c4l), (c5A, c5c, c5l), c6'), hcell, ⟨w_c0, w_c1, w_c2, c3nc, c3cm, c3rd, c3ok, c4nc, c4cm, c4rd, c4ok, c5nc, c5cm, c5rd, c5ok, w_c6⟩⟩
    obtain ⟨l, hl, hp⟩ := list_of hall
    exact ⟨l, hcs, hl, hnc, hcm, .inr ⟨g, o, hA, hg, fun k a hk => (hp k a hk).1⟩, fun i a hi => (hp i a hi).2⟩
abbrev AGlyphSet : Type := Int × (Option Addr × Nat × List AGlyph)
def cGlyphSet (a : AGlyphSet) : List Value := [.int .i64 a.1, .slice a.2.1 a.2.2.2.length a.2.2.1]
theorem cGlyphSet_len (a : AGlyphSet) : (cGlyphSet a).length = 2 := rfl
theorem cGlyphSet_one (a : AGlyphSet) : ∀ u ∈ cGlyphSet a, u.oneCell' = true := by
  intro u hu
  simp only [cGlyphSet, List.mem_cons, List.not_mem_nil, or_false] at hu
  rcases hu with rfl | rfl <;> rfl
def okGlyphSet (w : World) (B : Nat) (a : AGlyphSet) : Prop := (Lit.int .i64 a.1).wf = true ∧ a.2.2.2.length ≤ a.2.2.1 ∧ a.2.2.1 ≤ maxLen ∧ Rd cGlyph 7 w B a.2.1 a.2.2.2 ∧ (∀ (i : Nat) (b : AGlyph), a.2.2.2[i]? = some b → okGlyph w B b)
set_option maxRecDepth 100000 in
theorem open_GlyphSet {H : Type} {enc : TypeId × Value → H} {w : World} {r : Reach} {base b0 : Nat} {spare : Nat → Bool} {held : Bool} {v : Value} {d : DataW H} {p : List MemPlace} (hv : Value.okWide Try.prog w r b0 (44 : Nat) v) (h : DataW.Trod enc Try.prog w base spare held (44 : Nat) v d p) :
    ∃ a : AGlyphSet, v = .agg #[.int .i64 a.1, .slice a.2.1 a.2.2.2.length a.2.2.1] ∧ okGlyphSet w w.heap.size a := by
  obtain ⟨l, fuel, rfl, hk, hf⟩ := open_cells Try.underlying44 (k := 2) (by kernel_rfl) hv h
  match l, hk with
  | [c0, c1], _ =>
    replace hf : DataW.trod enc Try.prog _ _ _ _ fuel (44 : Nat) [c0, c1] = some _ := hf
    obtain ⟨n_hf_0, y_hf_0, hf_0⟩ := trod_field Try.underlying44 hf 0 _ rfl (k := 1) (by kernel_rfl); replace hf_0 : DataW.trod enc Try.prog _ _ _ _ n_hf_0 (2 : Nat) [c0] = some y_hf_0 := hf_0
    obtain ⟨c0', e_c0, -, w_c0⟩ := DataW.trod_int Try.underlying2 hf_0; obtain rfl := (List.cons.inj e_c0).1
    obtain ⟨n_hf_1, y_hf_1, hf_1⟩ := trod_field Try.underlying44 hf 1 _ rfl (k := 1) (by kernel_rfl); replace hf_1 : DataW.trod enc Try.prog _ _ _ _ n_hf_1 (42 : Nat) [c1] = some y_hf_1 := hf_1
    obtain ⟨c1A, c1n, c1c, c1l, e_c1, c1ln, c1nc, c1cm, c1rd, c1ok⟩ := open_GlyphS hf_1; obtain rfl := (List.cons.inj e_c1).1; subst c1ln
    exact ⟨(c0', (c1A, c1c, c1l)), rfl, ⟨w_c0, c1nc, c1cm, c1rd, c1ok⟩⟩
abbrev DPt : Type := Int × Int
def RvPt : Rv DPt := fun _ _ row d => row = [.int .i64 d.1, .int .i64 d.2]
instance nicePt : Nice RvPt 2 where
  len := by rintro w B row d rfl; rfl
  one := by
    rintro w B row d rfl u hu
    simp only [List.mem_cons, List.not_mem_nil, or_false] at hu
    rcases hu with rfl | rfl <;> rfl
  keep := fun _ h => h
  more := fun _ h => h
def totPt (d : DPt) : Nat := 0
def SzPt (d : DPt) : Prop := True
abbrev DKnot : Type := Int × Int × Bool
def RvKnot : Rv DKnot := fun _ _ row d => row = [.int .i64 d.1, .int .i64 d.2.1, .bool d.2.2]
instance niceKnot : Nice RvKnot 3 where
  len := by rintro w B row d rfl; rfl
  one := by
    rintro w B row d rfl u hu
    simp only [List.mem_cons, List.not_mem_nil, or_false] at hu
    rcases hu with rfl | rfl | rfl <;> rfl
  keep := fun _ h => h
  more := fun _ h => h
def totKnot (d : DKnot) : Nat := 0
def SzKnot (d : DKnot) : Prop := True
abbrev DLoop : Type := List DKnot
def RvLoop : Rv DLoop := fun w B row d => ∃ (A0 : Option Addr) (c0 : Nat), row = [.slice A0 d.length c0] ∧ Row RvKnot 3 w B A0 d
instance niceLoop : Nice RvLoop 1 where
  len := by rintro w B row d ⟨_, _, rfl, -⟩; rfl
  one := by
    rintro w B row d ⟨_, _, rfl, -⟩ u hu
    simp only [List.mem_cons, List.not_mem_nil, or_false] at hu
    subst hu; rfl
  keep := by
    rintro w w' B row d hk ⟨A0, c0, rfl, h0⟩
    exact ⟨_, _, rfl, h0.keep hk⟩
  more := by
    rintro w B B' row d hB ⟨A0, c0, rfl, h0⟩
    exact ⟨_, _, rfl, h0.more hB⟩
def totLoop (d : DLoop) : Nat := totRow totKnot d
def SzLoop (d : DLoop) : Prop := szRow SzKnot d
abbrev DOutline : Type := List DLoop
def RvOutline : Rv DOutline := fun w B row d => ∃ (A0 : Option Addr) (c0 : Nat), row = [.slice A0 d.length c0] ∧ Row RvLoop 1 w B A0 d
instance niceOutline : Nice RvOutline 1 where
  len := by rintro w B row d ⟨_, _, rfl, -⟩; rfl
  one := by
    rintro w B row d ⟨_, _, rfl, -⟩ u hu
    simp only [List.mem_cons, List.not_mem_nil, or_false] at hu
    subst hu; rfl
  keep := by
    rintro w w' B row d hk ⟨A0, c0, rfl, h0⟩
    exact ⟨_, _, rfl, h0.keep hk⟩
  more := by
    rintro w B B' row d hB ⟨A0, c0, rfl, h0⟩
    exact ⟨_, _, rfl, h0.more hB⟩
def totOutline (d : DOutline) : Nat := totRow totLoop d
def SzOutline (d : DOutline) : Prop := szRow SzLoop d
abbrev DPart : Type := Int × Int × Int
def RvPart : Rv DPart := fun _ _ row d => row = [.int .i64 d.1, .int .i64 d.2.1, .int .i64 d.2.2]
instance nicePart : Nice RvPart 3 where
  len := by rintro w B row d rfl; rfl
  one := by
    rintro w B row d rfl u hu
    simp only [List.mem_cons, List.not_mem_nil, or_false] at hu
    rcases hu with rfl | rfl | rfl <;> rfl
  keep := fun _ h => h
  more := fun _ h => h
def totPart (d : DPart) : Nat := 0
def SzPart (d : DPart) : Prop := True
abbrev DAnchor : Type := ByteArray × Int × Int
def RvAnchor : Rv DAnchor := fun _ _ row d => row = [.string d.1, .int .i64 d.2.1, .int .i64 d.2.2]
instance niceAnchor : Nice RvAnchor 3 where
  len := by rintro w B row d rfl; rfl
  one := by
    rintro w B row d rfl u hu
    simp only [List.mem_cons, List.not_mem_nil, or_false] at hu
    rcases hu with rfl | rfl | rfl <;> rfl
  keep := fun _ h => h
  more := fun _ h => h
def totAnchor (d : DAnchor) : Nat := d.1.size
def SzAnchor (d : DAnchor) : Prop := d.1.size ≤ maxLen
abbrev DGlyph : Type := ByteArray × Int × Int × List DLoop × List DPart × List DAnchor × ByteArray
def RvGlyph : Rv DGlyph := fun w B row d => ∃ (A3 : Option Addr) (c3 : Nat) (A4 : Option Addr) (c4 : Nat) (A5 : Option Addr) (c5 : Nat), row = [.string d.1, .int .i64 d.2.1, .int .i64 d.2.2.1, .slice A3 d.2.2.2.1.length c3, .slice A4 d.2.2.2.2.1.length c4, .slice A5 d.2.2.2.2.2.1.length c5, .string d.2.2.2.2.2.2] ∧ Row RvLoop 1 w B A3 d.2.2.2.1 ∧ Row RvPart 3 w B A4 d.2.2.2.2.1 ∧ Row RvAnchor 3 w B A5 d.2.2.2.2.2.1
instance niceGlyph : Nice RvGlyph 7 where
  len := by rintro w B row d ⟨_, _, _, _, _, _, rfl, -⟩; rfl
  one := by
    rintro w B row d ⟨_, _, _, _, _, _, rfl, -⟩ u hu
    simp only [List.mem_cons, List.not_mem_nil, or_false] at hu
    rcases hu with rfl | rfl | rfl | rfl | rfl | rfl | rfl <;> rfl
  keep := by
    rintro w w' B row d hk ⟨A3, c3, A4, c4, A5, c5, rfl, h3, h4, h5⟩
    exact ⟨_, _, _, _, _, _, rfl, h3.keep hk, h4.keep hk, h5.keep hk⟩
  more := by
    rintro w B B' row d hB ⟨A3, c3, A4, c4, A5, c5, rfl, h3, h4, h5⟩
    exact ⟨_, _, _, _, _, _, rfl, h3.more hB, h4.more hB, h5.more hB⟩
def totGlyph (d : DGlyph) : Nat := d.1.size + totRow totLoop d.2.2.2.1 + totRow totPart d.2.2.2.2.1 + totRow totAnchor d.2.2.2.2.2.1 + d.2.2.2.2.2.2.size
def SzGlyph (d : DGlyph) : Prop := d.1.size ≤ maxLen ∧ szRow SzLoop d.2.2.2.1 ∧ szRow SzPart d.2.2.2.2.1 ∧ szRow SzAnchor d.2.2.2.2.2.1 ∧ d.2.2.2.2.2.2.size ≤ maxLen
abbrev DGlyphSet : Type := Int × List DGlyph
def RvGlyphSet : Rv DGlyphSet := fun w B row d => ∃ (A1 : Option Addr) (c1 : Nat), row = [.int .i64 d.1, .slice A1 d.2.length c1] ∧ Row RvGlyph 7 w B A1 d.2
instance niceGlyphSet : Nice RvGlyphSet 2 where
  len := by rintro w B row d ⟨_, _, rfl, -⟩; rfl
  one := by
    rintro w B row d ⟨_, _, rfl, -⟩ u hu
    simp only [List.mem_cons, List.not_mem_nil, or_false] at hu
    rcases hu with rfl | rfl <;> rfl
  keep := by
    rintro w w' B row d hk ⟨A1, c1, rfl, h1⟩
    exact ⟨_, _, rfl, h1.keep hk⟩
  more := by
    rintro w B B' row d hB ⟨A1, c1, rfl, h1⟩
    exact ⟨_, _, rfl, h1.more hB⟩
def totGlyphSet (d : DGlyphSet) : Nat := totRow totGlyph d.2
def SzGlyphSet (d : DGlyphSet) : Prop := szRow SzGlyph d.2
theorem sz_map {α D : Type} {g : α → D} {P : D → Prop} {ok : α → Prop} {l : List α} (hz : ∀ a, ok a → P (g a)) (h : ∀ (i : Nat) (b : α), l[i]? = some b → ok b) (i : Nat) (d : D) (hd : (l.map g)[i]? = some d) : P d := by
  rw [List.getElem?_map] at hd
  cases ha : l[i]? with
  | none => rw [ha] at hd; cases hd
  | some a => rw [ha] at hd; obtain rfl := Option.some.inj hd; exact hz a (h i a ha)
def dKnot (a : AKnot) : DKnot := (a.1, a.2.1, a.2.2)
theorem rv_Knot {w : World} {B : Nat} (a : AKnot) (h : okKnot w B a) : RvKnot w B (cKnot a) (dKnot a) := by
  rfl
theorem sz_Knot {w : World} {B : Nat} (a : AKnot) (h : okKnot w B a) : SzKnot (dKnot a) := by
  obtain ⟨_, _⟩ := h
  trivial
def dLoop (a : ALoop) : DLoop := a.2.2.map dKnot
theorem rv_Loop {w : World} {B : Nat} (a : ALoop) (h : okLoop w B a) : RvLoop w B (cLoop a) (dLoop a) := by
  obtain ⟨nc0, cm0, rd0, ok0⟩ := h
  refine ⟨a.1, a.2.1, ?_, Row.of rd0 (fun i b hb => rv_Knot _ (ok0 i b hb))⟩
  simp [cLoop, dLoop]
theorem sz_Loop {w : World} {B : Nat} (a : ALoop) (h : okLoop w B a) : SzLoop (dLoop a) := by
  obtain ⟨nc0, cm0, rd0, ok0⟩ := h
  exact ⟨Nat.le_trans (Nat.le_of_eq (List.length_map _)) (Nat.le_trans nc0 cm0), fun i b hb => sz_map sz_Knot ok0 i b hb⟩
def dPart (a : APart) : DPart := (a.1, a.2.1, a.2.2)
theorem rv_Part {w : World} {B : Nat} (a : APart) (h : okPart w B a) : RvPart w B (cPart a) (dPart a) := by
  rfl
theorem sz_Part {w : World} {B : Nat} (a : APart) (h : okPart w B a) : SzPart (dPart a) := by
  obtain ⟨_, _, _⟩ := h
  trivial
def dAnchor (a : AAnchor) : DAnchor := (a.1, a.2.1, a.2.2)
theorem rv_Anchor {w : World} {B : Nat} (a : AAnchor) (h : okAnchor w B a) : RvAnchor w B (cAnchor a) (dAnchor a) := by
  rfl
theorem sz_Anchor {w : World} {B : Nat} (a : AAnchor) (h : okAnchor w B a) : SzAnchor (dAnchor a) := by
  obtain ⟨s0, _, _⟩ := h
  exact s0
def dGlyph (a : AGlyph) : DGlyph := (a.1, a.2.1, a.2.2.1, a.2.2.2.1.2.2.map dLoop, a.2.2.2.2.1.2.2.map dPart, a.2.2.2.2.2.1.2.2.map dAnchor, a.2.2.2.2.2.2)
theorem rv_Glyph {w : World} {B : Nat} (a : AGlyph) (h : okGlyph w B a) : RvGlyph w B (cGlyph a) (dGlyph a) := by
  obtain ⟨s0, _, _, nc3, cm3, rd3, ok3, nc4, cm4, rd4, ok4, nc5, cm5, rd5, ok5, s6⟩ := h
  refine ⟨a.2.2.2.1.1, a.2.2.2.1.2.1, a.2.2.2.2.1.1, a.2.2.2.2.1.2.1, a.2.2.2.2.2.1.1, a.2.2.2.2.2.1.2.1, ?_, Row.of rd3 (fun i b hb => rv_Loop _ (ok3 i b hb)), Row.of rd4 (fun i b hb => rv_Part _ (ok4 i b hb)), Row.of rd5 (fun i b hb => rv_Anchor _ (ok5 i b hb))⟩
  simp [cGlyph, dGlyph]
theorem sz_Glyph {w : World} {B : Nat} (a : AGlyph) (h : okGlyph w B a) : SzGlyph (dGlyph a) := by
  obtain ⟨s0, _, _, nc3, cm3, rd3, ok3, nc4, cm4, rd4, ok4, nc5, cm5, rd5, ok5, s6⟩ := h
  exact ⟨s0, ⟨Nat.le_trans (Nat.le_of_eq (List.length_map _)) (Nat.le_trans nc3 cm3), fun i b hb => sz_map sz_Loop ok3 i b hb⟩, ⟨Nat.le_trans (Nat.le_of_eq (List.length_map _)) (Nat.le_trans nc4 cm4), fun i b hb => sz_map sz_Part ok4 i b hb⟩, ⟨Nat.le_trans (Nat.le_of_eq (List.length_map _)) (Nat.le_trans nc5 cm5), fun i b hb => sz_map sz_Anchor ok5 i b hb⟩, s6⟩
def dGlyphSet (a : AGlyphSet) : DGlyphSet := (a.1, a.2.2.2.map dGlyph)
theorem rv_GlyphSet {w : World} {B : Nat} (a : AGlyphSet) (h : okGlyphSet w B a) : RvGlyphSet w B (cGlyphSet a) (dGlyphSet a) := by
  obtain ⟨_, nc1, cm1, rd1, ok1⟩ := h
  refine ⟨a.2.1, a.2.2.1, ?_, Row.of rd1 (fun i b hb => rv_Glyph _ (ok1 i b hb))⟩
  simp [cGlyphSet, dGlyphSet]
theorem sz_GlyphSet {w : World} {B : Nat} (a : AGlyphSet) (h : okGlyphSet w B a) : SzGlyphSet (dGlyphSet a) := by
  obtain ⟨_, nc1, cm1, rd1, ok1⟩ := h
  exact ⟨Nat.le_trans (Nat.le_of_eq (List.length_map _)) (Nat.le_trans nc1 cm1), fun i b hb => sz_map sz_Glyph ok1 i b hb⟩
end Go.Proofs.Ytelefmogmloniaa
