/- Loops and outlines that come in: opened to their cells. -/
import Derived.Test.YtjlmoadnbbeloaaDoorProg
import Derived.Test.YtjlmoadnbbeloaaDoorHo
import Derived.OpenShut
import Derived.Below
import Derived.Carry
namespace Go.Proofs.YtjlmoadnbbeloaaDoor
open Go.RowKit Go.ChangeShapes Go.WideShapes Go.Deep Go.Joins
set_option linter.unusedVariables false
abbrev AKnot : Type := Int × Int × Bool
def cKnot (a : AKnot) : List Value := [.int .i64 a.1, .int .i64 a.2.1, .bool a.2.2]
theorem cKnot_len (a : AKnot) : (cKnot a).length = 3 := rfl
theorem cKnot_one (a : AKnot) : ∀ u ∈ cKnot a, u.oneCell' = true := by
  intro u hu
  simp only [cKnot, List.mem_cons, List.not_mem_nil, or_false] at hu
  rcases hu with rfl | rfl | rfl <;> rfl
def okKnot (w : World) (B : Nat) (a : AKnot) : Prop := (Lit.int .i64 a.1).wf = true ∧ (Lit.int .i64 a.2.1).wf = true
theorem open_KnotS {H : Type} {enc : TypeId × Value → H} {w : World} {base : Nat} {spare : Nat → Bool} {held : Bool} {fuel : Nat} {cs : List Value} {x : DataW H × List MemPlace} (h : DataW.trod enc Tryd.prog w base spare held fuel (155 : Nat) cs = some x) :
    ∃ (A : Option Addr) (n c : Nat) (l : List AKnot), cs = [.slice A n c] ∧ l.length = n ∧ n ≤ c ∧ c ≤ maxLen ∧ Rd cKnot 3 w w.heap.size A l ∧ ∀ (i : Nat) (a : AKnot), l[i]? = some a → okKnot w w.heap.size a := by
  obtain ⟨A, n, c, hcs, hnc, hcm, hr⟩ := open_rows Tryd.underlying155 (k := 3) (by kernel_rfl) (by omega) h
  refine ⟨A, n, c, ?_⟩
  rcases hr with h0 | ⟨g, o, hA, hg, hel⟩
  · subst h0; exact ⟨[], hcs, rfl, hnc, hcm, Rd.nil_, fun i a h => by simp at h⟩
  · have hall : ∀ i, i < n → ∃ a : AKnot, (∀ j u, (cKnot a)[j]? = some u → w.cell? ⟨g, o + i * 3 + j, none⟩ = some u) ∧ okKnot w w.heap.size a := by
      intro i hi
      obtain ⟨es, m, y, hes, hcell, ht⟩ := hel i hi
      match es, hes with
      | [c0, c1, c2], _ =>
        obtain ⟨n_ht_0, y_ht_0, ht_0⟩ := trod_field Tryd.underlying183 ht 0 _ rfl (k := 2) (by kernel_rfl); replace ht_0 : DataW.trod enc Tryd.prog _ _ _ _ n_ht_0 (45 : Nat) [c0, c1] = some y_ht_0 := ht_0
        obtain ⟨n_ht_0_0, y_ht_0_0, ht_0_0⟩ := trod_field Tryd.underlying45 ht_0 0 _ rfl (k := 1) (by kernel_rfl); replace ht_0_0 : DataW.trod enc Tryd.prog _ _ _ _ n_ht_0_0 (2 : Nat) [c0] = some y_ht_0_0 := ht_0_0
        obtain ⟨c0', e_c0, -, w_c0⟩ := DataW.trod_int Tryd.underlying2 ht_0_0; obtain rfl := (List.cons.inj e_c0).1
        obtain ⟨n_ht_0_1, y_ht_0_1, ht_0_1⟩ := trod_field Tryd.underlying45 ht_0 1 _ rfl (k := 1) (by kernel_rfl); replace ht_0_1 : DataW.trod enc Tryd.prog _ _ _ _ n_ht_0_1 (2 : Nat) [c1] = some y_ht_0_1 := ht_0_1
        obtain ⟨c1', e_c1, -, w_c1⟩ := DataW.trod_int Tryd.underlying2 ht_0_1; obtain rfl := (List.cons.inj e_c1).1
        obtain ⟨n_ht_1, y_ht_1, ht_1⟩ := trod_field Tryd.underlying183 ht 1 _ rfl (k := 1) (by kernel_rfl); replace ht_1 : DataW.trod enc Tryd.prog _ _ _ _ n_ht_1 (4 : Nat) [c2] = some y_ht_1 := ht_1
        obtain ⟨c2', e_c2, -⟩ := DataW.trod_bool Tryd.underlying4 ht_1; obtain rfl := (List.cons.inj e_c2).1
        exact ⟨(c0', c1', c2'), hcell, ⟨w_c0, w_c1⟩⟩
    obtain ⟨l, hl, hp⟩ := list_of hall
    exact ⟨l, hcs, hl, hnc, hcm, .inr ⟨g, o, hA, hg, fun k a hk => (hp k a hk).1⟩, fun i a hi => (hp i a hi).2⟩
abbrev ALoop : Type := (Option Addr × Nat × List AKnot)
def cLoop (a : ALoop) : List Value := [.slice a.1 a.2.2.length a.2.1]
theorem cLoop_len (a : ALoop) : (cLoop a).length = 1 := rfl
theorem cLoop_one (a : ALoop) : ∀ u ∈ cLoop a, u.oneCell' = true := by
  intro u hu
  simp only [cLoop, List.mem_cons, List.not_mem_nil, or_false] at hu
  subst hu; rfl
def okLoop (w : World) (B : Nat) (a : ALoop) : Prop := a.2.2.length ≤ a.2.1 ∧ a.2.1 ≤ maxLen ∧ Rd cKnot 3 w B a.1 a.2.2 ∧ (∀ (i : Nat) (b : AKnot), a.2.2[i]? = some b → okKnot w B b)
set_option maxRecDepth 100000 in
theorem open_Loop {H : Type} {enc : TypeId × Value → H} {w : World} {r : Reach} {base b0 : Nat} {spare : Nat → Bool} {held : Bool} {v : Value} {d : DataW H} {p : List MemPlace} (hv : Value.okWide Tryd.prog w r b0 (157 : Nat) v) (h : DataW.Trod enc Tryd.prog w base spare held (157 : Nat) v d p) :
    ∃ a : ALoop, v = .agg #[.slice a.1 a.2.2.length a.2.1] ∧ okLoop w w.heap.size a := by
  obtain ⟨l, fuel, rfl, hk, hf⟩ := open_cells Tryd.underlying157 (k := 1) (by kernel_rfl) hv h
  match l, hk with
  | [c0], _ =>
    replace hf : DataW.trod enc Tryd.prog _ _ _ _ fuel (157 : Nat) [c0] = some _ := hf
    obtain ⟨n_hf_0, y_hf_0, hf_0⟩ := trod_field Tryd.underlying157 hf 0 _ rfl (k := 1) (by kernel_rfl); replace hf_0 : DataW.trod enc Tryd.prog _ _ _ _ n_hf_0 (155 : Nat) [c0] = some y_hf_0 := hf_0
    obtain ⟨c0A, c0n, c0c, c0l, e_c0, c0ln, c0nc, c0cm, c0rd, c0ok⟩ := open_KnotS hf_0; obtain rfl := (List.cons.inj e_c0).1; subst c0ln
    exact ⟨(c0A, c0c, c0l), rfl, ⟨c0nc, c0cm, c0rd, c0ok⟩⟩
theorem open_LoopS {H : Type} {enc : TypeId × Value → H} {w : World} {base : Nat} {spare : Nat → Bool} {held : Bool} {fuel : Nat} {cs : List Value} {x : DataW H × List MemPlace} (h : DataW.trod enc Tryd.prog w base spare held fuel (64 : Nat) cs = some x) :
    ∃ (A : Option Addr) (n c : Nat) (l : List ALoop), cs = [.slice A n c] ∧ l.length = n ∧ n ≤ c ∧ c ≤ maxLen ∧ Rd cLoop 1 w w.heap.size A l ∧ ∀ (i : Nat) (a : ALoop), l[i]? = some a → okLoop w w.heap.size a := by
  obtain ⟨A, n, c, hcs, hnc, hcm, hr⟩ := open_rows Tryd.underlying64 (k := 1) (by kernel_rfl) (by omega) h
  refine ⟨A, n, c, ?_⟩
  rcases hr with h0 | ⟨g, o, hA, hg, hel⟩
  · subst h0; exact ⟨[], hcs, rfl, hnc, hcm, Rd.nil_, fun i a h => by simp at h⟩
  · have hall : ∀ i, i < n → ∃ a : ALoop, (∀ j u, (cLoop a)[j]? = some u → w.cell? ⟨g, o + i * 1 + j, none⟩ = some u) ∧ okLoop w w.heap.size a := by
      intro i hi
      obtain ⟨es, m, y, hes, hcell, ht⟩ := hel i hi
      match es, hes with
      | [c0], _ =>
        obtain ⟨n_ht_0, y_ht_0, ht_0⟩ := trod_field Tryd.underlying157 ht 0 _ rfl (k := 1) (by kernel_rfl); replace ht_0 : DataW.trod enc Tryd.prog _ _ _ _ n_ht_0 (155 : Nat) [c0] = some y_ht_0 := ht_0
        obtain ⟨c0A, c0n, c0c, c0l, e_c0, c0ln, c0nc, c0cm, c0rd, c0ok⟩ := open_KnotS ht_0; obtain rfl := (List.cons.inj e_c0).1; subst c0ln
        exact ⟨(c0A, c0c, c0l), hcell, ⟨c0nc, c0cm, c0rd, c0ok⟩⟩
    obtain ⟨l, hl, hp⟩ := list_of hall
    exact ⟨l, hcs, hl, hnc, hcm, .inr ⟨g, o, hA, hg, fun k a hk => (hp k a hk).1⟩, fun i a hi => (hp i a hi).2⟩
abbrev AOutline : Type := (Option Addr × Nat × List ALoop)
def cOutline (a : AOutline) : List Value := [.slice a.1 a.2.2.length a.2.1]
theorem cOutline_len (a : AOutline) : (cOutline a).length = 1 := rfl
theorem cOutline_one (a : AOutline) : ∀ u ∈ cOutline a, u.oneCell' = true := by
  intro u hu
  simp only [cOutline, List.mem_cons, List.not_mem_nil, or_false] at hu
  subst hu; rfl
def okOutline (w : World) (B : Nat) (a : AOutline) : Prop := a.2.2.length ≤ a.2.1 ∧ a.2.1 ≤ maxLen ∧ Rd cLoop 1 w B a.1 a.2.2 ∧ (∀ (i : Nat) (b : ALoop), a.2.2[i]? = some b → okLoop w B b)
set_option maxRecDepth 100000 in
theorem open_Outline {H : Type} {enc : TypeId × Value → H} {w : World} {r : Reach} {base b0 : Nat} {spare : Nat → Bool} {held : Bool} {v : Value} {d : DataW H} {p : List MemPlace} (hv : Value.okWide Tryd.prog w r b0 (66 : Nat) v) (h : DataW.Trod enc Tryd.prog w base spare held (66 : Nat) v d p) :
    ∃ a : AOutline, v = .agg #[.slice a.1 a.2.2.length a.2.1] ∧ okOutline w w.heap.size a := by
  obtain ⟨l, fuel, rfl, hk, hf⟩ := open_cells Tryd.underlying66 (k := 1) (by kernel_rfl) hv h
  match l, hk with
  | [c0], _ =>
    replace hf : DataW.trod enc Tryd.prog _ _ _ _ fuel (66 : Nat) [c0] = some _ := hf
    obtain ⟨n_hf_0, y_hf_0, hf_0⟩ := trod_field Tryd.underlying66 hf 0 _ rfl (k := 1) (by kernel_rfl); replace hf_0 : DataW.trod enc Tryd.prog _ _ _ _ n_hf_0 (64 : Nat) [c0] = some y_hf_0 := hf_0
    obtain ⟨c0A, c0n, c0c, c0l, e_c0, c0ln, c0nc, c0cm, c0rd, c0ok⟩ := open_LoopS hf_0; obtain rfl := (List.cons.inj e_c0).1; subst c0ln
    exact ⟨(c0A, c0c, c0l), rfl, ⟨c0nc, c0cm, c0rd, c0ok⟩⟩
end Go.Proofs.YtjlmoadnbbeloaaDoor
