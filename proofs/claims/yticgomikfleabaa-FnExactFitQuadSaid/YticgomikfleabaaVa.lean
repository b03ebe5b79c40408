/- Rings and regions that come in: opened to their cells. -/
import Derived.Test.YticgomikfleabaaProg
import Derived.Test.YticgomikfleabaaHo
import Derived.OpenShut
import Derived.Below
import Derived.Carry
namespace Go.Proofs.Yticgomikfleabaa
open Go.RowKit Go.ChangeShapes Go.WideShapes Go.Deep Go.Joins
set_option linter.unusedVariables false
abbrev APt : Type := Int × Int
def cPt (a : APt) : List Value := [.int .i64 a.1, .int .i64 a.2]
theorem cPt_len (a : APt) : (cPt a).length = 2 := rfl
theorem cPt_one (a : APt) : ∀ u ∈ cPt a, u.oneCell' = true := by
  intro u hu
  simp only [cPt, List.mem_cons, List.not_mem_nil, or_false] at hu
  rcases hu with rfl | rfl <;> rfl
def okPt (w : World) (B : Nat) (a : APt) : Prop := (Lit.int .i64 a.1).wf = true ∧ (Lit.int .i64 a.2).wf = true
theorem open_PtS {H : Type} {enc : TypeId × Value → H} {w : World} {base : Nat} {spare : Nat → Bool} {held : Bool} {fuel : Nat} {cs : List Value} {x : DataW H × List MemPlace} (h : DataW.trod enc Try.prog w base spare held fuel (43 : Nat) cs = some x) :
    ∃ (A : Option Addr) (n c : Nat) (l : List APt), cs = [.slice A n c] ∧ l.length = n ∧ n ≤ c ∧ c ≤ maxLen ∧ Rd cPt 2 w w.heap.size A l ∧ ∀ (i : Nat) (a : APt), l[i]? = some a → okPt w w.heap.size a := by
  obtain ⟨A, n, c, hcs, hnc, hcm, hr⟩ := open_rows Try.underlying43 (k := 2) (by kernel_rfl) (by omega) h
  refine ⟨A, n, c, ?_⟩
  rcases hr with h0 | ⟨g, o, hA, hg, hel⟩
  · subst h0; exact ⟨[], hcs, rfl, hnc, hcm, Rd.nil_, fun i a h => by simp at h⟩
  · have hall : ∀ i, i < n → ∃ a : APt, (∀ j u, (cPt a)[j]? = some u → w.cell? ⟨g, o + i * 2 + j, none⟩ = some u) ∧ okPt w w.heap.size a := by
      intro i hi
      obtain ⟨es, m, y, hes, hcell, ht⟩ := hel i hi
      match es, hes with
      | [c0, c1], _ =>
        obtain ⟨n_ht_0, y_ht_0, ht_0⟩ := trod_field Try.underlying23 ht 0 _ rfl (k := 1) (by kernel_rfl); replace ht_0 : DataW.trod enc Try.prog _ _ _ _ n_ht_0 (2 : Nat) [c0] = some y_ht_0 := ht_0
        obtain ⟨c0', e_c0, -, w_c0⟩ := DataW.trod_int Try.underlying2 ht_0; obtain rfl := (List.cons.inj e_c0).1
        obtain ⟨n_ht_1, y_ht_1, ht_1⟩ := trod_field Try.underlying23 ht 1 _ rfl (k := 1) (by kernel_rfl); replace ht_1 : DataW.trod enc Try.prog _ _ _ _ n_ht_1 (2 : Nat) [c1] = some y_ht_1 := ht_1
        obtain ⟨c1', e_c1, -, w_c1⟩ := DataW.trod_int Try.underlying2 ht_1; obtain rfl := (List.cons.inj e_c1).1
        exact ⟨(c0', c1'), hcell, ⟨w_c0, w_c1⟩⟩
    obtain ⟨l, hl, hp⟩ := list_of hall
    exact ⟨l, hcs, hl, hnc, hcm, .inr ⟨g, o, hA, hg, fun k a hk => (hp k a hk).1⟩, fun i a hi => (hp i a hi).2⟩
abbrev ARing : Type := (Option Addr × Nat × List APt)
def cRing (a : ARing) : List Value := [.slice a.1 a.2.2.length a.2.1]
theorem cRing_len (a : ARing) : (cRing a).length = 1 := rfl
theorem cRing_one (a : ARing) : ∀ u ∈ cRing a, u.oneCell' = true := by
  intro u hu
  simp only [cRing, List.mem_cons, List.not_mem_nil, or_false] at hu
  subst hu; rfl
def okRing (w : World) (B : Nat) (a : ARing) : Prop := a.2.2.length ≤ a.2.1 ∧ a.2.1 ≤ maxLen ∧ Rd cPt 2 w B a.1 a.2.2 ∧ (∀ (i : Nat) (b : APt), a.2.2[i]? = some b → okPt w B b)
set_option maxRecDepth 100000 in
theorem open_Ring {H : Type} {enc : TypeId × Value → H} {w : World} {r : Reach} {base b0 : Nat} {spare : Nat → Bool} {held : Bool} {v : Value} {d : DataW H} {p : List MemPlace} (hv : Value.okWide Try.prog w r b0 (51 : Nat) v) (h : DataW.Trod enc Try.prog w base spare held (51 : Nat) v d p) :
    ∃ a : ARing, v = .agg #[.slice a.1 a.2.2.length a.2.1] ∧ okRing w w.heap.size a := by
  obtain ⟨l, fuel, rfl, hk, hf⟩ := open_cells Try.underlying51 (k := 1) (by kernel_rfl) hv h
  match l, hk with
  | [c0], _ =>
    replace hf : DataW.trod enc Try.prog _ _ _ _ fuel (51 : Nat) [c0] = some _ := hf
    obtain ⟨n_hf_0, y_hf_0, hf_0⟩ := trod_field Try.underlying51 hf 0 _ rfl (k := 1) (by kernel_rfl); replace hf_0 : DataW.trod enc Try.prog _ _ _ _ n_hf_0 (43 : Nat) [c0] = some y_hf_0 := hf_0
    obtain ⟨c0A, c0n, c0c, c0l, e_c0, c0ln, c0nc, c0cm, c0rd, c0ok⟩ := open_PtS hf_0; obtain rfl := (List.cons.inj e_c0).1; subst c0ln
    exact ⟨(c0A, c0c, c0l), rfl, ⟨c0nc, c0cm, c0rd, c0ok⟩⟩
abbrev ARegion : Type := (Option Addr × Nat × List ARing)
def cRegion (a : ARegion) : List Value := [.slice a.1 a.2.2.length a.2.1]
theorem cRegion_len (a : ARegion) : (cRegion a).length = 1 := rfl
theorem cRegion_one (a : ARegion) : ∀ u ∈ cRegion a, u.oneCell' = true := by
  intro u hu
  simp only [cRegion, List.mem_cons, List.not_mem_nil, or_false] at hu
  subst hu; rfl
def okRegion (w : World) (B : Nat) (a : ARegion) : Prop := a.2.2.length ≤ a.2.1 ∧ a.2.1 ≤ maxLen ∧ Rd cRing 1 w B a.1 a.2.2 ∧ (∀ (i : Nat) (b : ARing), a.2.2[i]? = some b → okRing w B b)
end Go.Proofs.Yticgomikfleabaa
