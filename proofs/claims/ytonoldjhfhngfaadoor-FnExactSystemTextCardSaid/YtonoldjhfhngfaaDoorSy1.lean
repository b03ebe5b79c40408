/- Values of System that come in: opened to their cells, as data. -/
import Derived.Test.YtonoldjhfhngfaaDoorHx
import Derived.Test.YtonoldjhfhngfaaDoorProg
import Derived.OpenShut
import Derived.Below
import Derived.Carry
namespace Go.Proofs.YtonoldjhfhngfaaDoor
open Go.RowKit Go.ChangeShapes Go.WideShapes Go.Deep Go.Joins
set_option linter.unusedVariables false
abbrev ATerm : Type := ByteArray × Int × Int
def cTerm (a : ATerm) : List Value := [.string a.1, .int .i64 a.2.1, .int .i64 a.2.2]
theorem cTerm_len (a : ATerm) : (cTerm a).length = 3 := rfl
theorem cTerm_one (a : ATerm) : ∀ u ∈ cTerm a, u.oneCell' = true := by
  intro u hu
  simp only [cTerm, List.mem_cons, List.not_mem_nil, or_false] at hu
  rcases hu with rfl | rfl | rfl <;> rfl
def okTerm (w : World) (B : Nat) (a : ATerm) : Prop := a.1.size ≤ maxLen ∧ (Lit.int .i64 a.2.1).wf = true ∧ (Lit.int .i64 a.2.2).wf = true
theorem open_TermS {H : Type} {enc : TypeId × Value → H} {w : World} {base : Nat} {spare : Nat → Bool} {held : Bool} {fuel : Nat} {cs : List Value} {x : DataW H × List MemPlace} (h : DataW.trod enc Tryd.prog w base spare held fuel (73 : Nat) cs = some x) :
    ∃ (A : Option Addr) (n c : Nat) (l : List ATerm), cs = [.slice A n c] ∧ l.length = n ∧ n ≤ c ∧ c ≤ maxLen ∧ Rd cTerm 3 w w.heap.size A l ∧ ∀ (i : Nat) (a : ATerm), l[i]? = some a → okTerm w w.heap.size a := by
  obtain ⟨A, n, c, hcs, hnc, hcm, hr⟩ := open_rows Tryd.underlying73 (k := 3) (by kernel_rfl) (by omega) h
  refine ⟨A, n, c, ?_⟩
  rcases hr with h0 | ⟨g, o, hA, hg, hel⟩
  · subst h0; exact ⟨[], hcs, rfl, hnc, hcm, Rd.nil_, fun i a h => by simp at h⟩
  · have hall : ∀ i, i < n → ∃ a : ATerm, (∀ j u, (cTerm a)[j]? = some u → w.cell? ⟨g, o + i * 3 + j, none⟩ = some u) ∧ okTerm w w.heap.size a := by
      intro i hi
      obtain ⟨es, m, y, hes, hcell, ht⟩ := hel i hi
      match es, hes with
      | [c0, c1, c2], _ =>
        obtain ⟨n_ht_0, y_ht_0, ht_0⟩ := trod_field Tryd.underlying139 ht 0 _ rfl (k := 1) (by kernel_rfl); replace ht_0 : DataW.trod enc Tryd.prog _ _ _ _ n_ht_0 (9 : Nat) [c0] = some y_ht_0 := ht_0
        obtain ⟨c0', e_c0, -, w_c0⟩ := DataW.trod_string Tryd.underlying9 ht_0; obtain rfl := (List.cons.inj e_c0).1
        obtain ⟨n_ht_1, y_ht_1, ht_1⟩ := trod_field Tryd.underlying139 ht 1 _ rfl (k := 2) (by kernel_rfl); replace ht_1 : DataW.trod enc Tryd.prog _ _ _ _ n_ht_1 (72 : Nat) [c1, c2] = some y_ht_1 := ht_1
        obtain ⟨n_ht_1_0, y_ht_1_0, ht_1_0⟩ := trod_field Tryd.underlying72 ht_1 0 _ rfl (k := 1) (by kernel_rfl); replace ht_1_0 : DataW.trod enc Tryd.prog _ _ _ _ n_ht_1_0 (2 : Nat) [c1] = some y_ht_1_0 := ht_1_0
        obtain ⟨c1', e_c1, -, w_c1⟩ := DataW.trod_int Tryd.underlying2 ht_1_0; obtain rfl := (List.cons.inj e_c1).1
        obtain ⟨n_ht_1_1, y_ht_1_1, ht_1_1⟩ := trod_field Tryd.underlying72 ht_1 1 _ rfl (k := 1) (by kernel_rfl); replace ht_1_1 : DataW.trod enc Tryd.prog _ _ _ _ n_ht_1_1 (2 : Nat) [c2] = some y_ht_1_1 := ht_1_1
        obtain ⟨c2', e_c2, -, w_c2⟩ := DataW.trod_int Tryd.underlying2 ht_1_1; obtain rfl := (List.cons.inj e_c2).1
        exact ⟨(c0', c1', c2'), hcell, ⟨w_c0, w_c1, w_c2⟩⟩
    obtain ⟨l, hl, hp⟩ := list_of hall
    exact ⟨l, hcs, hl, hnc, hcm, .inr ⟨g, o, hA, hg, fun k a hk => (hp k a hk).1⟩, fun i a hi => (hp i a hi).2⟩
abbrev ASRow : Type := ByteArray × Int × Int × (Option Addr × Nat × List ATerm)
def cSRow (a : ASRow) : List Value := [.string a.1, .int .i64 a.2.1, .int .i64 a.2.2.1, .slice a.2.2.2.1 a.2.2.2.2.2.length a.2.2.2.2.1]
theorem cSRow_len (a : ASRow) : (cSRow a).length = 4 := rfl
theorem cSRow_one (a : ASRow) : ∀ u ∈ cSRow a, u.oneCell' = true := by
  intro u hu
  simp only [cSRow, List.mem_cons, List.not_mem_nil, or_false] at hu
  rcases hu with rfl | rfl | rfl | rfl <;> rfl
def okSRow (w : World) (B : Nat) (a : ASRow) : Prop := a.1.size ≤ maxLen ∧ (Lit.int .i64 a.2.1).wf = true ∧ (Lit.int .i64 a.2.2.1).wf = true ∧ a.2.2.2.2.2.length ≤ a.2.2.2.2.1 ∧ a.2.2.2.2.1 ≤ maxLen ∧ Rd cTerm 3 w B a.2.2.2.1 a.2.2.2.2.2 ∧ (∀ (i : Nat) (b : ATerm), a.2.2.2.2.2[i]? = some b → okTerm w B b)
theorem open_SRowS {H : Type} {enc : TypeId × Value → H} {w : World} {base : Nat} {spare : Nat → Bool} {held : Bool} {fuel : Nat} {cs : List Value} {x : DataW H × List MemPlace} (h : DataW.trod enc Tryd.prog w base spare held fuel (25 : Nat) cs = some x) :
    ∃ (A : Option Addr) (n c : Nat) (l : List ASRow), cs = [.slice A n c] ∧ l.length = n ∧ n ≤ c ∧ c ≤ maxLen ∧ Rd cSRow 4 w w.heap.size A l ∧ ∀ (i : Nat) (a : ASRow), l[i]? = some a → okSRow w w.heap.size a := by
  obtain ⟨A, n, c, hcs, hnc, hcm, hr⟩ := open_rows Tryd.underlying25 (k := 4) (by kernel_rfl) (by omega) h
  refine ⟨A, n, c, ?_⟩
  rcases hr with h0 | ⟨g, o, hA, hg, hel⟩
  · subst h0; exact ⟨[], hcs, rfl, hnc, hcm, Rd.nil_, fun i a h => by simp at h⟩
  · have hall : ∀ i, i < n → ∃ a : ASRow, (∀ j u, (cSRow a)[j]? = some u → w.cell? ⟨g, o + i * 4 + j, none⟩ = some u) ∧ okSRow w w.heap.size a := by
      intro i hi
      obtain ⟨es, m, y, hes, hcell, ht⟩ := hel i hi
      match es, hes with
      | [c0, c1, c2, c3], _ =>
        obtain ⟨n_ht_0, y_ht_0, ht_0⟩ := trod_field Tryd.underlying77 ht 0 _ rfl (k := 1) (by kernel_rfl); replace ht_0 : DataW.trod enc Tryd.prog _ _ _ _ n_ht_0 (9 : Nat) [c0] = some y_ht_0 := ht_0
        obtain ⟨c0', e_c0, -, w_c0⟩ := DataW.trod_string Tryd.underlying9 ht_0; obtain rfl := (List.cons.inj e_c0).1
        obtain ⟨n_ht_1, y_ht_1, ht_1⟩ := trod_field Tryd.underlying77 ht 1 _ rfl (k := 3) (by kernel_rfl); replace ht_1 : DataW.trod enc Tryd.prog _ _ _ _ n_ht_1 (75 : Nat) [c1, c2, c3] = some y_ht_1 := ht_1
        obtain ⟨n_ht_1_0, y_ht_1_0, ht_1_0⟩ := trod_field Tryd.underlying75 ht_1 0 _ rfl (k := 2) (by kernel_rfl); replace ht_1_0 : DataW.trod enc Tryd.prog _ _ _ _ n_ht_1_0 (72 : Nat) [c1, c2] = some y_ht_1_0 := ht_1_0
        obtain ⟨n_ht_1_0_0, y_ht_1_0_0, ht_1_0_0⟩ := trod_field Tryd.underlying72 ht_1_0 0 _ rfl (k := 1) (by kernel_rfl); replace ht_1_0_0 : DataW.trod enc Tryd.prog _ _ _ _ n_ht_1_0_0 (2 : Nat) [c1] = some y_ht_1_0_0 := ht_1_0_0
        obtain ⟨c1', e_c1, -, w_c1⟩ := DataW.trod_int Tryd.underlying2 ht_1_0_0; obtain rfl := (List.cons.inj e_c1).1
        obtain ⟨n_ht_1_0_1, y_ht_1_0_1, ht_1_0_1⟩ := trod_field Tryd.underlying72 ht_1_0 1 _ rfl (k := 1) (by kernel_rfl); replace ht_1_0_1 : DataW.trod enc Tryd.prog _ _ _ _ n_ht_1_0_1 (2 : Nat) [c2] = some y_ht_1_0_1 := ht_1_0_1
        obtain ⟨c2', e_c2, -, w_c2⟩ := DataW.trod_int Tryd.underlying2 ht_1_0_1; obtain rfl := (List.cons.inj e_c2).1
        obtain ⟨n_ht_1_1, y_ht_1_1, ht_1_1⟩ := trod_field Tryd.underlying75 ht_1 1 _ rfl (k := 1) (by kernel_rfl); replace ht_1_1 : DataW.trod enc Tryd.prog _ _ _ _ n_ht_1_1 (73 : Nat) [c3] = some y_ht_1_1 := ht_1_1
        obtain ⟨c3A, c3n, c3c, c3l, e_c3, c3ln, c3nc, c3cm, c3rd, c3ok⟩ := open_TermS ht_1_1; obtain rfl := (List.cons.inj e_c3).1; subst c3ln
        exact ⟨(c0', c1', c2', (c3A, c3c, c3l)), hcell, ⟨w_c0, w_c1, w_c2, c3nc, c3cm, c3rd, c3ok⟩⟩
    obtain ⟨l, hl, hp⟩ := list_of hall
    exact ⟨l, hcs, hl, hnc, hcm, .inr ⟨g, o, hA, hg, fun k a hk => (hp k a hk).1⟩, fun i a hi => (hp i a hi).2⟩
abbrev ASystem : Type := (Option Addr × Nat × List ASRow)
def cSystem (a : ASystem) : List Value := [.slice a.1 a.2.2.length a.2.1]
theorem cSystem_len (a : ASystem) : (cSystem a).length = 1 := rfl
theorem cSystem_one (a : ASystem) : ∀ u ∈ cSystem a, u.oneCell' = true := by
  intro u hu
  simp only [cSystem, List.mem_cons, List.not_mem_nil, or_false] at hu
  subst hu; rfl
def okSystem (w : World) (B : Nat) (a : ASystem) : Prop := a.2.2.length ≤ a.2.1 ∧ a.2.1 ≤ maxLen ∧ Rd cSRow 4 w B a.1 a.2.2 ∧ (∀ (i : Nat) (b : ASRow), a.2.2[i]? = some b → okSRow w B b)
set_option maxRecDepth 100000 in
theorem open_System {H : Type} {enc : TypeId × Value → H} {w : World} {r : Reach} {base b0 : Nat} {spare : Nat → Bool} {held : Bool} {v : Value} {d : DataW H} {p : List MemPlace} (hv : Value.okWide Tryd.prog w r b0 (27 : Nat) v) (h : DataW.Trod enc Tryd.prog w base spare held (27 : Nat) v d p) :
    ∃ a : ASystem, v = .agg #[.slice a.1 a.2.2.length a.2.1] ∧ okSystem w w.heap.size a := by
  obtain ⟨l, fuel, rfl, hk, hf⟩ := open_cells Tryd.underlying27 (k := 1) (by kernel_rfl) hv h
  match l, hk with
  | [c0], _ =>
    replace hf : DataW.trod enc Tryd.prog _ _ _ _ fuel (27 : Nat) [c0] = some _ := hf
    obtain ⟨n_hf_0, y_hf_0, hf_0⟩ := trod_field Tryd.underlying27 hf 0 _ rfl (k := 1) (by kernel_rfl); replace hf_0 : DataW.trod enc Tryd.prog _ _ _ _ n_hf_0 (25 : Nat) [c0] = some y_hf_0 := hf_0
    obtain ⟨c0A, c0n, c0c, c0l, e_c0, c0ln, c0nc, c0cm, c0rd, c0ok⟩ := open_SRowS hf_0; obtain rfl := (List.cons.inj e_c0).1; subst c0ln
    exact ⟨(c0A, c0c, c0l), rfl, ⟨c0nc, c0cm, c0rd, c0ok⟩⟩
abbrev DFrac : Type := Int × Int
def RvFrac : Rv DFrac := fun _ _ row d => row = [.int .i64 d.1, .int .i64 d.2]
instance niceFrac : Nice RvFrac 2 where
  len := by rintro w B row d rfl; rfl
  one := by
    rintro w B row d rfl u hu
    simp only [List.mem_cons, List.not_mem_nil, or_false] at hu
    rcases hu with rfl | rfl <;> rfl
  keep := fun _ h => h
  more := fun _ h => h
def totFrac (d : DFrac) : Nat := 0
def SzFrac (d : DFrac) : Prop := True
abbrev DTerm : Type := ByteArray × Int × Int
def RvTerm : Rv DTerm := fun _ _ row d => row = [.string d.1, .int .i64 d.2.1, .int .i64 d.2.2]
instance niceTerm : Nice RvTerm 3 where
  len := by rintro w B row d rfl; rfl
  one := by
    rintro w B row d rfl u hu
    simp only [List.mem_cons, List.not_mem_nil, or_false] at hu
    rcases hu with rfl | rfl | rfl <;> rfl
  keep := fun _ h => h
  more := fun _ h => h
def totTerm (d : DTerm) : Nat := d.1.size
def SzTerm (d : DTerm) : Prop := d.1.size ≤ maxLen
abbrev DLinear : Type := Int × Int × List DTerm
def RvLinear : Rv DLinear := fun w B row d => ∃ (A2 : Option Addr) (c2 : Nat), row = [.int .i64 d.1, .int .i64 d.2.1, .slice A2 d.2.2.length c2] ∧ Row RvTerm 3 w B A2 d.2.2
instance niceLinear : Nice RvLinear 3 where
  len := by rintro w B row d ⟨_, _, rfl, -⟩; rfl
  one := by
    rintro w B row d ⟨_, _, rfl, -⟩ u hu
    simp only [List.mem_cons, List.not_mem_nil, or_false] at hu
    rcases hu with rfl | rfl | rfl <;> rfl
  keep := by
    rintro w w' B row d hk ⟨A2, c2, rfl, h2⟩
    exact ⟨_, _, rfl, h2.keep hk⟩
  more := by
    rintro w B B' row d hB ⟨A2, c2, rfl, h2⟩
    exact ⟨_, _, rfl, h2.more hB⟩
def totLinear (d : DLinear) : Nat := totRow totTerm d.2.2
def SzLinear (d : DLinear) : Prop := szRow SzTerm d.2.2
abbrev DSRow : Type := ByteArray × Int × Int × List DTerm
def RvSRow : Rv DSRow := fun w B row d => ∃ (A3 : Option Addr) (c3 : Nat), row = [.string d.1, .int .i64 d.2.1, .int .i64 d.2.2.1, .slice A3 d.2.2.2.length c3] ∧ Row RvTerm 3 w B A3 d.2.2.2
instance niceSRow : Nice RvSRow 4 where
  len := by rintro w B row d ⟨_, _, rfl, -⟩; rfl
  one := by
    rintro w B row d ⟨_, _, rfl, -⟩ u hu
    simp only [List.mem_cons, List.not_mem_nil, or_false] at hu
    rcases hu with rfl | rfl | rfl | rfl <;> rfl
  keep := by
    rintro w w' B row d hk ⟨A3, c3, rfl, h3⟩
    exact ⟨_, _, rfl, h3.keep hk⟩
  more := by
    rintro w B B' row d hB ⟨A3, c3, rfl, h3⟩
    exact ⟨_, _, rfl, h3.more hB⟩
def totSRow (d : DSRow) : Nat := d.1.size + totRow totTerm d.2.2.2
def SzSRow (d : DSRow) : Prop := d.1.size ≤ maxLen ∧ szRow SzTerm d.2.2.2
abbrev DSystem : Type := List DSRow
def RvSystem : Rv DSystem := fun w B row d => ∃ (A0 : Option Addr) (c0 : Nat), row = [.slice A0 d.length c0] ∧ Row RvSRow 4 w B A0 d
instance niceSystem : Nice RvSystem 1 where
  len := by rintro w B row d ⟨_, _, rfl, -⟩; rfl
  one := by
    rintro w B row d ⟨_, _, rfl, -⟩ u hu
    simp only [List.mem_cons, List.not_mem_nil, or_false] at hu
    subst hu; rfl
  keep := by
    rintro w w' B row d hk ⟨A0, c0, rfl, h0⟩
    exact ⟨_, _, rfl, h0.keep hk⟩
  more := by
    rintro w B B' row d hB ⟨A0, c0, rfl, h0⟩
    exact ⟨_, _, rfl, h0.more hB⟩
def totSystem (d : DSystem) : Nat := totRow totSRow d
def SzSystem (d : DSystem) : Prop := szRow SzSRow d
theorem sz_map {α D : Type} {g : α → D} {P : D → Prop} {ok : α → Prop} {l : List α} (hz : ∀ a, ok a → P (g a)) (h : ∀ (i : Nat) (b : α), l[i]? = some b → ok b) (i : Nat) (d : D) (hd : (l.map g)[i]? = some d) : P d := by
  rw [List.getElem?_map] at hd
  cases ha : l[i]? with
  | none => rw [ha] at hd; cases hd
  | some a => rw [ha] at hd; obtain rfl := Option.some.inj hd; exact hz a (h i a ha)
def dTerm (a : ATerm) : DTerm := (a.1, a.2.1, a.2.2)
theorem rv_Term {w : World} {B : Nat} (a : ATerm) (h : okTerm w B a) : RvTerm w B (cTerm a) (dTerm a) := by
  rfl
theorem sz_Term {w : World} {B : Nat} (a : ATerm) (h : okTerm w B a) : SzTerm (dTerm a) := by
  obtain ⟨s0, _, _⟩ := h
  exact s0
def dSRow (a : ASRow) : DSRow := (a.1, a.2.1, a.2.2.1, a.2.2.2.2.2.map dTerm)
theorem rv_SRow {w : World} {B : Nat} (a : ASRow) (h : okSRow w B a) : RvSRow w B (cSRow a) (dSRow a) := by
  obtain ⟨s0, _, _, nc3, cm3, rd3, ok3⟩ := h
  refine ⟨a.2.2.2.1, a.2.2.2.2.1, ?_, Row.of rd3 (fun i b hb => rv_Term _ (ok3 i b hb))⟩
  simp [cSRow, dSRow]
theorem sz_SRow {w : World} {B : Nat} (a : ASRow) (h : okSRow w B a) : SzSRow (dSRow a) := by
  obtain ⟨s0, _, _, nc3, cm3, rd3, ok3⟩ := h
  exact ⟨s0, ⟨Nat.le_trans (Nat.le_of_eq (List.length_map _)) (Nat.le_trans nc3 cm3), fun i b hb => sz_map sz_Term ok3 i b hb⟩⟩
def dSystem (a : ASystem) : DSystem := a.2.2.map dSRow
theorem rv_System {w : World} {B : Nat} (a : ASystem) (h : okSystem w B a) : RvSystem w B (cSystem a) (dSystem a) := by
  obtain ⟨nc0, cm0, rd0, ok0⟩ := h
  refine ⟨a.1, a.2.1, ?_, Row.of rd0 (fun i b hb => rv_SRow _ (ok0 i b hb))⟩
  simp [cSystem, dSystem]
theorem sz_System {w : World} {B : Nat} (a : ASystem) (h : okSystem w B a) : SzSystem (dSystem a) := by
  obtain ⟨nc0, cm0, rd0, ok0⟩ := h
  exact ⟨Nat.le_trans (Nat.le_of_eq (List.length_map _)) (Nat.le_trans nc0 cm0), fun i b hb => sz_map sz_SRow ok0 i b hb⟩
end Go.Proofs.YtonoldjhfhngfaaDoor
