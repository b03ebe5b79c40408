/- At every number the program's HintName answers as the model; the table of words is tied to the program's text. -/
import Derived.Test.YtofaolbgjhpopaaDoorCards
import Derived.Test.YtofaolbgjhpopaaDoorTie
import Derived.Test.YtofaolbgjhpopaaDoorNma
import Derived.Lib.SmallJoins
import Derived.WalkKit
import Derived.WalkSpells
import Derived.WalkLawsBesides
import Derived.ProofKit
import Derived.OpenShut
import Derived.ShutString
import Derived.Below
import Derived.Lib.Hide
import Derived.Deep.DeepHandedRow
import Derived.Lib.LaidTab
namespace Go.Proofs.YtofaolbgjhpopaaDoor.fnExactHintName
open Go.ChangeShapes Go.WideShapes Go.ChangeAt Go.RowKit Go.Joins
open Go.ChangeMaps (open_string shut_string)
set_option linter.unusedVariables false

theorem own : ownKnob Tryd.prog.godebug = none := by kernel_rfl
theorem gTab : Tryd.prog.globalNamed "loop.example/g00883/impl.hintWords" = some 1 := by kernel_rfl
theorem gTabType : (Tryd.prog.globals[1]?).map (·.type) = some 30 := by kernel_rfl
theorem cellsTab : Tryd.prog.cellsOf 30 = 45 := by kernel_rfl
theorem cellsStr : Tryd.prog.cellsOf 9 = 1 := by kernel_rfl

/-- The names' bytes. -/
def texts : List (List UInt8) := [[115, 116, 111, 112], [112, 111, 112], [100, 117, 112], [115, 119, 97, 112], [97, 100, 100], [115, 117, 98], [109, 117, 108], [100, 105, 118], [110, 101, 103], [97, 98, 115], [109, 105, 110], [109, 97, 120], [108, 101, 115, 115], [101, 113, 117, 97, 108], [110, 111, 116], [114, 111, 117, 110, 100], [97, 120, 105, 115, 120], [97, 120, 105, 115, 121], [114, 101, 102], [103, 101, 116], [111, 114, 105, 103], [112, 117, 116], [115, 104, 105, 102, 116], [103, 114, 105, 100], [108, 105, 110, 107], [115, 116, 101, 109], [101, 118, 101, 110], [115, 109, 111, 111, 116, 104], [116, 111, 117, 99, 104], [102, 114, 101, 101], [118, 97, 108, 117, 101], [115, 116, 111, 114, 101], [115, 105, 122, 101], [99, 111, 117, 110, 116], [100, 101, 108, 116, 97], [105, 102], [101, 108, 115, 101], [101, 110, 100], [97, 103, 97, 105, 110], [112, 117, 115, 104], [119, 111, 114, 100], [115, 116, 97, 116, 101], [99, 117, 116], [108, 101, 97, 115, 116], [114, 101, 112, 101, 97, 116]]
def cellsN : List Value := texts.map fun b => .string ⟨b.toArray⟩
theorem laid_is {H : Type} : (Rows.laid_loop_example_g00883_impl_hintWords : DataW H) = .agg (texts.map fun b => .lit (.string b)) := rfl

/-- An array of strings that reads as these texts holds them, cell for cell. -/
theorem cells_of_texts {H : Type} {enc : TypeId × Value → H} {P : Program} {w : World} {base : Nat} {sp : Nat → Bool} {held : Bool} {fuel : Nat} {t e : TypeId} {n : Nat} {cs : List Value} {zs : List (List UInt8)} {d : DataW H} {p : List MemPlace}
    (ht : P.underlying t = some (.array n e)) (he : P.underlying e = some .string) (hce : P.cellsOf e = 1) (hct : P.cellsOf t = n)
    (hd : d = .agg (zs.map fun b => .lit (.string b)))
    (h : DataW.trod enc P w base sp held fuel t cs = some (d, p)) : cs = zs.map fun z => Value.string ⟨z.toArray⟩ := by
  subst hd
  cases fuel with
  | zero => simp [DataW.trod] at h
  | succ fuel =>
    simp only [DataW.trod, ht, hce, hct, Nat.mul_one] at h
    split at h
    · rename_i hl
      obtain ⟨xs, hm, hx⟩ := Option.map_eq_some_iff.1 h
      have hxs : xs.map (·.1) = zs.map fun z => (DataW.lit (.string z) : DataW H) := by
        have := congrArg Prod.fst hx
        simpa using this
      have hxl : xs.length = n := by simpa using Lib.mapM_length hm
      have hzl : zs.length = n := by
        have := congrArg List.length hxs
        simp at this
        omega
      apply List.ext_getElem?
      intro i
      by_cases hi : i < n
      · obtain ⟨b, hb, hf⟩ := Lib.mapM_at hm i i (by simp [hi])
        obtain ⟨s, hc, rfl, _⟩ := DataW.trod_string he hf
        have h1 : cs[i]? = some (.string s) := by
          have := congrArg (·[0]?) hc
          simpa [List.getElem?_take, List.getElem?_drop] using this
        have h2 : (xs.map (·.1))[i]? = some (DataW.lit (.string s.data.toList) : DataW H) := by simp [hb]
        rw [hxs] at h2
        simp only [List.getElem?_map, Option.map_eq_some_iff, DataW.lit.injEq, Lit.string.injEq] at h2
        obtain ⟨z', hz', e⟩ := h2
        subst e
        simp [h1, hz']
      · rw [List.getElem?_eq_none (by omega), List.getElem?_eq_none (by simp; omega)]
    · cases h


/-- What the row's list gives: the variable holds the twelve names. -/
theorem var_is {W : World} (h : laidMetH Tryd.prog Rows.fnExactHintNameRow.laid W) : ∃ cs : Array Value, W.var? Tryd.prog "loop.example/g00883/impl.hintWords" = some cs ∧ cs.toList = cellsN := by
  rw [MakeChecks.laidMetH_plain _ _ _ (by kernel_rfl)] at h
  obtain ⟨ps, ⟨g0, t0, cs0, f0, p0, q0, hg0, ht0, hv0, hd0, _, _⟩, _, _⟩ := h
  obtain rfl := Option.some.inj (gTab.symm.trans hg0)
  obtain rfl := Option.some.inj (gTabType.symm.trans ht0)
  exact ⟨cs0, hv0, cells_of_texts Tryd.underlying30 Tryd.underlying9 cellsStr cellsTab laid_is hd0⟩
theorem cell_is {W : World} {cs : Array Value} (hv : W.var? Tryd.prog "loop.example/g00883/impl.hintWords" = some cs) (hc : cs.toList = cellsN) (i : Nat) : W.cell? ⟨1, i, none⟩ = cellsN[i]? := by
  have h := World.var?_cell gTab hv i
  rw [h, ← hc]; simp

theorem tab_is {W : World} {cs : Array Value} (hv : W.var? Tryd.prog "loop.example/g00883/impl.hintWords" = some cs) (hc : cs.toList = cellsN) : TabN htNm 1 W := by
  have e : cellsN = htNm.map Value.string := rfl
  refine ⟨World.block_lt_of_cell? W ⟨1, 0, none⟩ ((cell_is hv hc 0).trans (by rfl)), fun k v h => ?_⟩
  rw [cell_is hv hc k, e]; simp [h]

theorem laidOut : laidOutB Tryd.prog = true := by kernel_rfl
theorem contract (H : Type) (enc : TypeId × Value → H) (W : World) (base : Nat) (args : Array Value) (ds gs : List (DataW H)) (before : List MemPlace)
    (hval : ∀ (j : Nat) t v, Tryd.f5.params[j]? = some t → args[j]? = some v → Value.okWide Tryd.prog W .any base t v)
    (hW : DataW.Whole enc Tryd.prog Tryd.f5.params.toList Rows.fnExactHintNameSpec.vars false W args.toList ds gs before) (hL : laidMetH Tryd.prog Rows.fnExactHintNameRow.laid W) :
    Calls Tryd.prog 5 args W fun e W' => ∃ v, e = .returned v ∧ Rows.fnExactHintNameSpec.post enc Tryd.prog Tryd.f5 false true false false W args v W' := by
  have hW' := hW
  obtain ⟨p, q, hA0, hV, rfl, hfz, hnd⟩ := hW
  have hA : DataW.TrodAll enc Tryd.prog W 0 (fun _ => true) true Tryd.f5.params.toList args.toList ds p := hA0
  rw [Tryd.params5] at hA hval
  obtain ⟨v0, vs0, d0, ds0, p0, q0, hargs, rfl, rfl, h0, r0⟩ := trodAll_cons hA
  obtain ⟨rfl, rfl, rfl⟩ := trodAll_nil r0
  obtain rfl : args = #[v0] := by cases args; simp_all
  obtain ⟨a0, rfl, rfl, rfl, w0⟩ := open_int Tryd.underlying2 (hval 0 2 v0 rfl rfl) h0
  obtain ⟨g, t, cs, fuel, d, pv, rfl, hg, ht, hv, hd, rfl⟩ := trodVars_one hV
  obtain rfl := Option.some.inj (gTab.symm.trans hg)
  obtain rfl := Option.some.inj (gTabType.symm.trans ht)
  obtain ⟨cs', hv', hc'⟩ := var_is hL
  clear hA0
  refine (walk_HintName a0 W (tab_is hv' hc')).mono fun e W' ⟨he, bel⟩ => ?_
  subst he
  have hT : DataW.Trod enc Tryd.prog W 0 (fun _ => true) true 30 (.agg cs) d pv := ⟨fuel, hd⟩
  obtain ⟨fuel', hd'⟩ := Below.trod laidOut (by kernel_rfl) (of_decide_eq_true (by kernel_rfl)) hT bel (DataW.trod_lt fuel _ _ _ hd)
  exact ⟨_, rfl, _, _, _, [], _, _, hW', trodAll_mk1 (shut_bool Tryd.underlying4 _), (trodAll_cons_mk (shut_int Tryd.underlying2 w0) trodAll_mk0), trodVars_mk1 gTab gTabType (Joins.var_stays gTab hv bel (Nat.le_refl _)) hd', bel.frame _, fun h => by cases h⟩

/-- A world for the witness: the settled one, the table holding what its initialiser lays. -/
noncomputable def laidWorld (os : Os) : World :=
  { World.holding Tryd.prog os ⟨#[], #[], []⟩ with heap := (World.holding Tryd.prog os ⟨#[], #[], []⟩).heap.modify 1 fun
      | .cells _ t frozen => .cells #[.string ⟨#[115, 116, 111, 112]⟩, .string ⟨#[112, 111, 112]⟩, .string ⟨#[100, 117, 112]⟩, .string ⟨#[115, 119, 97, 112]⟩, .string ⟨#[97, 100, 100]⟩, .string ⟨#[115, 117, 98]⟩, .string ⟨#[109, 117, 108]⟩, .string ⟨#[100, 105, 118]⟩, .string ⟨#[110, 101, 103]⟩, .string ⟨#[97, 98, 115]⟩, .string ⟨#[109, 105, 110]⟩, .string ⟨#[109, 97, 120]⟩, .string ⟨#[108, 101, 115, 115]⟩, .string ⟨#[101, 113, 117, 97, 108]⟩, .string ⟨#[110, 111, 116]⟩, .string ⟨#[114, 111, 117, 110, 100]⟩, .string ⟨#[97, 120, 105, 115, 120]⟩, .string ⟨#[97, 120, 105, 115, 121]⟩, .string ⟨#[114, 101, 102]⟩, .string ⟨#[103, 101, 116]⟩, .string ⟨#[111, 114, 105, 103]⟩, .string ⟨#[112, 117, 116]⟩, .string ⟨#[115, 104, 105, 102, 116]⟩, .string ⟨#[103, 114, 105, 100]⟩, .string ⟨#[108, 105, 110, 107]⟩, .string ⟨#[115, 116, 101, 109]⟩, .string ⟨#[101, 118, 101, 110]⟩, .string ⟨#[115, 109, 111, 111, 116, 104]⟩, .string ⟨#[116, 111, 117, 99, 104]⟩, .string ⟨#[102, 114, 101, 101]⟩, .string ⟨#[118, 97, 108, 117, 101]⟩, .string ⟨#[115, 116, 111, 114, 101]⟩, .string ⟨#[115, 105, 122, 101]⟩, .string ⟨#[99, 111, 117, 110, 116]⟩, .string ⟨#[100, 101, 108, 116, 97]⟩, .string ⟨#[105, 102]⟩, .string ⟨#[101, 108, 115, 101]⟩, .string ⟨#[101, 110, 100]⟩, .string ⟨#[97, 103, 97, 105, 110]⟩, .string ⟨#[112, 117, 115, 104]⟩, .string ⟨#[119, 111, 114, 100]⟩, .string ⟨#[115, 116, 97, 116, 101]⟩, .string ⟨#[99, 117, 116]⟩, .string ⟨#[108, 101, 97, 115, 116]⟩, .string ⟨#[114, 101, 112, 101, 97, 116]⟩] t frozen
      | o => o }
theorem laid_met (os : Os) : laidMet Tryd.prog Rows.fnExactHintNameRow.laid ((laidWorld os).forCall (fun _ _ => 0) ⟨#[], #[.int .i64 0], []⟩).memory :=
  laidMet_of_run' 8 (by kernel_rfl) (by kernel_rfl)
theorem reads (os : Os) {H : Type} (enc : TypeId × Value → H) : ∃ places, DataW.whole enc Tryd.prog ((laidWorld os).forCall (fun _ _ => 0) ⟨#[], #[.int .i64 0], []⟩).memory Tryd.f5.params.toList Rows.fnExactHintNameSpec.vars false (#[.int .i64 0] : Array Value).toList 8 = some ([.lit (.int .i64 0)], [Rows.laid_loop_example_g00883_impl_hintWords], places) :=
  ⟨MemPlace.row ⟨1, 0, none⟩ 45, by kernel_rfl⟩

set_option maxRecDepth 100000 in
theorem lifted (os : Os) (started : os.Started) (H : Type) (enc : TypeId × Value → H) (F : Stop.Interp) :
    ReturnsInHanded {} Tryd.checked os 5 .any ((OpenSpec.ofChange Rows.fnExactHintNameSpec).preRow enc Tryd.prog Tryd.f5 Rows.fnExactHintNameRow.domain false Rows.fnExactHintNameRow.laid) (((OpenSpec.ofChange Rows.fnExactHintNameSpec).at F).post enc Tryd.prog Tryd.f5 false true false false) := by
  obtain ⟨places, hx⟩ := reads os enc
  refine returnsInHanded_of_row (C := Tryd.checked) (s := OpenSpec.ofChange Rows.fnExactHintNameSpec) own started (by kernel_rfl) Tryd.func5
    (witness_row_at (enc := enc) (C := Tryd.checked) false (laidWorld os) #[.int .i64 0] rfl (by kernel_rfl) (by kernel_rfl) (by kernel_rfl)
      (OpenSpec.preRow_of_cond 8 hx (by kernel_rfl) (fun k hk => by cases hk) (by kernel_rfl) (laid_met os))) ?_
  intro W base args ds gs before hval hW _ _ _ hL _ _
  exact contract H enc W base args ds gs before hval hW hL

theorem said : Rows.FnExactHintNameSaid :=
  OpenClaim.holds_of_cond 5 Tryd.f5 rfl rfl rfl rfl rfl rfl rfl ⟨rfl, rfl, rfl, rfl, rfl⟩ rfl rfl rfl rfl rfl (by kernel_rfl) Tryd.func5 (by kernel_rfl)
    (of_decide_eq_true (by kernel_rfl)) (by unfold Func.isWrapper; first | (rw [if_pos (by decide +kernel)]; kernel_rfl) | (rw [if_neg (by decide +kernel)]; exact ⟨rfl, rfl⟩))
    (fun os started H enc _ F => by rw [OpenClaim.pre_eq_preRow]; exact lifted os started H enc F)

theorem plain (f : FuncId) (fn : Func) (hf : Tryd.pinned.checked.prog.funcNamed "loop.example/g00883/laws.FnExactHintName" = some f) (hfn : Tryd.pinned.checked.prog.funcs[f]? = some fn) :
    false = Tryd.pinned.checked.prog.looks [] ∧ ∀ (j : Nat) t, fn.params[j]? = some t → Tryd.pinned.checked.prog.wantsStandIn t = false := by
  obtain rfl : f = 5 := Option.some.inj ((show Tryd.prog.funcNamed "loop.example/g00883/laws.FnExactHintName" = some 5 by kernel_rfl).symm.trans hf) |>.symm
  obtain rfl : fn = Tryd.f5 := (Option.some.inj (Tryd.func5.symm.trans hfn)).symm
  refine ⟨by kernel_rfl, fun j t ht => ?_⟩
  rw [Tryd.params5] at ht
  obtain rfl : t = 2 := by simpa using Array.mem_of_getElem? ht
  exact (show Tryd.prog.wantsStandIn 2 = false by kernel_rfl)

theorem proved : Rows.FnExactHintNameCardSaid :=
  Claim7.holds_tied_plain_at .later [] _ _ _ _ said (fun _ h => by cases h) (by kernel_rfl) (fun _ h => by cases h) fnExactHintName_row_tie rfl ⟨rfl, rfl⟩ (by kernel_rfl) rfl plain (by kernel_rfl)
#print axioms proved

end Go.Proofs.YtofaolbgjhpopaaDoor.fnExactHintName

