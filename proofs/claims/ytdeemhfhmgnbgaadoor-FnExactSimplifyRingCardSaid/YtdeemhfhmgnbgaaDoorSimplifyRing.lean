/- For every ring the law on SimplifyRing returns true: the program's SimplifyRing returns what the reference's does, and leaves its argument as it was; the package's error is tied to the program's text. -/
import Derived.Test.YtdeemhfhmgnbgaaDoorCards
import Derived.Test.YtdeemhfhmgnbgaaDoorTie
import Derived.Test.YtdeemhfhmgnbgaaDoorFl
import Derived.Test.YtdeemhfhmgnbgaaDoorSml
import Derived.Below
import Derived.Lib.SmallJoins
import Derived.WalkKit
import Derived.ProofKit
import Derived.OpenShut
import Derived.ShutString
import Derived.Deep.DeepHandedRow
import Derived.Lib.LaidTab
import Derived.Stop.LaidErr
namespace Go.Proofs.YtdeemhfhmgnbgaaDoor.fnExactSimplifyRing
open Go.ChangeShapes Go.WideShapes Go.ChangeAt Go.RowKit Go.Joins
open Go.ChangeMaps (open_string shut_string)
set_option linter.unusedVariables false

theorem laidOut : laidOutB Tryd.prog = true := by kernel_rfl
theorem own : ownKnob Tryd.prog.godebug = none := by kernel_rfl
theorem star : "*" ++ "errors.errorString" = "*errors.errorString" := by decide
theorem rowE (u : TypeId) (h : Tryd.prog.typeName? 3 u = some "*errors.errorString") : u = 79 :=
  typeName_ptr_named (nm := "errors.errorString") (by rw [star]; kernel_rfl) (by kernel_rfl) (by decide) u (by rw [star]; exact h)
theorem cellsE : Tryd.prog.cellsOf 106 = 1 := by kernel_rfl
theorem cellsS : Tryd.prog.cellsOf 9 = 1 := by kernel_rfl
theorem gS : Tryd.prog.globalNamed "loop.example/g00883/impl.errStraight" = some 0 := by kernel_rfl
theorem tS : (Tryd.prog.globals[0]?).map (·.type) = some 42 := by kernel_rfl
theorem sentVar {W : World} (h : laidMetH Tryd.prog Rows.fnExactSimplifyRingRow.laid W) : ∃ a : Addr, W.var? Tryd.prog "loop.example/g00883/impl.errStraight" = some #[.iface 79 (.pointer (some a))] := by
  rw [MakeChecks.laidMetH_plain _ _ _ (by kernel_rfl)] at h
  obtain ⟨a, s, hv, _, _, _⟩ := laid_sentinel h gS tS Tryd.underlying42 rowE Tryd.underlying79 Tryd.underlying106 rfl rfl Tryd.underlying9 cellsE cellsS
  exact ⟨a, hv⟩
theorem varStays {W W' : World} {cs : Array Value} (hz : 0 < W.heap.size) (hb : Below W.heap.size W W') (h : W.var? Tryd.prog "loop.example/g00883/impl.errStraight" = some cs) : W'.var? Tryd.prog "loop.example/g00883/impl.errStraight" = some cs := by
  simp only [World.var?, gS, Option.bind_some] at h ⊢
  rw [hb.block 0 hz]; exact h
/-- What the row's list gives: the sentinel. -/
theorem sentIs {W : World} (h : laidMetH Tryd.prog Rows.fnExactSimplifyRingRow.laid W) : SentIs W := by
  rw [MakeChecks.laidMetH_plain _ _ _ (by kernel_rfl)] at h
  obtain ⟨a, s, hv, _, _, _⟩ := laid_sentinel h gS tS Tryd.underlying42 rowE Tryd.underlying79 Tryd.underlying106 rfl rfl Tryd.underlying9 cellsE cellsS
  have hc0 : W.cell? ⟨0, 0, none⟩ = some (.iface 79 (.pointer (some a))) := World.var?_cell gS hv 0
  refine ⟨?_, a, hc0⟩
  rcases Nat.eq_zero_or_pos W.heap.size with h0 | h0
  · have hn : W.heap[(0 : Nat)]? = none := Array.getElem?_eq_none (by omega)
    simp [World.cell?, hn] at hc0
  · exact h0

set_option maxRecDepth 100000 in
theorem contract (H : Type) (enc : TypeId × Value → H) (W : World) (base : Nat) (args : Array Value) (ds gs : List (DataW H)) (before : List MemPlace)
    (hval : ∀ (j : Nat) t v, Tryd.f3.params[j]? = some t → args[j]? = some v → Value.okWide Tryd.prog W .any base t v)
    (hW : DataW.Whole enc Tryd.prog Tryd.f3.params.toList Rows.fnExactSimplifyRingSpec.vars false W args.toList ds gs before) (hL : laidMetH Tryd.prog Rows.fnExactSimplifyRingRow.laid W) :
    Calls Tryd.prog 3 args W fun e W' => ∃ v, e = .returned v ∧ Rows.fnExactSimplifyRingSpec.post enc Tryd.prog Tryd.f3 false true false false W args v W' := by
  have hW' := hW
  obtain ⟨p, q, hA0, hV, rfl, hfz, hnd⟩ := hW
  have hA : DataW.TrodAll enc Tryd.prog W 0 (fun _ => true) true Tryd.f3.params.toList args.toList ds p := hA0
  rw [Tryd.params3] at hA hval
  obtain ⟨v0, vs0, d0, ds0, p0, q0, hargs, rfl, rfl, h0, r0⟩ := trodAll_cons hA
  obtain ⟨rfl, rfl, rfl⟩ := trodAll_nil r0
  obtain rfl : args = #[v0] := by cases args; simp_all
  obtain ⟨aS, hvS⟩ := sentVar hL
  obtain ⟨rfl, rfl⟩ := DataW.TrodVars.unique hV (vars_read1 enc gS tS Tryd.underlying42 hvS trivial _)
  have h0k := h0
  obtain ⟨a0, rfl, k0⟩ := open_Ring (hval 0 24 v0 rfl rfl) h0
  clear hA0
  refine (walk_SimplifyRing a0  W k0 (sentIs hL)).mono fun e W' ⟨he, bel⟩ => ?_
  subst he
  exact ⟨_, rfl, _, _, _, [], _, _, hW', trodAll_mk1 (shut_bool Tryd.underlying4 _), (trodAll_cons_mk (Below.trod laidOut (by kernel_rfl) (of_decide_eq_true (by kernel_rfl)) h0k bel (trod_lt h0k)) trodAll_mk0), vars_read1 enc gS tS Tryd.underlying42 (varStays (sentIs hL).1 bel hvS) trivial _, bel.frame _, fun h => by cases h⟩

/-- A world for the witness: the settled one, the variables holding what their initialisers lay. -/
def putTab (h : Array Obj) (g : Nat) (cs : Array Value) : Array Obj := h.modify g fun
  | .cells _ t frozen => .cells cs t frozen
  | o => o
noncomputable def low : Nat := (World.holding Tryd.prog default ⟨#[], #[], []⟩).heap.size
noncomputable def laidWorld (os : Os) : World :=
  { World.holding Tryd.prog os ⟨#[.cells #[.string { data := #[116, 104, 101, 32, 114, 105, 110, 103, 32, 116, 117, 114, 110, 115, 32, 97, 116, 32, 110, 111, 32, 112, 111, 105, 110, 116] }] 106], #[], []⟩ with heap := putTab ((World.holding Tryd.prog os ⟨#[.cells #[.string { data := #[116, 104, 101, 32, 114, 105, 110, 103, 32, 116, 117, 114, 110, 115, 32, 97, 116, 32, 110, 111, 32, 112, 111, 105, 110, 116] }] 106], #[], []⟩).heap) 0 #[.iface 79 (.pointer (some ⟨low, 0, none⟩))] }
theorem laid_met (os : Os) : laidMet Tryd.prog Rows.fnExactSimplifyRingRow.laid ((laidWorld os).forCall (fun _ _ => 0) ⟨#[], #[.agg #[.slice none 0 0]], []⟩).memory :=
  laidMet_of_run' 8 (by kernel_rfl) (by kernel_rfl)
theorem reads (os : Os) {H : Type} (enc : TypeId × Value → H) : ∃ places, DataW.whole enc Tryd.prog ((laidWorld os).forCall (fun _ _ => 0) ⟨#[], #[.agg #[.slice none 0 0]], []⟩).memory Tryd.f3.params.toList Rows.fnExactSimplifyRingSpec.vars false (#[.agg #[.slice none 0 0]] : Array Value).toList 8 = some ([.agg [.nil]], [.held (enc (79, .pointer (some ⟨low, 0, none⟩)))], places) :=
  ⟨[.cell 0 0], by kernel_rfl⟩

set_option maxRecDepth 100000 in
theorem lifted (os : Os) (started : os.Started) (H : Type) (enc : TypeId × Value → H) (F : Stop.Interp) :
    ReturnsInHanded {} Tryd.checked os 3 .any ((OpenSpec.ofChange Rows.fnExactSimplifyRingSpec).preRow enc Tryd.prog Tryd.f3 Rows.fnExactSimplifyRingRow.domain false Rows.fnExactSimplifyRingRow.laid) (((OpenSpec.ofChange Rows.fnExactSimplifyRingSpec).at F).post enc Tryd.prog Tryd.f3 false true false false) := by
  obtain ⟨places, hx⟩ := reads os enc
  refine returnsInHanded_of_row (C := Tryd.checked) (s := OpenSpec.ofChange Rows.fnExactSimplifyRingSpec) own started (by kernel_rfl) Tryd.func3
    (witness_row_at (enc := enc) (C := Tryd.checked) false (laidWorld os) #[.agg #[.slice none 0 0]] rfl (by kernel_rfl) (by kernel_rfl) (by kernel_rfl)
      (OpenSpec.preRow_of_cond 8 hx (by kernel_rfl) (fun k hk => by cases hk) (by kernel_rfl) (laid_met os))) ?_
  intro W base args ds gs before hval hW _ _ _ hL _ _
  exact contract H enc W base args ds gs before hval hW hL

theorem said : Rows.FnExactSimplifyRingSaid :=
  OpenClaim.holds_of_cond 3 Tryd.f3 rfl rfl rfl rfl rfl rfl rfl ⟨rfl, rfl, rfl, rfl, rfl⟩ rfl rfl rfl rfl rfl (by kernel_rfl) Tryd.func3 (by kernel_rfl)
    (of_decide_eq_true (by kernel_rfl)) (by unfold Func.isWrapper; first | (rw [if_pos (by decide +kernel)]; kernel_rfl) | (rw [if_neg (by decide +kernel)]; exact ⟨rfl, rfl⟩))
    (fun os started H enc _ F => by rw [OpenClaim.pre_eq_preRow]; exact lifted os started H enc F)

theorem plain (f : FuncId) (fn : Func) (hf : Tryd.pinned.checked.prog.funcNamed "loop.example/g00883/laws.FnExactSimplifyRing" = some f) (hfn : Tryd.pinned.checked.prog.funcs[f]? = some fn) :
    true = Tryd.pinned.checked.prog.looks [] ∧ ∀ (j : Nat) t, fn.params[j]? = some t → Tryd.pinned.checked.prog.wantsStandIn t = false := by
  obtain rfl : f = 3 := Option.some.inj ((show Tryd.prog.funcNamed "loop.example/g00883/laws.FnExactSimplifyRing" = some 3 by kernel_rfl).symm.trans hf) |>.symm
  obtain rfl : fn = Tryd.f3 := (Option.some.inj (Tryd.func3.symm.trans hfn)).symm
  refine ⟨by kernel_rfl, fun j t ht => ?_⟩
  rw [Tryd.params3] at ht
  obtain rfl : t = 24 := by simpa using Array.mem_of_getElem? ht
  exact (show Tryd.prog.wantsStandIn 24 = false by kernel_rfl)

theorem proved : Rows.FnExactSimplifyRingCardSaid :=
  Claim7.holds_tied_plain_at .later [] _ _ _ _ said (fun _ h => by cases h) (by kernel_rfl) (fun _ h => by cases h) fnExactSimplifyRing_row_tie rfl ⟨rfl, rfl⟩ (by kernel_rfl) rfl plain (by kernel_rfl)
#print axioms proved
end Go.Proofs.YtdeemhfhmgnbgaaDoor.fnExactSimplifyRing
