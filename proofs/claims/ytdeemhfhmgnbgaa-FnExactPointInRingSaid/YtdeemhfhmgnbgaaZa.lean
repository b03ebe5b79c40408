/- Maps of edges: keys that are structs, an entry that is bumped; plain laws. -/
import Derived.Test.YtdeemhfhmgnbgaaXa
import Derived.Maps.RangeWalk
import Derived.DeepKeys4
import Derived.WideKeyEntry
namespace Go.Proofs.Ytdeemhfhmgnbgaa
open Go.RowKit Go.Maps
open Go.WideElems (Fit rd rg pl)
open Go.ChangeMaps (setBlock)
set_option linter.unusedVariables false
theorem laidOutZ : laidOutB Try.prog = true := by kernel_rfl
theorem rowEdge : (114 : TypeId) < Try.prog.types.size := of_decide_eq_true (by kernel_rfl)
theorem wideEdge : (match Try.prog.underlying 114 with | some (.array _ _) | some (.struct _) => true | _ => false) = true := by rw [Try.underlying114]
set_option maxRecDepth 100000 in
theorem klEdge : WideMaps.KeyLaw Try.prog 114 := deep_law_laid laidOutZ (m := 3) (by omega) rowEdge (by kernel_rfl) wideEdge
theorem lawEdge : Keyed Try.prog 114 := Keyed.of_law klEdge
def lits (e : AEdge) : List Lit := [.int .i64 e.1, .int .i64 e.2.1, .int .i64 e.2.2.1, .int .i64 e.2.2.2]
/-- What an edge reads as, as a key. -/
def klE (e : AEdge) : Lit := .string (keyBytes (lits e))
def in64 (e : AEdge) : Prop := ((Lit.int .i64 e.1).wf = true ∧ (Lit.int .i64 e.2.1).wf = true) ∧ (Lit.int .i64 e.2.2.1).wf = true ∧ (Lit.int .i64 e.2.2.2).wf = true
def evE (e : AEdge) : Value := .agg #[.int .i64 e.1, .int .i64 e.2.1, .int .i64 e.2.2.1, .int .i64 e.2.2.2]
theorem wf_in {x : Int} (h : -9223372036854775808 ≤ x ∧ x ≤ 9223372036854775807) : (Lit.int .i64 x).wf = true := WalkArith.wf_i64 h
theorem okE_in {e : AEdge} (h : okE e) : in64 e := by
  have a := okB_bounds h.1
  have b := okB_bounds h.2
  exact ⟨⟨wf_in (by omega), wf_in (by omega)⟩, wf_in (by omega), wf_in (by omega)⟩
theorem litsPt {x y : Int} (h1 : (Lit.int .i64 x).wf = true) (h2 : (Lit.int .i64 y).wf = true) (d : Nat) : Try.prog.keyLits (d + 1 + 1) 26 [.int .i64 x, .int .i64 y] = some [.int .i64 x, .int .i64 y] := by
  have c : Try.prog.cellsOf 26 = 2 := by kernel_rfl
  have c2 : Try.prog.cellsOf 2 = 1 := by kernel_rfl
  have u := Try.underlying26
  simp [c, c2, u, Program.keyLits, Try.underlying2, h1, h2]
theorem keyE (e : AEdge) (h : in64 e) : keyOf Try.prog 114 (evE e) = some (klE e) := by
  obtain ⟨⟨h1, h2⟩, h3, h4⟩ := h
  have hsz : Try.prog.types.size + 1 = (Try.prog.types.size - 2) + 1 + 1 + 1 := by have : 2 ≤ Try.prog.types.size := of_decide_eq_true (by kernel_rfl); omega
  have c : Try.prog.cellsOf 114 = 4 := by kernel_rfl
  have c2 : Try.prog.cellsOf 26 = 2 := by kernel_rfl
  have kt : Try.prog.keyType 114 = true := by kernel_rfl
  have f : (evE e).formed Try.prog 114 = true := by simp [evE, Value.formed, Try.underlying114, c]
  have u := Try.underlying114
  have a := litsPt h1 h2 (Try.prog.types.size - 2)
  have b := litsPt h3 h4 (Try.prog.types.size - 2)
  have g : Try.prog.keyLits (Try.prog.types.size - 2 + 1 + 1 + 1) 114 [.int .i64 e.1, .int .i64 e.2.1, .int .i64 e.2.2.1, .int .i64 e.2.2.2] = some (lits e) := by
    generalize Try.prog.types.size - 2 = d at a b
    rw [Program.keyLits.eq_def]
    simp only [u]
    simp [c, c2, a, b, lits]
  unfold keyOf
  simp only [Try.underlying114]
  rw [kt, f, hsz, show (evE e).cells.toList = [.int .i64 e.1, .int .i64 e.2.1, .int .i64 e.2.2.1, .int .i64 e.2.2.2] from rfl, g]
  rfl
theorem klE_inj {a b : AEdge} (ha : in64 a) (hb : in64 b) (h : klE a = klE b) : a = b := by
  have h1 := keyE a ha
  have h2 := keyE b hb
  rw [h] at h1
  have := lawEdge.inj h1 h2
  unfold evE at this
  obtain ⟨a1, a2, a3, a4⟩ := a
  obtain ⟨b1, b2, b3, b4⟩ := b
  simp only [Value.agg.injEq, Array.mk.injEq, List.cons.injEq, Value.int.injEq, true_and, and_true] at this
  obtain ⟨rfl, rfl, rfl, rfl⟩ := this
  rfl
theorem klE_is (e : AEdge) (h : in64 e) : WideAt.IsKeyLit (klE e) := lawEdge.key (keyE e h)
theorem same_klE {a b : AEdge} (ha : in64 a) (hb : in64 b) : (klE a).sameKey (klE b) = decide (a = b) := by
  by_cases h : a = b
  · subst h; rw [WideAt.sameKey_self (klE_is _ ha)]; simp
  · rw [Maps.sameKey_ne (fun e => h (klE_inj ha hb e))]; simp [h]
theorem own_of_heap {H : Type} {P : Program} {k : TypeId} {R : Value → Option (DataW H × List MemPlace)} {w w' : World} {b n : Nat} {D : DataW H} (h : w.ownsMap P k R b n D) (hh : w'.heap[b]? = w.heap[b]?) : w'.ownsMap P k R b n D := by
  obtain ⟨es, clock, hb, F, hs, hD⟩ := h
  exact ⟨es, clock, hh.trans hb, F, hs, hD⟩
/-- An entry of integers that is looked up and laid anew, whatever the order of the two looks. -/
theorem bump {H : Type} {P : Program} {w : World} {t k e b n : Nat} {D : DataW H} (K : WideMaps.KeyLaw P k) (ht : P.underlying t = some (.map k e)) (he : P.underlying e = some (.int .i64)) (hz : ∀ u : World, (zeroValue e).run P u = .ok (.int .i64 0) u)
    (hn : n < maxLen) (h : w.ownsMap P k (plainElem P e) b n D) {key : Value} {kl : Lit} (hkey : keyOf P k key = some kl) :
    ∃ (cur : Int) (st : Int) (w1 : World), (Instr.lookup t (.map (some b)) key false).run P w = .ok (.int .i64 cur) w ∧ D.atKey kl (.lit (.int .i64 0)) = .lit (.int .i64 cur) ∧ (Lit.int .i64 cur).wf = true ∧
      (Instr.mapEntry t (.map (some b)) key).run P w = .ok (.tuple #[.int .i64 cur, .int .i64 st]) w1 ∧ (Instr.lookup t (.map (some b)) key false).run P w1 = .ok (.int .i64 cur) w1 ∧ w.grownBy w1 (some b) ∧ w1.heap.size = w.heap.size ∧
      ∀ v : Int, (Lit.int .i64 v).wf = true → ∃ w2, (Instr.entryStore t (.map (some b)) (.int .i64 st) (.int .i64 v)).run P w1 = .ok () w2 ∧ w2.ownsMap P k (plainElem P e) b (n + 1) (D.put kl (.lit (.int .i64 v))) ∧ w.grownBy w2 (some b) ∧ w2.heap.size = w.heap.size := by
  obtain ⟨cur, hl, hat, hw⟩ := h.lookup_int (Keyed.of_law K) ht he (hz w) hkey
  have hup := fun (v : Int) (hv : (Lit.int .i64 v).wf = true) => h.update (Keyed.of_law K) ht hn (val := .int .i64 v) hkey (plainElem_int he hv)
  obtain ⟨es, clock, hb, F, hs, hD⟩ := h
  obtain ⟨v0, st, es1, clock1, r1, r2, r3⟩ := WideElems.entry_then_store K ht hz hb F hkey
  have hb1 : (setBlock w b (.map es1 clock1)).heap[b]? = some (.map es1 clock1) := ChangeMaps.heap_setBlock_same hb _
  have gb : ∀ o : Obj, w.grownBy (setBlock w b o) (some b) := fun o => ⟨rfl, rfl, rfl, by simp [setBlock], fun i _ hi => ChangeMaps.heap_setBlock_other hb _ (fun e => hi (by rw [e]))⟩
  have sz : ∀ o : Obj, (setBlock w b o).heap.size = w.heap.size := fun o => by simp [setBlock]
  have fin : ∀ v : Int, (Lit.int .i64 v).wf = true → ∃ w2, (Instr.entryStore t (.map (some b)) (.int .i64 st) (.int .i64 v)).run P (setBlock w b (.map es1 clock1)) = .ok () w2 ∧ w2.ownsMap P k (plainElem P e) b (n + 1) (D.put kl (.lit (.int .i64 v))) ∧ w.grownBy w2 (some b) ∧ w2.heap.size = w.heap.size := by
    intro v hv
    obtain ⟨es', clock', q1, q2⟩ := r3 _ (.int .i64 v) hb1
    obtain ⟨w', u1, u2, u3⟩ := hup v hv
    rw [q2] at u1
    obtain rfl : setBlock w b (.map es' clock') = w' := by injection u1
    refine ⟨_, q1, own_of_heap u2 ?_, ?_, by simp [setBlock]⟩
    · rw [ChangeMaps.heap_setBlock_same hb1 _, ChangeMaps.heap_setBlock_same hb _]
    · exact ⟨rfl, rfl, rfl, by simp [setBlock], fun i hi hne => by
        rw [ChangeMaps.heap_setBlock_other hb1 _ (fun e => hne (by rw [e]))]
        exact (gb _).block i hi hne⟩
  have look : v0 = .int .i64 cur ∧ (Instr.lookup t (.map (some b)) key false).run P (setBlock w b (.map es1 clock1)) = .ok (.int .i64 cur) (setBlock w b (.map es1 clock1)) := by
    rcases (Keyed.of_law K).find w hkey es.toList F.keys with ⟨h1, h2⟩ | ⟨j, e0, h1, h2, h3⟩
    · have m : (Instr.mapEntry t (.map (some b)) key).run P w = .ok (.tuple #[.int .i64 0, goInt clock]) (setBlock w b (.map (es.push ⟨key, .int .i64 0, clock⟩) (clock + 1))) := by
        simp [Instr.mapEntry, run_underlying ht, MapKept.run_getObj_map hb, K.check w false hkey, h1, hz, MapKept.run_setObj_map _ hb, Result.andThen, setBlock]
      have u : (Instr.mapUpdate t (.map (some b)) key (.int .i64 0)).run P w = .ok () (setBlock w b (.map (es.push ⟨key, .int .i64 0, clock⟩) (clock + 1))) := by
        simp [Instr.mapUpdate, run_underlying ht, MapKept.run_getObj_map hb, K.check w false hkey, h1, MapKept.run_setObj_map _ hb, Result.andThen, setBlock]
      have l : (Instr.lookup t (.map (some b)) key false).run P w = .ok (.int .i64 0) w := by
        simp [Instr.lookup, run_underlying ht, MapKept.run_getObj_map hb, K.check w _ hkey, h1, hz, Result.andThen]
      rw [l] at hl
      obtain rfl : (0 : Int) = cur := by injection hl with hl; injection hl
      rw [m] at r1
      injection r1 with q1 q2
      obtain ⟨w', u1, u2, u3⟩ := hup 0 hw
      rw [u] at u1
      obtain rfl : _ = w' := by injection u1
      rw [q2] at u2
      obtain ⟨c, hc, hac, _⟩ := u2.lookup_int (Keyed.of_law K) ht he (hz _) hkey
      rw [Maps.atKey_put_same ⟨_, hD⟩ ((Keyed.of_law K).key hkey)] at hac
      obtain rfl : (0 : Int) = c := by injection hac with hac; injection hac
      refine ⟨?_, hc⟩
      injection q1 with q1
      simp at q1
      exact q1.1.symm
    · have hj : es[j]? = some e0 := by simpa using h2
      have hsame : es.modify j (fun e => { e with key := key }) = es := by
        apply Array.ext'
        rw [Array.toList_modify, ChangeMaps.modify_eq_set _ _ _ _ h2, show ({ e0 with key := key } : MapEntry) = e0 by rw [← h3]]
        exact WideElems.set_self _ _ _ h2
      have m : (Instr.mapEntry t (.map (some b)) key).run P w = .ok (.tuple #[e0.val, goInt e0.born]) (setBlock w b (.map es clock)) := by
        simp [Instr.mapEntry, run_underlying ht, MapKept.run_getObj_map hb, K.check w false hkey, h1, hj, h3, K.stays w hkey, hsame, MapKept.run_setObj_map _ hb, Result.andThen, setBlock]
      have l : (Instr.lookup t (.map (some b)) key false).run P w = .ok e0.val w := by
        simp [Instr.lookup, run_underlying ht, MapKept.run_getObj_map hb, K.check w _ hkey, h1, Result.andThen]
      rw [l] at hl
      have hv : e0.val = .int .i64 cur := by injection hl
      rw [m] at r1
      injection r1 with q1 q2
      have ow : (setBlock w b (.map es1 clock1)).ownsMap P k (plainElem P e) b n D := by
        rw [← q2]
        exact ⟨es, clock, ChangeMaps.heap_setBlock_same hb _, F, hs, hD⟩
      obtain ⟨c, hc, hac, _⟩ := ow.lookup_int (Keyed.of_law K) ht he (hz _) hkey
      rw [hat] at hac
      obtain rfl : cur = c := by injection hac with hac; injection hac
      refine ⟨?_, hc⟩
      injection q1 with q1
      simp at q1
      rw [← q1.1, hv]
  obtain ⟨rfl, look⟩ := look
  exact ⟨cur, st, _, hl, hat, hw, r1, look, gb _, sz _, fin⟩
end Go.Proofs.Ytdeemhfhmgnbgaa
