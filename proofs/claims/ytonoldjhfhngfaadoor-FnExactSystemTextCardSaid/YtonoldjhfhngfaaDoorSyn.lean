/- Maps of bools by strings that a call keeps; plain laws. -/
import Derived.Test.YtonoldjhfhngfaaDoorSyp
import Derived.Maps.OwnOps
import Derived.Maps.Views
import Derived.StringKeys
namespace Go.Proofs.YtonoldjhfhngfaaDoor
open Go.RowKit Go.Maps
open Go.WideMaps (keyOf_string_mk)
set_option linter.unusedVariables false
theorem lawStr : Keyed Tryd.prog 9 := string_keyed Tryd.underlying9
theorem zeroBool (w : World) : (zeroValue 4).run Tryd.prog w = .ok (.bool false) w := Tryd.zeroValue4 w
theorem plainBool_inv {H : Type} {P : Program} {e : TypeId} (he : P.underlying e = some .bool) {v : Value} {z : DataW H × List MemPlace} (h : plainElem P e v = some z) : ∃ x, v = .bool x ∧ z = (.lit (.bool x), []) := by
  unfold plainElem at h
  rw [he] at h
  cases v <;> simp at h
  exact ⟨_, rfl, h.symm⟩
theorem own_of_heap {H : Type} {P : Program} {k : TypeId} {R : Value → Option (DataW H × List MemPlace)} {w w' : World} {b n : Nat} {D : DataW H} (h : w.ownsMap P k R b n D) (hh : w'.heap[b]? = w.heap[b]?) : w'.ownsMap P k R b n D := by
  obtain ⟨es, clock, hb, F, hs, hD⟩ := h
  exact ⟨es, clock, hh.trans hb, F, hs, hD⟩
def MapS (w : World) (b n : Nat) (f : List UInt8 → Bool) : Prop := ∃ D : DataW Unit, w.ownsMap Tryd.prog 9 (plainElem Tryd.prog 4) b n D ∧ ∀ s : List UInt8, D.atKey (.string s) (.lit (.bool false)) = .lit (.bool (f s))
section
variable {w w' : World} {b n : Nat}
theorem MapS.keep {f : List UInt8 → Bool} (h : MapS w b n f) (hh : w'.heap[b]? = w.heap[b]?) : MapS w' b n f := by
  obtain ⟨D, h1, h2⟩ := h; exact ⟨D, own_of_heap h1 hh, h2⟩
theorem MapS.lt {f : List UInt8 → Bool} (h : MapS w b n f) : b < w.heap.size := h.choose_spec.1.lt
theorem MapS.below {f : List UInt8 → Bool} {B : Nat} (h : MapS w b n f) (hb : Below B w w') (hB : b < B) : MapS w' b n f := h.keep (hb.block b hB)
theorem MapS.made (w : World) : MapS (w.alloc (.map #[] 0)) w.heap.size 0 (fun _ => false) := ⟨.map [], World.ownsMap_made _ _ _ _, fun _ => rfl⟩
theorem MapS.look {f : List UInt8 → Bool} (h : MapS w b n f) (s : ByteArray) (hs : s.size ≤ maxLen) : (Instr.lookup 86 (.map (some b)) (.string s) false).run Tryd.prog w = .ok (.bool (f s.data.toList)) w := by
  obtain ⟨D, h1, h2⟩ := h
  obtain ⟨v, ps, hr, hv⟩ := h1.lookup lawStr Tryd.underlying86 (zeroBool w) (plainElem_bool Tryd.underlying4 false) (keyOf_string_mk Tryd.underlying9 hs)
  obtain ⟨x, rfl, hx⟩ := plainBool_inv Tryd.underlying4 hv
  rw [h2] at hx
  simp at hx
  rw [hr, hx.1]
theorem MapS.put {f : List UInt8 → Bool} (h : MapS w b n f) (s : ByteArray) (hs : s.size ≤ maxLen) (hn : n < maxLen) (v : Bool) :
    ∃ w1, (Instr.mapUpdate 86 (.map (some b)) (.string s) (.bool v)).run Tryd.prog w = .ok () w1 ∧ MapS w1 b (n + 1) (fun t => if t = s.data.toList then v else f t) ∧ w.grownBy w1 (some b) := by
  obtain ⟨D, h1, h2⟩ := h
  have hk := keyOf_string_mk Tryd.underlying9 hs
  obtain ⟨w1, hr, ho, hg⟩ := h1.update lawStr Tryd.underlying86 hn hk (plainElem_bool Tryd.underlying4 v)
  refine ⟨w1, hr, ⟨_, ho, fun t => ?_⟩, hg⟩
  by_cases e : t = s.data.toList
  · subst e
    obtain ⟨_, _, _, _, _, hD⟩ := h1
    simp only [if_true]
    exact atKey_put_same ⟨_, hD⟩ (lawStr.key hk) _ _
  · simp only [if_neg e]
    rw [atKey_put_other (fun q => e (by injection q)), h2]
end
end Go.Proofs.YtonoldjhfhngfaaDoor
