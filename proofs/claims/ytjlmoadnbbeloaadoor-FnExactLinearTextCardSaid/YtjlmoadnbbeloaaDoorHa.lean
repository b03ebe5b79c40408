/- Walks: the expression of a name, on both sides. -/
import Derived.Test.YtjlmoadnbbeloaaDoorHn
import Derived.Test.YtjlmoadnbbeloaaDoorW1
import Derived.Test.YtjlmoadnbbeloaaDoorAb
import Derived.Deep.DeepCutAuto
namespace Go.Proofs.YtjlmoadnbbeloaaDoor
open Go.RowKit
set_option linter.unusedVariables false

/-- An expression and a code are handed back, the terms in memory of the call's own. -/
def LinRet (cn cd code : Int) (l : List ATerm) (w : World) (e : Ending) (w' : World) : Prop :=
  ∃ (A : Option Addr) (c : Nat), e = .returned (.tuple #[.agg #[.int .i64 cn, .int .i64 cd, .slice A l.length c], .int .i64 code]) ∧ w'.ownsRow w.heap.size 92 3 (.slice A l.length c) l.length (cellsF cTerm l) ∧ Below w.heap.size w w'
theorem LinRet.none_ {code : Int} {w w' : World} (hb : Below w.heap.size w w') : LinRet 0 0 code [] w (.returned (.tuple #[.agg #[.int .i64 0, .int .i64 0, .slice none 0 0], .int .i64 code])) w' :=
  ⟨none, 0, rfl, ⟨rfl, .inl ⟨rfl, rfl⟩⟩, hb⟩
theorem own_one {w : World} {base e s : Nat} {cs : Array Value} (hb : base ≤ w.heap.size) (hs : cs.size = s) : (w.alloc (.cells cs e)).ownsRow base e s (.slice (some ⟨w.heap.size, 0, none⟩) 1 1) 1 cs.toList :=
  ⟨by rw [Array.length_toList]; omega, .inr ⟨w.heap.size, 1, cs, rfl, hb, heap_alloc_new w _, Nat.le_refl _, by unfold maxLen; omega, by omega, by rw [List.take_of_length_le (by rw [Array.length_toList]; omega)]⟩⟩
theorem own_one' {w : World} {base e s g : Nat} {cs : Array Value} {xs : List Value} (hg : g = w.heap.size) (hb : base ≤ w.heap.size) (hs : cs.size = s) (hx : cs.toList = xs) : (w.alloc (.cells cs e)).ownsRow base e s (.slice (some ⟨g, 0, none⟩) 1 1) 1 xs := by
  subst hg; subst hx; exact own_one hb hs
set_option maxHeartbeats 800000 in
theorem wholeFrac_x (n : Int) (w : World) : Calls Tryd.prog 41 #[.int .i64 n] w fun e w' => e = .returned (.agg #[.int .i64 n, .int .i64 1]) ∧ w.alloc (.cells #[.int .i64 n, .int .i64 1] 27) = w' := by
  go_enter Tryd.func41, Tryd.ntmps41
  go_wp2
  exact bodyPost_ret (v := .agg #[.int .i64 n, .int .i64 1]) (by simp [results, Tryd.results41, go_sem]) rfl ⟨rfl, rfl⟩
/-- What NameLinear hands back. -/
def nameC (l : List UInt8) : Int := if nameB l then 0 else 1
def nameD (l : List UInt8) : Int := if nameB l then 1 else 0
def nameT (s : ByteArray) : List ATerm := if nameB s.data.toList then [(s, 1, 1)] else []
end Go.Proofs.YtjlmoadnbbeloaaDoor
