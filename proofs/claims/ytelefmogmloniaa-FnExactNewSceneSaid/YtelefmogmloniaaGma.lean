/- Rows of loops, in the words of the texts on outlines. -/
import Derived.Test.YtelefmogmloniaaGl1
import Derived.Test.YtelefmogmloniaaMem
import Derived.Test.YtelefmogmloniaaAw
namespace Go.Proofs.Ytelefmogmloniaa
open Go.RowKit
set_option linter.unusedVariables false
/-- A row of things without slices reads as a list. -/
theorem rd_of {α : Type} {R : Rv α} {f : α → List Value} {s : Nat} {w : World} {B : Nat} {A : Option Addr} {l : List α} (hR : ∀ w B row d, R w B row d → row = f d) (h : Row R s w B A l) : Rd f s w B A l := by
  rcases h with rfl | ⟨g, o, hA, hg, h⟩
  · exact .inl rfl
  · exact .inr ⟨g, o, hA, hg, fun k d hd i u hu => by
      obtain ⟨row, h1, h2⟩ := h k d hd
      have h3 := hR _ _ _ _ h1
      subst h3
      exact h2 i u hu⟩
theorem rdKnot {w : World} {B : Nat} {A : Option Addr} {l : List AKnot} (h : Row RvKnot 3 w B A l) : Rd cKnot 3 w B A l := rd_of (fun _ _ _ _ h => h) h
def RdLoop (w : World) (B : Nat) (A : Option Addr) (l : List DLoop) : Prop := Row RvLoop 1 w B A l
section
variable {w w' : World} {B B' : Nat} {A : Option Addr} {l : List DLoop}
theorem RdLoop.elem (h : RdLoop w B A l) {k : Nat} {d : DLoop} (hd : l[k]? = some d) : ∃ g o A' c', A = some ⟨g, o, none⟩ ∧ g < B ∧ (∀ i u, [Value.slice A' d.length c'][i]? = some u → w.cell? ⟨g, o + k * 1 + i, none⟩ = some u) ∧ Rd cKnot 3 w B A' d := by
  obtain ⟨g, o, row, hA, hg, hR, hc⟩ := Row.elem h hd
  obtain ⟨A', c', rfl, hr⟩ := hR
  exact ⟨g, o, A', c', hA, hg, hc, rdKnot hr⟩
theorem RdLoop.carry (h : RdLoop w B A l) (hb : Below w.heap.size w w') (hB : B ≤ w.heap.size) : RdLoop w' B A l := Row.carry h hb hB
theorem RdLoop.alloc (h : RdLoop w B A l) (hB : B ≤ w.heap.size) (o : Obj) : RdLoop (w.alloc o) B A l := Row.alloc h hB o
theorem RdLoop.more (h : RdLoop w B A l) (hB : B ≤ B') : RdLoop w B' A l := Row.more h hB
theorem RdLoop.drew (h : RdLoop w B A l) : RdLoop w.drew B A l := Row.drew h
end
end Go.Proofs.Ytelefmogmloniaa
