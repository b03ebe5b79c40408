/- Walks: whether the elements of a list have names, which are different. -/
import Derived.Test.YtelefmogmloniaaGnb
import Derived.Test.YtelefmogmloniaaW1
namespace Go.Proofs.Ytelefmogmloniaa
open Go.RowKit Go.Maps
set_option linter.unusedVariables false
section
variable {α : Type} (nm : α → ByteArray) (l : List α)
/-- The names of the first k elements are names, and none twice. -/
def nmUp (k : Nat) : Bool := decide (∀ a ∈ l.take k, nameB (nm a).data.toList = true) && decide ((l.take k).map fun a => (nm a).data.toList).Nodup
def nmOk : Bool := nmUp nm l l.length
def nmHas (k : Nat) (s : List UInt8) : Bool := decide (s ∈ (l.take k).map fun a => (nm a).data.toList)
variable {nm l} {k : Nat} {a : α}
theorem nmUp_zero : nmUp nm l 0 = true := by simp [nmUp]
theorem nmHas_zero : nmHas nm l 0 = fun _ => false := by funext s; simp [nmHas]
theorem nmUp_succ (h : nmUp nm l k = true) (ha : l[k]? = some a) (h1 : nameB (nm a).data.toList = true) (h2 : nmHas nm l k (nm a).data.toList = false) : nmUp nm l (k + 1) = true := by
  unfold nmUp nmHas at *
  rw [List.take_add_one, ha]
  simp only [Bool.and_eq_true, decide_eq_true_eq, decide_eq_false_iff_not] at *
  refine ⟨?_, ?_⟩
  · intro b hb
    rw [List.mem_append] at hb
    rcases hb with hb | hb
    · exact h.1 b hb
    · simp at hb; subst hb; exact h1
  · rw [List.map_append, List.nodup_append]
    refine ⟨h.2, by simp, ?_⟩
    intro s hs t ht e
    simp at ht
    subst ht; subst e
    exact h2 hs
theorem nmHas_succ (ha : l[k]? = some a) : nmHas nm l (k + 1) = fun t => if t = (nm a).data.toList then true else nmHas nm l k t := by
  funext t
  unfold nmHas
  rw [List.take_add_one, ha]
  by_cases e : t = (nm a).data.toList
  · simp [e]
  · simp [e]
theorem nmOk_no1 (ha : l[k]? = some a) (h1 : nameB (nm a).data.toList = false) : false = nmOk nm l := by
  symm
  unfold nmOk nmUp
  rw [List.take_length, Bool.and_eq_false_iff]
  left
  rw [decide_eq_false_iff_not]
  intro h
  rw [h a (List.mem_of_getElem? ha)] at h1
  cases h1
theorem nmOk_no2 (ha : l[k]? = some a) (h2 : nmHas nm l k (nm a).data.toList = true) : false = nmOk nm l := by
  symm
  unfold nmOk nmUp
  rw [List.take_length, Bool.and_eq_false_iff]
  right
  rw [decide_eq_false_iff_not]
  intro h
  unfold nmHas at h2
  rw [decide_eq_true_eq] at h2
  obtain ⟨hk, hka⟩ := List.getElem?_eq_some_iff.1 ha
  rw [← List.take_append_drop k l, List.map_append, List.nodup_append] at h
  refine h.2.2 _ h2 _ ?_ rfl
  rw [List.mem_map]
  refine ⟨a, ?_, rfl⟩
  rw [List.drop_eq_getElem_cons hk, hka]
  simp
end
end Go.Proofs.Ytelefmogmloniaa
