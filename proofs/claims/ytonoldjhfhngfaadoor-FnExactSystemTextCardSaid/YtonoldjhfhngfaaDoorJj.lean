/- Texts joined by the library. -/
import Derived.Test.YtonoldjhfhngfaaDoorShelf
import Derived.Test.YtonoldjhfhngfaaDoorJa
namespace Go.Proofs.YtonoldjhfhngfaaDoor
open Go.RowKit
theorem joinS_any (xs : List ByteArray) (bk c m : Nat) (sep : ByteArray) (w : World) (hcells : ∀ (j : Nat) x, xs[j]? = some x → w.cell? ⟨bk, j, none⟩ = some (.string x)) (hbk : bk < w.heap.size) (hcap : xs.length ≤ c) (hm : ∀ y, y ∈ xs → y.size ≤ m) (hN : xs.length * (sep.size + m) ≤ 140737488355328) (hN2 : xs.length ≤ 140737488355328) :
    Calls Tryd.prog 46 #[.slice (some ⟨bk, 0, none⟩) xs.length c, .string sep] w fun e w' => e = .returned (.string (joinB sep xs)) ∧ Below w.heap.size w w' := by
  rw [← joinB_is]
  exact Tryd.strings_Join bk 0 c xs sep w (fun j x h => by rw [Nat.zero_add]; exact hcells j x h) hbk hN2 hcap (Nat.le_trans (join_len sep xs m hm) hN)
theorem join4_any (a b c d : ByteArray) (m bk : Nat) (w : World) (h0 : w.cell? ⟨bk, 0, none⟩ = some (.string a)) (h1 : w.cell? ⟨bk, 1, none⟩ = some (.string b)) (h2 : w.cell? ⟨bk, 2, none⟩ = some (.string c)) (h3 : w.cell? ⟨bk, 3, none⟩ = some (.string d)) (hbk : bk < w.heap.size)
    (ha : a.size ≤ m) (hb : b.size ≤ m) (hc : c.size ≤ m) (hd : d.size ≤ m) (hm : m ≤ 100000) :
    Calls Tryd.prog 46 #[.slice (some ⟨bk, 0, none⟩) 4 4, .string ⟨#[32]⟩] w fun e w' => e = .returned (.string (joinB ⟨#[32]⟩ [a, b, c, d])) ∧ Below w.heap.size w w' := by
  refine joinS_any [a, b, c, d] bk 4 m ⟨#[32]⟩ w ?_ hbk (by simp) ?_ ?_ (by simp)
  · intro j x h
    match j, h with
    | 0, h => cases h; exact h0
    | 1, h => cases h; exact h1
    | 2, h => cases h; exact h2
    | 3, h => cases h; exact h3
  · intro y hy
    simp only [List.mem_cons, List.not_mem_nil, or_false] at hy
    rcases hy with rfl | rfl | rfl | rfl <;> assumption
  · have : (⟨#[32]⟩ : ByteArray).size = 1 := rfl
    simp only [List.length_cons, List.length_nil, this]
    omega
end Go.Proofs.YtonoldjhfhngfaaDoor
