/- The digits of a number: plain functions. -/
import Derived.Lib.ItoaNum
import Derived.Lib.Hide
import Derived.Lib.Strings
namespace Go.Proofs.YtdikenapnncmfaaDoor

/-- The digits that are left to be written of u. -/
def digs (u : Nat) : List UInt8 := if u = 0 then [] else Lib.decDigits u
theorem digs_step (u : Nat) (h : 0 < u) : digs u = digs (u / 10) ++ [UInt8.ofNat (48 + u % 10)] := by
  unfold digs
  rw [if_neg (by omega), Lib.decDigits]
  by_cases h10 : u < 10
  · rw [dif_pos h10, if_pos (by omega), show u % 10 = u from by omega]; rfl
  · rw [dif_neg h10, if_neg (by omega)]
theorem digs_length : ∀ (f u : Nat), u < 10 ^ f → (digs u).length ≤ f
  | 0, u, h => by
    have : u = 0 := by simpa using h
    subst this; simp [digs]
  | f + 1, u, h => by
    by_cases h0 : u = 0
    · subst h0; simp [digs]
    · rw [digs_step u (by omega), List.length_append]
      have h1 := digs_length f (u / 10) (by rw [Nat.pow_succ] at h; omega)
      simp; omega
theorem digit_nat (u : Nat) : ((UInt8.ofNat (48 + u % 10)).toNat : Int) = 48 + ((u % 10 : Nat) : Int) := by
  have : (UInt8.ofNat (48 + u % 10)).toNat = (48 + u % 10) % 256 := by simp
  rw [this]; omega
/-- The text by which memory is marked: the letter m and a number. -/
def markB (k : Nat) : ByteArray := ⟨(109 :: digs k).toArray⟩
/-- How the loop over the digits stands. -/
def MkLoop (N u : Nat) (t : ByteArray) : Prop := digs u ++ t.data.toList = digs N
theorem MkLoop.size {N u : Nat} {t : ByteArray} (h : MkLoop N u t) (hN : N ≤ 9223372036854775807) : t.size ≤ 19 := by
  have h1 := digs_length 19 N (by omega)
  have h2 := congrArg List.length h
  rw [List.length_append] at h2
  rw [Lib.size_eq]
  omega
theorem MkLoop.step {N u : Nat} {t : ByteArray} (h : MkLoop N u t) (hu : 0 < u) : MkLoop N (u / 10) (⟨#[UInt8.ofNat (48 + u % 10)]⟩ ++ t) := by
  unfold MkLoop at h ⊢
  rw [← h, digs_step u hu, List.append_assoc]
  congr 1
theorem MkLoop.done {N : Nat} {t : ByteArray} (h : MkLoop N 0 t) : (⟨#[109]⟩ : ByteArray) ++ t = markB N := by
  unfold MkLoop at h
  have : t.data.toList = digs N := by simpa [digs] using h
  unfold markB
  rw [← this]
  apply ByteArray.ext
  simp
theorem MkLoop.start (N : Nat) : MkLoop N N ⟨#[]⟩ := by
  unfold MkLoop
  simp
end Go.Proofs.YtdikenapnncmfaaDoor
