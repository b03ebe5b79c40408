/- Walks: rounding by a state: RoundTo, both sides; the law. -/
import Derived.Test.YtdikenapnncmfaaDoorTsb
namespace Go.Proofs.YtdikenapnncmfaaDoor
open Go.RowKit
set_option linter.unusedVariables false
/-- A number rounded down to a multiple of k. -/
def dnI (v k : Int) : Int := v - v % k
theorem bits_mask64 (a : BitVec 64) : (a &&& ~~~(63#64)) = (a >>> 6) <<< 6 := by
  have hm : ∀ i : Fin 64, (63#64).getLsbD i.val = decide (i.val < 6) := by decide
  apply BitVec.eq_of_getLsbD_eq
  intro i hi
  have h := hm ⟨i, hi⟩
  simp only at h
  simp only [BitVec.getLsbD_and, BitVec.getLsbD_not, BitVec.getLsbD_shiftLeft, BitVec.getLsbD_ushiftRight, h, hi, decide_true, Bool.true_and]
  by_cases h6 : i < 6
  · simp [h6]
  · simp [h6, show 6 + (i - 6) = i by omega]
theorem bits_mask32 (a : BitVec 64) : (a &&& ~~~(31#64)) = (a >>> 5) <<< 5 := by
  have hm : ∀ i : Fin 64, (31#64).getLsbD i.val = decide (i.val < 5) := by decide
  apply BitVec.eq_of_getLsbD_eq
  intro i hi
  have h := hm ⟨i, hi⟩
  simp only at h
  simp only [BitVec.getLsbD_and, BitVec.getLsbD_not, BitVec.getLsbD_shiftLeft, BitVec.getLsbD_ushiftRight, h, hi, decide_true, Bool.true_and]
  by_cases h6 : i < 5
  · simp [h6]
  · simp [h6, show 5 + (i - 5) = i by omega]
theorem wrap_i64 (n : Int) : IntKind.i64.wrap n = if n % 18446744073709551616 < 9223372036854775808 then n % 18446744073709551616 else n % 18446744073709551616 - 18446744073709551616 := by
  have e : IntKind.i64.wrap n = if (true && decide (n % 2 ^ 64 ≥ 2 ^ (64 - 1))) = true then n % 2 ^ 64 - 2 ^ 64 else n % 2 ^ 64 := rfl
  rw [e, show (2 : Int) ^ 64 = 18446744073709551616 by decide, show (2 : Int) ^ (64 - 1) = 9223372036854775808 by decide]
  by_cases h : n % 18446744073709551616 < 9223372036854775808
  · rw [if_pos h, if_neg (by simp; omega)]
  · rw [if_neg h, if_pos (by simp; omega)]
theorem andNot63 {v : Int} (h : -9223372036854775808 ≤ v ∧ v ≤ 9223372036854775807) : bits .andNot .i64 v 63 = dnI v 64 := by
  have e : bits .andNot .i64 v 63 = IntKind.i64.wrap ((BitVec.ofInt 64 v &&& ~~~(63#64)).toNat : Int) := rfl
  rw [e, bits_mask64, wrap_i64]
  simp only [BitVec.toNat_shiftLeft, BitVec.toNat_ushiftRight, BitVec.toNat_ofInt, Nat.shiftLeft_eq, Nat.shiftRight_eq_div_pow]
  unfold dnI
  omega
theorem andNot31 {v : Int} (h : -9223372036854775808 ≤ v ∧ v ≤ 9223372036854775807) : bits .andNot .i64 v 31 = dnI v 32 := by
  have e : bits .andNot .i64 v 31 = IntKind.i64.wrap ((BitVec.ofInt 64 v &&& ~~~(31#64)).toNat : Int) := rfl
  rw [e, bits_mask32, wrap_i64]
  simp only [BitVec.toNat_shiftLeft, BitVec.toNat_ushiftRight, BitVec.toNat_ofInt, Nat.shiftLeft_eq, Nat.shiftRight_eq_div_pow]
  unfold dnI
  omega
end Go.Proofs.YtdikenapnncmfaaDoor
