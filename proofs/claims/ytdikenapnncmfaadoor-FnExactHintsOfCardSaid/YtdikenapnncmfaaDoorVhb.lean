/- Walks: GetWord, the program's side (the elder text of GetWord's law). -/
import Derived.Test.YtdikenapnncmfaaDoorVha
import Derived.LoopN
namespace Go.Proofs.YtdikenapnncmfaaDoor
open Go.RowKit
set_option linter.unusedVariables false
theorem ret_int {a b : Int} (h : a = b) : Ending.returned (.int .i64 a) = .returned (.int .i64 b) := by rw [h]
/-- The byte at a place, 0 beyond the end. -/
def byteAt (s : ByteArray) (k : Nat) : Nat := if h : k < s.size then s[k].toNat else 0
theorem byteAt_eq (s : ByteArray) (k : Nat) (h : k < s.size) : byteAt s k = s[k].toNat := by unfold byteAt; rw [dif_pos h]
theorem byteAt_lt (s : ByteArray) (k : Nat) : byteAt s k < 256 := by
  unfold byteAt
  split
  · exact s[k].toNat_lt
  · omega
/-- The number of k bytes from a place on. -/
def getV (s : ByteArray) (at_ : Nat) : Nat → Nat
  | 0 => 0
  | k + 1 => 256 * getV s at_ k + byteAt s (at_ + k)
theorem getV_step (s : ByteArray) (at_ k : Nat) (hx : at_ + k < s.size) {v : Nat} (h : getV s at_ k = v) : ((getV s at_ (k + 1) : Nat) : Int) = 256 * (v : Int) + (s[at_ + k].toNat : Int) := by
  simp only [getV]; rw [h, byteAt_eq s _ hx]; omega
theorem ofInt_nat (a : Nat) (ha : a < 9223372036854775808) : (BitVec.ofInt 64 (a : Int)).toNat = a := by
  rw [BitVec.ofInt_natCast, BitVec.toNat_ofNat]; exact Nat.mod_eq_of_lt (by omega)
theorem or_byte (v b : Nat) (hv : v < 4294967296) (hb : b < 256) : bits .or .i64 ((v : Int) * 256) (b : Int) = 256 * (v : Int) + (b : Int) := by
  have e : (v : Int) * 256 = ((2 ^ 8 * v : Nat) : Int) := by omega
  have h := Nat.two_pow_add_eq_or_of_lt (i := 8) (b := b) (by omega) v
  rw [e]
  show IntKind.i64.wrap ((BitVec.ofInt 64 ((2 ^ 8 * v : Nat) : Int) ||| BitVec.ofInt 64 (b : Int)).toNat : Int) = _
  rw [BitVec.toNat_or, ofInt_nat _ (by omega), ofInt_nat b (by omega), ← h, IntKind.wrap_i64]
  omega
theorem getV_lt (s : ByteArray) (at_ : Nat) : ∀ k, k ≤ 4 → getV s at_ k < 256 ^ k := by
  intro k
  induction k with
  | zero => intro _; simp [getV]
  | succ k ih =>
    intro hk
    have h1 := ih (by omega)
    have h2 := byteAt_lt s (at_ + k)
    have h3 : 256 ^ (k + 1) = 256 * 256 ^ k := by rw [Nat.pow_succ, Nat.mul_comm]
    simp only [getV]
    omega
theorem getV_small (s : ByteArray) (at_ k : Nat) (hk : k ≤ 4) : getV s at_ k < 4294967296 := by
  have h := getV_lt s at_ k hk
  have h2 : 256 ^ k ≤ 256 ^ 4 := Nat.pow_le_pow_right (by omega) hk
  have h3 : 256 ^ 4 = 4294967296 := rfl
  omega
set_option maxHeartbeats 3200000 in
theorem implGet_yes (s : ByteArray) (at_ b : Nat) (w : World) (hs : s.size ≤ 1048576) (hb : b ≤ 4) (hb1 : 1 ≤ b) (ha : at_ + b ≤ s.size) :
    Calls Tryd.prog 61 #[.string s, .int .i64 at_, .int .i64 b] w fun e w' => e = .returned (.tuple #[.int .i64 (getV s at_ b), .bool true]) ∧ w = w' := by
  go_enter Tryd.func61, Tryd.ntmps61
  go_wp2
  go_loop [8, 9, 29] (fun n _ i => ∃ k : Nat, k ≤ b ∧ i = .int .i64 k ∧ n = .int .i64 (getV s at_ k)) (fun _ _ i => b - (intOf i).toNat)
  case atStart => exact ⟨0, Nat.zero_le _, rfl, rfl⟩
  case round =>
    obtain ⟨k, hk, rfl, rfl⟩ := hrel
    by_cases hlt : k < b
    · have hv := getV_small s at_ k (by omega)
      have hx : at_ + k < s.size := by omega
      have e1 := Lib.hid (byteAt_eq s (at_ + k) hx)
      have hu : (s[at_ + k].toNat : Int) ≤ 255 := by have := s[at_ + k].toNat_lt; omega
      generalize hg : getV s at_ k = v at hv
      have HG := Lib.hid hg
      clear hg
      have e2 := Lib.hid (getV_step s at_ k hx HG.out)
      have e3 := Lib.hid (or_byte v s[at_ + k].toNat (by omega) (by have := s[at_ + k].toNat_lt; omega))
      go_wp2
      go_round
      case rel => exact ⟨k + 1, by omega, by go_num, by rw [e2.out, e3.out]⟩
      case measure => simp [intOf]; omega
    · obtain rfl : k = b := by omega
      go_wp2
      go_ret2
      exact ⟨rfl, rfl⟩
def GetOk (s : ByteArray) (a b : Int) : Prop := 1 ≤ b ∧ b ≤ 4 ∧ 0 ≤ a ∧ a ≤ (s.size : Int) - b
set_option maxHeartbeats 3200000 in
theorem implGet_no (s : ByteArray) (a b : Int) (w : World) (hs : s.size ≤ 1048576) (h : ¬ GetOk s a b) (ha1 : -9223372036854775808 ≤ a) (ha2 : a ≤ 9223372036854775807) :
    Calls Tryd.prog 61 #[.string s, .int .i64 a, .int .i64 b] w fun e w' => e = .returned (.tuple #[.int .i64 0, .bool false]) ∧ w = w' := by
  unfold GetOk at h
  by_cases c1 : b < 1
  · have _x := hs
    clear h
    go_enter Tryd.func61, Tryd.ntmps61
    go_wp2
    go_ret2
    exact ⟨rfl, rfl⟩
  by_cases c2 : 4 < b
  · have c3 : 1 ≤ b := by omega
    clear h
    go_enter Tryd.func61, Tryd.ntmps61
    go_wp2
    go_ret2
    exact ⟨rfl, rfl⟩
  by_cases c3 : a < 0
  · have c4 : 1 ≤ b := by omega
    have c5 : b ≤ 4 := by omega
    clear h
    go_enter Tryd.func61, Tryd.ntmps61
    go_wp2
    go_ret2
    exact ⟨rfl, rfl⟩
  · have c4 : 1 ≤ b := by omega
    have c5 : b ≤ 4 := by omega
    have c6 : 0 ≤ a := by omega
    have c7 : (s.size : Int) - b < a := by omega
    clear h
    go_enter Tryd.func61, Tryd.ntmps61
    go_wp2
    go_ret2
    exact ⟨rfl, rfl⟩
end Go.Proofs.YtdikenapnncmfaaDoor
