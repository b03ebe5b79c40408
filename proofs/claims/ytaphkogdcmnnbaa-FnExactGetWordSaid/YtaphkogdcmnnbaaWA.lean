/- Walks: GetWord and Sum32, on both sides. -/
import Derived.Test.YtaphkogdcmnnbaaW1
import Derived.Test.YtaphkogdcmnnbaaW2
namespace Go.Proofs.Ytaphkogdcmnnbaa
open Go.RowKit

theorem ret_int {a b : Int} (h : a = b) : Ending.returned (.int .i64 a) = .returned (.int .i64 b) := by rw [h]
/-- The byte at a place, 0 beyond the end. -/
def byteAt (s : ByteArray) (k : Nat) : Nat := if h : k < s.size then s[k].toNat else 0
theorem byteAt_eq (s : ByteArray) (k : Nat) (h : k < s.size) : byteAt s k = s[k].toNat := by unfold byteAt; rw [dif_pos h]
theorem byteAt_lt (s : ByteArray) (k : Nat) : byteAt s k < 256 := by
  unfold byteAt
  split
  · exact s[k].toNat_lt
  · omega
/-- The number of k bytes from a place on. -/
def getV (s : ByteArray) (at_ : Nat) : Nat → Nat
  | 0 => 0
  | k + 1 => 256 * getV s at_ k + byteAt s (at_ + k)
theorem getV_step (s : ByteArray) (at_ k : Nat) (hx : at_ + k < s.size) {v : Nat} (h : getV s at_ k = v) : ((getV s at_ (k + 1) : Nat) : Int) = 256 * (v : Int) + (s[at_ + k].toNat : Int) := by
  simp only [getV]; rw [h, byteAt_eq s _ hx]; omega
theorem ofInt_nat (a : Nat) (ha : a < 9223372036854775808) : (BitVec.ofInt 64 (a : Int)).toNat = a := by
  rw [BitVec.ofInt_natCast, BitVec.toNat_ofNat]; exact Nat.mod_eq_of_lt (by omega)
theorem or_byte (v b : Nat) (hv : v < 4294967296) (hb : b < 256) : bits .or .i64 ((v : Int) * 256) (b : Int) = 256 * (v : Int) + (b : Int) := by
  have e : (v : Int) * 256 = ((2 ^ 8 * v : Nat) : Int) := by omega
  have h := Nat.two_pow_add_eq_or_of_lt (i := 8) (b := b) (by omega) v
  rw [e]
  show IntKind.i64.wrap ((BitVec.ofInt 64 ((2 ^ 8 * v : Nat) : Int) ||| BitVec.ofInt 64 (b : Int)).toNat : Int) = _
  rw [BitVec.toNat_or, ofInt_nat _ (by omega), ofInt_nat b (by omega), ← h, IntKind.wrap_i64]
  omega
theorem and_mask (v : Nat) (hv : v < 9223372036854775808) : bits .and .i64 (v : Int) 4294967295 = (v : Int) % 4294967296 := by
  show IntKind.i64.wrap ((BitVec.ofInt 64 (v : Int) &&& BitVec.ofInt 64 ((4294967295 : Nat) : Int)).toNat : Int) = _
  rw [BitVec.toNat_and, ofInt_nat v hv, ofInt_nat _ (by omega), show (4294967295 : Nat) = 2 ^ 32 - 1 from rfl, Nat.and_two_pow_sub_one_eq_mod, IntKind.wrap_i64]
  omega
/-- The sum of the first k bytes at their places in their words. -/
def sumV (s : ByteArray) : Nat → Nat
  | 0 => 0
  | k + 1 => sumV s k + byteAt s k * 2 ^ (24 - 8 * (k % 4))
theorem term_bounds (b k : Nat) (hb : b ≤ 255) : 0 ≤ (b : Int) * 2 ^ (24 - 8 * (k % 4)) ∧ (b : Int) * 2 ^ (24 - 8 * (k % 4)) ≤ 4278190080 := by
  have h : k % 4 = 0 ∨ k % 4 = 1 ∨ k % 4 = 2 ∨ k % 4 = 3 := by omega
  rcases h with h | h | h | h <;> rw [h] <;> simp <;> omega
theorem sumV_step (s : ByteArray) (k : Nat) (h : k < s.size) {v : Nat} (hv : sumV s k = v) : ((sumV s (k + 1) : Nat) : Int) = (v : Int) + (s[k].toNat : Int) * 2 ^ (24 - 8 * (k % 4)) := by
  simp only [sumV]; rw [hv, byteAt_eq s k h]; simp
theorem sumV_le (s : ByteArray) : ∀ k, sumV s k ≤ k * 4294967296 := by
  intro k
  induction k with
  | zero => simp [sumV]
  | succ k ih =>
    have h2 := byteAt_lt s k
    have h3 := (term_bounds (byteAt s k) k (by omega)).2
    have h4 : ((byteAt s k * 2 ^ (24 - 8 * (k % 4)) : Nat) : Int) ≤ 4278190080 := by simpa using h3
    simp only [sumV]
    omega
theorem getV_lt (s : ByteArray) (at_ : Nat) : ∀ k, k ≤ 4 → getV s at_ k < 256 ^ k := by
  intro k
  induction k with
  | zero => intro _; simp [getV]
  | succ k ih =>
    intro hk
    have h1 := ih (by omega)
    have h2 := byteAt_lt s (at_ + k)
    have h3 : 256 ^ (k + 1) = 256 * 256 ^ k := by rw [Nat.pow_succ, Nat.mul_comm]
    simp only [getV]
    omega
theorem getV_small (s : ByteArray) (at_ k : Nat) (hk : k ≤ 4) : getV s at_ k < 4294967296 := by
  have h := getV_lt s at_ k hk
  have h2 : 256 ^ k ≤ 256 ^ 4 := Nat.pow_le_pow_right (by omega) hk
  have h3 : 256 ^ 4 = 4294967296 := rfl
  omega


set_option maxHeartbeats 800000 in
theorem l01Get_any (s : ByteArray) (at_ b : Nat) (w : World) (hs : s.size ≤ 1048576) (hb : b ≤ 4) (hb1 : 1 ≤ b) (ha : at_ + b ≤ s.size) :
    Calls Try.prog 46 #[.string s, .int .i64 at_, .int .i64 b] w fun e w' => e = .returned (.int .i64 (getV s at_ b)) ∧ w = w' := by
  go_enter Try.func46, Try.ntmps46
  go_wp2
  go_loop [7, 8] (fun n i => ∃ k : Nat, k ≤ b ∧ i = .int .i64 k ∧ n = .int .i64 (getV s at_ k)) (fun _ i => b - (intOf i).toNat)
  case atStart => exact ⟨0, Nat.zero_le _, rfl, rfl⟩
  case round =>
    obtain ⟨k, hk, rfl, rfl⟩ := hrel
    by_cases hlt : k < b
    · have hv := getV_small s at_ k (by omega)
      have hx : at_ + k < s.size := by omega
      have e1 := Lib.hid (byteAt_eq s (at_ + k) hx)
      have hu : (s[at_ + k].toNat : Int) ≤ 255 := by have := s[at_ + k].toNat_lt; omega
      generalize hg : getV s at_ k = v at hv
      have HG := Lib.hid hg
      clear hg
      have e2 := Lib.hid (getV_step s at_ k hx HG.out)
      go_wp2
      go_round
      case rel => exact ⟨k + 1, by omega, by go_num, by rw [e2.out]⟩
      case measure => simp [intOf]; omega
    · obtain rfl : k = b := by omega
      go_wp2
      go_ret
      exact ⟨rfl, rfl⟩


set_option maxHeartbeats 800000 in
theorem implGet_yes (s : ByteArray) (at_ b : Nat) (w : World) (hs : s.size ≤ 1048576) (hb : b ≤ 4) (hb1 : 1 ≤ b) (ha : at_ + b ≤ s.size) :
    Calls Try.prog 22 #[.string s, .int .i64 at_, .int .i64 b] w fun e w' => e = .returned (.tuple #[.int .i64 (getV s at_ b), .bool true]) ∧ w = w' := by
  go_enter Try.func22, Try.ntmps22
  go_wp2
  go_loop [8, 9, 29] (fun n _ i => ∃ k : Nat, k ≤ b ∧ i = .int .i64 k ∧ n = .int .i64 (getV s at_ k)) (fun _ _ i => b - (intOf i).toNat)
  case atStart => exact ⟨0, Nat.zero_le _, rfl, rfl⟩
  case round =>
    obtain ⟨k, hk, rfl, rfl⟩ := hrel
    by_cases hlt : k < b
    · have hv := getV_small s at_ k (by omega)
      have hx : at_ + k < s.size := by omega
      have e1 := Lib.hid (byteAt_eq s (at_ + k) hx)
      have hu : (s[at_ + k].toNat : Int) ≤ 255 := by have := s[at_ + k].toNat_lt; omega
      generalize hg : getV s at_ k = v at hv
      have HG := Lib.hid hg
      clear hg
      have e2 := Lib.hid (getV_step s at_ k hx HG.out)
      have e3 := Lib.hid (or_byte v s[at_ + k].toNat (by omega) (by have := s[at_ + k].toNat_lt; omega))
      go_wp2
      go_round
      case rel => exact ⟨k + 1, by omega, by go_num, by rw [e2.out, e3.out]⟩
      case measure => simp [intOf]; omega
    · obtain rfl : k = b := by omega
      go_wp2
      go_ret2
      exact ⟨rfl, rfl⟩


set_option maxHeartbeats 800000 in
theorem l01Sum_any (s : ByteArray) (w : World) (hs : s.size ≤ 1048576) :
    Calls Try.prog 47 #[.string s] w fun e w' => e = .returned (.int .i64 (((sumV s s.size : Nat) : Int) % 4294967296)) ∧ w = w' := by
  go_enter Try.func47, Try.ntmps47
  go_wp2
  go_loop [3, 4] (fun n i => ∃ k : Nat, k ≤ s.size ∧ i = .int .i64 k ∧ n = .int .i64 (sumV s k)) (fun _ i => s.size - (intOf i).toNat)
  case atStart => exact ⟨0, Nat.zero_le _, rfl, rfl⟩
  case round =>
    obtain ⟨k, hk, rfl, rfl⟩ := hrel
    have hv := sumV_le s k
    generalize hg : sumV s k = v at hv
    have HG := Lib.hid hg
    clear hg
    by_cases hlt : k < s.size
    · have hu : s[k].toNat ≤ 255 := by have := s[k].toNat_lt; omega
      have e2 := Lib.hid (sumV_step s k hlt HG.out)
      have ex : 24 - 8 * (k % 4) = 8 * (3 - k % 4) := by omega
      have tb := term_bounds s[k].toNat k hu
      rw [ex] at tb e2
      obtain ⟨tb1, tb2⟩ := tb
      clear ex
      go_wp2
      go_round
      case rel => exact ⟨k + 1, by omega, by go_num, by rw [e2.out]⟩
      case measure => simp [intOf]; omega
    · obtain rfl : k = s.size := by omega
      have E := Lib.hid (and_mask v (by omega))
      go_wp2
      go_ret
      exact ⟨ret_int (by rw [E.out, ← HG.out]), rfl⟩


set_option maxHeartbeats 800000 in
theorem specSum_any (s : ByteArray) (w : World) (hs : s.size ≤ 1048576) :
    Calls Try.prog 23 #[.string s] w fun e w' => e = .returned (.int .i64 (((sumV s s.size : Nat) : Int) % 4294967296)) ∧ w = w' := by
  have C := Lib.hid (fun w => l01Sum_any s w hs)
  generalize ((sumV s s.size : Nat) : Int) % 4294967296 = v at C ⊢
  go_enter Try.func23, Try.ntmps23
  go_wp2_with fail
  refine (C.out _).mono ?_
  rintro e w1 ⟨rfl, rfl⟩
  go_wp2
  go_ret
  exact ⟨rfl, rfl⟩


set_option maxHeartbeats 800000 in
theorem implSum_any (s : ByteArray) (w : World) (hs : s.size ≤ 1048576) :
    Calls Try.prog 24 #[.string s] w fun e w' => e = .returned (.int .i64 (((sumV s s.size : Nat) : Int) % 4294967296)) ∧ w = w' := by
  go_enter Try.func24, Try.ntmps24
  go_wp2
  go_loop [3, 4, 7] (fun n _ i => ∃ k : Nat, k ≤ s.size ∧ i = .int .i64 k ∧ n = .int .u32 (((sumV s k : Nat) : Int) % 4294967296)) (fun _ _ i => s.size - (intOf i).toNat)
  case atStart => exact ⟨0, Nat.zero_le _, rfl, rfl⟩
  case round =>
    obtain ⟨k, hk, rfl, rfl⟩ := hrel
    have hr0 : 0 ≤ ((sumV s k : Nat) : Int) % 4294967296 := by omega
    have hr1 : ((sumV s k : Nat) : Int) % 4294967296 < 4294967296 := by omega
    generalize hg : ((sumV s k : Nat) : Int) % 4294967296 = v at hr0 hr1 ⊢
    have HG := Lib.hid hg
    clear hg
    by_cases hlt : k < s.size
    · have hu : s[k].toNat ≤ 255 := by have := s[k].toNat_lt; omega
      have e2 := Lib.hid (sumV_step s k hlt rfl)
      go_wp2
      go_round
      case rel => exact ⟨k + 1, by omega, by go_num, by rw [e2.out, ← HG.out]; exact congrArg (Value.int .u32) (by omega)⟩
      case measure => simp [intOf]; omega
    · obtain rfl : k = s.size := by omega
      go_wp2
      go_ret
      exact ⟨ret_int HG.out.symm, rfl⟩


/-- Does the string have these bytes? -/
def GetOk (s : ByteArray) (a b : Int) : Prop := 1 ≤ b ∧ b ≤ 4 ∧ 0 ≤ a ∧ a ≤ (s.size : Int) - b

set_option maxHeartbeats 800000 in
theorem specGet_yes (s : ByteArray) (at_ b : Nat) (w : World) (hs : s.size ≤ 1048576) (hb : b ≤ 4) (hb1 : 1 ≤ b) (ha : at_ + b ≤ s.size) :
    Calls Try.prog 21 #[.string s, .int .i64 at_, .int .i64 b] w fun e w' => e = .returned (.tuple #[.int .i64 (getV s at_ b), .bool true]) ∧ w = w' := by
  go_enter Try.func21, Try.ntmps21
  go_wp2_with fail
  refine (l00In_yes _ _ _ _ (by omega) (by omega)).mono ?_
  rintro e w1 ⟨rfl, rfl⟩
  go_wp2_with fail
  refine (l00In_yes _ _ _ _ (by omega) (by omega)).mono ?_
  rintro e w1 ⟨rfl, rfl⟩
  go_wp2_with fail
  refine (l01Get_any s at_ b _ hs hb hb1 ha).mono ?_
  rintro e w1 ⟨rfl, rfl⟩
  go_wp2
  go_ret2
  exact ⟨rfl, rfl⟩
set_option maxHeartbeats 800000 in
theorem specGet_no (s : ByteArray) (a b : Int) (w : World) (hs : s.size ≤ 1048576) (h : ¬ GetOk s a b) :
    Calls Try.prog 21 #[.string s, .int .i64 a, .int .i64 b] w fun e w' => e = .returned (.tuple #[.int .i64 0, .bool false]) ∧ w = w' := by
  unfold GetOk at h
  by_cases c1 : 1 ≤ b ∧ b ≤ 4
  · have c2 : a < 0 ∨ (s.size : Int) - b < a := by omega
    obtain ⟨c1, c3⟩ := c1
    clear h
    go_enter Try.func21, Try.ntmps21
    go_wp2_with fail
    refine (l00In_yes _ _ _ _ (by omega) (by omega)).mono ?_
    rintro e w1 ⟨rfl, rfl⟩
    go_wp2_with fail
    refine (l00In_no _ _ _ _ (by omega)).mono ?_
    rintro e w1 ⟨rfl, rfl⟩
    go_wp2
    go_ret2
    exact ⟨rfl, rfl⟩
  · have c2 : b < 1 ∨ 4 < b := by omega
    clear h c1
    go_enter Try.func21, Try.ntmps21
    go_wp2_with fail
    refine (l00In_no _ _ _ _ (by omega)).mono ?_
    rintro e w1 ⟨rfl, rfl⟩
    go_wp2
    go_ret2
    exact ⟨rfl, rfl⟩


set_option maxHeartbeats 800000 in
theorem implGet_no (s : ByteArray) (a b : Int) (w : World) (hs : s.size ≤ 1048576) (h : ¬ GetOk s a b) (ha1 : -9223372036854775808 ≤ a) (ha2 : a ≤ 9223372036854775807) :
    Calls Try.prog 22 #[.string s, .int .i64 a, .int .i64 b] w fun e w' => e = .returned (.tuple #[.int .i64 0, .bool false]) ∧ w = w' := by
  unfold GetOk at h
  by_cases c1 : b < 1
  · have _x := hs
    clear h
    go_enter Try.func22, Try.ntmps22
    go_wp2
    go_ret2
    exact ⟨rfl, rfl⟩
  by_cases c2 : 4 < b
  · have c3 : 1 ≤ b := by omega
    clear h
    go_enter Try.func22, Try.ntmps22
    go_wp2
    go_ret2
    exact ⟨rfl, rfl⟩
  by_cases c3 : a < 0
  · have c4 : 1 ≤ b := by omega
    have c5 : b ≤ 4 := by omega
    clear h
    go_enter Try.func22, Try.ntmps22
    go_wp2
    go_ret2
    exact ⟨rfl, rfl⟩
  · have c4 : 1 ≤ b := by omega
    have c5 : b ≤ 4 := by omega
    have c6 : 0 ≤ a := by omega
    have c7 : (s.size : Int) - b < a := by omega
    clear h
    go_enter Try.func22, Try.ntmps22
    go_wp2
    go_ret2
    exact ⟨rfl, rfl⟩


set_option maxHeartbeats 800000 in
theorem walk_GetWord (s : ByteArray) (a b : Int) (ws : s.size ≤ maxLen) (wa : (Lit.int .i64 a).wf = true) (_wb : (Lit.int .i64 b).wf = true) (w : World) :
    Calls Try.prog 6 #[.string s, .int .i64 a, .int .i64 b] w fun e w' => e = .returned (.bool true) ∧ Below w.heap.size w w' := by
  unfold maxLen at ws
  have ha : -9223372036854775808 ≤ a ∧ a ≤ 9223372036854775807 := by simpa [Lit.wf, IntKind.min, IntKind.max, IntKind.signed, IntKind.bits] using wa
  clear wa
  by_cases hb : 1048576 < s.size
  · go_enter Try.func6, Try.ntmps6
    go_wp2
    go_ret
    exact ⟨rfl, Below.refl _ _⟩
  by_cases hok : GetOk s a b
  · unfold GetOk at hok
    obtain ⟨k1, k2, k3, k4⟩ := hok
    obtain ⟨x, rfl⟩ := Int.eq_ofNat_of_zero_le k3
    obtain ⟨y, rfl⟩ := Int.eq_ofNat_of_zero_le (show 0 ≤ b by omega)
    have C1 := Lib.hid (fun w => specGet_yes s x y w (by omega) (by omega) (by omega) (by omega))
    have C2 := Lib.hid (fun w => implGet_yes s x y w (by omega) (by omega) (by omega) (by omega))
    generalize getV s x y = v at C1 C2
    have e1 : ((v : Int) != (v : Int)) = false := by simp
    go_enter Try.func6, Try.ntmps6
    go_wp2_with (first | (go_at_call 21; refine (C1.out _).mono ?_; rintro e w' ⟨rfl, rfl⟩) | (go_at_call 22; refine (C2.out _).mono ?_; rintro e w' ⟨rfl, rfl⟩))
    go_ret
    exact ⟨rfl, Below.refl _ _⟩
  · have C1 := Lib.hid (fun w => specGet_no s a b w (by omega) hok)
    have C2 := Lib.hid (fun w => implGet_no s a b w (by omega) hok ha.1 ha.2)
    clear hok
    go_enter Try.func6, Try.ntmps6
    go_wp2_with (first | (go_at_call 21; refine (C1.out _).mono ?_; rintro e w' ⟨rfl, rfl⟩) | (go_at_call 22; refine (C2.out _).mono ?_; rintro e w' ⟨rfl, rfl⟩))
    go_ret
    exact ⟨rfl, Below.refl _ _⟩


set_option maxHeartbeats 800000 in
theorem walk_Sum32 (s : ByteArray) (ws : s.size ≤ maxLen) (w : World) :
    Calls Try.prog 7 #[.string s] w fun e w' => e = .returned (.bool true) ∧ Below w.heap.size w w' := by
  unfold maxLen at ws
  by_cases hb : 1048576 < s.size
  · go_enter Try.func7, Try.ntmps7
    go_wp2
    go_ret
    exact ⟨rfl, Below.refl _ _⟩
  · have C1 := Lib.hid (fun w => specSum_any s w (by omega))
    have C2 := Lib.hid (fun w => implSum_any s w (by omega))
    generalize ((sumV s s.size : Nat) : Int) % 4294967296 = v at C1 C2
    have e1 : (v != v) = false := by simp
    go_enter Try.func7, Try.ntmps7
    go_wp2_with (first | (go_at_call 23; refine (C1.out _).mono ?_; rintro e w' ⟨rfl, rfl⟩) | (go_at_call 24; refine (C2.out _).mono ?_; rintro e w' ⟨rfl, rfl⟩))
    go_ret
    exact ⟨rfl, Below.refl _ _⟩

end Go.Proofs.Ytaphkogdcmnnbaa
