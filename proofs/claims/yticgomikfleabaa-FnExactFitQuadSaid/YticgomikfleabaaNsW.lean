/- Walks: products of two words, on both sides; how they are compared. -/
import Derived.Test.YticgomikfleabaaArW
import Derived.Test.YticgomikfleabaaNm
import Derived.Test.YticgomikfleabaaShelf
import Derived.Lib.EndianBits
namespace Go.Proofs.Yticgomikfleabaa
open Go.RowKit
theorem and31 (x : Int) : bits .and .i64 x 2147483647 = x % 2147483648 := by
  have e : (BitVec.ofInt 64 x &&& BitVec.ofInt 64 2147483647).toNat = (x % 18446744073709551616).toNat % 2147483648 := by
    rw [BitVec.toNat_and, BitVec.toNat_ofInt]
    exact Nat.and_two_pow_sub_one_eq_mod _ 31
  unfold bits
  show IntKind.i64.wrap ((BitVec.ofInt 64 x &&& BitVec.ofInt 64 2147483647).toNat : Int) = x % 2147483648
  rw [e, IntWalk.i64_in _ (by omega)]; omega
theorem wide_or (c d : Nat) (hc : c < 2147483648) (hd : d < 2147483648) : bits .or .i64 ((c : Int) * 2147483648) (d : Int) = (c : Int) * 2147483648 + (d : Int) := by
  have e : (BitVec.ofInt 64 ((c : Int) * 2147483648) ||| BitVec.ofInt 64 (d : Int)).toNat = c * 2147483648 + d := by
    rw [BitVec.toNat_or, BitVec.toNat_ofInt, BitVec.toNat_ofInt]
    have h1 : ((c : Int) * 2147483648 % ((2 ^ 64 : Nat) : Int)).toNat = c <<< 31 := by
      rw [Nat.shiftLeft_eq]; omega
    have h2 : ((d : Int) % ((2 ^ 64 : Nat) : Int)).toNat = d := by omega
    rw [h1, h2, ← Nat.shiftLeft_add_eq_or_of_lt (by omega : d < 2 ^ 31), Nat.shiftLeft_eq]
  unfold bits
  show IntKind.i64.wrap ((BitVec.ofInt 64 ((c : Int) * 2147483648) ||| BitVec.ofInt 64 (d : Int)).toNat : Int) = _
  rw [e, IntWalk.i64_in _ (by omega)]; omega
theorem wide_or' {c d : Int} (h1 : 0 ≤ c) (h2 : c < 2147483648) (h3 : 0 ≤ d) (h4 : d < 2147483648) : bits .or .i64 (c * 2147483648) d = c * 2147483648 + d := by
  obtain ⟨m, rfl⟩ := Int.eq_ofNat_of_zero_le h1
  obtain ⟨n, rfl⟩ := Int.eq_ofNat_of_zero_le h3
  exact wide_or m n (by omega) (by omega)
theorem wide_val (a b : Int) :
    a * b = (a / 2147483648 * (b / 2147483648) + (a / 2147483648 * (b % 2147483648) + a % 2147483648 * (b / 2147483648) + a % 2147483648 * (b % 2147483648) / 2147483648) / 2147483648) * 4611686018427387904
      + ((a / 2147483648 * (b % 2147483648) + a % 2147483648 * (b / 2147483648) + a % 2147483648 * (b % 2147483648) / 2147483648) % 2147483648 * 2147483648 + a % 2147483648 * (b % 2147483648) % 2147483648) := by
  have ha := Int.mul_ediv_add_emod a 2147483648
  have hb := Int.mul_ediv_add_emod b 2147483648
  generalize a / 2147483648 = a1 at *
  generalize a % 2147483648 = a0 at *
  generalize b / 2147483648 = b1 at *
  generalize b % 2147483648 = b0 at *
  have e : a * b = a1 * b1 * 4611686018427387904 + (a1 * b0 + a0 * b1) * 2147483648 + a0 * b0 := by rw [← ha, ← hb]; grind
  rw [e]
  generalize a0 * b0 = x
  generalize a1 * b0 + a0 * b1 = y
  generalize a1 * b1 = z
  omega
theorem wide_hi (a b : Int) : (a / 2147483648 * (b / 2147483648) + (a / 2147483648 * (b % 2147483648) + a % 2147483648 * (b / 2147483648) + a % 2147483648 * (b % 2147483648) / 2147483648) / 2147483648) = a * b / 4611686018427387904 := by
  have h := wide_val a b
  generalize (a / 2147483648 * (b % 2147483648) + a % 2147483648 * (b / 2147483648) + a % 2147483648 * (b % 2147483648) / 2147483648) = y at *
  generalize a / 2147483648 * (b / 2147483648) = z at *
  generalize a % 2147483648 * (b % 2147483648) = x at *
  generalize a * b = p at *
  omega
theorem wide_lo (a b : Int) : (a / 2147483648 * (b % 2147483648) + a % 2147483648 * (b / 2147483648) + a % 2147483648 * (b % 2147483648) / 2147483648) % 2147483648 * 2147483648 + a % 2147483648 * (b % 2147483648) % 2147483648 = a * b % 4611686018427387904 := by
  have h := wide_val a b
  generalize (a / 2147483648 * (b % 2147483648) + a % 2147483648 * (b / 2147483648) + a % 2147483648 * (b % 2147483648) / 2147483648) = y at *
  generalize a / 2147483648 * (b / 2147483648) = z at *
  generalize a % 2147483648 * (b % 2147483648) = x at *
  generalize a * b = p at *
  omega
theorem mul_bd {a b A B : Int} (h1 : 0 ≤ a) (h2 : a ≤ A) (h3 : 0 ≤ b) (h4 : b ≤ B) : 0 ≤ a * b ∧ a * b ≤ A * B :=
  ⟨Int.mul_nonneg h1 h3, Int.mul_le_mul h2 h4 h3 (by omega)⟩
theorem ret_two {a b c d : Int} (h1 : a = c) (h2 : b = d) : Ending.returned (.tuple #[.int .i64 a, .int .i64 b]) = .returned (.tuple #[.int .i64 c, .int .i64 d]) := by rw [h1, h2]
set_option maxHeartbeats 1600000 in
theorem l03Wide_any (a b : Int) (w : World) (h1 : 0 ≤ a) (h2 : a ≤ 549755813888) (h3 : 0 ≤ b) (h4 : b ≤ 549755813888) :
    Calls Try.prog 125 #[.int .i64 a, .int .i64 b] w fun e w' => e = .returned (.tuple #[.int .i64 (a * b / 4611686018427387904), .int .i64 (a * b % 4611686018427387904)]) ∧ w = w' := by
  have HA := and31
  have WH := Lib.hid (wide_hi a b)
  have WL := Lib.hid (wide_lo a b)
  have a0 : 0 ≤ a % 2147483648 := by omega
  have a1 : a % 2147483648 ≤ 2147483647 := by omega
  have b0 : 0 ≤ b % 2147483648 := by omega
  have b1 : b % 2147483648 ≤ 2147483647 := by omega
  have a2 : 0 ≤ a / 2147483648 := by omega
  have a3 : a / 2147483648 ≤ 256 := by omega
  have b2 : 0 ≤ b / 2147483648 := by omega
  have b3 : b / 2147483648 ≤ 256 := by omega
  obtain ⟨p0, p1⟩ := mul_bd a0 a1 b0 b1
  obtain ⟨p2, p3⟩ := mul_bd a2 a3 b0 b1
  obtain ⟨p4, p5⟩ := mul_bd a0 a1 b2 b3
  obtain ⟨p6, p7⟩ := mul_bd a2 a3 b2 b3
  have OR := Lib.hid (wide_or' (c := (a / 2147483648 * (b % 2147483648) + a % 2147483648 * (b / 2147483648) + a % 2147483648 * (b % 2147483648) / 2147483648) % 2147483648) (d := a % 2147483648 * (b % 2147483648) % 2147483648) (by omega) (by omega) (by omega) (by omega))
  clear h1 h2 h3 h4 a0 a1 a2 a3 b0 b1 b2 b3
  go_enter Try.func125, Try.ntmps125
  go_wp2
  go_ret2
  refine ⟨ret_two ?_ ?_, rfl⟩
  · exact WH.out
  · exact OR.out.trans WL.out
theorem lex_lt {B p q : Int} (hB : 0 < B) (h : p / B < q / B) : true = decide (p ≤ q) := by rw [← lex_is hB]; simp [lexB, h]
theorem lex_gt {B p q : Int} (hB : 0 < B) (h : q / B < p / B) : false = decide (p ≤ q) := by rw [← lex_is hB]; simp [lexB]; omega
theorem lex_eq {B p q : Int} (hB : 0 < B) (h : p / B = q / B) : decide (p % B ≤ q % B) = decide (p ≤ q) := by
  have e := lex_is (p := p) (q := q) hB
  unfold lexB at e
  rw [h] at e
  simpa using e
set_option maxHeartbeats 1600000 in
theorem l03Less_any (a b c d : Int) (w : World) (h1 : 0 ≤ a) (h2 : a ≤ 549755813888) (h3 : 0 ≤ b) (h4 : b ≤ 549755813888) (h5 : 0 ≤ c) (h6 : c ≤ 549755813888) (h7 : 0 ≤ d) (h8 : d ≤ 549755813888) :
    Calls Try.prog 123 #[.int .i64 a, .int .i64 b, .int .i64 c, .int .i64 d] w fun e w' => e = .returned (.bool (decide (a * b ≤ c * d))) ∧ w = w' := by
  have C1 := Lib.hid (fun w => l03Wide_any a b w h1 h2 h3 h4)
  have C2 := Lib.hid (fun w => l03Wide_any c d w h5 h6 h7 h8)
  have L1 := lex_lt (B := 4611686018427387904) (p := a * b) (q := c * d) (by decide)
  have L2 := lex_gt (B := 4611686018427387904) (p := a * b) (q := c * d) (by decide)
  have L3 := lex_eq (B := 4611686018427387904) (p := a * b) (q := c * d) (by decide)
  clear h1 h2 h3 h4 h5 h6 h7 h8
  generalize a * b = p at *
  generalize c * d = q at *
  generalize decide (p ≤ q) = v at *
  generalize p / 4611686018427387904 = x1 at *
  generalize q / 4611686018427387904 = y1 at *
  generalize p % 4611686018427387904 = x2 at *
  generalize q % 4611686018427387904 = y2 at *
  rcases Int.lt_trichotomy x1 y1 with h | h | h
  · have X := Lib.hid (L1 h)
    clear L1 L2 L3
    go_enter Try.func123, Try.ntmps123
    go_wp2_with (go_at_call 125; first | ((with_reducible refine (C1.out _).mono ?_); rintro e w1 ⟨rfl, rfl⟩) | ((with_reducible refine (C2.out _).mono ?_); rintro e w1 ⟨rfl, rfl⟩))
    go_ret
    exact ⟨ret_bool X.out, rfl⟩
  · subst h
    have X := L3 rfl
    clear L1 L2 L3
    have e1 : decide (x1 < x1) = false := by simp
    have e2 : (x1 == x1) = true := by simp
    by_cases hy : x2 ≤ y2
    · have X2 := Lib.hid (show true = v by rw [← X]; simp [hy])
      clear X
      go_enter Try.func123, Try.ntmps123
      go_wp2_with (go_at_call 125; first | ((with_reducible refine (C1.out _).mono ?_); rintro e w1 ⟨rfl, rfl⟩) | ((with_reducible refine (C2.out _).mono ?_); rintro e w1 ⟨rfl, rfl⟩))
      go_ret
      exact ⟨ret_bool X2.out, rfl⟩
    · have X2 := Lib.hid (show false = v by rw [← X]; simp; omega)
      have e3 : decide (x2 ≤ y2) = false := by simpa using hy
      clear X hy
      go_enter Try.func123, Try.ntmps123
      go_wp2_with (go_at_call 125; first | ((with_reducible refine (C1.out _).mono ?_); rintro e w1 ⟨rfl, rfl⟩) | ((with_reducible refine (C2.out _).mono ?_); rintro e w1 ⟨rfl, rfl⟩))
      go_ret
      exact ⟨ret_bool X2.out, rfl⟩
  · have X := Lib.hid (L2 h)
    clear L1 L2 L3
    have e1 : decide (x1 < y1) = false := by simp; omega
    have e2 : (x1 == y1) = false := beq_eq_false_iff_ne.2 (by omega)
    go_enter Try.func123, Try.ntmps123
    go_wp2_with (go_at_call 125; first | ((with_reducible refine (C1.out _).mono ?_); rintro e w1 ⟨rfl, rfl⟩) | ((with_reducible refine (C2.out _).mono ?_); rintro e w1 ⟨rfl, rfl⟩))
    go_ret
    exact ⟨ret_bool X.out, rfl⟩
theorem ret_u64 {a b : Int} (h : a = b) : Ending.returned (.int .u64 a) = .returned (.int .u64 b) := by rw [h]
set_option maxHeartbeats 400000 in
theorem magnitude_any (n : Int) (w : World) (h0 : -9223372036854775808 ≤ n) (h1 : n ≤ 9223372036854775807) :
    Calls Try.prog 119 #[.int .i64 n] w fun e w' => e = .returned (.int .u64 n.natAbs) ∧ w = w' := by
  by_cases a : n < 0
  · go_enter Try.func119, Try.ntmps119
    go_wp2
    go_ret
    exact ⟨ret_u64 (by first | omega | (simp only [IntKind.wrap_u64]; omega)), rfl⟩
  · go_enter Try.func119, Try.ntmps119
    go_wp2
    go_ret
    exact ⟨ret_u64 (by first | omega | (simp only [IntKind.wrap_u64]; omega)), rfl⟩
set_option maxHeartbeats 800000 in
theorem wideProduct_any (m k : Nat) (w : World) (hm : m < 18446744073709551616) (hk : k < 18446744073709551616) :
    Calls Try.prog 120 #[.int .u64 m, .int .u64 k] w fun e w' => e = .returned (.agg #[.int .u64 ((m * k / 18446744073709551616 : Nat) : Int), .int .u64 ((m * k % 18446744073709551616 : Nat) : Int)]) ∧ Below w.heap.size w w' := by
  have C := Lib.hid (fun w => Try.bits_Mul64 m k hm hk w)
  clear hm hk
  generalize ((m * k / 18446744073709551616 : Nat) : Int) = x at *
  generalize ((m * k % 18446744073709551616 : Nat) : Int) = y at *
  go_enter Try.func120, Try.ntmps120
  go_wp2_with fail
  refine (C.out _).mono ?_
  rintro e w1 ⟨rfl, rfl⟩
  go_wp2
  refine bodyPost_ret (v := .agg #[.int .u64 x, .int .u64 y]) (by simp [results, Try.results120, go_sem]) rfl ⟨rfl, ?_⟩
  repeat' (first | with_reducible assumption | with_reducible exact Below.refl _ _ | (with_reducible refine Below.setCell ?_ ?_ _) | (with_reducible refine Below.alloc ?_ ?_ _) | (with_reducible refine Below.drew ?_) | (with_reducible refine below_dr ?_ _) | (with_reducible refine Below.trans ?_ (Below.mono (by with_reducible assumption) ?_)) | omega | (simp; done) | (simp; omega))
set_option maxHeartbeats 1600000 in
theorem atMost_any (x1 x2 y1 y2 : Int) (v : Bool) (w : World) (L1 : x1 < y1 → true = v) (L2 : y1 < x1 → false = v) (L3 : x1 = y1 → decide (x2 ≤ y2) = v) :
    Calls Try.prog 121 #[.agg #[.int .u64 x1, .int .u64 x2], .agg #[.int .u64 y1, .int .u64 y2]] w fun e w' => e = .returned (.bool v) ∧ Below w.heap.size w w' := by
  rcases Int.lt_trichotomy x1 y1 with h | h | h
  · have X := Lib.hid (L1 h)
    clear L1 L2 L3
    go_enter Try.func121, Try.ntmps121
    go_wp2
    go_ret
    exact ⟨ret_bool X.out, by repeat' (first | assumption | exact Below.refl _ _ | (refine Below.setCell ?_ ?_ _) | (refine Below.alloc ?_ ?_ _) | (refine below_dr ?_ _) | exact Nat.le_refl _ | (simp; done) | (simp; omega))⟩
  · subst h
    have X := L3 rfl
    clear L1 L2 L3
    have e1 : decide (x1 < x1) = false := by simp
    have e2 : (x1 == x1) = true := by simp
    by_cases hy : x2 ≤ y2
    · have X2 := Lib.hid (show true = v by rw [← X]; simp [hy])
      clear X
      go_enter Try.func121, Try.ntmps121
      go_wp2
      go_ret
      exact ⟨ret_bool X2.out, by repeat' (first | assumption | exact Below.refl _ _ | (refine Below.setCell ?_ ?_ _) | (refine Below.alloc ?_ ?_ _) | (refine below_dr ?_ _) | exact Nat.le_refl _ | (simp; done) | (simp; omega))⟩
    · have X2 := Lib.hid (show false = v by rw [← X]; simp; omega)
      have e3 : decide (x2 ≤ y2) = false := by simpa using hy
      clear X hy
      go_enter Try.func121, Try.ntmps121
      go_wp2
      go_ret
      exact ⟨ret_bool X2.out, by repeat' (first | assumption | exact Below.refl _ _ | (refine Below.setCell ?_ ?_ _) | (refine Below.alloc ?_ ?_ _) | (refine below_dr ?_ _) | exact Nat.le_refl _ | (simp; done) | (simp; omega))⟩
  · have X := Lib.hid (L2 h)
    clear L1 L2 L3
    have e1 : decide (x1 < y1) = false := by simp; omega
    have e2 : (x1 == y1) = false := beq_eq_false_iff_ne.2 (by omega)
    go_enter Try.func121, Try.ntmps121
    go_wp2
    go_ret
    exact ⟨ret_bool X.out, by repeat' (first | assumption | exact Below.refl _ _ | (refine Below.setCell ?_ ?_ _) | (refine Below.alloc ?_ ?_ _) | (refine below_dr ?_ _) | exact Nat.le_refl _ | (simp; done) | (simp; omega))⟩
end Go.Proofs.Yticgomikfleabaa
