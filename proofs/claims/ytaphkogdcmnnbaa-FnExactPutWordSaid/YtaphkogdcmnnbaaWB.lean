/- Walks: PutWord on both sides, and its law. -/
import Derived.Test.YtaphkogdcmnnbaaW1
import Derived.Test.YtaphkogdcmnnbaaW2
import Derived.LoopN
namespace Go.Proofs.Ytaphkogdcmnnbaa
open Go.RowKit

def toU8 (x : Int) : UInt8 := UInt8.ofNat x.toNat
theorem toU8_nat {x : Int} (h0 : 0 ≤ x) (h1 : x < 256) : ((toU8 x).toNat : Int) = x := by
  have h : (toU8 x).toNat = x.toNat % 256 := by simp [toU8]
  rw [h]; omega
theorem and_255 (x : Int) : bits .and .i64 x 255 = x % 256 := by
  show IntKind.i64.wrap ((BitVec.ofInt 64 x &&& BitVec.ofInt 64 ((255 : Nat) : Int)).toNat : Int) = _
  rw [BitVec.toNat_and, BitVec.toNat_ofInt, BitVec.ofInt_natCast, BitVec.toNat_ofNat, show 255 % 2 ^ 64 = 2 ^ 8 - 1 from rfl, Nat.and_two_pow_sub_one_eq_mod, IntKind.wrap_i64]
  have e : ((x % ((2 ^ 64 : Nat) : Int)).toNat : Int) = x % 18446744073709551616 := by
    rw [Int.toNat_of_nonneg (by omega)]; rfl
  omega
/-- 'string(b)' of a block of bytes. -/
theorem conv_bytes (W : World) (g : Nat) (cap : Nat) (xs : List Int) (hx : ∀ x ∈ xs, 0 ≤ x ∧ x < 256) (hc : ∀ j (h : j < xs.length), W.cell? ⟨g, j, none⟩ = some (.int .u8 xs[j])) :
    (convert 51 9 (.slice (some ⟨g, 0, none⟩) xs.length cap)).run Try.prog W = .ok (.string ⟨(xs.map toU8).toArray⟩) W := by
  have h := run_convert_bytes_back (P := Try.prog) W 51 9 5 ⟨g, 0, none⟩ cap (xs.map toU8) Try.underlying51 Try.underlying5 Try.underlying9 (fun j hj => by
    have hj' : j < xs.length := by simpa using hj
    have hb := hx xs[j] (List.getElem_mem hj')
    rw [List.getElem_map, toU8_nat hb.1 hb.2, ← hc j hj']
    by_cases h0 : j = 0
    · subst h0; simp [Addr.add]
    · simp [Addr.add, h0])
  rw [List.length_map] at h
  exact h


set_option maxHeartbeats 1600000 in
theorem l01Word_1 (n : Int) (w : World) :
    Calls Try.prog 45 #[.int .i64 n, .int .i64 1] w fun e w' => e = .returned (.string ⟨([n % 256].map toU8).toArray⟩) ∧ Below w.heap.size w w' := by
  have hmk : ∀ w, (Instr.makeSlice 51 (.int .i64 1) (.int .i64 1)).run Try.prog w = .ok (.slice (some ⟨w.heap.size, 0, none⟩) 1 1) (w.alloc (.cells #[.int .u8 0] 5)) := fun _ => by kernel_rfl
  have a0 := and_255 n
  have he : ([bits .and .i64 n 255 % 256].map toU8) = [n % 256].map toU8 := by
    rw [a0]
    congr 1
    simp
  have HE := Lib.hid he
  clear he
  have hcv : (convert 51 9 (.slice (some ⟨w.heap.size, 0, none⟩) 1 1)).run Try.prog (w.alloc (.cells #[.int .u8 (bits .and .i64 n 255 % 256)] 5)) = .ok (.string ⟨([bits .and .i64 n 255 % 256].map toU8).toArray⟩) (w.alloc (.cells #[.int .u8 (bits .and .i64 n 255 % 256)] 5)) := by
    refine conv_bytes _ _ 1 [bits .and .i64 n 255 % 256] (by intro x hx; simp at hx; omega) ?_
    intro j hj
    have hj' : j < 1 := hj
    obtain rfl : j = 0 := by omega
    all_goals simp [go_sem]
  clear a0
  go_enter Try.func45, Try.ntmps45
  go_wp2
  refine wp_loop_rounds 2 ?_
  rw [rounds_succ]
  go_wp2
  rw [rounds_succ]
  go_wp2
  go_ret
  exact ⟨by first | exact congrArg (fun l : List UInt8 => Ending.returned (.string ⟨l.toArray⟩)) HE.out | (rw [← HE.out]; rfl), (Below.refl _ _).alloc (Nat.le_refl _) _⟩

set_option maxHeartbeats 1600000 in
theorem implPut_1 (n : Int) (w : World) (h1 : -128 ≤ n) (h2 : n < 256) :
    Calls Try.prog 20 #[.int .i64 n, .int .i64 1] w fun e w' => e = .returned (.string ⟨([n % 256].map toU8).toArray⟩) ∧ Below w.heap.size w w' := by
  have hmk : ∀ w, (Instr.makeSlice 51 (.int .i64 1) (.int .i64 1)).run Try.prog w = .ok (.slice (some ⟨w.heap.size, 0, none⟩) 1 1) (w.alloc (.cells #[.int .u8 0] 5)) := fun _ => by kernel_rfl
  have hcv : (convert 51 9 (.slice (some ⟨w.heap.size, 0, none⟩) 1 1)).run Try.prog (w.alloc (.cells #[.int .u8 (n % 256)] 5)) = .ok (.string ⟨([n % 256].map toU8).toArray⟩) (w.alloc (.cells #[.int .u8 (n % 256)] 5)) := by
    refine conv_bytes _ _ 1 [n % 256] (by intro x hx; simp at hx; omega) ?_
    intro j hj
    have hj' : j < 1 := hj
    obtain rfl : j = 0 := by omega
    all_goals simp [go_sem]
  go_enter Try.func20, Try.ntmps20
  go_wp2
  refine wp_loop_rounds 2 ?_
  rw [rounds_succ]
  go_wp2
  rw [rounds_succ]
  go_wp2
  go_ret
  exact ⟨rfl, (Below.refl _ _).alloc (Nat.le_refl _) _⟩
set_option maxHeartbeats 1600000 in
theorem specPut_1 (n : Int) (w : World) (h1 : -128 ≤ n) (h2 : n < 256) :
    Calls Try.prog 19 #[.int .i64 n, .int .i64 1] w fun e w' => e = .returned (.string ⟨([n % 256].map toU8).toArray⟩) ∧ Below w.heap.size w w' := by
  have C := Lib.hid (fun w => l01Word_1 n w)
  generalize (⟨([n % 256].map toU8).toArray⟩ : ByteArray) = v at C ⊢
  go_enter Try.func19, Try.ntmps19
  go_wp2_with (first | (go_at_call 43; go_in) | (go_at_call 44; go_in) | (go_at_call 45; refine (C.out _).mono ?_; rintro e w1 ⟨rfl, hb1⟩))
  go_ret
  exact ⟨rfl, hb1⟩


set_option maxHeartbeats 1600000 in
theorem l01Word_2 (n : Int) (w : World) :
    Calls Try.prog 45 #[.int .i64 n, .int .i64 2] w fun e w' => e = .returned (.string ⟨([n / 256 % 256, n % 256].map toU8).toArray⟩) ∧ Below w.heap.size w w' := by
  have hmk : ∀ w, (Instr.makeSlice 51 (.int .i64 2) (.int .i64 2)).run Try.prog w = .ok (.slice (some ⟨w.heap.size, 0, none⟩) 2 2) (w.alloc (.cells #[.int .u8 0, .int .u8 0] 5)) := fun _ => by kernel_rfl
  have a0 := and_255 n
  have a1 := and_255 (n / 256)
  have he : ([bits .and .i64 (n / 256) 255 % 256, bits .and .i64 n 255 % 256].map toU8) = [n / 256 % 256, n % 256].map toU8 := by
    rw [a0, a1]
    congr 1
    simp only [List.cons.injEq, and_true]; omega
  have HE := Lib.hid he
  clear he
  have hcv : (convert 51 9 (.slice (some ⟨w.heap.size, 0, none⟩) 2 2)).run Try.prog (w.alloc (.cells #[.int .u8 (bits .and .i64 (n / 256) 255 % 256), .int .u8 (bits .and .i64 n 255 % 256)] 5)) = .ok (.string ⟨([bits .and .i64 (n / 256) 255 % 256, bits .and .i64 n 255 % 256].map toU8).toArray⟩) (w.alloc (.cells #[.int .u8 (bits .and .i64 (n / 256) 255 % 256), .int .u8 (bits .and .i64 n 255 % 256)] 5)) := by
    refine conv_bytes _ _ 2 [bits .and .i64 (n / 256) 255 % 256, bits .and .i64 n 255 % 256] (by intro x hx; simp at hx; omega) ?_
    intro j hj
    have hj' : j < 2 := hj
    obtain rfl | rfl : j = 0 ∨ j = 1 := by omega
    all_goals simp [go_sem]
  clear a0 a1
  go_enter Try.func45, Try.ntmps45
  go_wp2
  refine wp_loop_rounds 3 ?_
  rw [rounds_succ]
  go_wp2
  rw [rounds_succ]
  go_wp2
  rw [rounds_succ]
  go_wp2
  go_ret
  exact ⟨by first | exact congrArg (fun l : List UInt8 => Ending.returned (.string ⟨l.toArray⟩)) HE.out | (rw [← HE.out]; rfl), (Below.refl _ _).alloc (Nat.le_refl _) _⟩

set_option maxHeartbeats 1600000 in
theorem implPut_2 (n : Int) (w : World) (h1 : -32768 ≤ n) (h2 : n < 65536) :
    Calls Try.prog 20 #[.int .i64 n, .int .i64 2] w fun e w' => e = .returned (.string ⟨([n / 256 % 256, n % 256].map toU8).toArray⟩) ∧ Below w.heap.size w w' := by
  have hmk : ∀ w, (Instr.makeSlice 51 (.int .i64 2) (.int .i64 2)).run Try.prog w = .ok (.slice (some ⟨w.heap.size, 0, none⟩) 2 2) (w.alloc (.cells #[.int .u8 0, .int .u8 0] 5)) := fun _ => by kernel_rfl
  have hcv : (convert 51 9 (.slice (some ⟨w.heap.size, 0, none⟩) 2 2)).run Try.prog (w.alloc (.cells #[.int .u8 (n / 256 % 256), .int .u8 (n % 256)] 5)) = .ok (.string ⟨([n / 256 % 256, n % 256].map toU8).toArray⟩) (w.alloc (.cells #[.int .u8 (n / 256 % 256), .int .u8 (n % 256)] 5)) := by
    refine conv_bytes _ _ 2 [n / 256 % 256, n % 256] (by intro x hx; simp at hx; omega) ?_
    intro j hj
    have hj' : j < 2 := hj
    obtain rfl | rfl : j = 0 ∨ j = 1 := by omega
    all_goals simp [go_sem]
  go_enter Try.func20, Try.ntmps20
  go_wp2
  refine wp_loop_rounds 3 ?_
  rw [rounds_succ]
  go_wp2
  rw [rounds_succ]
  go_wp2
  rw [rounds_succ]
  go_wp2
  go_ret
  exact ⟨rfl, (Below.refl _ _).alloc (Nat.le_refl _) _⟩
set_option maxHeartbeats 1600000 in
theorem specPut_2 (n : Int) (w : World) (h1 : -32768 ≤ n) (h2 : n < 65536) :
    Calls Try.prog 19 #[.int .i64 n, .int .i64 2] w fun e w' => e = .returned (.string ⟨([n / 256 % 256, n % 256].map toU8).toArray⟩) ∧ Below w.heap.size w w' := by
  have C := Lib.hid (fun w => l01Word_2 n w)
  generalize (⟨([n / 256 % 256, n % 256].map toU8).toArray⟩ : ByteArray) = v at C ⊢
  go_enter Try.func19, Try.ntmps19
  go_wp2_with (first | (go_at_call 43; go_in) | (go_at_call 44; go_in) | (go_at_call 45; refine (C.out _).mono ?_; rintro e w1 ⟨rfl, hb1⟩))
  go_ret
  exact ⟨rfl, hb1⟩


set_option maxHeartbeats 1600000 in
theorem l01Word_3 (n : Int) (w : World) :
    Calls Try.prog 45 #[.int .i64 n, .int .i64 3] w fun e w' => e = .returned (.string ⟨([n / 65536 % 256, n / 256 % 256, n % 256].map toU8).toArray⟩) ∧ Below w.heap.size w w' := by
  have hmk : ∀ w, (Instr.makeSlice 51 (.int .i64 3) (.int .i64 3)).run Try.prog w = .ok (.slice (some ⟨w.heap.size, 0, none⟩) 3 3) (w.alloc (.cells #[.int .u8 0, .int .u8 0, .int .u8 0] 5)) := fun _ => by kernel_rfl
  have a0 := and_255 n
  have a1 := and_255 (n / 256)
  have a2 := and_255 ((n / 256) / 256)
  have he : ([bits .and .i64 ((n / 256) / 256) 255 % 256, bits .and .i64 (n / 256) 255 % 256, bits .and .i64 n 255 % 256].map toU8) = [n / 65536 % 256, n / 256 % 256, n % 256].map toU8 := by
    rw [a0, a1, a2]
    congr 1
    simp only [List.cons.injEq, and_true]; omega
  have HE := Lib.hid he
  clear he
  have hcv : (convert 51 9 (.slice (some ⟨w.heap.size, 0, none⟩) 3 3)).run Try.prog (w.alloc (.cells #[.int .u8 (bits .and .i64 ((n / 256) / 256) 255 % 256), .int .u8 (bits .and .i64 (n / 256) 255 % 256), .int .u8 (bits .and .i64 n 255 % 256)] 5)) = .ok (.string ⟨([bits .and .i64 ((n / 256) / 256) 255 % 256, bits .and .i64 (n / 256) 255 % 256, bits .and .i64 n 255 % 256].map toU8).toArray⟩) (w.alloc (.cells #[.int .u8 (bits .and .i64 ((n / 256) / 256) 255 % 256), .int .u8 (bits .and .i64 (n / 256) 255 % 256), .int .u8 (bits .and .i64 n 255 % 256)] 5)) := by
    refine conv_bytes _ _ 3 [bits .and .i64 ((n / 256) / 256) 255 % 256, bits .and .i64 (n / 256) 255 % 256, bits .and .i64 n 255 % 256] (by intro x hx; simp at hx; omega) ?_
    intro j hj
    have hj' : j < 3 := hj
    obtain rfl | rfl | rfl : j = 0 ∨ j = 1 ∨ j = 2 := by omega
    all_goals simp [go_sem]
  clear a0 a1 a2
  go_enter Try.func45, Try.ntmps45
  go_wp2
  refine wp_loop_rounds 4 ?_
  rw [rounds_succ]
  go_wp2
  rw [rounds_succ]
  go_wp2
  rw [rounds_succ]
  go_wp2
  rw [rounds_succ]
  go_wp2
  go_ret
  exact ⟨by first | exact congrArg (fun l : List UInt8 => Ending.returned (.string ⟨l.toArray⟩)) HE.out | (rw [← HE.out]; rfl), (Below.refl _ _).alloc (Nat.le_refl _) _⟩

set_option maxHeartbeats 1600000 in
theorem implPut_3 (n : Int) (w : World) (h1 : -8388608 ≤ n) (h2 : n < 16777216) :
    Calls Try.prog 20 #[.int .i64 n, .int .i64 3] w fun e w' => e = .returned (.string ⟨([n / 65536 % 256, n / 256 % 256, n % 256].map toU8).toArray⟩) ∧ Below w.heap.size w w' := by
  have hmk : ∀ w, (Instr.makeSlice 51 (.int .i64 3) (.int .i64 3)).run Try.prog w = .ok (.slice (some ⟨w.heap.size, 0, none⟩) 3 3) (w.alloc (.cells #[.int .u8 0, .int .u8 0, .int .u8 0] 5)) := fun _ => by kernel_rfl
  have hcv : (convert 51 9 (.slice (some ⟨w.heap.size, 0, none⟩) 3 3)).run Try.prog (w.alloc (.cells #[.int .u8 (n / 65536 % 256), .int .u8 (n / 256 % 256), .int .u8 (n % 256)] 5)) = .ok (.string ⟨([n / 65536 % 256, n / 256 % 256, n % 256].map toU8).toArray⟩) (w.alloc (.cells #[.int .u8 (n / 65536 % 256), .int .u8 (n / 256 % 256), .int .u8 (n % 256)] 5)) := by
    refine conv_bytes _ _ 3 [n / 65536 % 256, n / 256 % 256, n % 256] (by intro x hx; simp at hx; omega) ?_
    intro j hj
    have hj' : j < 3 := hj
    obtain rfl | rfl | rfl : j = 0 ∨ j = 1 ∨ j = 2 := by omega
    all_goals simp [go_sem]
  go_enter Try.func20, Try.ntmps20
  go_wp2
  refine wp_loop_rounds 4 ?_
  rw [rounds_succ]
  go_wp2
  rw [rounds_succ]
  go_wp2
  rw [rounds_succ]
  go_wp2
  rw [rounds_succ]
  go_wp2
  go_ret
  exact ⟨rfl, (Below.refl _ _).alloc (Nat.le_refl _) _⟩
set_option maxHeartbeats 1600000 in
theorem specPut_3 (n : Int) (w : World) (h1 : -8388608 ≤ n) (h2 : n < 16777216) :
    Calls Try.prog 19 #[.int .i64 n, .int .i64 3] w fun e w' => e = .returned (.string ⟨([n / 65536 % 256, n / 256 % 256, n % 256].map toU8).toArray⟩) ∧ Below w.heap.size w w' := by
  have C := Lib.hid (fun w => l01Word_3 n w)
  generalize (⟨([n / 65536 % 256, n / 256 % 256, n % 256].map toU8).toArray⟩ : ByteArray) = v at C ⊢
  go_enter Try.func19, Try.ntmps19
  go_wp2_with (first | (go_at_call 43; go_in) | (go_at_call 44; go_in) | (go_at_call 45; refine (C.out _).mono ?_; rintro e w1 ⟨rfl, hb1⟩))
  go_ret
  exact ⟨rfl, hb1⟩


set_option maxHeartbeats 1600000 in
theorem l01Word_4 (n : Int) (w : World) :
    Calls Try.prog 45 #[.int .i64 n, .int .i64 4] w fun e w' => e = .returned (.string ⟨([n / 16777216 % 256, n / 65536 % 256, n / 256 % 256, n % 256].map toU8).toArray⟩) ∧ Below w.heap.size w w' := by
  have hmk : ∀ w, (Instr.makeSlice 51 (.int .i64 4) (.int .i64 4)).run Try.prog w = .ok (.slice (some ⟨w.heap.size, 0, none⟩) 4 4) (w.alloc (.cells #[.int .u8 0, .int .u8 0, .int .u8 0, .int .u8 0] 5)) := fun _ => by kernel_rfl
  have a0 := and_255 n
  have a1 := and_255 (n / 256)
  have a2 := and_255 ((n / 256) / 256)
  have a3 := and_255 (((n / 256) / 256) / 256)
  have he : ([bits .and .i64 (((n / 256) / 256) / 256) 255 % 256, bits .and .i64 ((n / 256) / 256) 255 % 256, bits .and .i64 (n / 256) 255 % 256, bits .and .i64 n 255 % 256].map toU8) = [n / 16777216 % 256, n / 65536 % 256, n / 256 % 256, n % 256].map toU8 := by
    rw [a0, a1, a2, a3]
    congr 1
    simp only [List.cons.injEq, and_true]; omega
  have HE := Lib.hid he
  clear he
  have hcv : (convert 51 9 (.slice (some ⟨w.heap.size, 0, none⟩) 4 4)).run Try.prog (w.alloc (.cells #[.int .u8 (bits .and .i64 (((n / 256) / 256) / 256) 255 % 256), .int .u8 (bits .and .i64 ((n / 256) / 256) 255 % 256), .int .u8 (bits .and .i64 (n / 256) 255 % 256), .int .u8 (bits .and .i64 n 255 % 256)] 5)) = .ok (.string ⟨([bits .and .i64 (((n / 256) / 256) / 256) 255 % 256, bits .and .i64 ((n / 256) / 256) 255 % 256, bits .and .i64 (n / 256) 255 % 256, bits .and .i64 n 255 % 256].map toU8).toArray⟩) (w.alloc (.cells #[.int .u8 (bits .and .i64 (((n / 256) / 256) / 256) 255 % 256), .int .u8 (bits .and .i64 ((n / 256) / 256) 255 % 256), .int .u8 (bits .and .i64 (n / 256) 255 % 256), .int .u8 (bits .and .i64 n 255 % 256)] 5)) := by
    refine conv_bytes _ _ 4 [bits .and .i64 (((n / 256) / 256) / 256) 255 % 256, bits .and .i64 ((n / 256) / 256) 255 % 256, bits .and .i64 (n / 256) 255 % 256, bits .and .i64 n 255 % 256] (by intro x hx; simp at hx; omega) ?_
    intro j hj
    have hj' : j < 4 := hj
    obtain rfl | rfl | rfl | rfl : j = 0 ∨ j = 1 ∨ j = 2 ∨ j = 3 := by omega
    all_goals simp [go_sem]
  clear a0 a1 a2 a3
  go_enter Try.func45, Try.ntmps45
  go_wp2
  refine wp_loop_rounds 5 ?_
  rw [rounds_succ]
  go_wp2
  rw [rounds_succ]
  go_wp2
  rw [rounds_succ]
  go_wp2
  rw [rounds_succ]
  go_wp2
  rw [rounds_succ]
  go_wp2
  go_ret
  exact ⟨by first | exact congrArg (fun l : List UInt8 => Ending.returned (.string ⟨l.toArray⟩)) HE.out | (rw [← HE.out]; rfl), (Below.refl _ _).alloc (Nat.le_refl _) _⟩

set_option maxHeartbeats 1600000 in
theorem implPut_4 (n : Int) (w : World) (h1 : -2147483648 ≤ n) (h2 : n < 4294967296) :
    Calls Try.prog 20 #[.int .i64 n, .int .i64 4] w fun e w' => e = .returned (.string ⟨([n / 16777216 % 256, n / 65536 % 256, n / 256 % 256, n % 256].map toU8).toArray⟩) ∧ Below w.heap.size w w' := by
  have hmk : ∀ w, (Instr.makeSlice 51 (.int .i64 4) (.int .i64 4)).run Try.prog w = .ok (.slice (some ⟨w.heap.size, 0, none⟩) 4 4) (w.alloc (.cells #[.int .u8 0, .int .u8 0, .int .u8 0, .int .u8 0] 5)) := fun _ => by kernel_rfl
  have hcv : (convert 51 9 (.slice (some ⟨w.heap.size, 0, none⟩) 4 4)).run Try.prog (w.alloc (.cells #[.int .u8 (n / 16777216 % 256), .int .u8 (n / 65536 % 256), .int .u8 (n / 256 % 256), .int .u8 (n % 256)] 5)) = .ok (.string ⟨([n / 16777216 % 256, n / 65536 % 256, n / 256 % 256, n % 256].map toU8).toArray⟩) (w.alloc (.cells #[.int .u8 (n / 16777216 % 256), .int .u8 (n / 65536 % 256), .int .u8 (n / 256 % 256), .int .u8 (n % 256)] 5)) := by
    refine conv_bytes _ _ 4 [n / 16777216 % 256, n / 65536 % 256, n / 256 % 256, n % 256] (by intro x hx; simp at hx; omega) ?_
    intro j hj
    have hj' : j < 4 := hj
    obtain rfl | rfl | rfl | rfl : j = 0 ∨ j = 1 ∨ j = 2 ∨ j = 3 := by omega
    all_goals simp [go_sem]
  go_enter Try.func20, Try.ntmps20
  go_wp2
  refine wp_loop_rounds 5 ?_
  rw [rounds_succ]
  go_wp2
  rw [rounds_succ]
  go_wp2
  rw [rounds_succ]
  go_wp2
  rw [rounds_succ]
  go_wp2
  rw [rounds_succ]
  go_wp2
  go_ret
  exact ⟨rfl, (Below.refl _ _).alloc (Nat.le_refl _) _⟩
set_option maxHeartbeats 1600000 in
theorem specPut_4 (n : Int) (w : World) (h1 : -2147483648 ≤ n) (h2 : n < 4294967296) :
    Calls Try.prog 19 #[.int .i64 n, .int .i64 4] w fun e w' => e = .returned (.string ⟨([n / 16777216 % 256, n / 65536 % 256, n / 256 % 256, n % 256].map toU8).toArray⟩) ∧ Below w.heap.size w w' := by
  have C := Lib.hid (fun w => l01Word_4 n w)
  generalize (⟨([n / 16777216 % 256, n / 65536 % 256, n / 256 % 256, n % 256].map toU8).toArray⟩ : ByteArray) = v at C ⊢
  go_enter Try.func19, Try.ntmps19
  go_wp2_with (first | (go_at_call 43; go_in) | (go_at_call 44; go_in) | (go_at_call 45; refine (C.out _).mono ?_; rintro e w1 ⟨rfl, hb1⟩))
  go_ret
  exact ⟨rfl, hb1⟩


set_option maxHeartbeats 800000 in
theorem specOut_1 (n : Int) (w : World) (h : n < -128 ∨ 256 ≤ n) :
    Calls Try.prog 19 #[.int .i64 n, .int .i64 1] w fun e w' => e = .returned (.string ⟨#[]⟩) ∧ Below w.heap.size w w' := by
  by_cases c : n < -128
  · clear h
    go_enter Try.func19, Try.ntmps19
    go_wp2_with (first | (go_at_call 43; go_in) | (go_at_call 44; go_in))
    go_ret
    exact ⟨rfl, Below.refl _ _⟩
  · have c1 : 256 ≤ n := by omega
    have c2 : -128 ≤ n := by omega
    clear h c
    go_enter Try.func19, Try.ntmps19
    go_wp2_with (first | (go_at_call 43; go_in) | (go_at_call 44; go_in))
    go_ret
    exact ⟨rfl, Below.refl _ _⟩


set_option maxHeartbeats 800000 in
theorem implOut_1 (n : Int) (w : World) (h : n < -128 ∨ 256 ≤ n) :
    Calls Try.prog 20 #[.int .i64 n, .int .i64 1] w fun e w' => e = .returned (.string ⟨#[]⟩) ∧ Below w.heap.size w w' := by
  by_cases c : n < -128
  · clear h
    go_enter Try.func20, Try.ntmps20
    go_wp2
    go_ret
    exact ⟨rfl, Below.refl _ _⟩
  · have c1 : 256 ≤ n := by omega
    have c2 : -128 ≤ n := by omega
    clear h c
    go_enter Try.func20, Try.ntmps20
    go_wp2
    go_ret
    exact ⟨rfl, Below.refl _ _⟩


set_option maxHeartbeats 800000 in
theorem specOut_2 (n : Int) (w : World) (h : n < -32768 ∨ 65536 ≤ n) :
    Calls Try.prog 19 #[.int .i64 n, .int .i64 2] w fun e w' => e = .returned (.string ⟨#[]⟩) ∧ Below w.heap.size w w' := by
  by_cases c : n < -32768
  · clear h
    go_enter Try.func19, Try.ntmps19
    go_wp2_with (first | (go_at_call 43; go_in) | (go_at_call 44; go_in))
    go_ret
    exact ⟨rfl, Below.refl _ _⟩
  · have c1 : 65536 ≤ n := by omega
    have c2 : -32768 ≤ n := by omega
    clear h c
    go_enter Try.func19, Try.ntmps19
    go_wp2_with (first | (go_at_call 43; go_in) | (go_at_call 44; go_in))
    go_ret
    exact ⟨rfl, Below.refl _ _⟩


set_option maxHeartbeats 800000 in
theorem implOut_2 (n : Int) (w : World) (h : n < -32768 ∨ 65536 ≤ n) :
    Calls Try.prog 20 #[.int .i64 n, .int .i64 2] w fun e w' => e = .returned (.string ⟨#[]⟩) ∧ Below w.heap.size w w' := by
  by_cases c : n < -32768
  · clear h
    go_enter Try.func20, Try.ntmps20
    go_wp2
    go_ret
    exact ⟨rfl, Below.refl _ _⟩
  · have c1 : 65536 ≤ n := by omega
    have c2 : -32768 ≤ n := by omega
    clear h c
    go_enter Try.func20, Try.ntmps20
    go_wp2
    go_ret
    exact ⟨rfl, Below.refl _ _⟩


set_option maxHeartbeats 800000 in
theorem specOut_3 (n : Int) (w : World) (h : n < -8388608 ∨ 16777216 ≤ n) :
    Calls Try.prog 19 #[.int .i64 n, .int .i64 3] w fun e w' => e = .returned (.string ⟨#[]⟩) ∧ Below w.heap.size w w' := by
  by_cases c : n < -8388608
  · clear h
    go_enter Try.func19, Try.ntmps19
    go_wp2_with (first | (go_at_call 43; go_in) | (go_at_call 44; go_in))
    go_ret
    exact ⟨rfl, Below.refl _ _⟩
  · have c1 : 16777216 ≤ n := by omega
    have c2 : -8388608 ≤ n := by omega
    clear h c
    go_enter Try.func19, Try.ntmps19
    go_wp2_with (first | (go_at_call 43; go_in) | (go_at_call 44; go_in))
    go_ret
    exact ⟨rfl, Below.refl _ _⟩


set_option maxHeartbeats 800000 in
theorem implOut_3 (n : Int) (w : World) (h : n < -8388608 ∨ 16777216 ≤ n) :
    Calls Try.prog 20 #[.int .i64 n, .int .i64 3] w fun e w' => e = .returned (.string ⟨#[]⟩) ∧ Below w.heap.size w w' := by
  by_cases c : n < -8388608
  · clear h
    go_enter Try.func20, Try.ntmps20
    go_wp2
    go_ret
    exact ⟨rfl, Below.refl _ _⟩
  · have c1 : 16777216 ≤ n := by omega
    have c2 : -8388608 ≤ n := by omega
    clear h c
    go_enter Try.func20, Try.ntmps20
    go_wp2
    go_ret
    exact ⟨rfl, Below.refl _ _⟩


set_option maxHeartbeats 800000 in
theorem specOut_4 (n : Int) (w : World) (h : n < -2147483648 ∨ 4294967296 ≤ n) :
    Calls Try.prog 19 #[.int .i64 n, .int .i64 4] w fun e w' => e = .returned (.string ⟨#[]⟩) ∧ Below w.heap.size w w' := by
  by_cases c : n < -2147483648
  · clear h
    go_enter Try.func19, Try.ntmps19
    go_wp2_with (first | (go_at_call 43; go_in) | (go_at_call 44; go_in))
    go_ret
    exact ⟨rfl, Below.refl _ _⟩
  · have c1 : 4294967296 ≤ n := by omega
    have c2 : -2147483648 ≤ n := by omega
    clear h c
    go_enter Try.func19, Try.ntmps19
    go_wp2_with (first | (go_at_call 43; go_in) | (go_at_call 44; go_in))
    go_ret
    exact ⟨rfl, Below.refl _ _⟩


set_option maxHeartbeats 800000 in
theorem implOut_4 (n : Int) (w : World) (h : n < -2147483648 ∨ 4294967296 ≤ n) :
    Calls Try.prog 20 #[.int .i64 n, .int .i64 4] w fun e w' => e = .returned (.string ⟨#[]⟩) ∧ Below w.heap.size w w' := by
  by_cases c : n < -2147483648
  · clear h
    go_enter Try.func20, Try.ntmps20
    go_wp2
    go_ret
    exact ⟨rfl, Below.refl _ _⟩
  · have c1 : 4294967296 ≤ n := by omega
    have c2 : -2147483648 ≤ n := by omega
    clear h c
    go_enter Try.func20, Try.ntmps20
    go_wp2
    go_ret
    exact ⟨rfl, Below.refl _ _⟩


set_option maxHeartbeats 800000 in
theorem specNone (n b : Int) (w : World) (h : b < 1 ∨ 4 < b) :
    Calls Try.prog 19 #[.int .i64 n, .int .i64 b] w fun e w' => e = .returned (.string ⟨#[]⟩) ∧ Below w.heap.size w w' := by
  go_enter Try.func19, Try.ntmps19
  go_wp2_with fail
  refine (l00In_no _ _ _ _ h).mono ?_
  rintro e w1 ⟨rfl, rfl⟩
  go_wp2
  go_ret
  exact ⟨rfl, Below.refl _ _⟩


set_option maxHeartbeats 800000 in
theorem implNone (n b : Int) (w : World) (h : b < 1 ∨ 4 < b) :
    Calls Try.prog 20 #[.int .i64 n, .int .i64 b] w fun e w' => e = .returned (.string ⟨#[]⟩) ∧ Below w.heap.size w w' := by
  by_cases c : b < 1
  · clear h
    go_enter Try.func20, Try.ntmps20
    go_wp2
    go_ret
    exact ⟨rfl, Below.refl _ _⟩
  · have c1 : 4 < b := by omega
    have c2 : 1 ≤ b := by omega
    clear h c
    go_enter Try.func20, Try.ntmps20
    go_wp2
    go_ret
    exact ⟨rfl, Below.refl _ _⟩


set_option maxHeartbeats 800000 in
theorem law_put (n b : Int) (v : ByteArray) (c1 : ∀ w, Calls Try.prog 19 #[.int .i64 n, .int .i64 b] w fun e w' => e = .returned (.string v) ∧ Below w.heap.size w w')
    (c2 : ∀ w, Calls Try.prog 20 #[.int .i64 n, .int .i64 b] w fun e w' => e = .returned (.string v) ∧ Below w.heap.size w w') (w : World) :
    Calls Try.prog 5 #[.int .i64 n, .int .i64 b] w fun e w' => e = .returned (.bool true) ∧ Below w.heap.size w w' := by
  have C1 := Lib.hid c1
  have C2 := Lib.hid c2
  clear c1 c2
  have e1 : (v.toList == v.toList) = true := by simp
  go_enter Try.func5, Try.ntmps5
  go_wp2_with fail
  refine (C1.out _).mono ?_
  rintro e w1 ⟨rfl, hb1⟩
  go_wp2_with fail
  refine (C2.out _).mono ?_
  rintro e w2 ⟨rfl, hb2⟩
  go_wp2
  go_ret
  exact ⟨rfl, hb1.trans (hb2.mono hb1.size)⟩

theorem walk_PutWord (n b : Int) (_wn : (Lit.int .i64 n).wf = true) (_wb : (Lit.int .i64 b).wf = true) (w : World) :
    Calls Try.prog 5 #[.int .i64 n, .int .i64 b] w fun e w' => e = .returned (.bool true) ∧ Below w.heap.size w w' := by
  by_cases h : b < 1 ∨ 4 < b
  · exact law_put n b _ (fun w => specNone n b w h) (fun w => implNone n b w h) w
  obtain rfl | rfl | rfl | rfl : b = 1 ∨ b = 2 ∨ b = 3 ∨ b = 4 := by omega
  · by_cases hr : n < -128 ∨ 256 ≤ n
    · exact law_put n 1 _ (fun w => specOut_1 n w hr) (fun w => implOut_1 n w hr) w
    · exact law_put n 1 _ (fun w => specPut_1 n w (by omega) (by omega)) (fun w => implPut_1 n w (by omega) (by omega)) w
  · by_cases hr : n < -32768 ∨ 65536 ≤ n
    · exact law_put n 2 _ (fun w => specOut_2 n w hr) (fun w => implOut_2 n w hr) w
    · exact law_put n 2 _ (fun w => specPut_2 n w (by omega) (by omega)) (fun w => implPut_2 n w (by omega) (by omega)) w
  · by_cases hr : n < -8388608 ∨ 16777216 ≤ n
    · exact law_put n 3 _ (fun w => specOut_3 n w hr) (fun w => implOut_3 n w hr) w
    · exact law_put n 3 _ (fun w => specPut_3 n w (by omega) (by omega)) (fun w => implPut_3 n w (by omega) (by omega)) w
  · by_cases hr : n < -2147483648 ∨ 4294967296 ≤ n
    · exact law_put n 4 _ (fun w => specOut_4 n w hr) (fun w => implOut_4 n w hr) w
    · exact law_put n 4 _ (fun w => specPut_4 n w (by omega) (by omega)) (fun w => implPut_4 n w (by omega) (by omega)) w
end Go.Proofs.Ytaphkogdcmnnbaa
