/- Walks: quotients rounded down and to the nearest, on both sides. -/
import Derived.Test.YtjlmoadnbbeloaaW4
import Derived.Test.YtjlmoadnbbeloaaNum2
import Derived.Test.YtjlmoadnbbeloaaShelf
namespace Go.Proofs.Ytjlmoadnbbeloaa
open Go.RowKit

theorem ret_i64 {a b : Int} (h : a = b) : Ending.returned (.int .i64 a) = .returned (.int .i64 b) := by rw [h]


set_option maxHeartbeats 800000 in
theorem l02Div_any (a b : Int) (w : World) (h1 : -4611686018427387904 ≤ a) (h2 : a ≤ 4611686018427387904) (h3 : 1 ≤ b) (h4 : b ≤ 4611686018427387904) :
    Calls Try.prog 97 #[.int .i64 a, .int .i64 b] w fun e w' => e = .returned (.int .i64 (a / b)) ∧ w = w' := by
  have hb : (b == 0) = false := beq_eq_false_iff_ne.2 (by omega)
  have hb2 : ¬ b = 0 := by omega
  have t1 := Int.lt_tmod_of_pos a (show 0 < b by omega)
  have t2 := Int.tmod_lt_of_pos a (show 0 < b by omega)
  have q1 : -4611686018427387904 ≤ a.tdiv b ∧ a.tdiv b ≤ 4611686018427387904 := by
    have h := Int.natAbs_tdiv_le_natAbs a b
    omega
  obtain ⟨q1, q2⟩ := q1
  by_cases hm : a.tmod b < 0
  · have H := Lib.hid (floor_neg (show 0 < b by omega) hm)
    go_enter Try.func97, Try.ntmps97
    go_wp2
    go_ret
    exact ⟨ret_i64 H.out, rfl⟩
  · have H := Lib.hid (floor_pos (show 0 < b by omega) (show 0 ≤ a.tmod b by omega))
    have hm' : 0 ≤ a.tmod b := by omega
    clear hm
    go_enter Try.func97, Try.ntmps97
    go_wp2
    go_ret
    exact ⟨ret_i64 H.out, rfl⟩


set_option maxHeartbeats 800000 in
theorem l02Round_any (n d : Int) (w : World) (h1 : -1152921504606846976 ≤ n) (h2 : n ≤ 1152921504606846976) (h3 : 1 ≤ d) (h4 : d ≤ 1000000) :
    Calls Try.prog 95 #[.int .i64 n, .int .i64 d] w fun e w' => e = .returned (.int .i64 (near n d)) ∧ w = w' := by
  go_enter Try.func95, Try.ntmps95
  go_wp2_with fail
  refine (l02Div_any _ _ _ (by omega) (by omega) (by omega) (by omega)).mono ?_
  rintro e w1 ⟨rfl, rfl⟩
  go_wp2
  go_ret
  exact ⟨rfl, rfl⟩


set_option maxHeartbeats 800000 in
theorem div64_low (a b : Nat) (w : World) (h1 : a < 18446744073709551616) (h2 : 1 ≤ b) (h3 : b < 18446744073709551616) :
    Calls Try.prog 91 #[.int .u64 0, .int .u64 a, .int .u64 b] w fun e w' => e = .returned (.tuple #[.int .u64 ((a : Int) / (b : Int)), .int .u64 ((a : Int) % (b : Int))]) ∧ ∃ k, w' = w.drewN k := by
  have hb : ((b : Int) == 0) = false := beq_eq_false_iff_ne.2 (by omega)
  have hb2 : ¬ (b : Int) = 0 := by omega
  have hb3 : ¬ (b : Int) ≤ 0 := by omega
  have hb4 : (1 : Int) ≤ (b : Int) := by omega
  have q1 : (0 : Int) ≤ (a : Int) / (b : Int) := Int.ediv_nonneg (by omega) (by omega)
  have q2 : (a : Int) / (b : Int) ≤ (a : Int) := Int.ediv_le_self _ (by omega)
  have q3 : (0 : Int) ≤ (a : Int) % (b : Int) := Int.emod_nonneg _ (by omega)
  have q4 : (a : Int) % (b : Int) < (b : Int) := Int.emod_lt_of_pos _ (by omega)
  go_enter Try.func91, Try.ntmps91
  go_wp2
  go_quiet (fail)
  go_wp2
  go_ret2
  exact ⟨rfl, _, rfl⟩
theorem mul64_low (x y : Nat) (w : World) (hx : x < 18446744073709551616) (hy : y < 18446744073709551616) (h : x * y < 18446744073709551616) :
    Calls Try.prog 90 #[.int .u64 x, .int .u64 y] w fun e w' => e = .returned (.tuple #[.int .u64 0, .int .u64 ((x * y : Nat) : Int)]) ∧ w' = w :=
  (Try.bits_Mul64 x y hx hy w).mono fun e w' ⟨he, hw⟩ => ⟨by rw [he, Nat.div_eq_of_lt h, Nat.mod_eq_of_lt h]; rfl, hw⟩


theorem prod_nn {n m : Int} (h1 : n < 0) (h2 : m < 0) : ((n.natAbs * m.natAbs : Nat) : Int) = n * m := by
  rw [Int.natCast_mul, show (n.natAbs : Int) = -n by omega, show (m.natAbs : Int) = -m by omega, Int.neg_mul_neg]
theorem prod_pp {n m : Int} (h1 : 0 ≤ n) (h2 : 0 ≤ m) : ((n.natAbs * m.natAbs : Nat) : Int) = n * m := by
  rw [Int.natCast_mul, show (n.natAbs : Int) = n by omega, show (m.natAbs : Int) = m by omega]
theorem prod_np {n m : Int} (h1 : n < 0) (h2 : 0 ≤ m) : -((n.natAbs * m.natAbs : Nat) : Int) = n * m := by
  rw [Int.natCast_mul, show (n.natAbs : Int) = -n by omega, show (m.natAbs : Int) = m by omega, Int.neg_mul, Int.neg_neg]
theorem prod_pn {n m : Int} (h1 : 0 ≤ n) (h2 : m < 0) : -((n.natAbs * m.natAbs : Nat) : Int) = n * m := by
  rw [Int.natCast_mul, show (n.natAbs : Int) = n by omega, show (m.natAbs : Int) = -m by omega, Int.mul_neg, Int.neg_neg]


set_option maxHeartbeats 3200000 in
theorem nearest_any (num n : Int) (m : Nat) (w : World) (h1 : -1073741824 ≤ n) (h2 : n ≤ 1073741824) (h3 : -1000000000 ≤ num) (h4 : num ≤ 1000000000) (h5 : 1 ≤ m) (h6 : m ≤ 1000000) :
    Calls Try.prog 74 #[.agg #[.int .i64 num, .int .i64 m], .int .i64 n] w fun e w' => e = .returned (.int .i64 (near (n * num) m)) ∧ Below w.heap.size w w' := by
  have hp : n.natAbs * num.natAbs ≤ 1073741824 * 1000000000 := Nat.mul_le_mul (by omega) (by omega)
  have MU := Lib.hid (fun w => mul64_low n.natAbs num.natAbs w (by omega) (by omega) (by omega))
  have m1 : (1 : Int) ≤ (m : Int) := by omega
  by_cases c1 : n < 0
  · by_cases c2 : num < 0
    · have PR := Lib.hid (prod_nn c1 c2)
      generalize hpe : n.natAbs * num.natAbs = p at hp MU PR
      clear hpe
      have r1 : (0 : Int) ≤ (p : Int) % (m : Int) := Int.emod_nonneg _ (by omega)
      have r2 : (p : Int) % (m : Int) < (m : Int) := Int.emod_lt_of_pos _ (by omega)
      have q1 : (0 : Int) ≤ (p : Int) / (m : Int) := Int.ediv_nonneg (by omega) (by omega)
      have q2 : (p : Int) / (m : Int) ≤ (p : Int) := Int.ediv_le_self _ (by omega)
      by_cases hu : (m : Int) ≤ 2 * ((p : Int) % (m : Int))
      · have HN := Lib.hid (near_up (show (0 : Int) < (m : Int) by omega) (Int.mul_ediv_add_emod (p : Int) (m : Int)).symm r2 hu)
        go_enter Try.func74, Try.ntmps74
        go_wp2_with fail
        go_quiet (first
          | (go_at_call 84; exact quiet_left (magnitude_any _ _ (by omega) (by omega)))
          | (go_at_call 90; exact Calls.quiet_of_same (MU.out _)))
        go_wp2_with fail
        refine (div64_low p m _ (by omega) (by omega) (by omega)).mono ?_
        rintro e w1 ⟨rfl, k, rfl⟩
        go_wp2_with fail
        have eW : IntKind.u64.wrap (2 * ((p : Int) % (m : Int))) = 2 * ((p : Int) % (m : Int)) := IntWalk.u64_in _ (by omega)
        go_quiet (fail)
        clear eW
        go_wp2
        go_ret
        exact ⟨ret_i64 (by rw [← PR.out]; exact HN.out.symm), by repeat' (first | exact Below.refl _ _ | (refine Below.setCell ?_ ?_ _) | (refine Below.alloc ?_ ?_ _) | (refine below_dr ?_ _) | exact Nat.le_refl _ | (simp; done) | (simp; omega))⟩
      · replace hu : 2 * ((p : Int) % (m : Int)) < (m : Int) := by omega
        have HN := Lib.hid (near_down (show (0 : Int) < (m : Int) by omega) (Int.mul_ediv_add_emod (p : Int) (m : Int)).symm r1 hu)
        go_enter Try.func74, Try.ntmps74
        go_wp2_with fail
        go_quiet (first
          | (go_at_call 84; exact quiet_left (magnitude_any _ _ (by omega) (by omega)))
          | (go_at_call 90; exact Calls.quiet_of_same (MU.out _)))
        go_wp2_with fail
        refine (div64_low p m _ (by omega) (by omega) (by omega)).mono ?_
        rintro e w1 ⟨rfl, k, rfl⟩
        go_wp2_with fail
        have eW : IntKind.u64.wrap (2 * ((p : Int) % (m : Int))) = 2 * ((p : Int) % (m : Int)) := IntWalk.u64_in _ (by omega)
        go_quiet (fail)
        clear eW
        go_wp2
        go_ret
        exact ⟨ret_i64 (by rw [← PR.out]; exact HN.out.symm), by repeat' (first | exact Below.refl _ _ | (refine Below.setCell ?_ ?_ _) | (refine Below.alloc ?_ ?_ _) | (refine below_dr ?_ _) | exact Nat.le_refl _ | (simp; done) | (simp; omega))⟩
    · have c2' : decide (num < 0) = false := by simp; omega
      have c3 : 0 ≤ num := by omega
      have PR := Lib.hid (prod_np c1 c3)
      generalize hpe : n.natAbs * num.natAbs = p at hp MU PR
      clear hpe
      have r1 : (0 : Int) ≤ (p : Int) % (m : Int) := Int.emod_nonneg _ (by omega)
      have r2 : (p : Int) % (m : Int) < (m : Int) := Int.emod_lt_of_pos _ (by omega)
      have q1 : (0 : Int) ≤ (p : Int) / (m : Int) := Int.ediv_nonneg (by omega) (by omega)
      have q2 : (p : Int) / (m : Int) ≤ (p : Int) := Int.ediv_le_self _ (by omega)
      by_cases hu : (m : Int) < 2 * ((p : Int) % (m : Int))
      · have HN := Lib.hid (near_neg_up (show (0 : Int) < (m : Int) by omega) (Int.mul_ediv_add_emod (p : Int) (m : Int)).symm r2 hu)
        go_enter Try.func74, Try.ntmps74
        go_wp2_with fail
        go_quiet (first
          | (go_at_call 84; exact quiet_left (magnitude_any _ _ (by omega) (by omega)))
          | (go_at_call 90; exact Calls.quiet_of_same (MU.out _)))
        go_wp2_with fail
        refine (div64_low p m _ (by omega) (by omega) (by omega)).mono ?_
        rintro e w1 ⟨rfl, k, rfl⟩
        go_wp2_with fail
        have eW : IntKind.u64.wrap (2 * ((p : Int) % (m : Int))) = 2 * ((p : Int) % (m : Int)) := IntWalk.u64_in _ (by omega)
        go_quiet (fail)
        clear eW
        go_wp2
        go_ret
        exact ⟨ret_i64 (by rw [← PR.out]; exact HN.out.symm), by repeat' (first | exact Below.refl _ _ | (refine Below.setCell ?_ ?_ _) | (refine Below.alloc ?_ ?_ _) | (refine below_dr ?_ _) | exact Nat.le_refl _ | (simp; done) | (simp; omega))⟩
      · replace hu : 2 * ((p : Int) % (m : Int)) ≤ (m : Int) := by omega
        have HN := Lib.hid (near_neg_down (show (0 : Int) < (m : Int) by omega) (Int.mul_ediv_add_emod (p : Int) (m : Int)).symm r1 hu)
        go_enter Try.func74, Try.ntmps74
        go_wp2_with fail
        go_quiet (first
          | (go_at_call 84; exact quiet_left (magnitude_any _ _ (by omega) (by omega)))
          | (go_at_call 90; exact Calls.quiet_of_same (MU.out _)))
        go_wp2_with fail
        refine (div64_low p m _ (by omega) (by omega) (by omega)).mono ?_
        rintro e w1 ⟨rfl, k, rfl⟩
        go_wp2_with fail
        have eW : IntKind.u64.wrap (2 * ((p : Int) % (m : Int))) = 2 * ((p : Int) % (m : Int)) := IntWalk.u64_in _ (by omega)
        go_quiet (fail)
        clear eW
        go_wp2
        go_ret
        exact ⟨ret_i64 (by rw [← PR.out]; exact HN.out.symm), by repeat' (first | exact Below.refl _ _ | (refine Below.setCell ?_ ?_ _) | (refine Below.alloc ?_ ?_ _) | (refine below_dr ?_ _) | exact Nat.le_refl _ | (simp; done) | (simp; omega))⟩
  · have c1' : decide (n < 0) = false := by simp; omega
    have c4 : 0 ≤ n := by omega
    by_cases c2 : num < 0
    · have PR := Lib.hid (prod_pn c4 c2)
      generalize hpe : n.natAbs * num.natAbs = p at hp MU PR
      clear hpe
      have r1 : (0 : Int) ≤ (p : Int) % (m : Int) := Int.emod_nonneg _ (by omega)
      have r2 : (p : Int) % (m : Int) < (m : Int) := Int.emod_lt_of_pos _ (by omega)
      have q1 : (0 : Int) ≤ (p : Int) / (m : Int) := Int.ediv_nonneg (by omega) (by omega)
      have q2 : (p : Int) / (m : Int) ≤ (p : Int) := Int.ediv_le_self _ (by omega)
      by_cases hu : (m : Int) < 2 * ((p : Int) % (m : Int))
      · have HN := Lib.hid (near_neg_up (show (0 : Int) < (m : Int) by omega) (Int.mul_ediv_add_emod (p : Int) (m : Int)).symm r2 hu)
        go_enter Try.func74, Try.ntmps74
        go_wp2_with fail
        go_quiet (first
          | (go_at_call 84; exact quiet_left (magnitude_any _ _ (by omega) (by omega)))
          | (go_at_call 90; exact Calls.quiet_of_same (MU.out _)))
        go_wp2_with fail
        refine (div64_low p m _ (by omega) (by omega) (by omega)).mono ?_
        rintro e w1 ⟨rfl, k, rfl⟩
        go_wp2_with fail
        have eW : IntKind.u64.wrap (2 * ((p : Int) % (m : Int))) = 2 * ((p : Int) % (m : Int)) := IntWalk.u64_in _ (by omega)
        go_quiet (fail)
        clear eW
        go_wp2
        go_ret
        exact ⟨ret_i64 (by rw [← PR.out]; exact HN.out.symm), by repeat' (first | exact Below.refl _ _ | (refine Below.setCell ?_ ?_ _) | (refine Below.alloc ?_ ?_ _) | (refine below_dr ?_ _) | exact Nat.le_refl _ | (simp; done) | (simp; omega))⟩
      · replace hu : 2 * ((p : Int) % (m : Int)) ≤ (m : Int) := by omega
        have HN := Lib.hid (near_neg_down (show (0 : Int) < (m : Int) by omega) (Int.mul_ediv_add_emod (p : Int) (m : Int)).symm r1 hu)
        go_enter Try.func74, Try.ntmps74
        go_wp2_with fail
        go_quiet (first
          | (go_at_call 84; exact quiet_left (magnitude_any _ _ (by omega) (by omega)))
          | (go_at_call 90; exact Calls.quiet_of_same (MU.out _)))
        go_wp2_with fail
        refine (div64_low p m _ (by omega) (by omega) (by omega)).mono ?_
        rintro e w1 ⟨rfl, k, rfl⟩
        go_wp2_with fail
        have eW : IntKind.u64.wrap (2 * ((p : Int) % (m : Int))) = 2 * ((p : Int) % (m : Int)) := IntWalk.u64_in _ (by omega)
        go_quiet (fail)
        clear eW
        go_wp2
        go_ret
        exact ⟨ret_i64 (by rw [← PR.out]; exact HN.out.symm), by repeat' (first | exact Below.refl _ _ | (refine Below.setCell ?_ ?_ _) | (refine Below.alloc ?_ ?_ _) | (refine below_dr ?_ _) | exact Nat.le_refl _ | (simp; done) | (simp; omega))⟩
    · have c2' : decide (num < 0) = false := by simp; omega
      have c3 : 0 ≤ num := by omega
      have PR := Lib.hid (prod_pp c4 c3)
      generalize hpe : n.natAbs * num.natAbs = p at hp MU PR
      clear hpe
      have r1 : (0 : Int) ≤ (p : Int) % (m : Int) := Int.emod_nonneg _ (by omega)
      have r2 : (p : Int) % (m : Int) < (m : Int) := Int.emod_lt_of_pos _ (by omega)
      have q1 : (0 : Int) ≤ (p : Int) / (m : Int) := Int.ediv_nonneg (by omega) (by omega)
      have q2 : (p : Int) / (m : Int) ≤ (p : Int) := Int.ediv_le_self _ (by omega)
      by_cases hu : (m : Int) ≤ 2 * ((p : Int) % (m : Int))
      · have HN := Lib.hid (near_up (show (0 : Int) < (m : Int) by omega) (Int.mul_ediv_add_emod (p : Int) (m : Int)).symm r2 hu)
        go_enter Try.func74, Try.ntmps74
        go_wp2_with fail
        go_quiet (first
          | (go_at_call 84; exact quiet_left (magnitude_any _ _ (by omega) (by omega)))
          | (go_at_call 90; exact Calls.quiet_of_same (MU.out _)))
        go_wp2_with fail
        refine (div64_low p m _ (by omega) (by omega) (by omega)).mono ?_
        rintro e w1 ⟨rfl, k, rfl⟩
        go_wp2_with fail
        have eW : IntKind.u64.wrap (2 * ((p : Int) % (m : Int))) = 2 * ((p : Int) % (m : Int)) := IntWalk.u64_in _ (by omega)
        go_quiet (fail)
        clear eW
        go_wp2
        go_ret
        exact ⟨ret_i64 (by rw [← PR.out]; exact HN.out.symm), by repeat' (first | exact Below.refl _ _ | (refine Below.setCell ?_ ?_ _) | (refine Below.alloc ?_ ?_ _) | (refine below_dr ?_ _) | exact Nat.le_refl _ | (simp; done) | (simp; omega))⟩
      · replace hu : 2 * ((p : Int) % (m : Int)) < (m : Int) := by omega
        have HN := Lib.hid (near_down (show (0 : Int) < (m : Int) by omega) (Int.mul_ediv_add_emod (p : Int) (m : Int)).symm r1 hu)
        go_enter Try.func74, Try.ntmps74
        go_wp2_with fail
        go_quiet (first
          | (go_at_call 84; exact quiet_left (magnitude_any _ _ (by omega) (by omega)))
          | (go_at_call 90; exact Calls.quiet_of_same (MU.out _)))
        go_wp2_with fail
        refine (div64_low p m _ (by omega) (by omega) (by omega)).mono ?_
        rintro e w1 ⟨rfl, k, rfl⟩
        go_wp2_with fail
        have eW : IntKind.u64.wrap (2 * ((p : Int) % (m : Int))) = 2 * ((p : Int) % (m : Int)) := IntWalk.u64_in _ (by omega)
        go_quiet (fail)
        clear eW
        go_wp2
        go_ret
        exact ⟨ret_i64 (by rw [← PR.out]; exact HN.out.symm), by repeat' (first | exact Below.refl _ _ | (refine Below.setCell ?_ ?_ _) | (refine Below.alloc ?_ ?_ _) | (refine below_dr ?_ _) | exact Nat.le_refl _ | (simp; done) | (simp; omega))⟩


set_option maxHeartbeats 1600000 in
theorem specRound_any (n d : Int) (w : World) (h1 : -9223372036854775808 ≤ n ∧ n ≤ 9223372036854775807) (h2 : -9223372036854775808 ≤ d ∧ d ≤ 9223372036854775807) :
    Calls Try.prog 89 #[.agg #[.int .i64 n, .int .i64 d]] w fun e w' => e = .returned (.int .i64 (bif validB n d then near n d else 0)) ∧ Below w.heap.size w w' := by
  by_cases v1 : validB n d = false
  · have V1 := Lib.hid v1
    rw [v1]
    clear v1
    go_enter Try.func89, Try.ntmps89
    go_wp2_with fail
    refine (l02Ok_val _ h1 h2 V1.out).mono ?_
    rintro e w1 ⟨rfl, k1, rfl⟩
    go_wp2
    go_ret
    exact ⟨rfl, by repeat' (first | exact Below.refl _ _ | (refine Below.setCell ?_ ?_ _) | (refine Below.alloc ?_ ?_ _) | (refine below_dr ?_ _) | exact Nat.le_refl _ | (simp; done) | (simp; omega))⟩
  have v1' : validB n d = true := by simpa using v1
  have V1 := Lib.hid v1'
  have VB := validB_bounds v1'
  rw [v1']
  clear v1 v1'
  obtain ⟨b1, b2, b3, b4, _⟩ := VB
  have HV : Hid ((bif true then near n d else 0) = near n d) := rfl
  obtain ⟨m, rfl⟩ := Int.eq_ofNat_of_zero_le (show 0 ≤ d by omega)
  go_enter Try.func89, Try.ntmps89
  go_wp2_with fail
  refine (l02Ok_val _ h1 h2 V1.out).mono ?_
  rintro e w1 ⟨rfl, k1, rfl⟩
  go_wp2_with fail
  refine (l02Round_any _ _ _ (by omega) (by omega) (by omega) (by omega)).mono ?_
  rintro e w1 ⟨rfl, rfl⟩
  go_wp2
  go_ret
  exact ⟨rfl, by repeat' (first | exact Below.refl _ _ | (refine Below.setCell ?_ ?_ _) | (refine Below.alloc ?_ ?_ _) | (refine below_dr ?_ _) | exact Nat.le_refl _ | (simp; done) | (simp; omega))⟩


set_option maxHeartbeats 1600000 in
theorem implRound_any (n d : Int) (w : World) (h1 : -9223372036854775808 ≤ n ∧ n ≤ 9223372036854775807) (h2 : -9223372036854775808 ≤ d ∧ d ≤ 9223372036854775807) :
    Calls Try.prog 44 #[.agg #[.int .i64 n, .int .i64 d]] w fun e w' => e = .returned (.int .i64 (bif validB n d then near n d else 0)) ∧ Below w.heap.size w w' := by
  by_cases v1 : validB n d = false
  · have V1 := Lib.hid v1
    rw [v1]
    clear v1
    go_enter Try.func44, Try.ntmps44
    go_wp2_with fail
    refine (implValidFrac_val _ h1 h2 V1.out).mono ?_
    rintro e w1 ⟨rfl, k1, rfl⟩
    go_wp2
    go_ret
    exact ⟨rfl, by repeat' (first | exact Below.refl _ _ | (refine Below.setCell ?_ ?_ _) | (refine Below.alloc ?_ ?_ _) | (refine below_dr ?_ _) | exact Nat.le_refl _ | (simp; done) | (simp; omega))⟩
  have v1' : validB n d = true := by simpa using v1
  have V1 := Lib.hid v1'
  have VB := validB_bounds v1'
  rw [v1']
  clear v1 v1'
  obtain ⟨b1, b2, b3, b4, _⟩ := VB
  have HV : Hid ((bif true then near n d else 0) = near n d) := rfl
  obtain ⟨m, rfl⟩ := Int.eq_ofNat_of_zero_le (show 0 ≤ d by omega)
  have N1 := Lib.hid (fun w => nearest_any n 1 m w (by omega) (by omega) b3 b4 (by omega) (by omega))
  rw [Int.one_mul] at N1
  go_enter Try.func44, Try.ntmps44
  go_wp2_with fail
  refine (implValidFrac_val _ h1 h2 V1.out).mono ?_
  rintro e w1 ⟨rfl, k1, rfl⟩
  go_wp2_with fail
  refine (N1.out _).mono ?_
  rintro e w2 ⟨rfl, hb2⟩
  go_wp2
  go_ret
  refine ⟨rfl, Below.trans ?_ (hb2.mono (by simp; omega))⟩
  repeat' (first | exact Below.refl _ _ | (refine Below.setCell ?_ ?_ _) | (refine Below.alloc ?_ ?_ _) | (refine below_dr ?_ _) | exact Nat.le_refl _ | (simp; done) | (simp; omega))

end Go.Proofs.Ytjlmoadnbbeloaa
