/- Walks: quotients that are rounded, distances, middles. -/
import Derived.Test.YtdikenapnncmfaaDoorPc
namespace Go.Proofs.YtdikenapnncmfaaDoor
open Go.RowKit

theorem div_zero {n d : Int} (h : d ≤ 0) : 0 = divRound n d := by simp [divRound, h]
theorem div_near {n d : Int} (h : 0 < d) : near n d = divRound n d := by
  unfold divRound; rw [show decide (d ≤ 0) = false by simp; omega]; rfl
theorem tdiv_bounds {n d : Int} (hn : -9223372036854775808 ≤ n ∧ n ≤ 9223372036854775807) (h : 2 ≤ d) : -4611686018427387904 ≤ n.tdiv d ∧ n.tdiv d ≤ 4611686018427387904 := by
  have e := Int.mul_tdiv_add_tmod n d
  have h1 := Int.lt_tmod_of_pos n (show 0 < d by omega)
  have h2 := Int.tmod_lt_of_pos n (show 0 < d by omega)
  have h3 := Int.natAbs_tdiv n d
  have h4 : n.natAbs / d.natAbs ≤ n.natAbs / 2 := Nat.div_le_div_left (by omega) (by omega)
  have h5 : (n.tdiv d).natAbs ≤ n.natAbs / 2 := by rw [h3]; exact h4
  omega
set_option maxHeartbeats 1600000 in
theorem implDR_one (n : Int) (w : World) (hn : -9223372036854775808 ≤ n ∧ n ≤ 9223372036854775807) :
    Calls Tryd.prog 57 #[.int .i64 n, .int .i64 1] w fun e w' => e = .returned (.int .i64 (near n 1)) ∧ Below w.heap.size w w' := by
  obtain ⟨n1, n2⟩ := hn
  have H := Lib.hid (show n = near n 1 by unfold near; omega)
  have t0 : n.tmod 1 = 0 := Int.tmod_one n
  have t1 : n.tdiv 1 = n := Int.tdiv_one n
  go_enter Tryd.func57, Tryd.ntmps57
  go_wp2_with fail
  go_quiet (fail); go_wp2
  go_ret
  exact ⟨ret_i64 (by first | exact H.out | (have := H.out; omega)), by repeat' (first | assumption | exact Below.refl _ _ | (refine Below.setCell ?_ ?_ _) | (refine Below.alloc ?_ ?_ _) | (refine below_dr ?_ _) | exact Nat.le_refl _ | (simp; done) | (simp; omega))⟩
set_option maxHeartbeats 1600000 in
theorem implDR_any (n d : Int) (w : World) (hn : -9223372036854775808 ≤ n ∧ n ≤ 9223372036854775807) (h1 : 1 ≤ d) (h2 : d ≤ 9223372036854775807) :
    Calls Tryd.prog 57 #[.int .i64 n, .int .i64 d] w fun e w' => e = .returned (.int .i64 (near n d)) ∧ Below w.heap.size w w' := by
  by_cases hd1 : d = 1
  · subst hd1; exact implDR_one n w hn
  obtain ⟨q1, q2⟩ := tdiv_bounds hn (show 2 ≤ d by omega)
  have g0 : 2 ≤ d := by omega
  clear hd1
  obtain ⟨n1, n2⟩ := hn
  have hb : (d == 0) = false := beq_eq_false_iff_ne.2 (by omega)
  have hb2 : ¬ d = 0 := by omega
  have t1 := Int.lt_tmod_of_pos n (show 0 < d by omega)
  have t2 := Int.tmod_lt_of_pos n (show 0 < d by omega)
  by_cases hm : n.tmod d < 0
  · by_cases hu : d ≤ 2 * (n.tmod d + d)
    · have H := Lib.hid (dr_np (show 0 < d by omega) hm hu)
      have hu2 : d - (n.tmod d + d) ≤ n.tmod d + d := by omega
      clear hu
      go_enter Tryd.func57, Tryd.ntmps57
      go_wp2_with fail
      go_quiet (fail); go_wp2
      go_ret
      exact ⟨ret_i64 (by first | exact H.out | (have := H.out; omega)), by repeat' (first | assumption | exact Below.refl _ _ | (refine Below.setCell ?_ ?_ _) | (refine Below.alloc ?_ ?_ _) | (refine below_dr ?_ _) | exact Nat.le_refl _ | (simp; done) | (simp; omega))⟩
    · have H := Lib.hid (dr_nm (show 0 < d by omega) (show 2 * (n.tmod d + d) < d by omega))
      have hu2 : n.tmod d + d < d - (n.tmod d + d) := by omega
      clear hu
      go_enter Tryd.func57, Tryd.ntmps57
      go_wp2_with fail
      go_quiet (fail); go_wp2
      go_ret
      exact ⟨ret_i64 (by first | exact H.out | (have := H.out; omega)), by repeat' (first | assumption | exact Below.refl _ _ | (refine Below.setCell ?_ ?_ _) | (refine Below.alloc ?_ ?_ _) | (refine below_dr ?_ _) | exact Nat.le_refl _ | (simp; done) | (simp; omega))⟩
  · have hm' : 0 ≤ n.tmod d := by omega
    clear hm
    by_cases hu : d ≤ 2 * n.tmod d
    · have H := Lib.hid (dr_pp (show 0 < d by omega) hu)
      have hu2 : d - n.tmod d ≤ n.tmod d := by omega
      clear hu
      go_enter Tryd.func57, Tryd.ntmps57
      go_wp2_with fail
      go_quiet (fail); go_wp2
      go_ret
      exact ⟨ret_i64 (by first | exact H.out | (have := H.out; omega)), by repeat' (first | assumption | exact Below.refl _ _ | (refine Below.setCell ?_ ?_ _) | (refine Below.alloc ?_ ?_ _) | (refine below_dr ?_ _) | exact Nat.le_refl _ | (simp; done) | (simp; omega))⟩
    · have H := Lib.hid (dr_pm (show 0 < d by omega) hm' (show 2 * n.tmod d < d by omega))
      have hu2 : n.tmod d < d - n.tmod d := by omega
      clear hu
      go_enter Tryd.func57, Tryd.ntmps57
      go_wp2_with fail
      go_quiet (fail); go_wp2
      go_ret
      exact ⟨ret_i64 (by first | exact H.out | (have := H.out; omega)), by repeat' (first | assumption | exact Below.refl _ _ | (refine Below.setCell ?_ ?_ _) | (refine Below.alloc ?_ ?_ _) | (refine below_dr ?_ _) | exact Nat.le_refl _ | (simp; done) | (simp; omega))⟩
set_option maxHeartbeats 800000 in
theorem implDivRound_full (n d : Int) (w : World) (hn : (-9223372036854775808 ≤ n ∧ n ≤ 9223372036854775807)) (hd : (-9223372036854775808 ≤ d ∧ d ≤ 9223372036854775807)) :
    Calls Tryd.prog 57 #[.int .i64 n, .int .i64 d] w fun e w' => e = .returned (.int .i64 (divRound n d)) ∧ Below w.heap.size w w' := by
  by_cases h : d ≤ 0
  · have H := Lib.hid (div_zero (n := n) h)
    go_enter Tryd.func57, Tryd.ntmps57
    go_wp2
    go_ret
    exact ⟨ret_i64 H.out, by repeat' (first | assumption | exact Below.refl _ _ | (refine Below.setCell ?_ ?_ _) | (refine Below.alloc ?_ ?_ _) | (refine below_dr ?_ _) | exact Nat.le_refl _ | (simp; done) | (simp; omega))⟩
  · have H := Lib.hid (div_near (n := n) (d := d) (by omega))
    have C := implDR_any n d w hn (by omega) hd.2
    rwa [H.out] at C
def sqV (ax ay bx ey : Int) : Int := bif okB ax ay && okB bx ey then sqI ax ay bx ey else -1
theorem sqV_no {ax ay bx ey : Int} (h : (okB ax ay && okB bx ey) = false) : -1 = sqV ax ay bx ey := by simp [sqV, h]
theorem sqV_yes {ax ay bx ey : Int} (h : (okB ax ay && okB bx ey) = true) : (bx - ax) * (bx - ax) + (ey - ay) * (ey - ay) = sqV ax ay bx ey := by simp [sqV, h, sqI]
theorem sqV_is {ax ay bx ey : Int} (h1 : okB ax ay = true) (h2 : okB bx ey = true) : sqI ax ay bx ey = sqV ax ay bx ey := by simp [sqV, *]
theorem sqV_f1 {ax ay bx ey : Int} (h : okB ax ay = false) : -1 = sqV ax ay bx ey := by simp [sqV, h]
theorem sqV_f2 {ax ay bx ey : Int} (h : okB bx ey = false) : -1 = sqV ax ay bx ey := by simp [sqV, h]
end Go.Proofs.YtdikenapnncmfaaDoor
