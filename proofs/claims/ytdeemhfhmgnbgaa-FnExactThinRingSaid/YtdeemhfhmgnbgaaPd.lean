/- Walks: quotients that are rounded, distances, middles. -/
import Derived.Test.YtdeemhfhmgnbgaaPc
namespace Go.Proofs.Ytdeemhfhmgnbgaa
open Go.RowKit

theorem div_zero {n d : Int} (h : d ≤ 0) : 0 = divRound n d := by simp [divRound, h]
theorem div_near {n d : Int} (h : 0 < d) : near n d = divRound n d := by
  unfold divRound; rw [show decide (d ≤ 0) = false by simp; omega]; rfl
theorem tdiv_bounds {n d : Int} (hn : -9223372036854775808 ≤ n ∧ n ≤ 9223372036854775807) (h : 2 ≤ d) : -4611686018427387904 ≤ n.tdiv d ∧ n.tdiv d ≤ 4611686018427387904 := by
  have e := Int.mul_tdiv_add_tmod n d
  have h1 := Int.lt_tmod_of_pos n (show 0 < d by omega)
  have h2 := Int.tmod_lt_of_pos n (show 0 < d by omega)
  have h3 := Int.natAbs_tdiv n d
  have h4 : n.natAbs / d.natAbs ≤ n.natAbs / 2 := Nat.div_le_div_left (by omega) (by omega)
  have h5 : (n.tdiv d).natAbs ≤ n.natAbs / 2 := by rw [h3]; exact h4
  omega
def sqV (ax ay bx ey : Int) : Int := bif okB ax ay && okB bx ey then sqI ax ay bx ey else -1
theorem sqV_no {ax ay bx ey : Int} (h : (okB ax ay && okB bx ey) = false) : -1 = sqV ax ay bx ey := by simp [sqV, h]
theorem sqV_yes {ax ay bx ey : Int} (h : (okB ax ay && okB bx ey) = true) : (bx - ax) * (bx - ax) + (ey - ay) * (ey - ay) = sqV ax ay bx ey := by simp [sqV, h, sqI]
theorem sqV_is {ax ay bx ey : Int} (h1 : okB ax ay = true) (h2 : okB bx ey = true) : sqI ax ay bx ey = sqV ax ay bx ey := by simp [sqV, *]
theorem sqV_f1 {ax ay bx ey : Int} (h : okB ax ay = false) : -1 = sqV ax ay bx ey := by simp [sqV, h]
theorem sqV_f2 {ax ay bx ey : Int} (h : okB bx ey = false) : -1 = sqV ax ay bx ey := by simp [sqV, h]
set_option maxHeartbeats 1600000 in
theorem implDistSq_any (ax ay bx ey : Int) (w : World) :
    Calls Try.prog 100 #[.agg #[.int .i64 ax, .int .i64 ay], .agg #[.int .i64 bx, .int .i64 ey]] w fun e w' => e = .returned (.int .i64 (sqV ax ay bx ey)) ∧ Below w.heap.size w w' := by
  rcases hv : (okB ax ay && okB bx ey) with _ | _
  · have HV := Lib.hid hv
    clear hv
    go_enter Try.func100, Try.ntmps100
    go_wp2_with fail
    refine (valid2 ax ay bx ey _ _ (by simp) (by simp [go_sem]) (by simp [go_sem]) (by simp [go_sem]) (by simp [go_sem])).mono ?_
    rw [HV.out]; rintro e w1 ⟨rfl, hbw1⟩
    go_wp2
    go_ret
    exact ⟨ret_i64 (sqV_no HV.out), by repeat' (first | with_reducible assumption | with_reducible exact Below.refl _ _ | (with_reducible refine Below.setCell ?_ ?_ _) | (with_reducible refine Below.alloc ?_ ?_ _) | (with_reducible refine Below.drew ?_) | (with_reducible refine below_dr ?_ _) | (with_reducible refine Below.trans ?_ (Below.mono (by with_reducible assumption) ?_)) | omega | (simp; done) | (simp; omega))⟩
  · have HV := Lib.hid hv
    obtain ⟨va, vb⟩ := and2 hv
    obtain ⟨a1, a2, a3, a4⟩ := okB_bounds va
    obtain ⟨b1, b2, b3, b4⟩ := okB_bounds vb
    clear hv va vb
    go_enter Try.func100, Try.ntmps100
    go_wp2_with fail
    refine (valid2 ax ay bx ey _ _ (by simp) (by simp [go_sem]) (by simp [go_sem]) (by simp [go_sem]) (by simp [go_sem])).mono ?_
    rw [HV.out]; rintro e w1 ⟨rfl, hbw1⟩
    have g1 : Below w.heap.size w w1 := (by repeat' (first | with_reducible assumption | with_reducible exact Below.refl _ _ | (with_reducible refine Below.setCell ?_ ?_ _) | (with_reducible refine Below.alloc ?_ ?_ _) | (with_reducible refine Below.drew ?_) | (with_reducible refine below_dr ?_ _) | (with_reducible refine Below.trans ?_ (Below.mono (by with_reducible assumption) ?_)) | omega | (simp; done) | (simp; omega)))
    obtain ⟨hcw1, hfw1⟩ := bcell hbw1
    have hzw1 := hbw1.size
    (try simp only [World.size_alloc] at hcw1 hfw1 hzw1)
    have s1 : w1.cell? ⟨w.heap.size, 0, none⟩ = some (.int .i64 ax) := (hcw1 _ _ (by omega)).trans (by first | assumption | (refine (cell_alloc_at _ _ ?_).trans ?_; omega; assumption) | (simp [go_sem]; done) | (simp [go_sem, *]; done))
    have s2 : w1.cell? ⟨w.heap.size, 1, none⟩ = some (.int .i64 ay) := (hcw1 _ _ (by omega)).trans (by first | assumption | (refine (cell_alloc_at _ _ ?_).trans ?_; omega; assumption) | (simp [go_sem]; done) | (simp [go_sem, *]; done))
    have s3 : w1.cell? ⟨w.heap.size + 1, 0, none⟩ = some (.int .i64 bx) := (hcw1 _ _ (by omega)).trans (by first | assumption | (refine (cell_alloc_at _ _ ?_).trans ?_; omega; assumption) | (simp [go_sem]; done) | (simp [go_sem, *]; done))
    have s4 : w1.cell? ⟨w.heap.size + 1, 1, none⟩ = some (.int .i64 ey) := (hcw1 _ _ (by omega)).trans (by first | assumption | (refine (cell_alloc_at _ _ ?_).trans ?_; omega; assumption) | (simp [go_sem]; done) | (simp [go_sem, *]; done))
    have szq0 : w.heap.size < w1.heap.size := (by omega)
    have sz : w.heap.size + 1 < w1.heap.size := (by omega)
    clear hcw1 hfw1 hzw1
    go_wp2_with fail
    refine (minus_any _ _ _ _ _ (by omega) (by omega) (by omega) (by omega)).mono ?_
    rintro e w2 ⟨rfl, hbw2⟩
    have hz2 := hbw2.size
    go_wp2_with fail
    refine (dot_any _ _ _ _ _ (by omega) (by omega) (by omega) (by omega)).mono ?_
    rintro e w3 ⟨rfl, hbw3⟩
    go_wp2
    go_ret
    exact ⟨ret_i64 (sqV_yes HV.out), by repeat' (first | with_reducible assumption | with_reducible exact Below.refl _ _ | (with_reducible refine Below.setCell ?_ ?_ _) | (with_reducible refine Below.alloc ?_ ?_ _) | (with_reducible refine Below.drew ?_) | (with_reducible refine below_dr ?_ _) | (with_reducible refine Below.trans ?_ (Below.mono (by with_reducible assumption) ?_)) | omega | (simp; done) | (simp; omega))⟩
end Go.Proofs.Ytdeemhfhmgnbgaa
