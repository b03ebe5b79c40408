/- Walks: HalvesOf, the reference's side, whole. -/
import Derived.Test.YtpfbgpefaegipaaDb1
namespace Go.Proofs.Ytpfbgpefaegipaa
open Go.RowKit
/-- A pointer to a block above lo that holds these values. -/
def LeftQ (lo : Nat) (vs : List Value) (v : Value) (wx : World) : Prop := ∃ g, v = .pointer (some ⟨g, 0, none⟩) ∧ AtL g vs wx ∧ lo < g
set_option maxRecDepth 100000 in
set_option maxHeartbeats 12800000 in
theorem specHalvesOf_any (m0 m1 m2 m3 m4 m5 m6 m7 : Int) (w : World) :
    Calls Try.prog 28 #[.agg #[.int .i64 m0, .int .i64 m1, .int .i64 m2, .int .i64 m3, .int .i64 m4, .int .i64 m5, .int .i64 m6, .int .i64 m7]] w (HvRet m0 m1 m2 m3 m4 m5 m6 m7 w) := by
  rcases hv : okC m0 m1 m2 m3 m4 m5 m6 m7 with _ | _
  case false =>
    have HV := Lib.hid hv
    clear hv
    go_enter Try.func28, Try.ntmps28
    go_wp2_with fail
    generalize hW : ((w.alloc (.cells #[.int .i64 m0, .int .i64 m1, .int .i64 m2, .int .i64 m3, .int .i64 m4, .int .i64 m5, .int .i64 m6, .int .i64 m7] 29)).alloc (.cells #[.int .i64 0, .int .i64 0, .int .i64 0, .int .i64 0, .int .i64 0, .int .i64 0, .int .i64 0, .int .i64 0] 29)).alloc (.cells #[.int .i64 0, .int .i64 0, .int .i64 0, .int .i64 0, .int .i64 0, .int .i64 0, .int .i64 0, .int .i64 0] 29) = W0
    have b0 : Blk W0 (w.heap.size) 29 #[.int .i64 m0, .int .i64 m1, .int .i64 m2, .int .i64 m3, .int .i64 m4, .int .i64 m5, .int .i64 m6, .int .i64 m7] := by rw [← hW]; exact ((Blk.new _ _ _).alloc _).alloc _
    have b1 : Blk W0 (w.heap.size + 1) 29 #[.int .i64 0, .int .i64 0, .int .i64 0, .int .i64 0, .int .i64 0, .int .i64 0, .int .i64 0, .int .i64 0] := by rw [← hW]; exact (Blk.newAt _ _ _ (by simp)).alloc _
    have b2 : Blk W0 (w.heap.size + 1 + 1) 29 #[.int .i64 0, .int .i64 0, .int .i64 0, .int .i64 0, .int .i64 0, .int .i64 0, .int .i64 0, .int .i64 0] := by rw [← hW]; exact Blk.newAt _ _ _ (by simp)
    have g0 : Below w.heap.size w W0 := by rw [← hW]; repeat' (first | with_reducible assumption | with_reducible exact Below.refl _ _ | (with_reducible refine Below.setCell ?_ ?_ _) | (with_reducible refine Below.alloc ?_ ?_ _) | (with_reducible refine Below.drew ?_) | (with_reducible refine below_dr ?_ _) | (with_reducible refine Below.trans ?_ (Below.mono (by with_reducible assumption) ?_)) | omega | (simp; done) | (simp; omega))
    have z0 := g0.size
    clear hW
    have y_b00 : W0.cell? ⟨w.heap.size, 0, none⟩ = some (.int .i64 m0) := b0.cell 0 rfl
    have y_b01 : W0.cell? ⟨w.heap.size, 1, none⟩ = some (.int .i64 m1) := b0.cell 1 rfl
    have y_b02 : W0.cell? ⟨w.heap.size, 2, none⟩ = some (.int .i64 m2) := b0.cell 2 rfl
    have y_b03 : W0.cell? ⟨w.heap.size, 3, none⟩ = some (.int .i64 m3) := b0.cell 3 rfl
    have y_b04 : W0.cell? ⟨w.heap.size, 4, none⟩ = some (.int .i64 m4) := b0.cell 4 rfl
    have y_b05 : W0.cell? ⟨w.heap.size, 5, none⟩ = some (.int .i64 m5) := b0.cell 5 rfl
    have y_b06 : W0.cell? ⟨w.heap.size, 6, none⟩ = some (.int .i64 m6) := b0.cell 6 rfl
    have y_b07 : W0.cell? ⟨w.heap.size, 7, none⟩ = some (.int .i64 m7) := b0.cell 7 rfl
    have l_b0 : w.heap.size < W0.heap.size := b0.lt
    refine (l09Ok_any m0 m1 m2 m3 m4 m5 m6 m7 _ _ l_b0 y_b00 y_b01 y_b02 y_b03 y_b04 y_b05 y_b06 y_b07).mono ?_
    rw [HV.out]; rintro e w1 ⟨rfl, hbw1⟩
    clear y_b00 y_b01 y_b02 y_b03 y_b04 y_b05 y_b06 y_b07 l_b0
    replace b0 : Blk w1 (w.heap.size) 29 #[.int .i64 m0, .int .i64 m1, .int .i64 m2, .int .i64 m3, .int .i64 m4, .int .i64 m5, .int .i64 m6, .int .i64 m7] := by repeat' (first | with_reducible assumption | (with_reducible refine Blk.drew ?_) | (with_reducible refine Blk.carry ?_ (by with_reducible assumption)) | (with_reducible refine Blk.alloc ?_ _) | (with_reducible refine Blk.far ?_ ?_ _) | omega | (simp; done) | (simp; omega))
    replace b1 : Blk w1 (w.heap.size + 1) 29 #[.int .i64 0, .int .i64 0, .int .i64 0, .int .i64 0, .int .i64 0, .int .i64 0, .int .i64 0, .int .i64 0] := by repeat' (first | with_reducible assumption | (with_reducible refine Blk.drew ?_) | (with_reducible refine Blk.carry ?_ (by with_reducible assumption)) | (with_reducible refine Blk.alloc ?_ _) | (with_reducible refine Blk.far ?_ ?_ _) | omega | (simp; done) | (simp; omega))
    replace b2 : Blk w1 (w.heap.size + 1 + 1) 29 #[.int .i64 0, .int .i64 0, .int .i64 0, .int .i64 0, .int .i64 0, .int .i64 0, .int .i64 0, .int .i64 0] := by repeat' (first | with_reducible assumption | (with_reducible refine Blk.drew ?_) | (with_reducible refine Blk.carry ?_ (by with_reducible assumption)) | (with_reducible refine Blk.alloc ?_ _) | (with_reducible refine Blk.far ?_ ?_ _) | omega | (simp; done) | (simp; omega))
    replace g0 : Below w.heap.size w w1 := by repeat' (first | with_reducible assumption | with_reducible exact Below.refl _ _ | (with_reducible refine Below.setCell ?_ ?_ _) | (with_reducible refine Below.alloc ?_ ?_ _) | (with_reducible refine Below.drew ?_) | (with_reducible refine below_dr ?_ _) | (with_reducible refine Below.trans ?_ (Below.mono (by with_reducible assumption) ?_)) | omega | (simp; done) | (simp; omega))
    have zg := g0.size
    clear hbw1
    have y_b10 : w1.cell? ⟨w.heap.size + 1, 0, none⟩ = some (.int .i64 0) := b1.cell 0 rfl
    have y_b11 : w1.cell? ⟨w.heap.size + 1, 1, none⟩ = some (.int .i64 0) := b1.cell 1 rfl
    have y_b12 : w1.cell? ⟨w.heap.size + 1, 2, none⟩ = some (.int .i64 0) := b1.cell 2 rfl
    have y_b13 : w1.cell? ⟨w.heap.size + 1, 3, none⟩ = some (.int .i64 0) := b1.cell 3 rfl
    have y_b14 : w1.cell? ⟨w.heap.size + 1, 4, none⟩ = some (.int .i64 0) := b1.cell 4 rfl
    have y_b15 : w1.cell? ⟨w.heap.size + 1, 5, none⟩ = some (.int .i64 0) := b1.cell 5 rfl
    have y_b16 : w1.cell? ⟨w.heap.size + 1, 6, none⟩ = some (.int .i64 0) := b1.cell 6 rfl
    have y_b17 : w1.cell? ⟨w.heap.size + 1, 7, none⟩ = some (.int .i64 0) := b1.cell 7 rfl
    have l_b1 : w.heap.size + 1 < w1.heap.size := b1.lt
    have f_b10 : w1.frozen? ⟨w.heap.size + 1, 0, none⟩ = false := b1.frozen 0
    have f_b11 : w1.frozen? ⟨w.heap.size + 1, 1, none⟩ = false := b1.frozen 1
    have f_b12 : w1.frozen? ⟨w.heap.size + 1, 2, none⟩ = false := b1.frozen 2
    have f_b13 : w1.frozen? ⟨w.heap.size + 1, 3, none⟩ = false := b1.frozen 3
    have f_b14 : w1.frozen? ⟨w.heap.size + 1, 4, none⟩ = false := b1.frozen 4
    have f_b15 : w1.frozen? ⟨w.heap.size + 1, 5, none⟩ = false := b1.frozen 5
    have f_b16 : w1.frozen? ⟨w.heap.size + 1, 6, none⟩ = false := b1.frozen 6
    have f_b17 : w1.frozen? ⟨w.heap.size + 1, 7, none⟩ = false := b1.frozen 7
    have y_b20 : w1.cell? ⟨w.heap.size + 1 + 1, 0, none⟩ = some (.int .i64 0) := b2.cell 0 rfl
    have y_b21 : w1.cell? ⟨w.heap.size + 1 + 1, 1, none⟩ = some (.int .i64 0) := b2.cell 1 rfl
    have y_b22 : w1.cell? ⟨w.heap.size + 1 + 1, 2, none⟩ = some (.int .i64 0) := b2.cell 2 rfl
    have y_b23 : w1.cell? ⟨w.heap.size + 1 + 1, 3, none⟩ = some (.int .i64 0) := b2.cell 3 rfl
    have y_b24 : w1.cell? ⟨w.heap.size + 1 + 1, 4, none⟩ = some (.int .i64 0) := b2.cell 4 rfl
    have y_b25 : w1.cell? ⟨w.heap.size + 1 + 1, 5, none⟩ = some (.int .i64 0) := b2.cell 5 rfl
    have y_b26 : w1.cell? ⟨w.heap.size + 1 + 1, 6, none⟩ = some (.int .i64 0) := b2.cell 6 rfl
    have y_b27 : w1.cell? ⟨w.heap.size + 1 + 1, 7, none⟩ = some (.int .i64 0) := b2.cell 7 rfl
    have l_b2 : w.heap.size + 1 + 1 < w1.heap.size := b2.lt
    have f_b20 : w1.frozen? ⟨w.heap.size + 1 + 1, 0, none⟩ = false := b2.frozen 0
    have f_b21 : w1.frozen? ⟨w.heap.size + 1 + 1, 1, none⟩ = false := b2.frozen 1
    have f_b22 : w1.frozen? ⟨w.heap.size + 1 + 1, 2, none⟩ = false := b2.frozen 2
    have f_b23 : w1.frozen? ⟨w.heap.size + 1 + 1, 3, none⟩ = false := b2.frozen 3
    have f_b24 : w1.frozen? ⟨w.heap.size + 1 + 1, 4, none⟩ = false := b2.frozen 4
    have f_b25 : w1.frozen? ⟨w.heap.size + 1 + 1, 5, none⟩ = false := b2.frozen 5
    have f_b26 : w1.frozen? ⟨w.heap.size + 1 + 1, 6, none⟩ = false := b2.frozen 6
    have f_b27 : w1.frozen? ⟨w.heap.size + 1 + 1, 7, none⟩ = false := b2.frozen 7
    go_wp2_with fail
    refine bodyPost_ret (v := .tuple #[.agg #[.int .i64 0, .int .i64 0, .int .i64 0, .int .i64 0, .int .i64 0, .int .i64 0, .int .i64 0, .int .i64 0], .agg #[.int .i64 0, .int .i64 0, .int .i64 0, .int .i64 0, .int .i64 0, .int .i64 0, .int .i64 0, .int .i64 0], .int .i64 1]) (by simp [results, Try.results28, go_sem, *]) rfl (HvRet.f HV.out ?_)
    repeat' (first | with_reducible assumption | with_reducible exact Below.refl _ _ | (with_reducible refine Below.setCell ?_ ?_ _) | (with_reducible refine Below.alloc ?_ ?_ _) | (with_reducible refine Below.drew ?_) | (with_reducible refine below_dr ?_ _) | (with_reducible refine Below.trans ?_ (Below.mono (by with_reducible assumption) ?_)) | omega | (simp; done) | (simp; omega))
  have HV := Lib.hid hv
  have hv2 := hv
  unfold okC at hv2
  simp only [Bool.and_eq_true] at hv2
  obtain ⟨⟨⟨h0, h1⟩, h2⟩, h3⟩ := hv2
  clear hv
  obtain ⟨z01, z02, z03, z04⟩ := okB_bounds h0
  obtain ⟨z11, z12, z13, z14⟩ := okB_bounds h1
  obtain ⟨z21, z22, z23, z24⟩ := okB_bounds h2
  obtain ⟨z31, z32, z33, z34⟩ := okB_bounds h3
  clear h0 h1 h2 h3
  go_enter Try.func28, Try.ntmps28
  go_wp2_with fail
  generalize hW : ((w.alloc (.cells #[.int .i64 m0, .int .i64 m1, .int .i64 m2, .int .i64 m3, .int .i64 m4, .int .i64 m5, .int .i64 m6, .int .i64 m7] 29)).alloc (.cells #[.int .i64 0, .int .i64 0, .int .i64 0, .int .i64 0, .int .i64 0, .int .i64 0, .int .i64 0, .int .i64 0] 29)).alloc (.cells #[.int .i64 0, .int .i64 0, .int .i64 0, .int .i64 0, .int .i64 0, .int .i64 0, .int .i64 0, .int .i64 0] 29) = W0
  have b0 : Blk W0 (w.heap.size) 29 #[.int .i64 m0, .int .i64 m1, .int .i64 m2, .int .i64 m3, .int .i64 m4, .int .i64 m5, .int .i64 m6, .int .i64 m7] := by rw [← hW]; exact ((Blk.new _ _ _).alloc _).alloc _
  have b1 : Blk W0 (w.heap.size + 1) 29 #[.int .i64 0, .int .i64 0, .int .i64 0, .int .i64 0, .int .i64 0, .int .i64 0, .int .i64 0, .int .i64 0] := by rw [← hW]; exact (Blk.newAt _ _ _ (by simp)).alloc _
  have b2 : Blk W0 (w.heap.size + 1 + 1) 29 #[.int .i64 0, .int .i64 0, .int .i64 0, .int .i64 0, .int .i64 0, .int .i64 0, .int .i64 0, .int .i64 0] := by rw [← hW]; exact Blk.newAt _ _ _ (by simp)
  have g0 : Below w.heap.size w W0 := by rw [← hW]; repeat' (first | with_reducible assumption | with_reducible exact Below.refl _ _ | (with_reducible refine Below.setCell ?_ ?_ _) | (with_reducible refine Below.alloc ?_ ?_ _) | (with_reducible refine Below.drew ?_) | (with_reducible refine below_dr ?_ _) | (with_reducible refine Below.trans ?_ (Below.mono (by with_reducible assumption) ?_)) | omega | (simp; done) | (simp; omega))
  have z0 := g0.size
  clear hW
  have y_b00 : W0.cell? ⟨w.heap.size, 0, none⟩ = some (.int .i64 m0) := b0.cell 0 rfl
  have y_b01 : W0.cell? ⟨w.heap.size, 1, none⟩ = some (.int .i64 m1) := b0.cell 1 rfl
  have y_b02 : W0.cell? ⟨w.heap.size, 2, none⟩ = some (.int .i64 m2) := b0.cell 2 rfl
  have y_b03 : W0.cell? ⟨w.heap.size, 3, none⟩ = some (.int .i64 m3) := b0.cell 3 rfl
  have y_b04 : W0.cell? ⟨w.heap.size, 4, none⟩ = some (.int .i64 m4) := b0.cell 4 rfl
  have y_b05 : W0.cell? ⟨w.heap.size, 5, none⟩ = some (.int .i64 m5) := b0.cell 5 rfl
  have y_b06 : W0.cell? ⟨w.heap.size, 6, none⟩ = some (.int .i64 m6) := b0.cell 6 rfl
  have y_b07 : W0.cell? ⟨w.heap.size, 7, none⟩ = some (.int .i64 m7) := b0.cell 7 rfl
  have l_b0 : w.heap.size < W0.heap.size := b0.lt
  refine (l09Ok_any m0 m1 m2 m3 m4 m5 m6 m7 _ _ l_b0 y_b00 y_b01 y_b02 y_b03 y_b04 y_b05 y_b06 y_b07).mono ?_
  rw [HV.out]; rintro e w1 ⟨rfl, hbw1⟩
  clear y_b00 y_b01 y_b02 y_b03 y_b04 y_b05 y_b06 y_b07 l_b0
  replace b0 : Blk w1 (w.heap.size) 29 #[.int .i64 m0, .int .i64 m1, .int .i64 m2, .int .i64 m3, .int .i64 m4, .int .i64 m5, .int .i64 m6, .int .i64 m7] := by repeat' (first | with_reducible assumption | (with_reducible refine Blk.drew ?_) | (with_reducible refine Blk.carry ?_ (by with_reducible assumption)) | (with_reducible refine Blk.alloc ?_ _) | (with_reducible refine Blk.far ?_ ?_ _) | omega | (simp; done) | (simp; omega))
  replace b1 : Blk w1 (w.heap.size + 1) 29 #[.int .i64 0, .int .i64 0, .int .i64 0, .int .i64 0, .int .i64 0, .int .i64 0, .int .i64 0, .int .i64 0] := by repeat' (first | with_reducible assumption | (with_reducible refine Blk.drew ?_) | (with_reducible refine Blk.carry ?_ (by with_reducible assumption)) | (with_reducible refine Blk.alloc ?_ _) | (with_reducible refine Blk.far ?_ ?_ _) | omega | (simp; done) | (simp; omega))
  replace b2 : Blk w1 (w.heap.size + 1 + 1) 29 #[.int .i64 0, .int .i64 0, .int .i64 0, .int .i64 0, .int .i64 0, .int .i64 0, .int .i64 0, .int .i64 0] := by repeat' (first | with_reducible assumption | (with_reducible refine Blk.drew ?_) | (with_reducible refine Blk.carry ?_ (by with_reducible assumption)) | (with_reducible refine Blk.alloc ?_ _) | (with_reducible refine Blk.far ?_ ?_ _) | omega | (simp; done) | (simp; omega))
  replace g0 : Below w.heap.size w w1 := by repeat' (first | with_reducible assumption | with_reducible exact Below.refl _ _ | (with_reducible refine Below.setCell ?_ ?_ _) | (with_reducible refine Below.alloc ?_ ?_ _) | (with_reducible refine Below.drew ?_) | (with_reducible refine below_dr ?_ _) | (with_reducible refine Below.trans ?_ (Below.mono (by with_reducible assumption) ?_)) | omega | (simp; done) | (simp; omega))
  have zg := g0.size
  clear hbw1
  have y_b00 : w1.cell? ⟨w.heap.size, 0, none⟩ = some (.int .i64 m0) := b0.cell 0 rfl
  have y_b01 : w1.cell? ⟨w.heap.size, 1, none⟩ = some (.int .i64 m1) := b0.cell 1 rfl
  have y_b02 : w1.cell? ⟨w.heap.size, 2, none⟩ = some (.int .i64 m2) := b0.cell 2 rfl
  have y_b03 : w1.cell? ⟨w.heap.size, 3, none⟩ = some (.int .i64 m3) := b0.cell 3 rfl
  have y_b04 : w1.cell? ⟨w.heap.size, 4, none⟩ = some (.int .i64 m4) := b0.cell 4 rfl
  have y_b05 : w1.cell? ⟨w.heap.size, 5, none⟩ = some (.int .i64 m5) := b0.cell 5 rfl
  have y_b06 : w1.cell? ⟨w.heap.size, 6, none⟩ = some (.int .i64 m6) := b0.cell 6 rfl
  have y_b07 : w1.cell? ⟨w.heap.size, 7, none⟩ = some (.int .i64 m7) := b0.cell 7 rfl
  have l_b0 : w.heap.size < w1.heap.size := b0.lt
  go_wp2_with fail
  clear y_b00 y_b01 y_b02 y_b03 y_b04 y_b05 y_b06 y_b07 l_b0
  generalize hW : w1.alloc (.cells #[.int .i64 m0, .int .i64 m1, .int .i64 m2, .int .i64 m3, .int .i64 m4, .int .i64 m5, .int .i64 m6, .int .i64 m7] 27) = W2
  have hb2 : Below w1.heap.size w1 W2 := by rw [← hW]; repeat' (first | with_reducible assumption | with_reducible exact Below.refl _ _ | (with_reducible refine Below.setCell ?_ ?_ _) | (with_reducible refine Below.alloc ?_ ?_ _) | (with_reducible refine Below.drew ?_) | (with_reducible refine below_dr ?_ _) | (with_reducible refine Below.trans ?_ (Below.mono (by with_reducible assumption) ?_)) | omega | (simp; done) | (simp; omega))
  have bs : Blk W2 w1.heap.size 27 #[.int .i64 m0, .int .i64 m1, .int .i64 m2, .int .i64 m3, .int .i64 m4, .int .i64 m5, .int .i64 m6, .int .i64 m7] := by rw [← hW]; exact Blk.new _ _ _
  clear hW
  replace b0 : Blk W2 (w.heap.size) 29 #[.int .i64 m0, .int .i64 m1, .int .i64 m2, .int .i64 m3, .int .i64 m4, .int .i64 m5, .int .i64 m6, .int .i64 m7] := by repeat' (first | with_reducible assumption | (with_reducible refine Blk.drew ?_) | (with_reducible refine Blk.carry ?_ (by with_reducible assumption)) | (with_reducible refine Blk.alloc ?_ _) | (with_reducible refine Blk.far ?_ ?_ _) | omega | (simp; done) | (simp; omega))
  replace b1 : Blk W2 (w.heap.size + 1) 29 #[.int .i64 0, .int .i64 0, .int .i64 0, .int .i64 0, .int .i64 0, .int .i64 0, .int .i64 0, .int .i64 0] := by repeat' (first | with_reducible assumption | (with_reducible refine Blk.drew ?_) | (with_reducible refine Blk.carry ?_ (by with_reducible assumption)) | (with_reducible refine Blk.alloc ?_ _) | (with_reducible refine Blk.far ?_ ?_ _) | omega | (simp; done) | (simp; omega))
  replace b2 : Blk W2 (w.heap.size + 1 + 1) 29 #[.int .i64 0, .int .i64 0, .int .i64 0, .int .i64 0, .int .i64 0, .int .i64 0, .int .i64 0, .int .i64 0] := by repeat' (first | with_reducible assumption | (with_reducible refine Blk.drew ?_) | (with_reducible refine Blk.carry ?_ (by with_reducible assumption)) | (with_reducible refine Blk.alloc ?_ _) | (with_reducible refine Blk.far ?_ ?_ _) | omega | (simp; done) | (simp; omega))
  replace g0 : Below w.heap.size w W2 := by repeat' (first | with_reducible assumption | with_reducible exact Below.refl _ _ | (with_reducible refine Below.setCell ?_ ?_ _) | (with_reducible refine Below.alloc ?_ ?_ _) | (with_reducible refine Below.drew ?_) | (with_reducible refine below_dr ?_ _) | (with_reducible refine Below.trans ?_ (Below.mono (by with_reducible assumption) ?_)) | omega | (simp; done) | (simp; omega))
  clear hb2
  generalize w1.heap.size = gs at *
  go_loopw [6] (fun i wr => ∃ j : Nat, j ≤ 4 ∧ i = .int .i64 j ∧ (∀ q, q < j → ([okB (m0 * 8) (m1 * 8), okB (m2 * 8) (m3 * 8), okB (m4 * 8) (m5 * 8), okB (m6 * 8) (m7 * 8)] : List Bool).getD q true = true) ∧ Blk wr (w.heap.size) 29 #[.int .i64 m0, .int .i64 m1, .int .i64 m2, .int .i64 m3, .int .i64 m4, .int .i64 m5, .int .i64 m6, .int .i64 m7] ∧ Blk wr (w.heap.size + 1) 29 #[.int .i64 0, .int .i64 0, .int .i64 0, .int .i64 0, .int .i64 0, .int .i64 0, .int .i64 0, .int .i64 0] ∧ Blk wr (w.heap.size + 1 + 1) 29 #[.int .i64 0, .int .i64 0, .int .i64 0, .int .i64 0, .int .i64 0, .int .i64 0, .int .i64 0, .int .i64 0] ∧ Blk wr (gs) 27 #[.int .i64 m0, .int .i64 m1, .int .i64 m2, .int .i64 m3, .int .i64 m4, .int .i64 m5, .int .i64 m6, .int .i64 m7] ∧ Below w.heap.size w wr) (fun i _ => 4 - (intOf i).toNat)
  case atStart => exact ⟨0, by omega, rfl, fun q h => by omega, b0, b1, b2, bs, g0⟩
  case round =>
    clear b0 b1 b2 bs g0 zg
    obtain ⟨j, hj, rfl, hup, b0, b1, b2, bs, g0⟩ := hrel
    have zg := g0.size
    rcases (by omega : j = 0 ∨ j = 1 ∨ j = 2 ∨ j = 3 ∨ j = 4) with rfl | rfl | rfl | rfl | rfl
    · have HUP := Lib.hid hup
      clear hup hj
      rcases hv : okB (m0 * 8) (m1 * 8) with _ | _
      case false =>
        have CV := Lib.hid (fun w => l03Ok_any (m0 * 8) (m1 * 8) w)
        simp only [hv] at CV
        have HK := Lib.hid hv
        clear hv
        have y_bs0 : wr.cell? ⟨gs, 0, none⟩ = some (.int .i64 m0) := bs.cell 0 rfl
        have y_bs1 : wr.cell? ⟨gs, 1, none⟩ = some (.int .i64 m1) := bs.cell 1 rfl
        have y_bs2 : wr.cell? ⟨gs, 2, none⟩ = some (.int .i64 m2) := bs.cell 2 rfl
        have y_bs3 : wr.cell? ⟨gs, 3, none⟩ = some (.int .i64 m3) := bs.cell 3 rfl
        have y_bs4 : wr.cell? ⟨gs, 4, none⟩ = some (.int .i64 m4) := bs.cell 4 rfl
        have y_bs5 : wr.cell? ⟨gs, 5, none⟩ = some (.int .i64 m5) := bs.cell 5 rfl
        have y_bs6 : wr.cell? ⟨gs, 6, none⟩ = some (.int .i64 m6) := bs.cell 6 rfl
        have y_bs7 : wr.cell? ⟨gs, 7, none⟩ = some (.int .i64 m7) := bs.cell 7 rfl
        have l_bs : gs < wr.heap.size := bs.lt
        go_wp2_with fail
        clear y_bs0 y_bs1 y_bs2 y_bs3 y_bs4 y_bs5 y_bs6 y_bs7 l_bs
        refine (l09Times_g m0 m1 8 _ (by omega) (by omega)).mono ?_
        rintro e w3 ⟨rfl, hb3⟩
        replace b0 : Blk w3 (w.heap.size) 29 #[.int .i64 m0, .int .i64 m1, .int .i64 m2, .int .i64 m3, .int .i64 m4, .int .i64 m5, .int .i64 m6, .int .i64 m7] := by repeat' (first | with_reducible assumption | (with_reducible refine Blk.drew ?_) | (with_reducible refine Blk.carry ?_ (by with_reducible assumption)) | (with_reducible refine Blk.alloc ?_ _) | (with_reducible refine Blk.far ?_ ?_ _) | omega | (simp; done) | (simp; omega))
        replace b1 : Blk w3 (w.heap.size + 1) 29 #[.int .i64 0, .int .i64 0, .int .i64 0, .int .i64 0, .int .i64 0, .int .i64 0, .int .i64 0, .int .i64 0] := by repeat' (first | with_reducible assumption | (with_reducible refine Blk.drew ?_) | (with_reducible refine Blk.carry ?_ (by with_reducible assumption)) | (with_reducible refine Blk.alloc ?_ _) | (with_reducible refine Blk.far ?_ ?_ _) | omega | (simp; done) | (simp; omega))
        replace b2 : Blk w3 (w.heap.size + 1 + 1) 29 #[.int .i64 0, .int .i64 0, .int .i64 0, .int .i64 0, .int .i64 0, .int .i64 0, .int .i64 0, .int .i64 0] := by repeat' (first | with_reducible assumption | (with_reducible refine Blk.drew ?_) | (with_reducible refine Blk.carry ?_ (by with_reducible assumption)) | (with_reducible refine Blk.alloc ?_ _) | (with_reducible refine Blk.far ?_ ?_ _) | omega | (simp; done) | (simp; omega))
        replace bs : Blk w3 (gs) 27 #[.int .i64 m0, .int .i64 m1, .int .i64 m2, .int .i64 m3, .int .i64 m4, .int .i64 m5, .int .i64 m6, .int .i64 m7] := by repeat' (first | with_reducible assumption | (with_reducible refine Blk.drew ?_) | (with_reducible refine Blk.carry ?_ (by with_reducible assumption)) | (with_reducible refine Blk.alloc ?_ _) | (with_reducible refine Blk.far ?_ ?_ _) | omega | (simp; done) | (simp; omega))
        replace g0 : Below w.heap.size w w3 := by repeat' (first | with_reducible assumption | with_reducible exact Below.refl _ _ | (with_reducible refine Below.setCell ?_ ?_ _) | (with_reducible refine Below.alloc ?_ ?_ _) | (with_reducible refine Below.drew ?_) | (with_reducible refine below_dr ?_ _) | (with_reducible refine Below.trans ?_ (Below.mono (by with_reducible assumption) ?_)) | omega | (simp; done) | (simp; omega))
        replace zg := g0.size
        clear hb3
        go_wp2_with fail
        refine (CV.out _).mono ?_
        rintro e w4 ⟨rfl, hb4⟩
        replace b0 : Blk w4 (w.heap.size) 29 #[.int .i64 m0, .int .i64 m1, .int .i64 m2, .int .i64 m3, .int .i64 m4, .int .i64 m5, .int .i64 m6, .int .i64 m7] := by repeat' (first | with_reducible assumption | (with_reducible refine Blk.drew ?_) | (with_reducible refine Blk.carry ?_ (by with_reducible assumption)) | (with_reducible refine Blk.alloc ?_ _) | (with_reducible refine Blk.far ?_ ?_ _) | omega | (simp; done) | (simp; omega))
        replace b1 : Blk w4 (w.heap.size + 1) 29 #[.int .i64 0, .int .i64 0, .int .i64 0, .int .i64 0, .int .i64 0, .int .i64 0, .int .i64 0, .int .i64 0] := by repeat' (first | with_reducible assumption | (with_reducible refine Blk.drew ?_) | (with_reducible refine Blk.carry ?_ (by with_reducible assumption)) | (with_reducible refine Blk.alloc ?_ _) | (with_reducible refine Blk.far ?_ ?_ _) | omega | (simp; done) | (simp; omega))
        replace b2 : Blk w4 (w.heap.size + 1 + 1) 29 #[.int .i64 0, .int .i64 0, .int .i64 0, .int .i64 0, .int .i64 0, .int .i64 0, .int .i64 0, .int .i64 0] := by repeat' (first | with_reducible assumption | (with_reducible refine Blk.drew ?_) | (with_reducible refine Blk.carry ?_ (by with_reducible assumption)) | (with_reducible refine Blk.alloc ?_ _) | (with_reducible refine Blk.far ?_ ?_ _) | omega | (simp; done) | (simp; omega))
        replace bs : Blk w4 (gs) 27 #[.int .i64 m0, .int .i64 m1, .int .i64 m2, .int .i64 m3, .int .i64 m4, .int .i64 m5, .int .i64 m6, .int .i64 m7] := by repeat' (first | with_reducible assumption | (with_reducible refine Blk.drew ?_) | (with_reducible refine Blk.carry ?_ (by with_reducible assumption)) | (with_reducible refine Blk.alloc ?_ _) | (with_reducible refine Blk.far ?_ ?_ _) | omega | (simp; done) | (simp; omega))
        replace g0 : Below w.heap.size w w4 := by repeat' (first | with_reducible assumption | with_reducible exact Below.refl _ _ | (with_reducible refine Below.setCell ?_ ?_ _) | (with_reducible refine Below.alloc ?_ ?_ _) | (with_reducible refine Below.drew ?_) | (with_reducible refine below_dr ?_ _) | (with_reducible refine Below.trans ?_ (Below.mono (by with_reducible assumption) ?_)) | omega | (simp; done) | (simp; omega))
        replace zg := g0.size
        clear hb4
        have HQ := Lib.hid (show okH m0 m1 m2 m3 m4 m5 m6 m7 = false from okH_f0 HK.out)
        have y_b10 : w4.cell? ⟨w.heap.size + 1, 0, none⟩ = some (.int .i64 0) := b1.cell 0 rfl
        have y_b11 : w4.cell? ⟨w.heap.size + 1, 1, none⟩ = some (.int .i64 0) := b1.cell 1 rfl
        have y_b12 : w4.cell? ⟨w.heap.size + 1, 2, none⟩ = some (.int .i64 0) := b1.cell 2 rfl
        have y_b13 : w4.cell? ⟨w.heap.size + 1, 3, none⟩ = some (.int .i64 0) := b1.cell 3 rfl
        have y_b14 : w4.cell? ⟨w.heap.size + 1, 4, none⟩ = some (.int .i64 0) := b1.cell 4 rfl
        have y_b15 : w4.cell? ⟨w.heap.size + 1, 5, none⟩ = some (.int .i64 0) := b1.cell 5 rfl
        have y_b16 : w4.cell? ⟨w.heap.size + 1, 6, none⟩ = some (.int .i64 0) := b1.cell 6 rfl
        have y_b17 : w4.cell? ⟨w.heap.size + 1, 7, none⟩ = some (.int .i64 0) := b1.cell 7 rfl
        have l_b1 : w.heap.size + 1 < w4.heap.size := b1.lt
        have f_b10 : w4.frozen? ⟨w.heap.size + 1, 0, none⟩ = false := b1.frozen 0
        have f_b11 : w4.frozen? ⟨w.heap.size + 1, 1, none⟩ = false := b1.frozen 1
        have f_b12 : w4.frozen? ⟨w.heap.size + 1, 2, none⟩ = false := b1.frozen 2
        have f_b13 : w4.frozen? ⟨w.heap.size + 1, 3, none⟩ = false := b1.frozen 3
        have f_b14 : w4.frozen? ⟨w.heap.size + 1, 4, none⟩ = false := b1.frozen 4
        have f_b15 : w4.frozen? ⟨w.heap.size + 1, 5, none⟩ = false := b1.frozen 5
        have f_b16 : w4.frozen? ⟨w.heap.size + 1, 6, none⟩ = false := b1.frozen 6
        have f_b17 : w4.frozen? ⟨w.heap.size + 1, 7, none⟩ = false := b1.frozen 7
        have y_b20 : w4.cell? ⟨w.heap.size + 1 + 1, 0, none⟩ = some (.int .i64 0) := b2.cell 0 rfl
        have y_b21 : w4.cell? ⟨w.heap.size + 1 + 1, 1, none⟩ = some (.int .i64 0) := b2.cell 1 rfl
        have y_b22 : w4.cell? ⟨w.heap.size + 1 + 1, 2, none⟩ = some (.int .i64 0) := b2.cell 2 rfl
        have y_b23 : w4.cell? ⟨w.heap.size + 1 + 1, 3, none⟩ = some (.int .i64 0) := b2.cell 3 rfl
        have y_b24 : w4.cell? ⟨w.heap.size + 1 + 1, 4, none⟩ = some (.int .i64 0) := b2.cell 4 rfl
        have y_b25 : w4.cell? ⟨w.heap.size + 1 + 1, 5, none⟩ = some (.int .i64 0) := b2.cell 5 rfl
        have y_b26 : w4.cell? ⟨w.heap.size + 1 + 1, 6, none⟩ = some (.int .i64 0) := b2.cell 6 rfl
        have y_b27 : w4.cell? ⟨w.heap.size + 1 + 1, 7, none⟩ = some (.int .i64 0) := b2.cell 7 rfl
        have l_b2 : w.heap.size + 1 + 1 < w4.heap.size := b2.lt
        have f_b20 : w4.frozen? ⟨w.heap.size + 1 + 1, 0, none⟩ = false := b2.frozen 0
        have f_b21 : w4.frozen? ⟨w.heap.size + 1 + 1, 1, none⟩ = false := b2.frozen 1
        have f_b22 : w4.frozen? ⟨w.heap.size + 1 + 1, 2, none⟩ = false := b2.frozen 2
        have f_b23 : w4.frozen? ⟨w.heap.size + 1 + 1, 3, none⟩ = false := b2.frozen 3
        have f_b24 : w4.frozen? ⟨w.heap.size + 1 + 1, 4, none⟩ = false := b2.frozen 4
        have f_b25 : w4.frozen? ⟨w.heap.size + 1 + 1, 5, none⟩ = false := b2.frozen 5
        have f_b26 : w4.frozen? ⟨w.heap.size + 1 + 1, 6, none⟩ = false := b2.frozen 6
        have f_b27 : w4.frozen? ⟨w.heap.size + 1 + 1, 7, none⟩ = false := b2.frozen 7
        go_wp2_with fail
        refine bodyPost_ret (v := .tuple #[.agg #[.int .i64 0, .int .i64 0, .int .i64 0, .int .i64 0, .int .i64 0, .int .i64 0, .int .i64 0, .int .i64 0], .agg #[.int .i64 0, .int .i64 0, .int .i64 0, .int .i64 0, .int .i64 0, .int .i64 0, .int .i64 0, .int .i64 0], .int .i64 2]) (by simp [results, Try.results28, go_sem, *]) rfl (HvRet.r HV.out HQ.out ?_)
        repeat' (first | with_reducible assumption | with_reducible exact Below.refl _ _ | (with_reducible refine Below.setCell ?_ ?_ _) | (with_reducible refine Below.alloc ?_ ?_ _) | (with_reducible refine Below.drew ?_) | (with_reducible refine below_dr ?_ _) | (with_reducible refine Below.trans ?_ (Below.mono (by with_reducible assumption) ?_)) | omega | (simp; done) | (simp; omega))
      case true =>
        have CV := Lib.hid (fun w => l03Ok_any (m0 * 8) (m1 * 8) w)
        simp only [hv] at CV
        have HK := Lib.hid hv
        clear hv
        have y_bs0 : wr.cell? ⟨gs, 0, none⟩ = some (.int .i64 m0) := bs.cell 0 rfl
        have y_bs1 : wr.cell? ⟨gs, 1, none⟩ = some (.int .i64 m1) := bs.cell 1 rfl
        have y_bs2 : wr.cell? ⟨gs, 2, none⟩ = some (.int .i64 m2) := bs.cell 2 rfl
        have y_bs3 : wr.cell? ⟨gs, 3, none⟩ = some (.int .i64 m3) := bs.cell 3 rfl
        have y_bs4 : wr.cell? ⟨gs, 4, none⟩ = some (.int .i64 m4) := bs.cell 4 rfl
        have y_bs5 : wr.cell? ⟨gs, 5, none⟩ = some (.int .i64 m5) := bs.cell 5 rfl
        have y_bs6 : wr.cell? ⟨gs, 6, none⟩ = some (.int .i64 m6) := bs.cell 6 rfl
        have y_bs7 : wr.cell? ⟨gs, 7, none⟩ = some (.int .i64 m7) := bs.cell 7 rfl
        have l_bs : gs < wr.heap.size := bs.lt
        go_wp2_with fail
        clear y_bs0 y_bs1 y_bs2 y_bs3 y_bs4 y_bs5 y_bs6 y_bs7 l_bs
        refine (l09Times_g m0 m1 8 _ (by omega) (by omega)).mono ?_
        rintro e w3 ⟨rfl, hb3⟩
        replace b0 : Blk w3 (w.heap.size) 29 #[.int .i64 m0, .int .i64 m1, .int .i64 m2, .int .i64 m3, .int .i64 m4, .int .i64 m5, .int .i64 m6, .int .i64 m7] := by repeat' (first | with_reducible assumption | (with_reducible refine Blk.drew ?_) | (with_reducible refine Blk.carry ?_ (by with_reducible assumption)) | (with_reducible refine Blk.alloc ?_ _) | (with_reducible refine Blk.far ?_ ?_ _) | omega | (simp; done) | (simp; omega))
        replace b1 : Blk w3 (w.heap.size + 1) 29 #[.int .i64 0, .int .i64 0, .int .i64 0, .int .i64 0, .int .i64 0, .int .i64 0, .int .i64 0, .int .i64 0] := by repeat' (first | with_reducible assumption | (with_reducible refine Blk.drew ?_) | (with_reducible refine Blk.carry ?_ (by with_reducible assumption)) | (with_reducible refine Blk.alloc ?_ _) | (with_reducible refine Blk.far ?_ ?_ _) | omega | (simp; done) | (simp; omega))
        replace b2 : Blk w3 (w.heap.size + 1 + 1) 29 #[.int .i64 0, .int .i64 0, .int .i64 0, .int .i64 0, .int .i64 0, .int .i64 0, .int .i64 0, .int .i64 0] := by repeat' (first | with_reducible assumption | (with_reducible refine Blk.drew ?_) | (with_reducible refine Blk.carry ?_ (by with_reducible assumption)) | (with_reducible refine Blk.alloc ?_ _) | (with_reducible refine Blk.far ?_ ?_ _) | omega | (simp; done) | (simp; omega))
        replace bs : Blk w3 (gs) 27 #[.int .i64 m0, .int .i64 m1, .int .i64 m2, .int .i64 m3, .int .i64 m4, .int .i64 m5, .int .i64 m6, .int .i64 m7] := by repeat' (first | with_reducible assumption | (with_reducible refine Blk.drew ?_) | (with_reducible refine Blk.carry ?_ (by with_reducible assumption)) | (with_reducible refine Blk.alloc ?_ _) | (with_reducible refine Blk.far ?_ ?_ _) | omega | (simp; done) | (simp; omega))
        replace g0 : Below w.heap.size w w3 := by repeat' (first | with_reducible assumption | with_reducible exact Below.refl _ _ | (with_reducible refine Below.setCell ?_ ?_ _) | (with_reducible refine Below.alloc ?_ ?_ _) | (with_reducible refine Below.drew ?_) | (with_reducible refine below_dr ?_ _) | (with_reducible refine Below.trans ?_ (Below.mono (by with_reducible assumption) ?_)) | omega | (simp; done) | (simp; omega))
        replace zg := g0.size
        clear hb3
        go_wp2_with fail
        refine (CV.out _).mono ?_
        rintro e w4 ⟨rfl, hb4⟩
        replace b0 : Blk w4 (w.heap.size) 29 #[.int .i64 m0, .int .i64 m1, .int .i64 m2, .int .i64 m3, .int .i64 m4, .int .i64 m5, .int .i64 m6, .int .i64 m7] := by repeat' (first | with_reducible assumption | (with_reducible refine Blk.drew ?_) | (with_reducible refine Blk.carry ?_ (by with_reducible assumption)) | (with_reducible refine Blk.alloc ?_ _) | (with_reducible refine Blk.far ?_ ?_ _) | omega | (simp; done) | (simp; omega))
        replace b1 : Blk w4 (w.heap.size + 1) 29 #[.int .i64 0, .int .i64 0, .int .i64 0, .int .i64 0, .int .i64 0, .int .i64 0, .int .i64 0, .int .i64 0] := by repeat' (first | with_reducible assumption | (with_reducible refine Blk.drew ?_) | (with_reducible refine Blk.carry ?_ (by with_reducible assumption)) | (with_reducible refine Blk.alloc ?_ _) | (with_reducible refine Blk.far ?_ ?_ _) | omega | (simp; done) | (simp; omega))
        replace b2 : Blk w4 (w.heap.size + 1 + 1) 29 #[.int .i64 0, .int .i64 0, .int .i64 0, .int .i64 0, .int .i64 0, .int .i64 0, .int .i64 0, .int .i64 0] := by repeat' (first | with_reducible assumption | (with_reducible refine Blk.drew ?_) | (with_reducible refine Blk.carry ?_ (by with_reducible assumption)) | (with_reducible refine Blk.alloc ?_ _) | (with_reducible refine Blk.far ?_ ?_ _) | omega | (simp; done) | (simp; omega))
        replace bs : Blk w4 (gs) 27 #[.int .i64 m0, .int .i64 m1, .int .i64 m2, .int .i64 m3, .int .i64 m4, .int .i64 m5, .int .i64 m6, .int .i64 m7] := by repeat' (first | with_reducible assumption | (with_reducible refine Blk.drew ?_) | (with_reducible refine Blk.carry ?_ (by with_reducible assumption)) | (with_reducible refine Blk.alloc ?_ _) | (with_reducible refine Blk.far ?_ ?_ _) | omega | (simp; done) | (simp; omega))
        replace g0 : Below w.heap.size w w4 := by repeat' (first | with_reducible assumption | with_reducible exact Below.refl _ _ | (with_reducible refine Below.setCell ?_ ?_ _) | (with_reducible refine Below.alloc ?_ ?_ _) | (with_reducible refine Below.drew ?_) | (with_reducible refine below_dr ?_ _) | (with_reducible refine Below.trans ?_ (Below.mono (by with_reducible assumption) ?_)) | omega | (simp; done) | (simp; omega))
        replace zg := g0.size
        clear hb4
        go_wp2_with fail
        go_roundw
        case rel => exact ⟨1, by omega, by go_num, fun q h => by (match q, h with | 0, _ => (first | rfl | exact HK.out | exact HUP.out 0 (by omega))), b0, b1, b2, bs, g0⟩
        case measure => simp [intOf]
    · have HUP := Lib.hid hup
      clear hup hj
      rcases hv : okB (m2 * 8) (m3 * 8) with _ | _
      case false =>
        have CV := Lib.hid (fun w => l03Ok_any (m2 * 8) (m3 * 8) w)
        simp only [hv] at CV
        have HK := Lib.hid hv
        clear hv
        have y_bs0 : wr.cell? ⟨gs, 0, none⟩ = some (.int .i64 m0) := bs.cell 0 rfl
        have y_bs1 : wr.cell? ⟨gs, 1, none⟩ = some (.int .i64 m1) := bs.cell 1 rfl
        have y_bs2 : wr.cell? ⟨gs, 2, none⟩ = some (.int .i64 m2) := bs.cell 2 rfl
        have y_bs3 : wr.cell? ⟨gs, 3, none⟩ = some (.int .i64 m3) := bs.cell 3 rfl
        have y_bs4 : wr.cell? ⟨gs, 4, none⟩ = some (.int .i64 m4) := bs.cell 4 rfl
        have y_bs5 : wr.cell? ⟨gs, 5, none⟩ = some (.int .i64 m5) := bs.cell 5 rfl
        have y_bs6 : wr.cell? ⟨gs, 6, none⟩ = some (.int .i64 m6) := bs.cell 6 rfl
        have y_bs7 : wr.cell? ⟨gs, 7, none⟩ = some (.int .i64 m7) := bs.cell 7 rfl
        have l_bs : gs < wr.heap.size := bs.lt
        go_wp2_with fail
        clear y_bs0 y_bs1 y_bs2 y_bs3 y_bs4 y_bs5 y_bs6 y_bs7 l_bs
        refine (l09Times_g m2 m3 8 _ (by omega) (by omega)).mono ?_
        rintro e w3 ⟨rfl, hb3⟩
        replace b0 : Blk w3 (w.heap.size) 29 #[.int .i64 m0, .int .i64 m1, .int .i64 m2, .int .i64 m3, .int .i64 m4, .int .i64 m5, .int .i64 m6, .int .i64 m7] := by repeat' (first | with_reducible assumption | (with_reducible refine Blk.drew ?_) | (with_reducible refine Blk.carry ?_ (by with_reducible assumption)) | (with_reducible refine Blk.alloc ?_ _) | (with_reducible refine Blk.far ?_ ?_ _) | omega | (simp; done) | (simp; omega))
        replace b1 : Blk w3 (w.heap.size + 1) 29 #[.int .i64 0, .int .i64 0, .int .i64 0, .int .i64 0, .int .i64 0, .int .i64 0, .int .i64 0, .int .i64 0] := by repeat' (first | with_reducible assumption | (with_reducible refine Blk.drew ?_) | (with_reducible refine Blk.carry ?_ (by with_reducible assumption)) | (with_reducible refine Blk.alloc ?_ _) | (with_reducible refine Blk.far ?_ ?_ _) | omega | (simp; done) | (simp; omega))
        replace b2 : Blk w3 (w.heap.size + 1 + 1) 29 #[.int .i64 0, .int .i64 0, .int .i64 0, .int .i64 0, .int .i64 0, .int .i64 0, .int .i64 0, .int .i64 0] := by repeat' (first | with_reducible assumption | (with_reducible refine Blk.drew ?_) | (with_reducible refine Blk.carry ?_ (by with_reducible assumption)) | (with_reducible refine Blk.alloc ?_ _) | (with_reducible refine Blk.far ?_ ?_ _) | omega | (simp; done) | (simp; omega))
        replace bs : Blk w3 (gs) 27 #[.int .i64 m0, .int .i64 m1, .int .i64 m2, .int .i64 m3, .int .i64 m4, .int .i64 m5, .int .i64 m6, .int .i64 m7] := by repeat' (first | with_reducible assumption | (with_reducible refine Blk.drew ?_) | (with_reducible refine Blk.carry ?_ (by with_reducible assumption)) | (with_reducible refine Blk.alloc ?_ _) | (with_reducible refine Blk.far ?_ ?_ _) | omega | (simp; done) | (simp; omega))
        replace g0 : Below w.heap.size w w3 := by repeat' (first | with_reducible assumption | with_reducible exact Below.refl _ _ | (with_reducible refine Below.setCell ?_ ?_ _) | (with_reducible refine Below.alloc ?_ ?_ _) | (with_reducible refine Below.drew ?_) | (with_reducible refine below_dr ?_ _) | (with_reducible refine Below.trans ?_ (Below.mono (by with_reducible assumption) ?_)) | omega | (simp; done) | (simp; omega))
        replace zg := g0.size
        clear hb3
        go_wp2_with fail
        refine (CV.out _).mono ?_
        rintro e w4 ⟨rfl, hb4⟩
        replace b0 : Blk w4 (w.heap.size) 29 #[.int .i64 m0, .int .i64 m1, .int .i64 m2, .int .i64 m3, .int .i64 m4, .int .i64 m5, .int .i64 m6, .int .i64 m7] := by repeat' (first | with_reducible assumption | (with_reducible refine Blk.drew ?_) | (with_reducible refine Blk.carry ?_ (by with_reducible assumption)) | (with_reducible refine Blk.alloc ?_ _) | (with_reducible refine Blk.far ?_ ?_ _) | omega | (simp; done) | (simp; omega))
        replace b1 : Blk w4 (w.heap.size + 1) 29 #[.int .i64 0, .int .i64 0, .int .i64 0, .int .i64 0, .int .i64 0, .int .i64 0, .int .i64 0, .int .i64 0] := by repeat' (first | with_reducible assumption | (with_reducible refine Blk.drew ?_) | (with_reducible refine Blk.carry ?_ (by with_reducible assumption)) | (with_reducible refine Blk.alloc ?_ _) | (with_reducible refine Blk.far ?_ ?_ _) | omega | (simp; done) | (simp; omega))
        replace b2 : Blk w4 (w.heap.size + 1 + 1) 29 #[.int .i64 0, .int .i64 0, .int .i64 0, .int .i64 0, .int .i64 0, .int .i64 0, .int .i64 0, .int .i64 0] := by repeat' (first | with_reducible assumption | (with_reducible refine Blk.drew ?_) | (with_reducible refine Blk.carry ?_ (by with_reducible assumption)) | (with_reducible refine Blk.alloc ?_ _) | (with_reducible refine Blk.far ?_ ?_ _) | omega | (simp; done) | (simp; omega))
        replace bs : Blk w4 (gs) 27 #[.int .i64 m0, .int .i64 m1, .int .i64 m2, .int .i64 m3, .int .i64 m4, .int .i64 m5, .int .i64 m6, .int .i64 m7] := by repeat' (first | with_reducible assumption | (with_reducible refine Blk.drew ?_) | (with_reducible refine Blk.carry ?_ (by with_reducible assumption)) | (with_reducible refine Blk.alloc ?_ _) | (with_reducible refine Blk.far ?_ ?_ _) | omega | (simp; done) | (simp; omega))
        replace g0 : Below w.heap.size w w4 := by repeat' (first | with_reducible assumption | with_reducible exact Below.refl _ _ | (with_reducible refine Below.setCell ?_ ?_ _) | (with_reducible refine Below.alloc ?_ ?_ _) | (with_reducible refine Below.drew ?_) | (with_reducible refine below_dr ?_ _) | (with_reducible refine Below.trans ?_ (Below.mono (by with_reducible assumption) ?_)) | omega | (simp; done) | (simp; omega))
        replace zg := g0.size
        clear hb4
        have HQ := Lib.hid (show okH m0 m1 m2 m3 m4 m5 m6 m7 = false from okH_f1 HK.out)
        have y_b10 : w4.cell? ⟨w.heap.size + 1, 0, none⟩ = some (.int .i64 0) := b1.cell 0 rfl
        have y_b11 : w4.cell? ⟨w.heap.size + 1, 1, none⟩ = some (.int .i64 0) := b1.cell 1 rfl
        have y_b12 : w4.cell? ⟨w.heap.size + 1, 2, none⟩ = some (.int .i64 0) := b1.cell 2 rfl
        have y_b13 : w4.cell? ⟨w.heap.size + 1, 3, none⟩ = some (.int .i64 0) := b1.cell 3 rfl
        have y_b14 : w4.cell? ⟨w.heap.size + 1, 4, none⟩ = some (.int .i64 0) := b1.cell 4 rfl
        have y_b15 : w4.cell? ⟨w.heap.size + 1, 5, none⟩ = some (.int .i64 0) := b1.cell 5 rfl
        have y_b16 : w4.cell? ⟨w.heap.size + 1, 6, none⟩ = some (.int .i64 0) := b1.cell 6 rfl
        have y_b17 : w4.cell? ⟨w.heap.size + 1, 7, none⟩ = some (.int .i64 0) := b1.cell 7 rfl
        have l_b1 : w.heap.size + 1 < w4.heap.size := b1.lt
        have f_b10 : w4.frozen? ⟨w.heap.size + 1, 0, none⟩ = false := b1.frozen 0
        have f_b11 : w4.frozen? ⟨w.heap.size + 1, 1, none⟩ = false := b1.frozen 1
        have f_b12 : w4.frozen? ⟨w.heap.size + 1, 2, none⟩ = false := b1.frozen 2
        have f_b13 : w4.frozen? ⟨w.heap.size + 1, 3, none⟩ = false := b1.frozen 3
        have f_b14 : w4.frozen? ⟨w.heap.size + 1, 4, none⟩ = false := b1.frozen 4
        have f_b15 : w4.frozen? ⟨w.heap.size + 1, 5, none⟩ = false := b1.frozen 5
        have f_b16 : w4.frozen? ⟨w.heap.size + 1, 6, none⟩ = false := b1.frozen 6
        have f_b17 : w4.frozen? ⟨w.heap.size + 1, 7, none⟩ = false := b1.frozen 7
        have y_b20 : w4.cell? ⟨w.heap.size + 1 + 1, 0, none⟩ = some (.int .i64 0) := b2.cell 0 rfl
        have y_b21 : w4.cell? ⟨w.heap.size + 1 + 1, 1, none⟩ = some (.int .i64 0) := b2.cell 1 rfl
        have y_b22 : w4.cell? ⟨w.heap.size + 1 + 1, 2, none⟩ = some (.int .i64 0) := b2.cell 2 rfl
        have y_b23 : w4.cell? ⟨w.heap.size + 1 + 1, 3, none⟩ = some (.int .i64 0) := b2.cell 3 rfl
        have y_b24 : w4.cell? ⟨w.heap.size + 1 + 1, 4, none⟩ = some (.int .i64 0) := b2.cell 4 rfl
        have y_b25 : w4.cell? ⟨w.heap.size + 1 + 1, 5, none⟩ = some (.int .i64 0) := b2.cell 5 rfl
        have y_b26 : w4.cell? ⟨w.heap.size + 1 + 1, 6, none⟩ = some (.int .i64 0) := b2.cell 6 rfl
        have y_b27 : w4.cell? ⟨w.heap.size + 1 + 1, 7, none⟩ = some (.int .i64 0) := b2.cell 7 rfl
        have l_b2 : w.heap.size + 1 + 1 < w4.heap.size := b2.lt
        have f_b20 : w4.frozen? ⟨w.heap.size + 1 + 1, 0, none⟩ = false := b2.frozen 0
        have f_b21 : w4.frozen? ⟨w.heap.size + 1 + 1, 1, none⟩ = false := b2.frozen 1
        have f_b22 : w4.frozen? ⟨w.heap.size + 1 + 1, 2, none⟩ = false := b2.frozen 2
        have f_b23 : w4.frozen? ⟨w.heap.size + 1 + 1, 3, none⟩ = false := b2.frozen 3
        have f_b24 : w4.frozen? ⟨w.heap.size + 1 + 1, 4, none⟩ = false := b2.frozen 4
        have f_b25 : w4.frozen? ⟨w.heap.size + 1 + 1, 5, none⟩ = false := b2.frozen 5
        have f_b26 : w4.frozen? ⟨w.heap.size + 1 + 1, 6, none⟩ = false := b2.frozen 6
        have f_b27 : w4.frozen? ⟨w.heap.size + 1 + 1, 7, none⟩ = false := b2.frozen 7
        go_wp2_with fail
        refine bodyPost_ret (v := .tuple #[.agg #[.int .i64 0, .int .i64 0, .int .i64 0, .int .i64 0, .int .i64 0, .int .i64 0, .int .i64 0, .int .i64 0], .agg #[.int .i64 0, .int .i64 0, .int .i64 0, .int .i64 0, .int .i64 0, .int .i64 0, .int .i64 0, .int .i64 0], .int .i64 2]) (by simp [results, Try.results28, go_sem, *]) rfl (HvRet.r HV.out HQ.out ?_)
        repeat' (first | with_reducible assumption | with_reducible exact Below.refl _ _ | (with_reducible refine Below.setCell ?_ ?_ _) | (with_reducible refine Below.alloc ?_ ?_ _) | (with_reducible refine Below.drew ?_) | (with_reducible refine below_dr ?_ _) | (with_reducible refine Below.trans ?_ (Below.mono (by with_reducible assumption) ?_)) | omega | (simp; done) | (simp; omega))
      case true =>
        have CV := Lib.hid (fun w => l03Ok_any (m2 * 8) (m3 * 8) w)
        simp only [hv] at CV
        have HK := Lib.hid hv
        clear hv
        have y_bs0 : wr.cell? ⟨gs, 0, none⟩ = some (.int .i64 m0) := bs.cell 0 rfl
        have y_bs1 : wr.cell? ⟨gs, 1, none⟩ = some (.int .i64 m1) := bs.cell 1 rfl
        have y_bs2 : wr.cell? ⟨gs, 2, none⟩ = some (.int .i64 m2) := bs.cell 2 rfl
        have y_bs3 : wr.cell? ⟨gs, 3, none⟩ = some (.int .i64 m3) := bs.cell 3 rfl
        have y_bs4 : wr.cell? ⟨gs, 4, none⟩ = some (.int .i64 m4) := bs.cell 4 rfl
        have y_bs5 : wr.cell? ⟨gs, 5, none⟩ = some (.int .i64 m5) := bs.cell 5 rfl
        have y_bs6 : wr.cell? ⟨gs, 6, none⟩ = some (.int .i64 m6) := bs.cell 6 rfl
        have y_bs7 : wr.cell? ⟨gs, 7, none⟩ = some (.int .i64 m7) := bs.cell 7 rfl
        have l_bs : gs < wr.heap.size := bs.lt
        go_wp2_with fail
        clear y_bs0 y_bs1 y_bs2 y_bs3 y_bs4 y_bs5 y_bs6 y_bs7 l_bs
        refine (l09Times_g m2 m3 8 _ (by omega) (by omega)).mono ?_
        rintro e w3 ⟨rfl, hb3⟩
        replace b0 : Blk w3 (w.heap.size) 29 #[.int .i64 m0, .int .i64 m1, .int .i64 m2, .int .i64 m3, .int .i64 m4, .int .i64 m5, .int .i64 m6, .int .i64 m7] := by repeat' (first | with_reducible assumption | (with_reducible refine Blk.drew ?_) | (with_reducible refine Blk.carry ?_ (by with_reducible assumption)) | (with_reducible refine Blk.alloc ?_ _) | (with_reducible refine Blk.far ?_ ?_ _) | omega | (simp; done) | (simp; omega))
        replace b1 : Blk w3 (w.heap.size + 1) 29 #[.int .i64 0, .int .i64 0, .int .i64 0, .int .i64 0, .int .i64 0, .int .i64 0, .int .i64 0, .int .i64 0] := by repeat' (first | with_reducible assumption | (with_reducible refine Blk.drew ?_) | (with_reducible refine Blk.carry ?_ (by with_reducible assumption)) | (with_reducible refine Blk.alloc ?_ _) | (with_reducible refine Blk.far ?_ ?_ _) | omega | (simp; done) | (simp; omega))
        replace b2 : Blk w3 (w.heap.size + 1 + 1) 29 #[.int .i64 0, .int .i64 0, .int .i64 0, .int .i64 0, .int .i64 0, .int .i64 0, .int .i64 0, .int .i64 0] := by repeat' (first | with_reducible assumption | (with_reducible refine Blk.drew ?_) | (with_reducible refine Blk.carry ?_ (by with_reducible assumption)) | (with_reducible refine Blk.alloc ?_ _) | (with_reducible refine Blk.far ?_ ?_ _) | omega | (simp; done) | (simp; omega))
        replace bs : Blk w3 (gs) 27 #[.int .i64 m0, .int .i64 m1, .int .i64 m2, .int .i64 m3, .int .i64 m4, .int .i64 m5, .int .i64 m6, .int .i64 m7] := by repeat' (first | with_reducible assumption | (with_reducible refine Blk.drew ?_) | (with_reducible refine Blk.carry ?_ (by with_reducible assumption)) | (with_reducible refine Blk.alloc ?_ _) | (with_reducible refine Blk.far ?_ ?_ _) | omega | (simp; done) | (simp; omega))
        replace g0 : Below w.heap.size w w3 := by repeat' (first | with_reducible assumption | with_reducible exact Below.refl _ _ | (with_reducible refine Below.setCell ?_ ?_ _) | (with_reducible refine Below.alloc ?_ ?_ _) | (with_reducible refine Below.drew ?_) | (with_reducible refine below_dr ?_ _) | (with_reducible refine Below.trans ?_ (Below.mono (by with_reducible assumption) ?_)) | omega | (simp; done) | (simp; omega))
        replace zg := g0.size
        clear hb3
        go_wp2_with fail
        refine (CV.out _).mono ?_
        rintro e w4 ⟨rfl, hb4⟩
        replace b0 : Blk w4 (w.heap.size) 29 #[.int .i64 m0, .int .i64 m1, .int .i64 m2, .int .i64 m3, .int .i64 m4, .int .i64 m5, .int .i64 m6, .int .i64 m7] := by repeat' (first | with_reducible assumption | (with_reducible refine Blk.drew ?_) | (with_reducible refine Blk.carry ?_ (by with_reducible assumption)) | (with_reducible refine Blk.alloc ?_ _) | (with_reducible refine Blk.far ?_ ?_ _) | omega | (simp; done) | (simp; omega))
        replace b1 : Blk w4 (w.heap.size + 1) 29 #[.int .i64 0, .int .i64 0, .int .i64 0, .int .i64 0, .int .i64 0, .int .i64 0, .int .i64 0, .int .i64 0] := by repeat' (first | with_reducible assumption | (with_reducible refine Blk.drew ?_) | (with_reducible refine Blk.carry ?_ (by with_reducible assumption)) | (with_reducible refine Blk.alloc ?_ _) | (with_reducible refine Blk.far ?_ ?_ _) | omega | (simp; done) | (simp; omega))
        replace b2 : Blk w4 (w.heap.size + 1 + 1) 29 #[.int .i64 0, .int .i64 0, .int .i64 0, .int .i64 0, .int .i64 0, .int .i64 0, .int .i64 0, .int .i64 0] := by repeat' (first | with_reducible assumption | (with_reducible refine Blk.drew ?_) | (with_reducible refine Blk.carry ?_ (by with_reducible assumption)) | (with_reducible refine Blk.alloc ?_ _) | (with_reducible refine Blk.far ?_ ?_ _) | omega | (simp; done) | (simp; omega))
        replace bs : Blk w4 (gs) 27 #[.int .i64 m0, .int .i64 m1, .int .i64 m2, .int .i64 m3, .int .i64 m4, .int .i64 m5, .int .i64 m6, .int .i64 m7] := by repeat' (first | with_reducible assumption | (with_reducible refine Blk.drew ?_) | (with_reducible refine Blk.carry ?_ (by with_reducible assumption)) | (with_reducible refine Blk.alloc ?_ _) | (with_reducible refine Blk.far ?_ ?_ _) | omega | (simp; done) | (simp; omega))
        replace g0 : Below w.heap.size w w4 := by repeat' (first | with_reducible assumption | with_reducible exact Below.refl _ _ | (with_reducible refine Below.setCell ?_ ?_ _) | (with_reducible refine Below.alloc ?_ ?_ _) | (with_reducible refine Below.drew ?_) | (with_reducible refine below_dr ?_ _) | (with_reducible refine Below.trans ?_ (Below.mono (by with_reducible assumption) ?_)) | omega | (simp; done) | (simp; omega))
        replace zg := g0.size
        clear hb4
        go_wp2_with fail
        go_roundw
        case rel => exact ⟨2, by omega, by go_num, fun q h => by (match q, h with | 0, _ => (first | rfl | exact HK.out | exact HUP.out 0 (by omega)) | 1, _ => (first | rfl | exact HK.out | exact HUP.out 1 (by omega))), b0, b1, b2, bs, g0⟩
        case measure => simp [intOf]
    · have HUP := Lib.hid hup
      clear hup hj
      rcases hv : okB (m4 * 8) (m5 * 8) with _ | _
      case false =>
        have CV := Lib.hid (fun w => l03Ok_any (m4 * 8) (m5 * 8) w)
        simp only [hv] at CV
        have HK := Lib.hid hv
        clear hv
        have y_bs0 : wr.cell? ⟨gs, 0, none⟩ = some (.int .i64 m0) := bs.cell 0 rfl
        have y_bs1 : wr.cell? ⟨gs, 1, none⟩ = some (.int .i64 m1) := bs.cell 1 rfl
        have y_bs2 : wr.cell? ⟨gs, 2, none⟩ = some (.int .i64 m2) := bs.cell 2 rfl
        have y_bs3 : wr.cell? ⟨gs, 3, none⟩ = some (.int .i64 m3) := bs.cell 3 rfl
        have y_bs4 : wr.cell? ⟨gs, 4, none⟩ = some (.int .i64 m4) := bs.cell 4 rfl
        have y_bs5 : wr.cell? ⟨gs, 5, none⟩ = some (.int .i64 m5) := bs.cell 5 rfl
        have y_bs6 : wr.cell? ⟨gs, 6, none⟩ = some (.int .i64 m6) := bs.cell 6 rfl
        have y_bs7 : wr.cell? ⟨gs, 7, none⟩ = some (.int .i64 m7) := bs.cell 7 rfl
        have l_bs : gs < wr.heap.size := bs.lt
        go_wp2_with fail
        clear y_bs0 y_bs1 y_bs2 y_bs3 y_bs4 y_bs5 y_bs6 y_bs7 l_bs
        refine (l09Times_g m4 m5 8 _ (by omega) (by omega)).mono ?_
        rintro e w3 ⟨rfl, hb3⟩
        replace b0 : Blk w3 (w.heap.size) 29 #[.int .i64 m0, .int .i64 m1, .int .i64 m2, .int .i64 m3, .int .i64 m4, .int .i64 m5, .int .i64 m6, .int .i64 m7] := by repeat' (first | with_reducible assumption | (with_reducible refine Blk.drew ?_) | (with_reducible refine Blk.carry ?_ (by with_reducible assumption)) | (with_reducible refine Blk.alloc ?_ _) | (with_reducible refine Blk.far ?_ ?_ _) | omega | (simp; done) | (simp; omega))
        replace b1 : Blk w3 (w.heap.size + 1) 29 #[.int .i64 0, .int .i64 0, .int .i64 0, .int .i64 0, .int .i64 0, .int .i64 0, .int .i64 0, .int .i64 0] := by repeat' (first | with_reducible assumption | (with_reducible refine Blk.drew ?_) | (with_reducible refine Blk.carry ?_ (by with_reducible assumption)) | (with_reducible refine Blk.alloc ?_ _) | (with_reducible refine Blk.far ?_ ?_ _) | omega | (simp; done) | (simp; omega))
        replace b2 : Blk w3 (w.heap.size + 1 + 1) 29 #[.int .i64 0, .int .i64 0, .int .i64 0, .int .i64 0, .int .i64 0, .int .i64 0, .int .i64 0, .int .i64 0] := by repeat' (first | with_reducible assumption | (with_reducible refine Blk.drew ?_) | (with_reducible refine Blk.carry ?_ (by with_reducible assumption)) | (with_reducible refine Blk.alloc ?_ _) | (with_reducible refine Blk.far ?_ ?_ _) | omega | (simp; done) | (simp; omega))
        replace bs : Blk w3 (gs) 27 #[.int .i64 m0, .int .i64 m1, .int .i64 m2, .int .i64 m3, .int .i64 m4, .int .i64 m5, .int .i64 m6, .int .i64 m7] := by repeat' (first | with_reducible assumption | (with_reducible refine Blk.drew ?_) | (with_reducible refine Blk.carry ?_ (by with_reducible assumption)) | (with_reducible refine Blk.alloc ?_ _) | (with_reducible refine Blk.far ?_ ?_ _) | omega | (simp; done) | (simp; omega))
        replace g0 : Below w.heap.size w w3 := by repeat' (first | with_reducible assumption | with_reducible exact Below.refl _ _ | (with_reducible refine Below.setCell ?_ ?_ _) | (with_reducible refine Below.alloc ?_ ?_ _) | (with_reducible refine Below.drew ?_) | (with_reducible refine below_dr ?_ _) | (with_reducible refine Below.trans ?_ (Below.mono (by with_reducible assumption) ?_)) | omega | (simp; done) | (simp; omega))
        replace zg := g0.size
        clear hb3
        go_wp2_with fail
        refine (CV.out _).mono ?_
        rintro e w4 ⟨rfl, hb4⟩
        replace b0 : Blk w4 (w.heap.size) 29 #[.int .i64 m0, .int .i64 m1, .int .i64 m2, .int .i64 m3, .int .i64 m4, .int .i64 m5, .int .i64 m6, .int .i64 m7] := by repeat' (first | with_reducible assumption | (with_reducible refine Blk.drew ?_) | (with_reducible refine Blk.carry ?_ (by with_reducible assumption)) | (with_reducible refine Blk.alloc ?_ _) | (with_reducible refine Blk.far ?_ ?_ _) | omega | (simp; done) | (simp; omega))
        replace b1 : Blk w4 (w.heap.size + 1) 29 #[.int .i64 0, .int .i64 0, .int .i64 0, .int .i64 0, .int .i64 0, .int .i64 0, .int .i64 0, .int .i64 0] := by repeat' (first | with_reducible assumption | (with_reducible refine Blk.drew ?_) | (with_reducible refine Blk.carry ?_ (by with_reducible assumption)) | (with_reducible refine Blk.alloc ?_ _) | (with_reducible refine Blk.far ?_ ?_ _) | omega | (simp; done) | (simp; omega))
        replace b2 : Blk w4 (w.heap.size + 1 + 1) 29 #[.int .i64 0, .int .i64 0, .int .i64 0, .int .i64 0, .int .i64 0, .int .i64 0, .int .i64 0, .int .i64 0] := by repeat' (first | with_reducible assumption | (with_reducible refine Blk.drew ?_) | (with_reducible refine Blk.carry ?_ (by with_reducible assumption)) | (with_reducible refine Blk.alloc ?_ _) | (with_reducible refine Blk.far ?_ ?_ _) | omega | (simp; done) | (simp; omega))
        replace bs : Blk w4 (gs) 27 #[.int .i64 m0, .int .i64 m1, .int .i64 m2, .int .i64 m3, .int .i64 m4, .int .i64 m5, .int .i64 m6, .int .i64 m7] := by repeat' (first | with_reducible assumption | (with_reducible refine Blk.drew ?_) | (with_reducible refine Blk.carry ?_ (by with_reducible assumption)) | (with_reducible refine Blk.alloc ?_ _) | (with_reducible refine Blk.far ?_ ?_ _) | omega | (simp; done) | (simp; omega))
        replace g0 : Below w.heap.size w w4 := by repeat' (first | with_reducible assumption | with_reducible exact Below.refl _ _ | (with_reducible refine Below.setCell ?_ ?_ _) | (with_reducible refine Below.alloc ?_ ?_ _) | (with_reducible refine Below.drew ?_) | (with_reducible refine below_dr ?_ _) | (with_reducible refine Below.trans ?_ (Below.mono (by with_reducible assumption) ?_)) | omega | (simp; done) | (simp; omega))
        replace zg := g0.size
        clear hb4
        have HQ := Lib.hid (show okH m0 m1 m2 m3 m4 m5 m6 m7 = false from okH_f2 HK.out)
        have y_b10 : w4.cell? ⟨w.heap.size + 1, 0, none⟩ = some (.int .i64 0) := b1.cell 0 rfl
        have y_b11 : w4.cell? ⟨w.heap.size + 1, 1, none⟩ = some (.int .i64 0) := b1.cell 1 rfl
        have y_b12 : w4.cell? ⟨w.heap.size + 1, 2, none⟩ = some (.int .i64 0) := b1.cell 2 rfl
        have y_b13 : w4.cell? ⟨w.heap.size + 1, 3, none⟩ = some (.int .i64 0) := b1.cell 3 rfl
        have y_b14 : w4.cell? ⟨w.heap.size + 1, 4, none⟩ = some (.int .i64 0) := b1.cell 4 rfl
        have y_b15 : w4.cell? ⟨w.heap.size + 1, 5, none⟩ = some (.int .i64 0) := b1.cell 5 rfl
        have y_b16 : w4.cell? ⟨w.heap.size + 1, 6, none⟩ = some (.int .i64 0) := b1.cell 6 rfl
        have y_b17 : w4.cell? ⟨w.heap.size + 1, 7, none⟩ = some (.int .i64 0) := b1.cell 7 rfl
        have l_b1 : w.heap.size + 1 < w4.heap.size := b1.lt
        have f_b10 : w4.frozen? ⟨w.heap.size + 1, 0, none⟩ = false := b1.frozen 0
        have f_b11 : w4.frozen? ⟨w.heap.size + 1, 1, none⟩ = false := b1.frozen 1
        have f_b12 : w4.frozen? ⟨w.heap.size + 1, 2, none⟩ = false := b1.frozen 2
        have f_b13 : w4.frozen? ⟨w.heap.size + 1, 3, none⟩ = false := b1.frozen 3
        have f_b14 : w4.frozen? ⟨w.heap.size + 1, 4, none⟩ = false := b1.frozen 4
        have f_b15 : w4.frozen? ⟨w.heap.size + 1, 5, none⟩ = false := b1.frozen 5
        have f_b16 : w4.frozen? ⟨w.heap.size + 1, 6, none⟩ = false := b1.frozen 6
        have f_b17 : w4.frozen? ⟨w.heap.size + 1, 7, none⟩ = false := b1.frozen 7
        have y_b20 : w4.cell? ⟨w.heap.size + 1 + 1, 0, none⟩ = some (.int .i64 0) := b2.cell 0 rfl
        have y_b21 : w4.cell? ⟨w.heap.size + 1 + 1, 1, none⟩ = some (.int .i64 0) := b2.cell 1 rfl
        have y_b22 : w4.cell? ⟨w.heap.size + 1 + 1, 2, none⟩ = some (.int .i64 0) := b2.cell 2 rfl
        have y_b23 : w4.cell? ⟨w.heap.size + 1 + 1, 3, none⟩ = some (.int .i64 0) := b2.cell 3 rfl
        have y_b24 : w4.cell? ⟨w.heap.size + 1 + 1, 4, none⟩ = some (.int .i64 0) := b2.cell 4 rfl
        have y_b25 : w4.cell? ⟨w.heap.size + 1 + 1, 5, none⟩ = some (.int .i64 0) := b2.cell 5 rfl
        have y_b26 : w4.cell? ⟨w.heap.size + 1 + 1, 6, none⟩ = some (.int .i64 0) := b2.cell 6 rfl
        have y_b27 : w4.cell? ⟨w.heap.size + 1 + 1, 7, none⟩ = some (.int .i64 0) := b2.cell 7 rfl
        have l_b2 : w.heap.size + 1 + 1 < w4.heap.size := b2.lt
        have f_b20 : w4.frozen? ⟨w.heap.size + 1 + 1, 0, none⟩ = false := b2.frozen 0
        have f_b21 : w4.frozen? ⟨w.heap.size + 1 + 1, 1, none⟩ = false := b2.frozen 1
        have f_b22 : w4.frozen? ⟨w.heap.size + 1 + 1, 2, none⟩ = false := b2.frozen 2
        have f_b23 : w4.frozen? ⟨w.heap.size + 1 + 1, 3, none⟩ = false := b2.frozen 3
        have f_b24 : w4.frozen? ⟨w.heap.size + 1 + 1, 4, none⟩ = false := b2.frozen 4
        have f_b25 : w4.frozen? ⟨w.heap.size + 1 + 1, 5, none⟩ = false := b2.frozen 5
        have f_b26 : w4.frozen? ⟨w.heap.size + 1 + 1, 6, none⟩ = false := b2.frozen 6
        have f_b27 : w4.frozen? ⟨w.heap.size + 1 + 1, 7, none⟩ = false := b2.frozen 7
        go_wp2_with fail
        refine bodyPost_ret (v := .tuple #[.agg #[.int .i64 0, .int .i64 0, .int .i64 0, .int .i64 0, .int .i64 0, .int .i64 0, .int .i64 0, .int .i64 0], .agg #[.int .i64 0, .int .i64 0, .int .i64 0, .int .i64 0, .int .i64 0, .int .i64 0, .int .i64 0, .int .i64 0], .int .i64 2]) (by simp [results, Try.results28, go_sem, *]) rfl (HvRet.r HV.out HQ.out ?_)
        repeat' (first | with_reducible assumption | with_reducible exact Below.refl _ _ | (with_reducible refine Below.setCell ?_ ?_ _) | (with_reducible refine Below.alloc ?_ ?_ _) | (with_reducible refine Below.drew ?_) | (with_reducible refine below_dr ?_ _) | (with_reducible refine Below.trans ?_ (Below.mono (by with_reducible assumption) ?_)) | omega | (simp; done) | (simp; omega))
      case true =>
        have CV := Lib.hid (fun w => l03Ok_any (m4 * 8) (m5 * 8) w)
        simp only [hv] at CV
        have HK := Lib.hid hv
        clear hv
        have y_bs0 : wr.cell? ⟨gs, 0, none⟩ = some (.int .i64 m0) := bs.cell 0 rfl
        have y_bs1 : wr.cell? ⟨gs, 1, none⟩ = some (.int .i64 m1) := bs.cell 1 rfl
        have y_bs2 : wr.cell? ⟨gs, 2, none⟩ = some (.int .i64 m2) := bs.cell 2 rfl
        have y_bs3 : wr.cell? ⟨gs, 3, none⟩ = some (.int .i64 m3) := bs.cell 3 rfl
        have y_bs4 : wr.cell? ⟨gs, 4, none⟩ = some (.int .i64 m4) := bs.cell 4 rfl
        have y_bs5 : wr.cell? ⟨gs, 5, none⟩ = some (.int .i64 m5) := bs.cell 5 rfl
        have y_bs6 : wr.cell? ⟨gs, 6, none⟩ = some (.int .i64 m6) := bs.cell 6 rfl
        have y_bs7 : wr.cell? ⟨gs, 7, none⟩ = some (.int .i64 m7) := bs.cell 7 rfl
        have l_bs : gs < wr.heap.size := bs.lt
        go_wp2_with fail
        clear y_bs0 y_bs1 y_bs2 y_bs3 y_bs4 y_bs5 y_bs6 y_bs7 l_bs
        refine (l09Times_g m4 m5 8 _ (by omega) (by omega)).mono ?_
        rintro e w3 ⟨rfl, hb3⟩
        replace b0 : Blk w3 (w.heap.size) 29 #[.int .i64 m0, .int .i64 m1, .int .i64 m2, .int .i64 m3, .int .i64 m4, .int .i64 m5, .int .i64 m6, .int .i64 m7] := by repeat' (first | with_reducible assumption | (with_reducible refine Blk.drew ?_) | (with_reducible refine Blk.carry ?_ (by with_reducible assumption)) | (with_reducible refine Blk.alloc ?_ _) | (with_reducible refine Blk.far ?_ ?_ _) | omega | (simp; done) | (simp; omega))
        replace b1 : Blk w3 (w.heap.size + 1) 29 #[.int .i64 0, .int .i64 0, .int .i64 0, .int .i64 0, .int .i64 0, .int .i64 0, .int .i64 0, .int .i64 0] := by repeat' (first | with_reducible assumption | (with_reducible refine Blk.drew ?_) | (with_reducible refine Blk.carry ?_ (by with_reducible assumption)) | (with_reducible refine Blk.alloc ?_ _) | (with_reducible refine Blk.far ?_ ?_ _) | omega | (simp; done) | (simp; omega))
        replace b2 : Blk w3 (w.heap.size + 1 + 1) 29 #[.int .i64 0, .int .i64 0, .int .i64 0, .int .i64 0, .int .i64 0, .int .i64 0, .int .i64 0, .int .i64 0] := by repeat' (first | with_reducible assumption | (with_reducible refine Blk.drew ?_) | (with_reducible refine Blk.carry ?_ (by with_reducible assumption)) | (with_reducible refine Blk.alloc ?_ _) | (with_reducible refine Blk.far ?_ ?_ _) | omega | (simp; done) | (simp; omega))
        replace bs : Blk w3 (gs) 27 #[.int .i64 m0, .int .i64 m1, .int .i64 m2, .int .i64 m3, .int .i64 m4, .int .i64 m5, .int .i64 m6, .int .i64 m7] := by repeat' (first | with_reducible assumption | (with_reducible refine Blk.drew ?_) | (with_reducible refine Blk.carry ?_ (by with_reducible assumption)) | (with_reducible refine Blk.alloc ?_ _) | (with_reducible refine Blk.far ?_ ?_ _) | omega | (simp; done) | (simp; omega))
        replace g0 : Below w.heap.size w w3 := by repeat' (first | with_reducible assumption | with_reducible exact Below.refl _ _ | (with_reducible refine Below.setCell ?_ ?_ _) | (with_reducible refine Below.alloc ?_ ?_ _) | (with_reducible refine Below.drew ?_) | (with_reducible refine below_dr ?_ _) | (with_reducible refine Below.trans ?_ (Below.mono (by with_reducible assumption) ?_)) | omega | (simp; done) | (simp; omega))
        replace zg := g0.size
        clear hb3
        go_wp2_with fail
        refine (CV.out _).mono ?_
        rintro e w4 ⟨rfl, hb4⟩
        replace b0 : Blk w4 (w.heap.size) 29 #[.int .i64 m0, .int .i64 m1, .int .i64 m2, .int .i64 m3, .int .i64 m4, .int .i64 m5, .int .i64 m6, .int .i64 m7] := by repeat' (first | with_reducible assumption | (with_reducible refine Blk.drew ?_) | (with_reducible refine Blk.carry ?_ (by with_reducible assumption)) | (with_reducible refine Blk.alloc ?_ _) | (with_reducible refine Blk.far ?_ ?_ _) | omega | (simp; done) | (simp; omega))
        replace b1 : Blk w4 (w.heap.size + 1) 29 #[.int .i64 0, .int .i64 0, .int .i64 0, .int .i64 0, .int .i64 0, .int .i64 0, .int .i64 0, .int .i64 0] := by repeat' (first | with_reducible assumption | (with_reducible refine Blk.drew ?_) | (with_reducible refine Blk.carry ?_ (by with_reducible assumption)) | (with_reducible refine Blk.alloc ?_ _) | (with_reducible refine Blk.far ?_ ?_ _) | omega | (simp; done) | (simp; omega))
        replace b2 : Blk w4 (w.heap.size + 1 + 1) 29 #[.int .i64 0, .int .i64 0, .int .i64 0, .int .i64 0, .int .i64 0, .int .i64 0, .int .i64 0, .int .i64 0] := by repeat' (first | with_reducible assumption | (with_reducible refine Blk.drew ?_) | (with_reducible refine Blk.carry ?_ (by with_reducible assumption)) | (with_reducible refine Blk.alloc ?_ _) | (with_reducible refine Blk.far ?_ ?_ _) | omega | (simp; done) | (simp; omega))
        replace bs : Blk w4 (gs) 27 #[.int .i64 m0, .int .i64 m1, .int .i64 m2, .int .i64 m3, .int .i64 m4, .int .i64 m5, .int .i64 m6, .int .i64 m7] := by repeat' (first | with_reducible assumption | (with_reducible refine Blk.drew ?_) | (with_reducible refine Blk.carry ?_ (by with_reducible assumption)) | (with_reducible refine Blk.alloc ?_ _) | (with_reducible refine Blk.far ?_ ?_ _) | omega | (simp; done) | (simp; omega))
        replace g0 : Below w.heap.size w w4 := by repeat' (first | with_reducible assumption | with_reducible exact Below.refl _ _ | (with_reducible refine Below.setCell ?_ ?_ _) | (with_reducible refine Below.alloc ?_ ?_ _) | (with_reducible refine Below.drew ?_) | (with_reducible refine below_dr ?_ _) | (with_reducible refine Below.trans ?_ (Below.mono (by with_reducible assumption) ?_)) | omega | (simp; done) | (simp; omega))
        replace zg := g0.size
        clear hb4
        go_wp2_with fail
        go_roundw
        case rel => exact ⟨3, by omega, by go_num, fun q h => by (match q, h with | 0, _ => (first | rfl | exact HK.out | exact HUP.out 0 (by omega)) | 1, _ => (first | rfl | exact HK.out | exact HUP.out 1 (by omega)) | 2, _ => (first | rfl | exact HK.out | exact HUP.out 2 (by omega))), b0, b1, b2, bs, g0⟩
        case measure => simp [intOf]
    · have HUP := Lib.hid hup
      clear hup hj
      rcases hv : okB (m6 * 8) (m7 * 8) with _ | _
      case false =>
        have CV := Lib.hid (fun w => l03Ok_any (m6 * 8) (m7 * 8) w)
        simp only [hv] at CV
        have HK := Lib.hid hv
        clear hv
        have y_bs0 : wr.cell? ⟨gs, 0, none⟩ = some (.int .i64 m0) := bs.cell 0 rfl
        have y_bs1 : wr.cell? ⟨gs, 1, none⟩ = some (.int .i64 m1) := bs.cell 1 rfl
        have y_bs2 : wr.cell? ⟨gs, 2, none⟩ = some (.int .i64 m2) := bs.cell 2 rfl
        have y_bs3 : wr.cell? ⟨gs, 3, none⟩ = some (.int .i64 m3) := bs.cell 3 rfl
        have y_bs4 : wr.cell? ⟨gs, 4, none⟩ = some (.int .i64 m4) := bs.cell 4 rfl
        have y_bs5 : wr.cell? ⟨gs, 5, none⟩ = some (.int .i64 m5) := bs.cell 5 rfl
        have y_bs6 : wr.cell? ⟨gs, 6, none⟩ = some (.int .i64 m6) := bs.cell 6 rfl
        have y_bs7 : wr.cell? ⟨gs, 7, none⟩ = some (.int .i64 m7) := bs.cell 7 rfl
        have l_bs : gs < wr.heap.size := bs.lt
        go_wp2_with fail
        clear y_bs0 y_bs1 y_bs2 y_bs3 y_bs4 y_bs5 y_bs6 y_bs7 l_bs
        refine (l09Times_g m6 m7 8 _ (by omega) (by omega)).mono ?_
        rintro e w3 ⟨rfl, hb3⟩
        replace b0 : Blk w3 (w.heap.size) 29 #[.int .i64 m0, .int .i64 m1, .int .i64 m2, .int .i64 m3, .int .i64 m4, .int .i64 m5, .int .i64 m6, .int .i64 m7] := by repeat' (first | with_reducible assumption | (with_reducible refine Blk.drew ?_) | (with_reducible refine Blk.carry ?_ (by with_reducible assumption)) | (with_reducible refine Blk.alloc ?_ _) | (with_reducible refine Blk.far ?_ ?_ _) | omega | (simp; done) | (simp; omega))
        replace b1 : Blk w3 (w.heap.size + 1) 29 #[.int .i64 0, .int .i64 0, .int .i64 0, .int .i64 0, .int .i64 0, .int .i64 0, .int .i64 0, .int .i64 0] := by repeat' (first | with_reducible assumption | (with_reducible refine Blk.drew ?_) | (with_reducible refine Blk.carry ?_ (by with_reducible assumption)) | (with_reducible refine Blk.alloc ?_ _) | (with_reducible refine Blk.far ?_ ?_ _) | omega | (simp; done) | (simp; omega))
        replace b2 : Blk w3 (w.heap.size + 1 + 1) 29 #[.int .i64 0, .int .i64 0, .int .i64 0, .int .i64 0, .int .i64 0, .int .i64 0, .int .i64 0, .int .i64 0] := by repeat' (first | with_reducible assumption | (with_reducible refine Blk.drew ?_) | (with_reducible refine Blk.carry ?_ (by with_reducible assumption)) | (with_reducible refine Blk.alloc ?_ _) | (with_reducible refine Blk.far ?_ ?_ _) | omega | (simp; done) | (simp; omega))
        replace bs : Blk w3 (gs) 27 #[.int .i64 m0, .int .i64 m1, .int .i64 m2, .int .i64 m3, .int .i64 m4, .int .i64 m5, .int .i64 m6, .int .i64 m7] := by repeat' (first | with_reducible assumption | (with_reducible refine Blk.drew ?_) | (with_reducible refine Blk.carry ?_ (by with_reducible assumption)) | (with_reducible refine Blk.alloc ?_ _) | (with_reducible refine Blk.far ?_ ?_ _) | omega | (simp; done) | (simp; omega))
        replace g0 : Below w.heap.size w w3 := by repeat' (first | with_reducible assumption | with_reducible exact Below.refl _ _ | (with_reducible refine Below.setCell ?_ ?_ _) | (with_reducible refine Below.alloc ?_ ?_ _) | (with_reducible refine Below.drew ?_) | (with_reducible refine below_dr ?_ _) | (with_reducible refine Below.trans ?_ (Below.mono (by with_reducible assumption) ?_)) | omega | (simp; done) | (simp; omega))
        replace zg := g0.size
        clear hb3
        go_wp2_with fail
        refine (CV.out _).mono ?_
        rintro e w4 ⟨rfl, hb4⟩
        replace b0 : Blk w4 (w.heap.size) 29 #[.int .i64 m0, .int .i64 m1, .int .i64 m2, .int .i64 m3, .int .i64 m4, .int .i64 m5, .int .i64 m6, .int .i64 m7] := by repeat' (first | with_reducible assumption | (with_reducible refine Blk.drew ?_) | (with_reducible refine Blk.carry ?_ (by with_reducible assumption)) | (with_reducible refine Blk.alloc ?_ _) | (with_reducible refine Blk.far ?_ ?_ _) | omega | (simp; done) | (simp; omega))
        replace b1 : Blk w4 (w.heap.size + 1) 29 #[.int .i64 0, .int .i64 0, .int .i64 0, .int .i64 0, .int .i64 0, .int .i64 0, .int .i64 0, .int .i64 0] := by repeat' (first | with_reducible assumption | (with_reducible refine Blk.drew ?_) | (with_reducible refine Blk.carry ?_ (by with_reducible assumption)) | (with_reducible refine Blk.alloc ?_ _) | (with_reducible refine Blk.far ?_ ?_ _) | omega | (simp; done) | (simp; omega))
        replace b2 : Blk w4 (w.heap.size + 1 + 1) 29 #[.int .i64 0, .int .i64 0, .int .i64 0, .int .i64 0, .int .i64 0, .int .i64 0, .int .i64 0, .int .i64 0] := by repeat' (first | with_reducible assumption | (with_reducible refine Blk.drew ?_) | (with_reducible refine Blk.carry ?_ (by with_reducible assumption)) | (with_reducible refine Blk.alloc ?_ _) | (with_reducible refine Blk.far ?_ ?_ _) | omega | (simp; done) | (simp; omega))
        replace bs : Blk w4 (gs) 27 #[.int .i64 m0, .int .i64 m1, .int .i64 m2, .int .i64 m3, .int .i64 m4, .int .i64 m5, .int .i64 m6, .int .i64 m7] := by repeat' (first | with_reducible assumption | (with_reducible refine Blk.drew ?_) | (with_reducible refine Blk.carry ?_ (by with_reducible assumption)) | (with_reducible refine Blk.alloc ?_ _) | (with_reducible refine Blk.far ?_ ?_ _) | omega | (simp; done) | (simp; omega))
        replace g0 : Below w.heap.size w w4 := by repeat' (first | with_reducible assumption | with_reducible exact Below.refl _ _ | (with_reducible refine Below.setCell ?_ ?_ _) | (with_reducible refine Below.alloc ?_ ?_ _) | (with_reducible refine Below.drew ?_) | (with_reducible refine below_dr ?_ _) | (with_reducible refine Below.trans ?_ (Below.mono (by with_reducible assumption) ?_)) | omega | (simp; done) | (simp; omega))
        replace zg := g0.size
        clear hb4
        have HQ := Lib.hid (show okH m0 m1 m2 m3 m4 m5 m6 m7 = false from okH_f3 HK.out)
        have y_b10 : w4.cell? ⟨w.heap.size + 1, 0, none⟩ = some (.int .i64 0) := b1.cell 0 rfl
        have y_b11 : w4.cell? ⟨w.heap.size + 1, 1, none⟩ = some (.int .i64 0) := b1.cell 1 rfl
        have y_b12 : w4.cell? ⟨w.heap.size + 1, 2, none⟩ = some (.int .i64 0) := b1.cell 2 rfl
        have y_b13 : w4.cell? ⟨w.heap.size + 1, 3, none⟩ = some (.int .i64 0) := b1.cell 3 rfl
        have y_b14 : w4.cell? ⟨w.heap.size + 1, 4, none⟩ = some (.int .i64 0) := b1.cell 4 rfl
        have y_b15 : w4.cell? ⟨w.heap.size + 1, 5, none⟩ = some (.int .i64 0) := b1.cell 5 rfl
        have y_b16 : w4.cell? ⟨w.heap.size + 1, 6, none⟩ = some (.int .i64 0) := b1.cell 6 rfl
        have y_b17 : w4.cell? ⟨w.heap.size + 1, 7, none⟩ = some (.int .i64 0) := b1.cell 7 rfl
        have l_b1 : w.heap.size + 1 < w4.heap.size := b1.lt
        have f_b10 : w4.frozen? ⟨w.heap.size + 1, 0, none⟩ = false := b1.frozen 0
        have f_b11 : w4.frozen? ⟨w.heap.size + 1, 1, none⟩ = false := b1.frozen 1
        have f_b12 : w4.frozen? ⟨w.heap.size + 1, 2, none⟩ = false := b1.frozen 2
        have f_b13 : w4.frozen? ⟨w.heap.size + 1, 3, none⟩ = false := b1.frozen 3
        have f_b14 : w4.frozen? ⟨w.heap.size + 1, 4, none⟩ = false := b1.frozen 4
        have f_b15 : w4.frozen? ⟨w.heap.size + 1, 5, none⟩ = false := b1.frozen 5
        have f_b16 : w4.frozen? ⟨w.heap.size + 1, 6, none⟩ = false := b1.frozen 6
        have f_b17 : w4.frozen? ⟨w.heap.size + 1, 7, none⟩ = false := b1.frozen 7
        have y_b20 : w4.cell? ⟨w.heap.size + 1 + 1, 0, none⟩ = some (.int .i64 0) := b2.cell 0 rfl
        have y_b21 : w4.cell? ⟨w.heap.size + 1 + 1, 1, none⟩ = some (.int .i64 0) := b2.cell 1 rfl
        have y_b22 : w4.cell? ⟨w.heap.size + 1 + 1, 2, none⟩ = some (.int .i64 0) := b2.cell 2 rfl
        have y_b23 : w4.cell? ⟨w.heap.size + 1 + 1, 3, none⟩ = some (.int .i64 0) := b2.cell 3 rfl
        have y_b24 : w4.cell? ⟨w.heap.size + 1 + 1, 4, none⟩ = some (.int .i64 0) := b2.cell 4 rfl
        have y_b25 : w4.cell? ⟨w.heap.size + 1 + 1, 5, none⟩ = some (.int .i64 0) := b2.cell 5 rfl
        have y_b26 : w4.cell? ⟨w.heap.size + 1 + 1, 6, none⟩ = some (.int .i64 0) := b2.cell 6 rfl
        have y_b27 : w4.cell? ⟨w.heap.size + 1 + 1, 7, none⟩ = some (.int .i64 0) := b2.cell 7 rfl
        have l_b2 : w.heap.size + 1 + 1 < w4.heap.size := b2.lt
        have f_b20 : w4.frozen? ⟨w.heap.size + 1 + 1, 0, none⟩ = false := b2.frozen 0
        have f_b21 : w4.frozen? ⟨w.heap.size + 1 + 1, 1, none⟩ = false := b2.frozen 1
        have f_b22 : w4.frozen? ⟨w.heap.size + 1 + 1, 2, none⟩ = false := b2.frozen 2
        have f_b23 : w4.frozen? ⟨w.heap.size + 1 + 1, 3, none⟩ = false := b2.frozen 3
        have f_b24 : w4.frozen? ⟨w.heap.size + 1 + 1, 4, none⟩ = false := b2.frozen 4
        have f_b25 : w4.frozen? ⟨w.heap.size + 1 + 1, 5, none⟩ = false := b2.frozen 5
        have f_b26 : w4.frozen? ⟨w.heap.size + 1 + 1, 6, none⟩ = false := b2.frozen 6
        have f_b27 : w4.frozen? ⟨w.heap.size + 1 + 1, 7, none⟩ = false := b2.frozen 7
        go_wp2_with fail
        refine bodyPost_ret (v := .tuple #[.agg #[.int .i64 0, .int .i64 0, .int .i64 0, .int .i64 0, .int .i64 0, .int .i64 0, .int .i64 0, .int .i64 0], .agg #[.int .i64 0, .int .i64 0, .int .i64 0, .int .i64 0, .int .i64 0, .int .i64 0, .int .i64 0, .int .i64 0], .int .i64 2]) (by simp [results, Try.results28, go_sem, *]) rfl (HvRet.r HV.out HQ.out ?_)
        repeat' (first | with_reducible assumption | with_reducible exact Below.refl _ _ | (with_reducible refine Below.setCell ?_ ?_ _) | (with_reducible refine Below.alloc ?_ ?_ _) | (with_reducible refine Below.drew ?_) | (with_reducible refine below_dr ?_ _) | (with_reducible refine Below.trans ?_ (Below.mono (by with_reducible assumption) ?_)) | omega | (simp; done) | (simp; omega))
      case true =>
        have CV := Lib.hid (fun w => l03Ok_any (m6 * 8) (m7 * 8) w)
        simp only [hv] at CV
        have HK := Lib.hid hv
        clear hv
        have y_bs0 : wr.cell? ⟨gs, 0, none⟩ = some (.int .i64 m0) := bs.cell 0 rfl
        have y_bs1 : wr.cell? ⟨gs, 1, none⟩ = some (.int .i64 m1) := bs.cell 1 rfl
        have y_bs2 : wr.cell? ⟨gs, 2, none⟩ = some (.int .i64 m2) := bs.cell 2 rfl
        have y_bs3 : wr.cell? ⟨gs, 3, none⟩ = some (.int .i64 m3) := bs.cell 3 rfl
        have y_bs4 : wr.cell? ⟨gs, 4, none⟩ = some (.int .i64 m4) := bs.cell 4 rfl
        have y_bs5 : wr.cell? ⟨gs, 5, none⟩ = some (.int .i64 m5) := bs.cell 5 rfl
        have y_bs6 : wr.cell? ⟨gs, 6, none⟩ = some (.int .i64 m6) := bs.cell 6 rfl
        have y_bs7 : wr.cell? ⟨gs, 7, none⟩ = some (.int .i64 m7) := bs.cell 7 rfl
        have l_bs : gs < wr.heap.size := bs.lt
        go_wp2_with fail
        clear y_bs0 y_bs1 y_bs2 y_bs3 y_bs4 y_bs5 y_bs6 y_bs7 l_bs
        refine (l09Times_g m6 m7 8 _ (by omega) (by omega)).mono ?_
        rintro e w3 ⟨rfl, hb3⟩
        replace b0 : Blk w3 (w.heap.size) 29 #[.int .i64 m0, .int .i64 m1, .int .i64 m2, .int .i64 m3, .int .i64 m4, .int .i64 m5, .int .i64 m6, .int .i64 m7] := by repeat' (first | with_reducible assumption | (with_reducible refine Blk.drew ?_) | (with_reducible refine Blk.carry ?_ (by with_reducible assumption)) | (with_reducible refine Blk.alloc ?_ _) | (with_reducible refine Blk.far ?_ ?_ _) | omega | (simp; done) | (simp; omega))
        replace b1 : Blk w3 (w.heap.size + 1) 29 #[.int .i64 0, .int .i64 0, .int .i64 0, .int .i64 0, .int .i64 0, .int .i64 0, .int .i64 0, .int .i64 0] := by repeat' (first | with_reducible assumption | (with_reducible refine Blk.drew ?_) | (with_reducible refine Blk.carry ?_ (by with_reducible assumption)) | (with_reducible refine Blk.alloc ?_ _) | (with_reducible refine Blk.far ?_ ?_ _) | omega | (simp; done) | (simp; omega))
        replace b2 : Blk w3 (w.heap.size + 1 + 1) 29 #[.int .i64 0, .int .i64 0, .int .i64 0, .int .i64 0, .int .i64 0, .int .i64 0, .int .i64 0, .int .i64 0] := by repeat' (first | with_reducible assumption | (with_reducible refine Blk.drew ?_) | (with_reducible refine Blk.carry ?_ (by with_reducible assumption)) | (with_reducible refine Blk.alloc ?_ _) | (with_reducible refine Blk.far ?_ ?_ _) | omega | (simp; done) | (simp; omega))
        replace bs : Blk w3 (gs) 27 #[.int .i64 m0, .int .i64 m1, .int .i64 m2, .int .i64 m3, .int .i64 m4, .int .i64 m5, .int .i64 m6, .int .i64 m7] := by repeat' (first | with_reducible assumption | (with_reducible refine Blk.drew ?_) | (with_reducible refine Blk.carry ?_ (by with_reducible assumption)) | (with_reducible refine Blk.alloc ?_ _) | (with_reducible refine Blk.far ?_ ?_ _) | omega | (simp; done) | (simp; omega))
        replace g0 : Below w.heap.size w w3 := by repeat' (first | with_reducible assumption | with_reducible exact Below.refl _ _ | (with_reducible refine Below.setCell ?_ ?_ _) | (with_reducible refine Below.alloc ?_ ?_ _) | (with_reducible refine Below.drew ?_) | (with_reducible refine below_dr ?_ _) | (with_reducible refine Below.trans ?_ (Below.mono (by with_reducible assumption) ?_)) | omega | (simp; done) | (simp; omega))
        replace zg := g0.size
        clear hb3
        go_wp2_with fail
        refine (CV.out _).mono ?_
        rintro e w4 ⟨rfl, hb4⟩
        replace b0 : Blk w4 (w.heap.size) 29 #[.int .i64 m0, .int .i64 m1, .int .i64 m2, .int .i64 m3, .int .i64 m4, .int .i64 m5, .int .i64 m6, .int .i64 m7] := by repeat' (first | with_reducible assumption | (with_reducible refine Blk.drew ?_) | (with_reducible refine Blk.carry ?_ (by with_reducible assumption)) | (with_reducible refine Blk.alloc ?_ _) | (with_reducible refine Blk.far ?_ ?_ _) | omega | (simp; done) | (simp; omega))
        replace b1 : Blk w4 (w.heap.size + 1) 29 #[.int .i64 0, .int .i64 0, .int .i64 0, .int .i64 0, .int .i64 0, .int .i64 0, .int .i64 0, .int .i64 0] := by repeat' (first | with_reducible assumption | (with_reducible refine Blk.drew ?_) | (with_reducible refine Blk.carry ?_ (by with_reducible assumption)) | (with_reducible refine Blk.alloc ?_ _) | (with_reducible refine Blk.far ?_ ?_ _) | omega | (simp; done) | (simp; omega))
        replace b2 : Blk w4 (w.heap.size + 1 + 1) 29 #[.int .i64 0, .int .i64 0, .int .i64 0, .int .i64 0, .int .i64 0, .int .i64 0, .int .i64 0, .int .i64 0] := by repeat' (first | with_reducible assumption | (with_reducible refine Blk.drew ?_) | (with_reducible refine Blk.carry ?_ (by with_reducible assumption)) | (with_reducible refine Blk.alloc ?_ _) | (with_reducible refine Blk.far ?_ ?_ _) | omega | (simp; done) | (simp; omega))
        replace bs : Blk w4 (gs) 27 #[.int .i64 m0, .int .i64 m1, .int .i64 m2, .int .i64 m3, .int .i64 m4, .int .i64 m5, .int .i64 m6, .int .i64 m7] := by repeat' (first | with_reducible assumption | (with_reducible refine Blk.drew ?_) | (with_reducible refine Blk.carry ?_ (by with_reducible assumption)) | (with_reducible refine Blk.alloc ?_ _) | (with_reducible refine Blk.far ?_ ?_ _) | omega | (simp; done) | (simp; omega))
        replace g0 : Below w.heap.size w w4 := by repeat' (first | with_reducible assumption | with_reducible exact Below.refl _ _ | (with_reducible refine Below.setCell ?_ ?_ _) | (with_reducible refine Below.alloc ?_ ?_ _) | (with_reducible refine Below.drew ?_) | (with_reducible refine below_dr ?_ _) | (with_reducible refine Below.trans ?_ (Below.mono (by with_reducible assumption) ?_)) | omega | (simp; done) | (simp; omega))
        replace zg := g0.size
        clear hb4
        go_wp2_with fail
        go_roundw
        case rel => exact ⟨4, by omega, by go_num, fun q h => by (match q, h with | 0, _ => (first | rfl | exact HK.out | exact HUP.out 0 (by omega)) | 1, _ => (first | rfl | exact HK.out | exact HUP.out 1 (by omega)) | 2, _ => (first | rfl | exact HK.out | exact HUP.out 2 (by omega)) | 3, _ => (first | rfl | exact HK.out | exact HUP.out 3 (by omega))), b0, b1, b2, bs, g0⟩
        case measure => simp [intOf]
    · have HH := Lib.hid (show okH m0 m1 m2 m3 m4 m5 m6 m7 = true by have h0 := hup 0 (by omega); have h1 := hup 1 (by omega); have h2 := hup 2 (by omega); have h3 := hup 3 (by omega); simp only [List.getD_cons_zero, List.getD_cons_succ] at h0 h1 h2 h3; simp [okH, h0, h1, h2, h3])
      clear hup hj bs
      have y_b00 : wr.cell? ⟨w.heap.size, 0, none⟩ = some (.int .i64 m0) := b0.cell 0 rfl
      have y_b01 : wr.cell? ⟨w.heap.size, 1, none⟩ = some (.int .i64 m1) := b0.cell 1 rfl
      have y_b02 : wr.cell? ⟨w.heap.size, 2, none⟩ = some (.int .i64 m2) := b0.cell 2 rfl
      have y_b03 : wr.cell? ⟨w.heap.size, 3, none⟩ = some (.int .i64 m3) := b0.cell 3 rfl
      have y_b04 : wr.cell? ⟨w.heap.size, 4, none⟩ = some (.int .i64 m4) := b0.cell 4 rfl
      have y_b05 : wr.cell? ⟨w.heap.size, 5, none⟩ = some (.int .i64 m5) := b0.cell 5 rfl
      have y_b06 : wr.cell? ⟨w.heap.size, 6, none⟩ = some (.int .i64 m6) := b0.cell 6 rfl
      have y_b07 : wr.cell? ⟨w.heap.size, 7, none⟩ = some (.int .i64 m7) := b0.cell 7 rfl
      have l_b0 : w.heap.size < wr.heap.size := b0.lt
      go_wp2_with fail
      clear y_b00 y_b01 y_b02 y_b03 y_b04 y_b05 y_b06 y_b07 l_b0
      refine (l09Sum_g _ _ _ _ _ (by omega) (by omega)).mono ?_
      rintro e w5 ⟨rfl, hb5⟩
      replace b0 : Blk w5 (w.heap.size) 29 #[.int .i64 m0, .int .i64 m1, .int .i64 m2, .int .i64 m3, .int .i64 m4, .int .i64 m5, .int .i64 m6, .int .i64 m7] := by repeat' (first | with_reducible assumption | (with_reducible refine Blk.drew ?_) | (with_reducible refine Blk.carry ?_ (by with_reducible assumption)) | (with_reducible refine Blk.alloc ?_ _) | (with_reducible refine Blk.far ?_ ?_ _) | omega | (simp; done) | (simp; omega))
      replace b1 : Blk w5 (w.heap.size + 1) 29 #[.int .i64 0, .int .i64 0, .int .i64 0, .int .i64 0, .int .i64 0, .int .i64 0, .int .i64 0, .int .i64 0] := by repeat' (first | with_reducible assumption | (with_reducible refine Blk.drew ?_) | (with_reducible refine Blk.carry ?_ (by with_reducible assumption)) | (with_reducible refine Blk.alloc ?_ _) | (with_reducible refine Blk.far ?_ ?_ _) | omega | (simp; done) | (simp; omega))
      replace b2 : Blk w5 (w.heap.size + 1 + 1) 29 #[.int .i64 0, .int .i64 0, .int .i64 0, .int .i64 0, .int .i64 0, .int .i64 0, .int .i64 0, .int .i64 0] := by repeat' (first | with_reducible assumption | (with_reducible refine Blk.drew ?_) | (with_reducible refine Blk.carry ?_ (by with_reducible assumption)) | (with_reducible refine Blk.alloc ?_ _) | (with_reducible refine Blk.far ?_ ?_ _) | omega | (simp; done) | (simp; omega))
      replace g0 : Below w.heap.size w w5 := by (have zq := hb5.size; (try simp only [World.size_alloc] at zq); repeat' (first | with_reducible assumption | with_reducible exact Below.refl _ _ | (with_reducible refine Below.setCell ?_ ?_ _) | (with_reducible refine Below.alloc ?_ ?_ _) | (with_reducible refine Below.drew ?_) | (with_reducible refine below_dr ?_ _) | (with_reducible refine Below.trans ?_ (Below.mono (by with_reducible assumption) ?_)) | omega | (simp; done) | (simp; omega)))
      replace zg := g0.size
      clear hb5
      have y_b00 : w5.cell? ⟨w.heap.size, 0, none⟩ = some (.int .i64 m0) := b0.cell 0 rfl
      have y_b01 : w5.cell? ⟨w.heap.size, 1, none⟩ = some (.int .i64 m1) := b0.cell 1 rfl
      have y_b02 : w5.cell? ⟨w.heap.size, 2, none⟩ = some (.int .i64 m2) := b0.cell 2 rfl
      have y_b03 : w5.cell? ⟨w.heap.size, 3, none⟩ = some (.int .i64 m3) := b0.cell 3 rfl
      have y_b04 : w5.cell? ⟨w.heap.size, 4, none⟩ = some (.int .i64 m4) := b0.cell 4 rfl
      have y_b05 : w5.cell? ⟨w.heap.size, 5, none⟩ = some (.int .i64 m5) := b0.cell 5 rfl
      have y_b06 : w5.cell? ⟨w.heap.size, 6, none⟩ = some (.int .i64 m6) := b0.cell 6 rfl
      have y_b07 : w5.cell? ⟨w.heap.size, 7, none⟩ = some (.int .i64 m7) := b0.cell 7 rfl
      have l_b0 : w.heap.size < w5.heap.size := b0.lt
      go_wp2_with fail
      clear y_b00 y_b01 y_b02 y_b03 y_b04 y_b05 y_b06 y_b07 l_b0
      refine (l09Sum_g _ _ _ _ _ (by omega) (by omega)).mono ?_
      rintro e w6 ⟨rfl, hb6⟩
      replace b0 : Blk w6 (w.heap.size) 29 #[.int .i64 m0, .int .i64 m1, .int .i64 m2, .int .i64 m3, .int .i64 m4, .int .i64 m5, .int .i64 m6, .int .i64 m7] := by repeat' (first | with_reducible assumption | (with_reducible refine Blk.drew ?_) | (with_reducible refine Blk.carry ?_ (by with_reducible assumption)) | (with_reducible refine Blk.alloc ?_ _) | (with_reducible refine Blk.far ?_ ?_ _) | omega | (simp; done) | (simp; omega))
      replace b1 : Blk w6 (w.heap.size + 1) 29 #[.int .i64 0, .int .i64 0, .int .i64 0, .int .i64 0, .int .i64 0, .int .i64 0, .int .i64 0, .int .i64 0] := by repeat' (first | with_reducible assumption | (with_reducible refine Blk.drew ?_) | (with_reducible refine Blk.carry ?_ (by with_reducible assumption)) | (with_reducible refine Blk.alloc ?_ _) | (with_reducible refine Blk.far ?_ ?_ _) | omega | (simp; done) | (simp; omega))
      replace b2 : Blk w6 (w.heap.size + 1 + 1) 29 #[.int .i64 0, .int .i64 0, .int .i64 0, .int .i64 0, .int .i64 0, .int .i64 0, .int .i64 0, .int .i64 0] := by repeat' (first | with_reducible assumption | (with_reducible refine Blk.drew ?_) | (with_reducible refine Blk.carry ?_ (by with_reducible assumption)) | (with_reducible refine Blk.alloc ?_ _) | (with_reducible refine Blk.far ?_ ?_ _) | omega | (simp; done) | (simp; omega))
      have ab : Blk w6 (w5.heap.size) 27 #[.int .i64 (m0 + m2), .int .i64 (m1 + m3)] := Blk.carry (Blk.new _ _ _) hb6
      replace g0 : Below w.heap.size w w6 := by (have zq := hb6.size; (try simp only [World.size_alloc] at zq); repeat' (first | with_reducible assumption | with_reducible exact Below.refl _ _ | (with_reducible refine Below.setCell ?_ ?_ _) | (with_reducible refine Below.alloc ?_ ?_ _) | (with_reducible refine Below.drew ?_) | (with_reducible refine below_dr ?_ _) | (with_reducible refine Below.trans ?_ (Below.mono (by with_reducible assumption) ?_)) | omega | (simp; done) | (simp; omega)))
      replace zg := g0.size
      clear hb6
      have y_b00 : w6.cell? ⟨w.heap.size, 0, none⟩ = some (.int .i64 m0) := b0.cell 0 rfl
      have y_b01 : w6.cell? ⟨w.heap.size, 1, none⟩ = some (.int .i64 m1) := b0.cell 1 rfl
      have y_b02 : w6.cell? ⟨w.heap.size, 2, none⟩ = some (.int .i64 m2) := b0.cell 2 rfl
      have y_b03 : w6.cell? ⟨w.heap.size, 3, none⟩ = some (.int .i64 m3) := b0.cell 3 rfl
      have y_b04 : w6.cell? ⟨w.heap.size, 4, none⟩ = some (.int .i64 m4) := b0.cell 4 rfl
      have y_b05 : w6.cell? ⟨w.heap.size, 5, none⟩ = some (.int .i64 m5) := b0.cell 5 rfl
      have y_b06 : w6.cell? ⟨w.heap.size, 6, none⟩ = some (.int .i64 m6) := b0.cell 6 rfl
      have y_b07 : w6.cell? ⟨w.heap.size, 7, none⟩ = some (.int .i64 m7) := b0.cell 7 rfl
      have l_b0 : w.heap.size < w6.heap.size := b0.lt
      go_wp2_with fail
      clear y_b00 y_b01 y_b02 y_b03 y_b04 y_b05 y_b06 y_b07 l_b0
      refine (l09Sum_g _ _ _ _ _ (by omega) (by omega)).mono ?_
      rintro e w7 ⟨rfl, hb7⟩
      replace b0 : Blk w7 (w.heap.size) 29 #[.int .i64 m0, .int .i64 m1, .int .i64 m2, .int .i64 m3, .int .i64 m4, .int .i64 m5, .int .i64 m6, .int .i64 m7] := by repeat' (first | with_reducible assumption | (with_reducible refine Blk.drew ?_) | (with_reducible refine Blk.carry ?_ (by with_reducible assumption)) | (with_reducible refine Blk.alloc ?_ _) | (with_reducible refine Blk.far ?_ ?_ _) | omega | (simp; done) | (simp; omega))
      replace b1 : Blk w7 (w.heap.size + 1) 29 #[.int .i64 0, .int .i64 0, .int .i64 0, .int .i64 0, .int .i64 0, .int .i64 0, .int .i64 0, .int .i64 0] := by repeat' (first | with_reducible assumption | (with_reducible refine Blk.drew ?_) | (with_reducible refine Blk.carry ?_ (by with_reducible assumption)) | (with_reducible refine Blk.alloc ?_ _) | (with_reducible refine Blk.far ?_ ?_ _) | omega | (simp; done) | (simp; omega))
      replace b2 : Blk w7 (w.heap.size + 1 + 1) 29 #[.int .i64 0, .int .i64 0, .int .i64 0, .int .i64 0, .int .i64 0, .int .i64 0, .int .i64 0, .int .i64 0] := by repeat' (first | with_reducible assumption | (with_reducible refine Blk.drew ?_) | (with_reducible refine Blk.carry ?_ (by with_reducible assumption)) | (with_reducible refine Blk.alloc ?_ _) | (with_reducible refine Blk.far ?_ ?_ _) | omega | (simp; done) | (simp; omega))
      replace ab : Blk w7 (w5.heap.size) 27 #[.int .i64 (m0 + m2), .int .i64 (m1 + m3)] := by repeat' (first | with_reducible assumption | (with_reducible refine Blk.drew ?_) | (with_reducible refine Blk.carry ?_ (by with_reducible assumption)) | (with_reducible refine Blk.alloc ?_ _) | (with_reducible refine Blk.far ?_ ?_ _) | omega | (simp; done) | (simp; omega))
      have bc : Blk w7 (w6.heap.size) 27 #[.int .i64 (m2 + m4), .int .i64 (m3 + m5)] := Blk.carry (Blk.new _ _ _) hb7
      replace g0 : Below w.heap.size w w7 := by (have zq := hb7.size; (try simp only [World.size_alloc] at zq); repeat' (first | with_reducible assumption | with_reducible exact Below.refl _ _ | (with_reducible refine Below.setCell ?_ ?_ _) | (with_reducible refine Below.alloc ?_ ?_ _) | (with_reducible refine Below.drew ?_) | (with_reducible refine below_dr ?_ _) | (with_reducible refine Below.trans ?_ (Below.mono (by with_reducible assumption) ?_)) | omega | (simp; done) | (simp; omega)))
      replace zg := g0.size
      clear hb7
      have y_ab0 : w7.cell? ⟨w5.heap.size, 0, none⟩ = some (.int .i64 (m0 + m2)) := ab.cell 0 rfl
      have y_ab1 : w7.cell? ⟨w5.heap.size, 1, none⟩ = some (.int .i64 (m1 + m3)) := ab.cell 1 rfl
      have l_ab : w5.heap.size < w7.heap.size := ab.lt
      have y_bc0 : w7.cell? ⟨w6.heap.size, 0, none⟩ = some (.int .i64 (m2 + m4)) := bc.cell 0 rfl
      have y_bc1 : w7.cell? ⟨w6.heap.size, 1, none⟩ = some (.int .i64 (m3 + m5)) := bc.cell 1 rfl
      have l_bc : w6.heap.size < w7.heap.size := bc.lt
      go_wp2_with fail
      clear y_ab0 y_ab1 l_ab
      clear y_bc0 y_bc1 l_bc
      refine (l09Sum_g _ _ _ _ _ (by omega) (by omega)).mono ?_
      rintro e w8 ⟨rfl, hb8⟩
      replace b0 : Blk w8 (w.heap.size) 29 #[.int .i64 m0, .int .i64 m1, .int .i64 m2, .int .i64 m3, .int .i64 m4, .int .i64 m5, .int .i64 m6, .int .i64 m7] := by repeat' (first | with_reducible assumption | (with_reducible refine Blk.drew ?_) | (with_reducible refine Blk.carry ?_ (by with_reducible assumption)) | (with_reducible refine Blk.alloc ?_ _) | (with_reducible refine Blk.far ?_ ?_ _) | omega | (simp; done) | (simp; omega))
      replace b1 : Blk w8 (w.heap.size + 1) 29 #[.int .i64 0, .int .i64 0, .int .i64 0, .int .i64 0, .int .i64 0, .int .i64 0, .int .i64 0, .int .i64 0] := by repeat' (first | with_reducible assumption | (with_reducible refine Blk.drew ?_) | (with_reducible refine Blk.carry ?_ (by with_reducible assumption)) | (with_reducible refine Blk.alloc ?_ _) | (with_reducible refine Blk.far ?_ ?_ _) | omega | (simp; done) | (simp; omega))
      replace b2 : Blk w8 (w.heap.size + 1 + 1) 29 #[.int .i64 0, .int .i64 0, .int .i64 0, .int .i64 0, .int .i64 0, .int .i64 0, .int .i64 0, .int .i64 0] := by repeat' (first | with_reducible assumption | (with_reducible refine Blk.drew ?_) | (with_reducible refine Blk.carry ?_ (by with_reducible assumption)) | (with_reducible refine Blk.alloc ?_ _) | (with_reducible refine Blk.far ?_ ?_ _) | omega | (simp; done) | (simp; omega))
      replace ab : Blk w8 (w5.heap.size) 27 #[.int .i64 (m0 + m2), .int .i64 (m1 + m3)] := by repeat' (first | with_reducible assumption | (with_reducible refine Blk.drew ?_) | (with_reducible refine Blk.carry ?_ (by with_reducible assumption)) | (with_reducible refine Blk.alloc ?_ _) | (with_reducible refine Blk.far ?_ ?_ _) | omega | (simp; done) | (simp; omega))
      replace bc : Blk w8 (w6.heap.size) 27 #[.int .i64 (m2 + m4), .int .i64 (m3 + m5)] := by repeat' (first | with_reducible assumption | (with_reducible refine Blk.drew ?_) | (with_reducible refine Blk.carry ?_ (by with_reducible assumption)) | (with_reducible refine Blk.alloc ?_ _) | (with_reducible refine Blk.far ?_ ?_ _) | omega | (simp; done) | (simp; omega))
      have cd : Blk w8 (w7.heap.size) 27 #[.int .i64 (m4 + m6), .int .i64 (m5 + m7)] := Blk.carry (Blk.new _ _ _) hb8
      replace g0 : Below w.heap.size w w8 := by (have zq := hb8.size; (try simp only [World.size_alloc] at zq); repeat' (first | with_reducible assumption | with_reducible exact Below.refl _ _ | (with_reducible refine Below.setCell ?_ ?_ _) | (with_reducible refine Below.alloc ?_ ?_ _) | (with_reducible refine Below.drew ?_) | (with_reducible refine below_dr ?_ _) | (with_reducible refine Below.trans ?_ (Below.mono (by with_reducible assumption) ?_)) | omega | (simp; done) | (simp; omega)))
      replace zg := g0.size
      clear hb8
      have y_bc0 : w8.cell? ⟨w6.heap.size, 0, none⟩ = some (.int .i64 (m2 + m4)) := bc.cell 0 rfl
      have y_bc1 : w8.cell? ⟨w6.heap.size, 1, none⟩ = some (.int .i64 (m3 + m5)) := bc.cell 1 rfl
      have l_bc : w6.heap.size < w8.heap.size := bc.lt
      have y_cd0 : w8.cell? ⟨w7.heap.size, 0, none⟩ = some (.int .i64 (m4 + m6)) := cd.cell 0 rfl
      have y_cd1 : w8.cell? ⟨w7.heap.size, 1, none⟩ = some (.int .i64 (m5 + m7)) := cd.cell 1 rfl
      have l_cd : w7.heap.size < w8.heap.size := cd.lt
      go_wp2_with fail
      clear y_bc0 y_bc1 l_bc
      clear y_cd0 y_cd1 l_cd
      refine (l09Sum_g _ _ _ _ _ (by omega) (by omega)).mono ?_
      rintro e w9 ⟨rfl, hb9⟩
      replace b0 : Blk w9 (w.heap.size) 29 #[.int .i64 m0, .int .i64 m1, .int .i64 m2, .int .i64 m3, .int .i64 m4, .int .i64 m5, .int .i64 m6, .int .i64 m7] := by repeat' (first | with_reducible assumption | (with_reducible refine Blk.drew ?_) | (with_reducible refine Blk.carry ?_ (by with_reducible assumption)) | (with_reducible refine Blk.alloc ?_ _) | (with_reducible refine Blk.far ?_ ?_ _) | omega | (simp; done) | (simp; omega))
      replace b1 : Blk w9 (w.heap.size + 1) 29 #[.int .i64 0, .int .i64 0, .int .i64 0, .int .i64 0, .int .i64 0, .int .i64 0, .int .i64 0, .int .i64 0] := by repeat' (first | with_reducible assumption | (with_reducible refine Blk.drew ?_) | (with_reducible refine Blk.carry ?_ (by with_reducible assumption)) | (with_reducible refine Blk.alloc ?_ _) | (with_reducible refine Blk.far ?_ ?_ _) | omega | (simp; done) | (simp; omega))
      replace b2 : Blk w9 (w.heap.size + 1 + 1) 29 #[.int .i64 0, .int .i64 0, .int .i64 0, .int .i64 0, .int .i64 0, .int .i64 0, .int .i64 0, .int .i64 0] := by repeat' (first | with_reducible assumption | (with_reducible refine Blk.drew ?_) | (with_reducible refine Blk.carry ?_ (by with_reducible assumption)) | (with_reducible refine Blk.alloc ?_ _) | (with_reducible refine Blk.far ?_ ?_ _) | omega | (simp; done) | (simp; omega))
      replace ab : Blk w9 (w5.heap.size) 27 #[.int .i64 (m0 + m2), .int .i64 (m1 + m3)] := by repeat' (first | with_reducible assumption | (with_reducible refine Blk.drew ?_) | (with_reducible refine Blk.carry ?_ (by with_reducible assumption)) | (with_reducible refine Blk.alloc ?_ _) | (with_reducible refine Blk.far ?_ ?_ _) | omega | (simp; done) | (simp; omega))
      replace bc : Blk w9 (w6.heap.size) 27 #[.int .i64 (m2 + m4), .int .i64 (m3 + m5)] := by repeat' (first | with_reducible assumption | (with_reducible refine Blk.drew ?_) | (with_reducible refine Blk.carry ?_ (by with_reducible assumption)) | (with_reducible refine Blk.alloc ?_ _) | (with_reducible refine Blk.far ?_ ?_ _) | omega | (simp; done) | (simp; omega))
      replace cd : Blk w9 (w7.heap.size) 27 #[.int .i64 (m4 + m6), .int .i64 (m5 + m7)] := by repeat' (first | with_reducible assumption | (with_reducible refine Blk.drew ?_) | (with_reducible refine Blk.carry ?_ (by with_reducible assumption)) | (with_reducible refine Blk.alloc ?_ _) | (with_reducible refine Blk.far ?_ ?_ _) | omega | (simp; done) | (simp; omega))
      have abc : Blk w9 (w8.heap.size) 27 #[.int .i64 (m0 + m2 + (m2 + m4)), .int .i64 (m1 + m3 + (m3 + m5))] := Blk.carry (Blk.new _ _ _) hb9
      replace g0 : Below w.heap.size w w9 := by (have zq := hb9.size; (try simp only [World.size_alloc] at zq); repeat' (first | with_reducible assumption | with_reducible exact Below.refl _ _ | (with_reducible refine Below.setCell ?_ ?_ _) | (with_reducible refine Below.alloc ?_ ?_ _) | (with_reducible refine Below.drew ?_) | (with_reducible refine below_dr ?_ _) | (with_reducible refine Below.trans ?_ (Below.mono (by with_reducible assumption) ?_)) | omega | (simp; done) | (simp; omega)))
      replace zg := g0.size
      clear hb9
      have y_abc0 : w9.cell? ⟨w8.heap.size, 0, none⟩ = some (.int .i64 (m0 + m2 + (m2 + m4))) := abc.cell 0 rfl
      have y_abc1 : w9.cell? ⟨w8.heap.size, 1, none⟩ = some (.int .i64 (m1 + m3 + (m3 + m5))) := abc.cell 1 rfl
      have l_abc : w8.heap.size < w9.heap.size := abc.lt
      go_wp2_with fail
      clear y_abc0 y_abc1 l_abc
      refine (l09Sum_g _ _ _ _ _ (by omega) (by omega)).mono ?_
      rintro e w10 ⟨rfl, hb10⟩
      replace b0 : Blk w10 (w.heap.size) 29 #[.int .i64 m0, .int .i64 m1, .int .i64 m2, .int .i64 m3, .int .i64 m4, .int .i64 m5, .int .i64 m6, .int .i64 m7] := by repeat' (first | with_reducible assumption | (with_reducible refine Blk.drew ?_) | (with_reducible refine Blk.carry ?_ (by with_reducible assumption)) | (with_reducible refine Blk.alloc ?_ _) | (with_reducible refine Blk.far ?_ ?_ _) | omega | (simp; done) | (simp; omega))
      replace b1 : Blk w10 (w.heap.size + 1) 29 #[.int .i64 0, .int .i64 0, .int .i64 0, .int .i64 0, .int .i64 0, .int .i64 0, .int .i64 0, .int .i64 0] := by repeat' (first | with_reducible assumption | (with_reducible refine Blk.drew ?_) | (with_reducible refine Blk.carry ?_ (by with_reducible assumption)) | (with_reducible refine Blk.alloc ?_ _) | (with_reducible refine Blk.far ?_ ?_ _) | omega | (simp; done) | (simp; omega))
      replace b2 : Blk w10 (w.heap.size + 1 + 1) 29 #[.int .i64 0, .int .i64 0, .int .i64 0, .int .i64 0, .int .i64 0, .int .i64 0, .int .i64 0, .int .i64 0] := by repeat' (first | with_reducible assumption | (with_reducible refine Blk.drew ?_) | (with_reducible refine Blk.carry ?_ (by with_reducible assumption)) | (with_reducible refine Blk.alloc ?_ _) | (with_reducible refine Blk.far ?_ ?_ _) | omega | (simp; done) | (simp; omega))
      replace ab : Blk w10 (w5.heap.size) 27 #[.int .i64 (m0 + m2), .int .i64 (m1 + m3)] := by repeat' (first | with_reducible assumption | (with_reducible refine Blk.drew ?_) | (with_reducible refine Blk.carry ?_ (by with_reducible assumption)) | (with_reducible refine Blk.alloc ?_ _) | (with_reducible refine Blk.far ?_ ?_ _) | omega | (simp; done) | (simp; omega))
      replace bc : Blk w10 (w6.heap.size) 27 #[.int .i64 (m2 + m4), .int .i64 (m3 + m5)] := by repeat' (first | with_reducible assumption | (with_reducible refine Blk.drew ?_) | (with_reducible refine Blk.carry ?_ (by with_reducible assumption)) | (with_reducible refine Blk.alloc ?_ _) | (with_reducible refine Blk.far ?_ ?_ _) | omega | (simp; done) | (simp; omega))
      replace cd : Blk w10 (w7.heap.size) 27 #[.int .i64 (m4 + m6), .int .i64 (m5 + m7)] := by repeat' (first | with_reducible assumption | (with_reducible refine Blk.drew ?_) | (with_reducible refine Blk.carry ?_ (by with_reducible assumption)) | (with_reducible refine Blk.alloc ?_ _) | (with_reducible refine Blk.far ?_ ?_ _) | omega | (simp; done) | (simp; omega))
      replace abc : Blk w10 (w8.heap.size) 27 #[.int .i64 (m0 + m2 + (m2 + m4)), .int .i64 (m1 + m3 + (m3 + m5))] := by repeat' (first | with_reducible assumption | (with_reducible refine Blk.drew ?_) | (with_reducible refine Blk.carry ?_ (by with_reducible assumption)) | (with_reducible refine Blk.alloc ?_ _) | (with_reducible refine Blk.far ?_ ?_ _) | omega | (simp; done) | (simp; omega))
      have bcd : Blk w10 (w9.heap.size) 27 #[.int .i64 (m2 + m4 + (m4 + m6)), .int .i64 (m3 + m5 + (m5 + m7))] := Blk.carry (Blk.new _ _ _) hb10
      replace g0 : Below w.heap.size w w10 := by (have zq := hb10.size; (try simp only [World.size_alloc] at zq); repeat' (first | with_reducible assumption | with_reducible exact Below.refl _ _ | (with_reducible refine Below.setCell ?_ ?_ _) | (with_reducible refine Below.alloc ?_ ?_ _) | (with_reducible refine Below.drew ?_) | (with_reducible refine below_dr ?_ _) | (with_reducible refine Below.trans ?_ (Below.mono (by with_reducible assumption) ?_)) | omega | (simp; done) | (simp; omega)))
      replace zg := g0.size
      clear hb10
      have y_b00 : w10.cell? ⟨w.heap.size, 0, none⟩ = some (.int .i64 m0) := b0.cell 0 rfl
      have y_b01 : w10.cell? ⟨w.heap.size, 1, none⟩ = some (.int .i64 m1) := b0.cell 1 rfl
      have y_b02 : w10.cell? ⟨w.heap.size, 2, none⟩ = some (.int .i64 m2) := b0.cell 2 rfl
      have y_b03 : w10.cell? ⟨w.heap.size, 3, none⟩ = some (.int .i64 m3) := b0.cell 3 rfl
      have y_b04 : w10.cell? ⟨w.heap.size, 4, none⟩ = some (.int .i64 m4) := b0.cell 4 rfl
      have y_b05 : w10.cell? ⟨w.heap.size, 5, none⟩ = some (.int .i64 m5) := b0.cell 5 rfl
      have y_b06 : w10.cell? ⟨w.heap.size, 6, none⟩ = some (.int .i64 m6) := b0.cell 6 rfl
      have y_b07 : w10.cell? ⟨w.heap.size, 7, none⟩ = some (.int .i64 m7) := b0.cell 7 rfl
      have l_b0 : w.heap.size < w10.heap.size := b0.lt
      go_wp2_with fail
      clear y_b00 y_b01 y_b02 y_b03 y_b04 y_b05 y_b06 y_b07 l_b0
      generalize hW : w10.alloc (.cells #[.int .i64 (m0 + m2 + (m2 + m4) + (m2 + m4 + (m4 + m6))), .int .i64 (m1 + m3 + (m3 + m5) + (m3 + m5 + (m5 + m7)))] 27) = W11
      replace b0 : Blk W11 (w.heap.size) 29 #[.int .i64 m0, .int .i64 m1, .int .i64 m2, .int .i64 m3, .int .i64 m4, .int .i64 m5, .int .i64 m6, .int .i64 m7] := by rw [← hW]; repeat' (first | with_reducible assumption | (with_reducible refine Blk.drew ?_) | (with_reducible refine Blk.carry ?_ (by with_reducible assumption)) | (with_reducible refine Blk.alloc ?_ _) | (with_reducible refine Blk.far ?_ ?_ _) | omega | (simp; done) | (simp; omega))
      replace b1 : Blk W11 (w.heap.size + 1) 29 #[.int .i64 0, .int .i64 0, .int .i64 0, .int .i64 0, .int .i64 0, .int .i64 0, .int .i64 0, .int .i64 0] := by rw [← hW]; repeat' (first | with_reducible assumption | (with_reducible refine Blk.drew ?_) | (with_reducible refine Blk.carry ?_ (by with_reducible assumption)) | (with_reducible refine Blk.alloc ?_ _) | (with_reducible refine Blk.far ?_ ?_ _) | omega | (simp; done) | (simp; omega))
      replace b2 : Blk W11 (w.heap.size + 1 + 1) 29 #[.int .i64 0, .int .i64 0, .int .i64 0, .int .i64 0, .int .i64 0, .int .i64 0, .int .i64 0, .int .i64 0] := by rw [← hW]; repeat' (first | with_reducible assumption | (with_reducible refine Blk.drew ?_) | (with_reducible refine Blk.carry ?_ (by with_reducible assumption)) | (with_reducible refine Blk.alloc ?_ _) | (with_reducible refine Blk.far ?_ ?_ _) | omega | (simp; done) | (simp; omega))
      replace ab : Blk W11 (w5.heap.size) 27 #[.int .i64 (m0 + m2), .int .i64 (m1 + m3)] := by rw [← hW]; repeat' (first | with_reducible assumption | (with_reducible refine Blk.drew ?_) | (with_reducible refine Blk.carry ?_ (by with_reducible assumption)) | (with_reducible refine Blk.alloc ?_ _) | (with_reducible refine Blk.far ?_ ?_ _) | omega | (simp; done) | (simp; omega))
      replace bc : Blk W11 (w6.heap.size) 27 #[.int .i64 (m2 + m4), .int .i64 (m3 + m5)] := by rw [← hW]; repeat' (first | with_reducible assumption | (with_reducible refine Blk.drew ?_) | (with_reducible refine Blk.carry ?_ (by with_reducible assumption)) | (with_reducible refine Blk.alloc ?_ _) | (with_reducible refine Blk.far ?_ ?_ _) | omega | (simp; done) | (simp; omega))
      replace cd : Blk W11 (w7.heap.size) 27 #[.int .i64 (m4 + m6), .int .i64 (m5 + m7)] := by rw [← hW]; repeat' (first | with_reducible assumption | (with_reducible refine Blk.drew ?_) | (with_reducible refine Blk.carry ?_ (by with_reducible assumption)) | (with_reducible refine Blk.alloc ?_ _) | (with_reducible refine Blk.far ?_ ?_ _) | omega | (simp; done) | (simp; omega))
      replace abc : Blk W11 (w8.heap.size) 27 #[.int .i64 (m0 + m2 + (m2 + m4)), .int .i64 (m1 + m3 + (m3 + m5))] := by rw [← hW]; repeat' (first | with_reducible assumption | (with_reducible refine Blk.drew ?_) | (with_reducible refine Blk.carry ?_ (by with_reducible assumption)) | (with_reducible refine Blk.alloc ?_ _) | (with_reducible refine Blk.far ?_ ?_ _) | omega | (simp; done) | (simp; omega))
      replace bcd : Blk W11 (w9.heap.size) 27 #[.int .i64 (m2 + m4 + (m4 + m6)), .int .i64 (m3 + m5 + (m5 + m7))] := by rw [← hW]; repeat' (first | with_reducible assumption | (with_reducible refine Blk.drew ?_) | (with_reducible refine Blk.carry ?_ (by with_reducible assumption)) | (with_reducible refine Blk.alloc ?_ _) | (with_reducible refine Blk.far ?_ ?_ _) | omega | (simp; done) | (simp; omega))
      have mid : Blk W11 (w10.heap.size) 27 #[.int .i64 (m0 + m2 + (m2 + m4) + (m2 + m4 + (m4 + m6))), .int .i64 (m1 + m3 + (m3 + m5) + (m3 + m5 + (m5 + m7)))] := by rw [← hW]; exact Blk.new _ _ _
      replace g0 : Below w.heap.size w W11 := by rw [← hW]; repeat' (first | with_reducible assumption | with_reducible exact Below.refl _ _ | (with_reducible refine Below.setCell ?_ ?_ _) | (with_reducible refine Below.alloc ?_ ?_ _) | (with_reducible refine Below.drew ?_) | (with_reducible refine below_dr ?_ _) | (with_reducible refine Below.trans ?_ (Below.mono (by with_reducible assumption) ?_)) | omega | (simp; done) | (simp; omega))
      replace zg := g0.size
      clear hW
      clear bc
      go_upto_region 15 with fail
      go_cut [13] (fun sA wx => LeftQ (w.heap.size + 1 + 1) [.int .i64 (m0 * 8), .int .i64 (m1 * 8), .int .i64 ((m0 + m2) * 4), .int .i64 ((m1 + m3) * 4), .int .i64 ((m0 + m2 + (m2 + m4)) * 2), .int .i64 ((m1 + m3 + (m3 + m5)) * 2), .int .i64 (m0 + m2 + (m2 + m4) + (m2 + m4 + (m4 + m6))), .int .i64 (m1 + m3 + (m3 + m5) + (m3 + m5 + (m5 + m7)))] sA wx ∧ Blk wx (w.heap.size) 29 #[.int .i64 m0, .int .i64 m1, .int .i64 m2, .int .i64 m3, .int .i64 m4, .int .i64 m5, .int .i64 m6, .int .i64 m7] ∧ Blk wx (w.heap.size + 1) 29 #[.int .i64 0, .int .i64 0, .int .i64 0, .int .i64 0, .int .i64 0, .int .i64 0, .int .i64 0, .int .i64 0] ∧ Blk wx (w.heap.size + 1 + 1) 29 #[.int .i64 0, .int .i64 0, .int .i64 0, .int .i64 0, .int .i64 0, .int .i64 0, .int .i64 0, .int .i64 0] ∧ Blk wx (w7.heap.size) 27 #[.int .i64 (m4 + m6), .int .i64 (m5 + m7)] ∧ Blk wx (w9.heap.size) 27 #[.int .i64 (m2 + m4 + (m4 + m6)), .int .i64 (m3 + m5 + (m5 + m7))] ∧ Blk wx (w10.heap.size) 27 #[.int .i64 (m0 + m2 + (m2 + m4) + (m2 + m4 + (m4 + m6))), .int .i64 (m1 + m3 + (m3 + m5) + (m3 + m5 + (m5 + m7)))] ∧ Below w.heap.size w wx)
      case first =>
        have y_b00 : W11.cell? ⟨w.heap.size, 0, none⟩ = some (.int .i64 m0) := b0.cell 0 rfl
        have y_b01 : W11.cell? ⟨w.heap.size, 1, none⟩ = some (.int .i64 m1) := b0.cell 1 rfl
        have l_b0 : w.heap.size < W11.heap.size := b0.lt
        have y_ab0 : W11.cell? ⟨w5.heap.size, 0, none⟩ = some (.int .i64 (m0 + m2)) := ab.cell 0 rfl
        have y_ab1 : W11.cell? ⟨w5.heap.size, 1, none⟩ = some (.int .i64 (m1 + m3)) := ab.cell 1 rfl
        have l_ab : w5.heap.size < W11.heap.size := ab.lt
        have y_abc0 : W11.cell? ⟨w8.heap.size, 0, none⟩ = some (.int .i64 (m0 + m2 + (m2 + m4))) := abc.cell 0 rfl
        have y_abc1 : W11.cell? ⟨w8.heap.size, 1, none⟩ = some (.int .i64 (m1 + m3 + (m3 + m5))) := abc.cell 1 rfl
        have l_abc : w8.heap.size < W11.heap.size := abc.lt
        have y_mid0 : W11.cell? ⟨w10.heap.size, 0, none⟩ = some (.int .i64 (m0 + m2 + (m2 + m4) + (m2 + m4 + (m4 + m6)))) := mid.cell 0 rfl
        have y_mid1 : W11.cell? ⟨w10.heap.size, 1, none⟩ = some (.int .i64 (m1 + m3 + (m3 + m5) + (m3 + m5 + (m5 + m7)))) := mid.cell 1 rfl
        have l_mid : w10.heap.size < W11.heap.size := mid.lt
        have l_b1 : w.heap.size + 1 < W11.heap.size := b1.lt
        have l_b2 : w.heap.size + 1 + 1 < W11.heap.size := b2.lt
        have l_cd : w7.heap.size < W11.heap.size := cd.lt
        have l_bcd : w9.heap.size < W11.heap.size := bcd.lt
        go_region_held3 (fun w' => (∀ b o, b < W11.heap.size → w'.cell? ⟨b, o, none⟩ = W11.cell? ⟨b, o, none⟩) ∧ W11.heap.size ≤ w'.heap.size)
          (first | ((try dsimp only); exact ⟨fun b o h => (by (repeat (first | with_reducible exact rfl | (with_reducible refine (cell_drew_at _ _).trans ?_) | (with_reducible refine (cell_set_at _ _ (by first | omega | (simp; done) | (simp; omega))).trans ?_) | (with_reducible refine (cell_alloc_at _ _ (by first | omega | (simp; done) | (simp; omega))).trans ?_) | (with_reducible refine (hcwT1 b o (by first | omega | (simp; done) | (simp; omega))).trans ?_) | (with_reducible refine (hcwT2 b o (by first | omega | (simp; done) | (simp; omega))).trans ?_) | (with_reducible refine (hcwT3 b o (by first | omega | (simp; done) | (simp; omega))).trans ?_)))), (by first | omega | (simp; done) | (simp; omega))⟩) | fail)
          (first
            | (go_at_call 61; (with_reducible refine (l09Times_g (m0) (m1) 8 _ (by omega) (by omega)).mono ?_); rintro e wT1 ⟨rfl, hbwT1⟩; obtain ⟨hcwT1, hfwT1⟩ := bcell hbwT1; have hzwT1 := hbwT1.size; (try simp only [World.size_drew] at hcwT1 hfwT1 hzwT1); (try simp only [World.size_alloc] at hcwT1 hfwT1 hzwT1); (try have qqW11wT1 : W11.heap.size < wT1.heap.size := by omega); (try have qqwT2wT1 : wT2.heap.size < wT1.heap.size := by omega); (try have qqwT3wT1 : wT3.heap.size < wT1.heap.size := by omega))
            | (go_at_call 61; (with_reducible refine (l09Times_g (m0 + m2) (m1 + m3) 4 _ (by omega) (by omega)).mono ?_); rintro e wT2 ⟨rfl, hbwT2⟩; obtain ⟨hcwT2, hfwT2⟩ := bcell hbwT2; have hzwT2 := hbwT2.size; (try simp only [World.size_drew] at hcwT2 hfwT2 hzwT2); (try simp only [World.size_alloc] at hcwT2 hfwT2 hzwT2); (try have qqW11wT2 : W11.heap.size < wT2.heap.size := by omega); (try have qqwT1wT2 : wT1.heap.size < wT2.heap.size := by omega); (try have qqwT3wT2 : wT3.heap.size < wT2.heap.size := by omega))
            | (go_at_call 61; (with_reducible refine (l09Times_g (m0 + m2 + (m2 + m4)) (m1 + m3 + (m3 + m5)) 2 _ (by omega) (by omega)).mono ?_); rintro e wT3 ⟨rfl, hbwT3⟩; obtain ⟨hcwT3, hfwT3⟩ := bcell hbwT3; have hzwT3 := hbwT3.size; (try simp only [World.size_drew] at hcwT3 hfwT3 hzwT3); (try simp only [World.size_alloc] at hcwT3 hfwT3 hzwT3); (try have qqW11wT3 : W11.heap.size < wT3.heap.size := by omega); (try have qqwT1wT3 : wT1.heap.size < wT3.heap.size := by omega); (try have qqwT2wT3 : wT2.heap.size < wT3.heap.size := by omega)))
        all_goals
          (try clear hcwT1 hfwT1 hcwT2 hfwT2 hcwT3 hfwT3)
          go_wp2_with fail
          go_meet
          exact ⟨⟨_, rfl, by repeat' (first | with_reducible assumption | with_reducible exact AtL.new _ _ _ | ((with_reducible refine AtL.newAt ?_); (first | rfl | (simp; done))) | (with_reducible refine AtL.drew ?_) | (with_reducible apply AtL.store8) | (with_reducible refine AtL.alloc ?_ _) | (with_reducible refine AtL.far ?_ ?_ _ _) | (with_reducible refine AtL.below ?_ (by with_reducible assumption)) | omega | (simp; done) | (simp; omega)), by omega⟩, by repeat' (first | with_reducible assumption | (with_reducible refine Blk.drew ?_) | (with_reducible refine Blk.carry ?_ (by with_reducible assumption)) | (with_reducible refine Blk.alloc ?_ _) | (with_reducible refine Blk.far ?_ ?_ _) | omega | (simp; done) | (simp; omega)), by repeat' (first | with_reducible assumption | (with_reducible refine Blk.drew ?_) | (with_reducible refine Blk.carry ?_ (by with_reducible assumption)) | (with_reducible refine Blk.alloc ?_ _) | (with_reducible refine Blk.far ?_ ?_ _) | omega | (simp; done) | (simp; omega)), by repeat' (first | with_reducible assumption | (with_reducible refine Blk.drew ?_) | (with_reducible refine Blk.carry ?_ (by with_reducible assumption)) | (with_reducible refine Blk.alloc ?_ _) | (with_reducible refine Blk.far ?_ ?_ _) | omega | (simp; done) | (simp; omega)), by repeat' (first | with_reducible assumption | (with_reducible refine Blk.drew ?_) | (with_reducible refine Blk.carry ?_ (by with_reducible assumption)) | (with_reducible refine Blk.alloc ?_ _) | (with_reducible refine Blk.far ?_ ?_ _) | omega | (simp; done) | (simp; omega)), by repeat' (first | with_reducible assumption | (with_reducible refine Blk.drew ?_) | (with_reducible refine Blk.carry ?_ (by with_reducible assumption)) | (with_reducible refine Blk.alloc ?_ _) | (with_reducible refine Blk.far ?_ ?_ _) | omega | (simp; done) | (simp; omega)), by repeat' (first | with_reducible assumption | (with_reducible refine Blk.drew ?_) | (with_reducible refine Blk.carry ?_ (by with_reducible assumption)) | (with_reducible refine Blk.alloc ?_ _) | (with_reducible refine Blk.far ?_ ?_ _) | omega | (simp; done) | (simp; omega)), by repeat' (first | with_reducible assumption | with_reducible exact Below.refl _ _ | (with_reducible refine Below.setCell ?_ ?_ _) | (with_reducible refine Below.alloc ?_ ?_ _) | (with_reducible refine Below.drew ?_) | (with_reducible refine below_dr ?_ _) | (with_reducible refine Below.trans ?_ (Below.mono (by with_reducible assumption) ?_)) | omega | (simp; done) | (simp; omega))⟩
      case rest =>
        clear b0 b1 b2 ab cd abc bcd mid g0 zg
        obtain ⟨⟨g1, rfl, at1, pg1⟩, b0, b1, b2, cd, bcd, mid, g0⟩ := hcut
        obtain ⟨W13, hW⟩ : ∃ W : World, W = wc := ⟨_, rfl⟩
        subst hW
        have zg := g0.size
        go_upto_region 16 with fail
        go_cut [14] (fun sA wx => LeftQ (w.heap.size + 1 + 1) [.int .i64 (m0 + m2 + (m2 + m4) + (m2 + m4 + (m4 + m6))), .int .i64 (m1 + m3 + (m3 + m5) + (m3 + m5 + (m5 + m7))), .int .i64 ((m2 + m4 + (m4 + m6)) * 2), .int .i64 ((m3 + m5 + (m5 + m7)) * 2), .int .i64 ((m4 + m6) * 4), .int .i64 ((m5 + m7) * 4), .int .i64 (m6 * 8), .int .i64 (m7 * 8)] sA wx ∧ Blk wx (w.heap.size + 1) 29 #[.int .i64 0, .int .i64 0, .int .i64 0, .int .i64 0, .int .i64 0, .int .i64 0, .int .i64 0, .int .i64 0] ∧ Blk wx (w.heap.size + 1 + 1) 29 #[.int .i64 0, .int .i64 0, .int .i64 0, .int .i64 0, .int .i64 0, .int .i64 0, .int .i64 0, .int .i64 0] ∧ Below w.heap.size w wx ∧ AtL g1 [.int .i64 (m0 * 8), .int .i64 (m1 * 8), .int .i64 ((m0 + m2) * 4), .int .i64 ((m1 + m3) * 4), .int .i64 ((m0 + m2 + (m2 + m4)) * 2), .int .i64 ((m1 + m3 + (m3 + m5)) * 2), .int .i64 (m0 + m2 + (m2 + m4) + (m2 + m4 + (m4 + m6))), .int .i64 (m1 + m3 + (m3 + m5) + (m3 + m5 + (m5 + m7)))] wx)
        case first =>
          have y_mid0 : W13.cell? ⟨w10.heap.size, 0, none⟩ = some (.int .i64 (m0 + m2 + (m2 + m4) + (m2 + m4 + (m4 + m6)))) := mid.cell 0 rfl
          have y_mid1 : W13.cell? ⟨w10.heap.size, 1, none⟩ = some (.int .i64 (m1 + m3 + (m3 + m5) + (m3 + m5 + (m5 + m7)))) := mid.cell 1 rfl
          have l_mid : w10.heap.size < W13.heap.size := mid.lt
          have y_bcd0 : W13.cell? ⟨w9.heap.size, 0, none⟩ = some (.int .i64 (m2 + m4 + (m4 + m6))) := bcd.cell 0 rfl
          have y_bcd1 : W13.cell? ⟨w9.heap.size, 1, none⟩ = some (.int .i64 (m3 + m5 + (m5 + m7))) := bcd.cell 1 rfl
          have l_bcd : w9.heap.size < W13.heap.size := bcd.lt
          have y_cd0 : W13.cell? ⟨w7.heap.size, 0, none⟩ = some (.int .i64 (m4 + m6)) := cd.cell 0 rfl
          have y_cd1 : W13.cell? ⟨w7.heap.size, 1, none⟩ = some (.int .i64 (m5 + m7)) := cd.cell 1 rfl
          have l_cd : w7.heap.size < W13.heap.size := cd.lt
          have y_b06 : W13.cell? ⟨w.heap.size, 6, none⟩ = some (.int .i64 m6) := b0.cell 6 rfl
          have y_b07 : W13.cell? ⟨w.heap.size, 7, none⟩ = some (.int .i64 m7) := b0.cell 7 rfl
          have l_b0 : w.heap.size < W13.heap.size := b0.lt
          have l_b1 : w.heap.size + 1 < W13.heap.size := b1.lt
          have l_b2 : w.heap.size + 1 + 1 < W13.heap.size := b2.lt
          have l_at1 : g1 < W13.heap.size := at1.lt
          go_region_held3 (fun w' => (∀ b o, b < W13.heap.size → w'.cell? ⟨b, o, none⟩ = W13.cell? ⟨b, o, none⟩) ∧ W13.heap.size ≤ w'.heap.size)
            (first | ((try dsimp only); exact ⟨fun b o h => (by (repeat (first | with_reducible exact rfl | (with_reducible refine (cell_drew_at _ _).trans ?_) | (with_reducible refine (cell_set_at _ _ (by first | omega | (simp; done) | (simp; omega))).trans ?_) | (with_reducible refine (cell_alloc_at _ _ (by first | omega | (simp; done) | (simp; omega))).trans ?_) | (with_reducible refine (hcwT1 b o (by first | omega | (simp; done) | (simp; omega))).trans ?_) | (with_reducible refine (hcwT2 b o (by first | omega | (simp; done) | (simp; omega))).trans ?_) | (with_reducible refine (hcwT3 b o (by first | omega | (simp; done) | (simp; omega))).trans ?_)))), (by first | omega | (simp; done) | (simp; omega))⟩) | fail)
            (first
              | (go_at_call 61; (with_reducible refine (l09Times_g (m2 + m4 + (m4 + m6)) (m3 + m5 + (m5 + m7)) 2 _ (by omega) (by omega)).mono ?_); rintro e wT1 ⟨rfl, hbwT1⟩; obtain ⟨hcwT1, hfwT1⟩ := bcell hbwT1; have hzwT1 := hbwT1.size; (try simp only [World.size_drew] at hcwT1 hfwT1 hzwT1); (try simp only [World.size_alloc] at hcwT1 hfwT1 hzwT1); (try have qqW13wT1 : W13.heap.size < wT1.heap.size := by omega); (try have qqwT2wT1 : wT2.heap.size < wT1.heap.size := by omega); (try have qqwT3wT1 : wT3.heap.size < wT1.heap.size := by omega))
              | (go_at_call 61; (with_reducible refine (l09Times_g (m4 + m6) (m5 + m7) 4 _ (by omega) (by omega)).mono ?_); rintro e wT2 ⟨rfl, hbwT2⟩; obtain ⟨hcwT2, hfwT2⟩ := bcell hbwT2; have hzwT2 := hbwT2.size; (try simp only [World.size_drew] at hcwT2 hfwT2 hzwT2); (try simp only [World.size_alloc] at hcwT2 hfwT2 hzwT2); (try have qqW13wT2 : W13.heap.size < wT2.heap.size := by omega); (try have qqwT1wT2 : wT1.heap.size < wT2.heap.size := by omega); (try have qqwT3wT2 : wT3.heap.size < wT2.heap.size := by omega))
              | (go_at_call 61; (with_reducible refine (l09Times_g (m6) (m7) 8 _ (by omega) (by omega)).mono ?_); rintro e wT3 ⟨rfl, hbwT3⟩; obtain ⟨hcwT3, hfwT3⟩ := bcell hbwT3; have hzwT3 := hbwT3.size; (try simp only [World.size_drew] at hcwT3 hfwT3 hzwT3); (try simp only [World.size_alloc] at hcwT3 hfwT3 hzwT3); (try have qqW13wT3 : W13.heap.size < wT3.heap.size := by omega); (try have qqwT1wT3 : wT1.heap.size < wT3.heap.size := by omega); (try have qqwT2wT3 : wT2.heap.size < wT3.heap.size := by omega)))
          all_goals
            (try clear hcwT1 hfwT1 hcwT2 hfwT2 hcwT3 hfwT3)
            go_wp2_with fail
            go_meet
            exact ⟨⟨_, rfl, by repeat' (first | with_reducible assumption | with_reducible exact AtL.new _ _ _ | ((with_reducible refine AtL.newAt ?_); (first | rfl | (simp; done))) | (with_reducible refine AtL.drew ?_) | (with_reducible apply AtL.store8) | (with_reducible refine AtL.alloc ?_ _) | (with_reducible refine AtL.far ?_ ?_ _ _) | (with_reducible refine AtL.below ?_ (by with_reducible assumption)) | omega | (simp; done) | (simp; omega)), by omega⟩, by repeat' (first | with_reducible assumption | (with_reducible refine Blk.drew ?_) | (with_reducible refine Blk.carry ?_ (by with_reducible assumption)) | (with_reducible refine Blk.alloc ?_ _) | (with_reducible refine Blk.far ?_ ?_ _) | omega | (simp; done) | (simp; omega)), by repeat' (first | with_reducible assumption | (with_reducible refine Blk.drew ?_) | (with_reducible refine Blk.carry ?_ (by with_reducible assumption)) | (with_reducible refine Blk.alloc ?_ _) | (with_reducible refine Blk.far ?_ ?_ _) | omega | (simp; done) | (simp; omega)), by repeat' (first | with_reducible assumption | with_reducible exact Below.refl _ _ | (with_reducible refine Below.setCell ?_ ?_ _) | (with_reducible refine Below.alloc ?_ ?_ _) | (with_reducible refine Below.drew ?_) | (with_reducible refine below_dr ?_ _) | (with_reducible refine Below.trans ?_ (Below.mono (by with_reducible assumption) ?_)) | omega | (simp; done) | (simp; omega)), by repeat' (first | with_reducible assumption | with_reducible exact AtL.new _ _ _ | ((with_reducible refine AtL.newAt ?_); (first | rfl | (simp; done))) | (with_reducible refine AtL.drew ?_) | (with_reducible apply AtL.store8) | (with_reducible refine AtL.alloc ?_ _) | (with_reducible refine AtL.far ?_ ?_ _ _) | (with_reducible refine AtL.below ?_ (by with_reducible assumption)) | omega | (simp; done) | (simp; omega))⟩
        case rest =>
          clear b0 b1 b2 cd bcd mid g0 zg
          obtain ⟨⟨g2, rfl, at2, pg2⟩, b1, b2, g0, at1⟩ := hcut
          obtain ⟨W14, hW⟩ : ∃ W : World, W = wc := ⟨_, rfl⟩
          subst hW
          have zg := g0.size
          have y_b10 : W14.cell? ⟨w.heap.size + 1, 0, none⟩ = some (.int .i64 0) := b1.cell 0 rfl
          have y_b11 : W14.cell? ⟨w.heap.size + 1, 1, none⟩ = some (.int .i64 0) := b1.cell 1 rfl
          have y_b12 : W14.cell? ⟨w.heap.size + 1, 2, none⟩ = some (.int .i64 0) := b1.cell 2 rfl
          have y_b13 : W14.cell? ⟨w.heap.size + 1, 3, none⟩ = some (.int .i64 0) := b1.cell 3 rfl
          have y_b14 : W14.cell? ⟨w.heap.size + 1, 4, none⟩ = some (.int .i64 0) := b1.cell 4 rfl
          have y_b15 : W14.cell? ⟨w.heap.size + 1, 5, none⟩ = some (.int .i64 0) := b1.cell 5 rfl
          have y_b16 : W14.cell? ⟨w.heap.size + 1, 6, none⟩ = some (.int .i64 0) := b1.cell 6 rfl
          have y_b17 : W14.cell? ⟨w.heap.size + 1, 7, none⟩ = some (.int .i64 0) := b1.cell 7 rfl
          have l_b1 : w.heap.size + 1 < W14.heap.size := b1.lt
          have f_b10 : W14.frozen? ⟨w.heap.size + 1, 0, none⟩ = false := b1.frozen 0
          have f_b11 : W14.frozen? ⟨w.heap.size + 1, 1, none⟩ = false := b1.frozen 1
          have f_b12 : W14.frozen? ⟨w.heap.size + 1, 2, none⟩ = false := b1.frozen 2
          have f_b13 : W14.frozen? ⟨w.heap.size + 1, 3, none⟩ = false := b1.frozen 3
          have f_b14 : W14.frozen? ⟨w.heap.size + 1, 4, none⟩ = false := b1.frozen 4
          have f_b15 : W14.frozen? ⟨w.heap.size + 1, 5, none⟩ = false := b1.frozen 5
          have f_b16 : W14.frozen? ⟨w.heap.size + 1, 6, none⟩ = false := b1.frozen 6
          have f_b17 : W14.frozen? ⟨w.heap.size + 1, 7, none⟩ = false := b1.frozen 7
          have y_b20 : W14.cell? ⟨w.heap.size + 1 + 1, 0, none⟩ = some (.int .i64 0) := b2.cell 0 rfl
          have y_b21 : W14.cell? ⟨w.heap.size + 1 + 1, 1, none⟩ = some (.int .i64 0) := b2.cell 1 rfl
          have y_b22 : W14.cell? ⟨w.heap.size + 1 + 1, 2, none⟩ = some (.int .i64 0) := b2.cell 2 rfl
          have y_b23 : W14.cell? ⟨w.heap.size + 1 + 1, 3, none⟩ = some (.int .i64 0) := b2.cell 3 rfl
          have y_b24 : W14.cell? ⟨w.heap.size + 1 + 1, 4, none⟩ = some (.int .i64 0) := b2.cell 4 rfl
          have y_b25 : W14.cell? ⟨w.heap.size + 1 + 1, 5, none⟩ = some (.int .i64 0) := b2.cell 5 rfl
          have y_b26 : W14.cell? ⟨w.heap.size + 1 + 1, 6, none⟩ = some (.int .i64 0) := b2.cell 6 rfl
          have y_b27 : W14.cell? ⟨w.heap.size + 1 + 1, 7, none⟩ = some (.int .i64 0) := b2.cell 7 rfl
          have l_b2 : w.heap.size + 1 + 1 < W14.heap.size := b2.lt
          have f_b20 : W14.frozen? ⟨w.heap.size + 1 + 1, 0, none⟩ = false := b2.frozen 0
          have f_b21 : W14.frozen? ⟨w.heap.size + 1 + 1, 1, none⟩ = false := b2.frozen 1
          have f_b22 : W14.frozen? ⟨w.heap.size + 1 + 1, 2, none⟩ = false := b2.frozen 2
          have f_b23 : W14.frozen? ⟨w.heap.size + 1 + 1, 3, none⟩ = false := b2.frozen 3
          have f_b24 : W14.frozen? ⟨w.heap.size + 1 + 1, 4, none⟩ = false := b2.frozen 4
          have f_b25 : W14.frozen? ⟨w.heap.size + 1 + 1, 5, none⟩ = false := b2.frozen 5
          have f_b26 : W14.frozen? ⟨w.heap.size + 1 + 1, 6, none⟩ = false := b2.frozen 6
          have f_b27 : W14.frozen? ⟨w.heap.size + 1 + 1, 7, none⟩ = false := b2.frozen 7
          have u0 : W14.cell? ⟨g1, 0, none⟩ = some (.int .i64 (m0 * 8)) := at1.cell 0 rfl
          have u1 : W14.cell? ⟨g1, 1, none⟩ = some (.int .i64 (m1 * 8)) := at1.cell 1 rfl
          have u2 : W14.cell? ⟨g1, 2, none⟩ = some (.int .i64 ((m0 + m2) * 4)) := at1.cell 2 rfl
          have u3 : W14.cell? ⟨g1, 3, none⟩ = some (.int .i64 ((m1 + m3) * 4)) := at1.cell 3 rfl
          have u4 : W14.cell? ⟨g1, 4, none⟩ = some (.int .i64 ((m0 + m2 + (m2 + m4)) * 2)) := at1.cell 4 rfl
          have u5 : W14.cell? ⟨g1, 5, none⟩ = some (.int .i64 ((m1 + m3 + (m3 + m5)) * 2)) := at1.cell 5 rfl
          have u6 : W14.cell? ⟨g1, 6, none⟩ = some (.int .i64 (m0 + m2 + (m2 + m4) + (m2 + m4 + (m4 + m6)))) := at1.cell 6 rfl
          have u7 : W14.cell? ⟨g1, 7, none⟩ = some (.int .i64 (m1 + m3 + (m3 + m5) + (m3 + m5 + (m5 + m7)))) := at1.cell 7 rfl
          have v0 : W14.cell? ⟨g2, 0, none⟩ = some (.int .i64 (m0 + m2 + (m2 + m4) + (m2 + m4 + (m4 + m6)))) := at2.cell 0 rfl
          have v1 : W14.cell? ⟨g2, 1, none⟩ = some (.int .i64 (m1 + m3 + (m3 + m5) + (m3 + m5 + (m5 + m7)))) := at2.cell 1 rfl
          have v2 : W14.cell? ⟨g2, 2, none⟩ = some (.int .i64 ((m2 + m4 + (m4 + m6)) * 2)) := at2.cell 2 rfl
          have v3 : W14.cell? ⟨g2, 3, none⟩ = some (.int .i64 ((m3 + m5 + (m5 + m7)) * 2)) := at2.cell 3 rfl
          have v4 : W14.cell? ⟨g2, 4, none⟩ = some (.int .i64 ((m4 + m6) * 4)) := at2.cell 4 rfl
          have v5 : W14.cell? ⟨g2, 5, none⟩ = some (.int .i64 ((m5 + m7) * 4)) := at2.cell 5 rfl
          have v6 : W14.cell? ⟨g2, 6, none⟩ = some (.int .i64 (m6 * 8)) := at2.cell 6 rfl
          have v7 : W14.cell? ⟨g2, 7, none⟩ = some (.int .i64 (m7 * 8)) := at2.cell 7 rfl
          have lu := at1.lt
          have lv := at2.lt
          have n1 : ¬ g1 = w.heap.size + 1 := by omega
          have n2 : ¬ g1 = w.heap.size + 1 + 1 := by omega
          have n3 : ¬ g2 = w.heap.size + 1 := by omega
          have n4 : ¬ g2 = w.heap.size + 1 + 1 := by omega
          go_wp2_with fail
          go_region
          go_wp2_with fail
          clear u0 v0 u1 v1 u2 v2 u3 v3 u4 v4 u5 v5 u6 v6 u7 v7
          refine bodyPost_ret (v := .tuple #[.agg #[.int .i64 (m0 * 8), .int .i64 (m1 * 8), .int .i64 ((m0 + m2) * 4), .int .i64 ((m1 + m3) * 4), .int .i64 ((m0 + m2 + (m2 + m4)) * 2), .int .i64 ((m1 + m3 + (m3 + m5)) * 2), .int .i64 (m0 + m2 + (m2 + m4) + (m2 + m4 + (m4 + m6))), .int .i64 (m1 + m3 + (m3 + m5) + (m3 + m5 + (m5 + m7)))], .agg #[.int .i64 (m0 + m2 + (m2 + m4) + (m2 + m4 + (m4 + m6))), .int .i64 (m1 + m3 + (m3 + m5) + (m3 + m5 + (m5 + m7))), .int .i64 ((m2 + m4 + (m4 + m6)) * 2), .int .i64 ((m3 + m5 + (m5 + m7)) * 2), .int .i64 ((m4 + m6) * 4), .int .i64 ((m5 + m7) * 4), .int .i64 (m6 * 8), .int .i64 (m7 * 8)], .int .i64 0]) (by simp [results, Try.results28, go_sem, *]) rfl (HvRet.t HV.out HH.out ?_)
          repeat' (first | with_reducible assumption | with_reducible exact Below.refl _ _ | (with_reducible refine Below.setCell ?_ ?_ _) | (with_reducible refine Below.alloc ?_ ?_ _) | (with_reducible refine Below.drew ?_) | (with_reducible refine below_dr ?_ _) | (with_reducible refine Below.trans ?_ (Below.mono (by with_reducible assumption) ?_)) | omega | (simp; done) | (simp; omega))
end Go.Proofs.Ytpfbgpefaegipaa
