/- Walks: HalvesOf, the program's side, whole. -/
import Derived.Test.YtpfbgpefaegipaaDd1
import Derived.Test.YtpfbgpefaegipaaDb1
import Derived.Test.YtpfbgpefaegipaaCj
namespace Go.Proofs.Ytpfbgpefaegipaa
open Go.RowKit
theorem mnI_in {a b : Int} (ha : -262144 ≤ a ∧ a ≤ 262144) (hb : -262144 ≤ b ∧ b ≤ 262144) : -262144 ≤ mnI a b ∧ mnI a b ≤ 262144 := by unfold mnI; omega
theorem mxI_in {a b : Int} (ha : -262144 ≤ a ∧ a ≤ 262144) (hb : -262144 ≤ b ∧ b ≤ 262144) : -262144 ≤ mxI a b ∧ mxI a b ≤ 262144 := by unfold mxI; omega
set_option maxRecDepth 100000 in
set_option maxHeartbeats 12800000 in
theorem implHalvesOf_any (m0 m1 m2 m3 m4 m5 m6 m7 : Int) (w : World) :
    Calls Try.prog 29 #[.agg #[.int .i64 m0, .int .i64 m1, .int .i64 m2, .int .i64 m3, .int .i64 m4, .int .i64 m5, .int .i64 m6, .int .i64 m7]] w (HvRet m0 m1 m2 m3 m4 m5 m6 m7 w) := by
  have CBD := Lib.hid (fun w => implBounds_any m0 m1 m2 m3 m4 m5 m6 m7 w)
  unfold BdRet bd0 bd1 bd2 bd3 bdC at CBD
  rcases hv : okC m0 m1 m2 m3 m4 m5 m6 m7 with _ | _
  case false =>
    simp only [hv, cond_false] at CBD
    have HV := Lib.hid hv
    clear hv
    go_enter Try.func29, Try.ntmps29
    go_wp2_with fail
    generalize hW : ((w.alloc (.cells #[.int .i64 m0, .int .i64 m1, .int .i64 m2, .int .i64 m3, .int .i64 m4, .int .i64 m5, .int .i64 m6, .int .i64 m7] 29)).alloc (.cells #[.int .i64 0, .int .i64 0, .int .i64 0, .int .i64 0, .int .i64 0, .int .i64 0, .int .i64 0, .int .i64 0] 29)).alloc (.cells #[.int .i64 0, .int .i64 0, .int .i64 0, .int .i64 0, .int .i64 0, .int .i64 0, .int .i64 0, .int .i64 0] 29) = W0
    have b0 : Blk W0 (w.heap.size) 29 #[.int .i64 m0, .int .i64 m1, .int .i64 m2, .int .i64 m3, .int .i64 m4, .int .i64 m5, .int .i64 m6, .int .i64 m7] := by rw [← hW]; exact ((Blk.new _ _ _).alloc _).alloc _
    have b1 : Blk W0 (w.heap.size + 1) 29 #[.int .i64 0, .int .i64 0, .int .i64 0, .int .i64 0, .int .i64 0, .int .i64 0, .int .i64 0, .int .i64 0] := by rw [← hW]; exact (Blk.newAt _ _ _ (by simp)).alloc _
    have b2 : Blk W0 (w.heap.size + 1 + 1) 29 #[.int .i64 0, .int .i64 0, .int .i64 0, .int .i64 0, .int .i64 0, .int .i64 0, .int .i64 0, .int .i64 0] := by rw [← hW]; exact Blk.newAt _ _ _ (by simp)
    have g0 : Below w.heap.size w W0 := by rw [← hW]; repeat' (first | with_reducible assumption | with_reducible exact Below.refl _ _ | (with_reducible refine Below.setCell ?_ ?_ _) | (with_reducible refine Below.alloc ?_ ?_ _) | (with_reducible refine Below.drew ?_) | (with_reducible refine below_dr ?_ _) | (with_reducible refine Below.trans ?_ (Below.mono (by with_reducible assumption) ?_)) | omega | (simp; done) | (simp; omega))
    clear hW
    refine (CBD.out _).mono ?_
    rintro e w1 ⟨rfl, hb1⟩
    replace b0 : Blk w1 (w.heap.size) 29 #[.int .i64 m0, .int .i64 m1, .int .i64 m2, .int .i64 m3, .int .i64 m4, .int .i64 m5, .int .i64 m6, .int .i64 m7] := by repeat' (first | with_reducible assumption | (with_reducible refine Blk.drew ?_) | (with_reducible refine Blk.carry ?_ (by with_reducible assumption)) | (with_reducible refine Blk.alloc ?_ _) | (with_reducible refine Blk.far ?_ ?_ _) | omega | (simp; done) | (simp; omega))
    replace b1 : Blk w1 (w.heap.size + 1) 29 #[.int .i64 0, .int .i64 0, .int .i64 0, .int .i64 0, .int .i64 0, .int .i64 0, .int .i64 0, .int .i64 0] := by repeat' (first | with_reducible assumption | (with_reducible refine Blk.drew ?_) | (with_reducible refine Blk.carry ?_ (by with_reducible assumption)) | (with_reducible refine Blk.alloc ?_ _) | (with_reducible refine Blk.far ?_ ?_ _) | omega | (simp; done) | (simp; omega))
    replace b2 : Blk w1 (w.heap.size + 1 + 1) 29 #[.int .i64 0, .int .i64 0, .int .i64 0, .int .i64 0, .int .i64 0, .int .i64 0, .int .i64 0, .int .i64 0] := by repeat' (first | with_reducible assumption | (with_reducible refine Blk.drew ?_) | (with_reducible refine Blk.carry ?_ (by with_reducible assumption)) | (with_reducible refine Blk.alloc ?_ _) | (with_reducible refine Blk.far ?_ ?_ _) | omega | (simp; done) | (simp; omega))
    have zz1 := hb1.size
    (try simp only [World.size_alloc] at zz1)
    have zg1 := g0.size
    replace g0 : Below w.heap.size w w1 := by repeat' (first | with_reducible assumption | with_reducible exact Below.refl _ _ | (with_reducible refine Below.setCell ?_ ?_ _) | (with_reducible refine Below.alloc ?_ ?_ _) | (with_reducible refine Below.drew ?_) | (with_reducible refine below_dr ?_ _) | (with_reducible refine Below.trans ?_ (Below.mono (by with_reducible assumption) ?_)) | omega | (simp; done) | (simp; omega))
    clear hb1 zz1 zg1
    have zg := g0.size
    go_upto_region 2 with fail
    generalize hW : (w1.alloc (.cells #[.int .i64 0, .int .i64 0] 27)).alloc (.cells #[.int .i64 0, .int .i64 0] 27) = W2
    replace b1 : Blk W2 (w.heap.size + 1) 29 #[.int .i64 0, .int .i64 0, .int .i64 0, .int .i64 0, .int .i64 0, .int .i64 0, .int .i64 0, .int .i64 0] := by rw [← hW]; repeat' (first | with_reducible assumption | (with_reducible refine Blk.drew ?_) | (with_reducible refine Blk.carry ?_ (by with_reducible assumption)) | (with_reducible refine Blk.alloc ?_ _) | (with_reducible refine Blk.far ?_ ?_ _) | omega | (simp; done) | (simp; omega))
    replace b2 : Blk W2 (w.heap.size + 1 + 1) 29 #[.int .i64 0, .int .i64 0, .int .i64 0, .int .i64 0, .int .i64 0, .int .i64 0, .int .i64 0, .int .i64 0] := by rw [← hW]; repeat' (first | with_reducible assumption | (with_reducible refine Blk.drew ?_) | (with_reducible refine Blk.carry ?_ (by with_reducible assumption)) | (with_reducible refine Blk.alloc ?_ _) | (with_reducible refine Blk.far ?_ ?_ _) | omega | (simp; done) | (simp; omega))
    replace g0 : Below w.heap.size w W2 := by rw [← hW]; repeat' (first | with_reducible assumption | with_reducible exact Below.refl _ _ | (with_reducible refine Below.setCell ?_ ?_ _) | (with_reducible refine Below.alloc ?_ ?_ _) | (with_reducible refine Below.drew ?_) | (with_reducible refine below_dr ?_ _) | (with_reducible refine Below.trans ?_ (Below.mono (by with_reducible assumption) ?_)) | omega | (simp; done) | (simp; omega))
    clear hW b0
    have y_b10 : W2.cell? ⟨w.heap.size + 1, 0, none⟩ = some (.int .i64 0) := b1.cell 0 rfl
    have y_b11 : W2.cell? ⟨w.heap.size + 1, 1, none⟩ = some (.int .i64 0) := b1.cell 1 rfl
    have y_b12 : W2.cell? ⟨w.heap.size + 1, 2, none⟩ = some (.int .i64 0) := b1.cell 2 rfl
    have y_b13 : W2.cell? ⟨w.heap.size + 1, 3, none⟩ = some (.int .i64 0) := b1.cell 3 rfl
    have y_b14 : W2.cell? ⟨w.heap.size + 1, 4, none⟩ = some (.int .i64 0) := b1.cell 4 rfl
    have y_b15 : W2.cell? ⟨w.heap.size + 1, 5, none⟩ = some (.int .i64 0) := b1.cell 5 rfl
    have y_b16 : W2.cell? ⟨w.heap.size + 1, 6, none⟩ = some (.int .i64 0) := b1.cell 6 rfl
    have y_b17 : W2.cell? ⟨w.heap.size + 1, 7, none⟩ = some (.int .i64 0) := b1.cell 7 rfl
    have l_b1 : w.heap.size + 1 < W2.heap.size := b1.lt
    have f_b10 : W2.frozen? ⟨w.heap.size + 1, 0, none⟩ = false := b1.frozen 0
    have f_b11 : W2.frozen? ⟨w.heap.size + 1, 1, none⟩ = false := b1.frozen 1
    have f_b12 : W2.frozen? ⟨w.heap.size + 1, 2, none⟩ = false := b1.frozen 2
    have f_b13 : W2.frozen? ⟨w.heap.size + 1, 3, none⟩ = false := b1.frozen 3
    have f_b14 : W2.frozen? ⟨w.heap.size + 1, 4, none⟩ = false := b1.frozen 4
    have f_b15 : W2.frozen? ⟨w.heap.size + 1, 5, none⟩ = false := b1.frozen 5
    have f_b16 : W2.frozen? ⟨w.heap.size + 1, 6, none⟩ = false := b1.frozen 6
    have f_b17 : W2.frozen? ⟨w.heap.size + 1, 7, none⟩ = false := b1.frozen 7
    have y_b20 : W2.cell? ⟨w.heap.size + 1 + 1, 0, none⟩ = some (.int .i64 0) := b2.cell 0 rfl
    have y_b21 : W2.cell? ⟨w.heap.size + 1 + 1, 1, none⟩ = some (.int .i64 0) := b2.cell 1 rfl
    have y_b22 : W2.cell? ⟨w.heap.size + 1 + 1, 2, none⟩ = some (.int .i64 0) := b2.cell 2 rfl
    have y_b23 : W2.cell? ⟨w.heap.size + 1 + 1, 3, none⟩ = some (.int .i64 0) := b2.cell 3 rfl
    have y_b24 : W2.cell? ⟨w.heap.size + 1 + 1, 4, none⟩ = some (.int .i64 0) := b2.cell 4 rfl
    have y_b25 : W2.cell? ⟨w.heap.size + 1 + 1, 5, none⟩ = some (.int .i64 0) := b2.cell 5 rfl
    have y_b26 : W2.cell? ⟨w.heap.size + 1 + 1, 6, none⟩ = some (.int .i64 0) := b2.cell 6 rfl
    have y_b27 : W2.cell? ⟨w.heap.size + 1 + 1, 7, none⟩ = some (.int .i64 0) := b2.cell 7 rfl
    have l_b2 : w.heap.size + 1 + 1 < W2.heap.size := b2.lt
    have f_b20 : W2.frozen? ⟨w.heap.size + 1 + 1, 0, none⟩ = false := b2.frozen 0
    have f_b21 : W2.frozen? ⟨w.heap.size + 1 + 1, 1, none⟩ = false := b2.frozen 1
    have f_b22 : W2.frozen? ⟨w.heap.size + 1 + 1, 2, none⟩ = false := b2.frozen 2
    have f_b23 : W2.frozen? ⟨w.heap.size + 1 + 1, 3, none⟩ = false := b2.frozen 3
    have f_b24 : W2.frozen? ⟨w.heap.size + 1 + 1, 4, none⟩ = false := b2.frozen 4
    have f_b25 : W2.frozen? ⟨w.heap.size + 1 + 1, 5, none⟩ = false := b2.frozen 5
    have f_b26 : W2.frozen? ⟨w.heap.size + 1 + 1, 6, none⟩ = false := b2.frozen 6
    have f_b27 : W2.frozen? ⟨w.heap.size + 1 + 1, 7, none⟩ = false := b2.frozen 7
    go_wp2_with fail
    refine bodyPost_ret (v := .tuple #[.agg #[.int .i64 0, .int .i64 0, .int .i64 0, .int .i64 0, .int .i64 0, .int .i64 0, .int .i64 0, .int .i64 0], .agg #[.int .i64 0, .int .i64 0, .int .i64 0, .int .i64 0, .int .i64 0, .int .i64 0, .int .i64 0, .int .i64 0], .int .i64 1]) (by simp [results, Try.results29, go_sem, *]) rfl (HvRet.f HV.out ?_)
    repeat' (first | with_reducible assumption | with_reducible exact Below.refl _ _ | (with_reducible refine Below.setCell ?_ ?_ _) | (with_reducible refine Below.alloc ?_ ?_ _) | (with_reducible refine Below.drew ?_) | (with_reducible refine below_dr ?_ _) | (with_reducible refine Below.trans ?_ (Below.mono (by with_reducible assumption) ?_)) | omega | (simp; done) | (simp; omega))
  simp only [hv, cond_true] at CBD
  have HV := Lib.hid hv
  have hv2 := hv
  unfold okC at hv2
  simp only [Bool.and_eq_true] at hv2
  obtain ⟨⟨⟨h0, h1⟩, h2⟩, h3⟩ := hv2
  obtain ⟨z01, z02, z03, z04⟩ := okB_bounds h0
  obtain ⟨z11, z12, z13, z14⟩ := okB_bounds h1
  obtain ⟨z21, z22, z23, z24⟩ := okB_bounds h2
  obtain ⟨z31, z32, z33, z34⟩ := okB_bounds h3
  have p1 := mnI_in (mnI_in (mnI_in ⟨z01, z02⟩ ⟨z11, z12⟩) ⟨z21, z22⟩) ⟨z31, z32⟩
  have p2 := mnI_in (mnI_in (mnI_in ⟨z03, z04⟩ ⟨z13, z14⟩) ⟨z23, z24⟩) ⟨z33, z34⟩
  have p3 := mxI_in (mxI_in (mxI_in ⟨z01, z02⟩ ⟨z11, z12⟩) ⟨z21, z22⟩) ⟨z31, z32⟩
  have p4 := mxI_in (mxI_in (mxI_in ⟨z03, z04⟩ ⟨z13, z14⟩) ⟨z23, z24⟩) ⟨z33, z34⟩
  have HBX := Lib.hid (okH_box m0 m1 m2 m3 m4 m5 m6 m7)
  have CP0 := Lib.hid (fun w => part0_any m0 m1 m2 m3 m4 m5 m6 m7 w hv)
  have CP1 := Lib.hid (fun w => part1_any m0 m1 m2 m3 m4 m5 m6 m7 w hv)
  clear hv h0 h1 h2 h3 z01 z02 z03 z04 z11 z12 z13 z14 z21 z22 z23 z24 z31 z32 z33 z34
  generalize (mnI (mnI (mnI m0 m2) m4) m6) = lx at *
  generalize (mnI (mnI (mnI m1 m3) m5) m7) = ly at *
  generalize (mxI (mxI (mxI m0 m2) m4) m6) = hx at *
  generalize (mxI (mxI (mxI m1 m3) m5) m7) = hy at *
  have CT1 := Lib.hid (fun w => times_g lx ly 8 w (by omega) (by omega))
  have CT2 := Lib.hid (fun w => times_g hx hy 8 w (by omega) (by omega))
  clear p1 p2 p3 p4
  go_enter Try.func29, Try.ntmps29
  go_wp2_with fail
  generalize hW : ((w.alloc (.cells #[.int .i64 m0, .int .i64 m1, .int .i64 m2, .int .i64 m3, .int .i64 m4, .int .i64 m5, .int .i64 m6, .int .i64 m7] 29)).alloc (.cells #[.int .i64 0, .int .i64 0, .int .i64 0, .int .i64 0, .int .i64 0, .int .i64 0, .int .i64 0, .int .i64 0] 29)).alloc (.cells #[.int .i64 0, .int .i64 0, .int .i64 0, .int .i64 0, .int .i64 0, .int .i64 0, .int .i64 0, .int .i64 0] 29) = W0
  have b0 : Blk W0 (w.heap.size) 29 #[.int .i64 m0, .int .i64 m1, .int .i64 m2, .int .i64 m3, .int .i64 m4, .int .i64 m5, .int .i64 m6, .int .i64 m7] := by rw [← hW]; exact ((Blk.new _ _ _).alloc _).alloc _
  have b1 : Blk W0 (w.heap.size + 1) 29 #[.int .i64 0, .int .i64 0, .int .i64 0, .int .i64 0, .int .i64 0, .int .i64 0, .int .i64 0, .int .i64 0] := by rw [← hW]; exact (Blk.newAt _ _ _ (by simp)).alloc _
  have b2 : Blk W0 (w.heap.size + 1 + 1) 29 #[.int .i64 0, .int .i64 0, .int .i64 0, .int .i64 0, .int .i64 0, .int .i64 0, .int .i64 0, .int .i64 0] := by rw [← hW]; exact Blk.newAt _ _ _ (by simp)
  have g0 : Below w.heap.size w W0 := by rw [← hW]; repeat' (first | with_reducible assumption | with_reducible exact Below.refl _ _ | (with_reducible refine Below.setCell ?_ ?_ _) | (with_reducible refine Below.alloc ?_ ?_ _) | (with_reducible refine Below.drew ?_) | (with_reducible refine below_dr ?_ _) | (with_reducible refine Below.trans ?_ (Below.mono (by with_reducible assumption) ?_)) | omega | (simp; done) | (simp; omega))
  clear hW
  refine (CBD.out _).mono ?_
  rintro e w1 ⟨rfl, hb1⟩
  replace b0 : Blk w1 (w.heap.size) 29 #[.int .i64 m0, .int .i64 m1, .int .i64 m2, .int .i64 m3, .int .i64 m4, .int .i64 m5, .int .i64 m6, .int .i64 m7] := by repeat' (first | with_reducible assumption | (with_reducible refine Blk.drew ?_) | (with_reducible refine Blk.carry ?_ (by with_reducible assumption)) | (with_reducible refine Blk.alloc ?_ _) | (with_reducible refine Blk.far ?_ ?_ _) | omega | (simp; done) | (simp; omega))
  replace b1 : Blk w1 (w.heap.size + 1) 29 #[.int .i64 0, .int .i64 0, .int .i64 0, .int .i64 0, .int .i64 0, .int .i64 0, .int .i64 0, .int .i64 0] := by repeat' (first | with_reducible assumption | (with_reducible refine Blk.drew ?_) | (with_reducible refine Blk.carry ?_ (by with_reducible assumption)) | (with_reducible refine Blk.alloc ?_ _) | (with_reducible refine Blk.far ?_ ?_ _) | omega | (simp; done) | (simp; omega))
  replace b2 : Blk w1 (w.heap.size + 1 + 1) 29 #[.int .i64 0, .int .i64 0, .int .i64 0, .int .i64 0, .int .i64 0, .int .i64 0, .int .i64 0, .int .i64 0] := by repeat' (first | with_reducible assumption | (with_reducible refine Blk.drew ?_) | (with_reducible refine Blk.carry ?_ (by with_reducible assumption)) | (with_reducible refine Blk.alloc ?_ _) | (with_reducible refine Blk.far ?_ ?_ _) | omega | (simp; done) | (simp; omega))
  have zz1 := hb1.size
  (try simp only [World.size_alloc] at zz1)
  have zg1 := g0.size
  replace g0 : Below w.heap.size w w1 := by repeat' (first | with_reducible assumption | with_reducible exact Below.refl _ _ | (with_reducible refine Below.setCell ?_ ?_ _) | (with_reducible refine Below.alloc ?_ ?_ _) | (with_reducible refine Below.drew ?_) | (with_reducible refine below_dr ?_ _) | (with_reducible refine Below.trans ?_ (Below.mono (by with_reducible assumption) ?_)) | omega | (simp; done) | (simp; omega))
  clear hb1 zz1 zg1
  have zg := g0.size
  go_upto_region 4 with fail
  generalize hW : (w1.alloc (.cells #[.int .i64 lx, .int .i64 ly] 27)).alloc (.cells #[.int .i64 hx, .int .i64 hy] 27) = W2
  replace b0 : Blk W2 (w.heap.size) 29 #[.int .i64 m0, .int .i64 m1, .int .i64 m2, .int .i64 m3, .int .i64 m4, .int .i64 m5, .int .i64 m6, .int .i64 m7] := by rw [← hW]; repeat' (first | with_reducible assumption | (with_reducible refine Blk.drew ?_) | (with_reducible refine Blk.carry ?_ (by with_reducible assumption)) | (with_reducible refine Blk.alloc ?_ _) | (with_reducible refine Blk.far ?_ ?_ _) | omega | (simp; done) | (simp; omega))
  replace b1 : Blk W2 (w.heap.size + 1) 29 #[.int .i64 0, .int .i64 0, .int .i64 0, .int .i64 0, .int .i64 0, .int .i64 0, .int .i64 0, .int .i64 0] := by rw [← hW]; repeat' (first | with_reducible assumption | (with_reducible refine Blk.drew ?_) | (with_reducible refine Blk.carry ?_ (by with_reducible assumption)) | (with_reducible refine Blk.alloc ?_ _) | (with_reducible refine Blk.far ?_ ?_ _) | omega | (simp; done) | (simp; omega))
  replace b2 : Blk W2 (w.heap.size + 1 + 1) 29 #[.int .i64 0, .int .i64 0, .int .i64 0, .int .i64 0, .int .i64 0, .int .i64 0, .int .i64 0, .int .i64 0] := by rw [← hW]; repeat' (first | with_reducible assumption | (with_reducible refine Blk.drew ?_) | (with_reducible refine Blk.carry ?_ (by with_reducible assumption)) | (with_reducible refine Blk.alloc ?_ _) | (with_reducible refine Blk.far ?_ ?_ _) | omega | (simp; done) | (simp; omega))
  have bl : Blk W2 (w1.heap.size) 27 #[.int .i64 lx, .int .i64 ly] := by rw [← hW]; exact (Blk.new _ _ _).alloc _
  have bh : Blk W2 (w1.heap.size + 1) 27 #[.int .i64 hx, .int .i64 hy] := by rw [← hW]; exact Blk.newAt _ _ _ (by simp)
  replace g0 : Below w.heap.size w W2 := by rw [← hW]; repeat' (first | with_reducible assumption | with_reducible exact Below.refl _ _ | (with_reducible refine Below.setCell ?_ ?_ _) | (with_reducible refine Below.alloc ?_ ?_ _) | (with_reducible refine Below.drew ?_) | (with_reducible refine below_dr ?_ _) | (with_reducible refine Below.trans ?_ (Below.mono (by with_reducible assumption) ?_)) | omega | (simp; done) | (simp; omega))
  replace zg := g0.size
  clear hW
  go_cut [26] (fun sA wx => sA = .bool (!okH m0 m1 m2 m3 m4 m5 m6 m7) ∧ Blk wx (w.heap.size) 29 #[.int .i64 m0, .int .i64 m1, .int .i64 m2, .int .i64 m3, .int .i64 m4, .int .i64 m5, .int .i64 m6, .int .i64 m7] ∧ Blk wx (w.heap.size + 1) 29 #[.int .i64 0, .int .i64 0, .int .i64 0, .int .i64 0, .int .i64 0, .int .i64 0, .int .i64 0, .int .i64 0] ∧ Blk wx (w.heap.size + 1 + 1) 29 #[.int .i64 0, .int .i64 0, .int .i64 0, .int .i64 0, .int .i64 0, .int .i64 0, .int .i64 0, .int .i64 0] ∧ Below w.heap.size w wx)
  case first =>
    have y_bl0 : W2.cell? ⟨w1.heap.size, 0, none⟩ = some (.int .i64 lx) := bl.cell 0 rfl
    have y_bl1 : W2.cell? ⟨w1.heap.size, 1, none⟩ = some (.int .i64 ly) := bl.cell 1 rfl
    have l_bl : w1.heap.size < W2.heap.size := bl.lt
    have y_bh0 : W2.cell? ⟨w1.heap.size + 1, 0, none⟩ = some (.int .i64 hx) := bh.cell 0 rfl
    have y_bh1 : W2.cell? ⟨w1.heap.size + 1, 1, none⟩ = some (.int .i64 hy) := bh.cell 1 rfl
    have l_bh : w1.heap.size + 1 < W2.heap.size := bh.lt
    have l_b0 := b0.lt
    have l_b1 := b1.lt
    have l_b2 := b2.lt
    go_region_held3 (fun w' => (∀ b o, b < W2.heap.size → w'.cell? ⟨b, o, none⟩ = W2.cell? ⟨b, o, none⟩) ∧ W2.heap.size ≤ w'.heap.size)
      (first | ((try dsimp only); exact ⟨fun b o h => (by (repeat (first | with_reducible exact rfl | (with_reducible refine (cell_drew_at _ _).trans ?_) | (with_reducible refine (cell_set_at _ _ (by first | omega | (simp; done) | (simp; omega))).trans ?_) | (with_reducible refine (cell_alloc_at _ _ (by first | omega | (simp; done) | (simp; omega))).trans ?_) | (with_reducible refine (hcwT1 b o (by first | omega | (simp; done) | (simp; omega))).trans ?_) | (with_reducible refine (hcwT2 b o (by first | omega | (simp; done) | (simp; omega))).trans ?_) | (with_reducible refine (hcwV b o (by first | omega | (simp; done) | (simp; omega))).trans ?_)))), (by first | omega | (simp; done) | (simp; omega))⟩) | fail)
      (first
        | (go_at_call 63; (with_reducible refine (CT1.out _).mono ?_); rintro e wT1 ⟨rfl, hbwT1⟩; obtain ⟨hcwT1, hfwT1⟩ := bcell hbwT1; have hzwT1 := hbwT1.size; (try simp only [World.size_drew] at hcwT1 hfwT1 hzwT1))
        | (go_at_call 63; (with_reducible refine (CT2.out _).mono ?_); rintro e wT2 ⟨rfl, hbwT2⟩; obtain ⟨hcwT2, hfwT2⟩ := bcell hbwT2; have hzwT2 := hbwT2.size; (try simp only [World.size_drew] at hcwT2 hfwT2 hzwT2))
        | (go_at_call 53; (with_reducible refine (valid2 (8 * lx) (8 * ly) (8 * hx) (8 * hy) _ _ ?_ ?_ ?_ ?_ ?_).mono ?_); (focus (first | (simp; done) | (simp; omega))); (focus (simp [go_sem]; done)); (focus (simp [go_sem]; done)); (focus (simp [go_sem]; done)); (focus (simp [go_sem]; done)); rw [HBX.out]; rintro e wV ⟨rfl, hbwV⟩; obtain ⟨hcwV, hfwV⟩ := bcell hbwV; have hzwV := hbwV.size; (try simp only [World.size_drew] at hcwV hfwV hzwV); (try simp only [World.size_alloc] at hcwV hfwV hzwV)))
    all_goals
      (try clear hcwT1 hfwT1 hcwT2 hfwT2 hcwV hfwV)
      go_wp2_with fail
      go_meet
      exact ⟨rfl, by repeat' (first | with_reducible assumption | (with_reducible refine Blk.drew ?_) | (with_reducible refine Blk.carry ?_ (by with_reducible assumption)) | (with_reducible refine Blk.alloc ?_ _) | (with_reducible refine Blk.far ?_ ?_ _) | omega | (simp; done) | (simp; omega)), by repeat' (first | with_reducible assumption | (with_reducible refine Blk.drew ?_) | (with_reducible refine Blk.carry ?_ (by with_reducible assumption)) | (with_reducible refine Blk.alloc ?_ _) | (with_reducible refine Blk.far ?_ ?_ _) | omega | (simp; done) | (simp; omega)), by repeat' (first | with_reducible assumption | (with_reducible refine Blk.drew ?_) | (with_reducible refine Blk.carry ?_ (by with_reducible assumption)) | (with_reducible refine Blk.alloc ?_ _) | (with_reducible refine Blk.far ?_ ?_ _) | omega | (simp; done) | (simp; omega)), by repeat' (first | with_reducible assumption | with_reducible exact Below.refl _ _ | (with_reducible refine Below.setCell ?_ ?_ _) | (with_reducible refine Below.alloc ?_ ?_ _) | (with_reducible refine Below.drew ?_) | (with_reducible refine below_dr ?_ _) | (with_reducible refine Below.trans ?_ (Below.mono (by with_reducible assumption) ?_)) | omega | (simp; done) | (simp; omega))⟩
  case rest =>
    clear b0 b1 b2 bl bh g0 zg
    obtain ⟨rfl, b0, b1, b2, g0⟩ := hcut
    obtain ⟨W3, hW⟩ : ∃ W : World, W = wc := ⟨_, rfl⟩
    subst hW
    have zg := g0.size
    rcases hq : okH m0 m1 m2 m3 m4 m5 m6 m7 with _ | _
    case false =>
      have HQ := Lib.hid hq
      clear hq
      have y_b10 : W3.cell? ⟨w.heap.size + 1, 0, none⟩ = some (.int .i64 0) := b1.cell 0 rfl
      have y_b11 : W3.cell? ⟨w.heap.size + 1, 1, none⟩ = some (.int .i64 0) := b1.cell 1 rfl
      have y_b12 : W3.cell? ⟨w.heap.size + 1, 2, none⟩ = some (.int .i64 0) := b1.cell 2 rfl
      have y_b13 : W3.cell? ⟨w.heap.size + 1, 3, none⟩ = some (.int .i64 0) := b1.cell 3 rfl
      have y_b14 : W3.cell? ⟨w.heap.size + 1, 4, none⟩ = some (.int .i64 0) := b1.cell 4 rfl
      have y_b15 : W3.cell? ⟨w.heap.size + 1, 5, none⟩ = some (.int .i64 0) := b1.cell 5 rfl
      have y_b16 : W3.cell? ⟨w.heap.size + 1, 6, none⟩ = some (.int .i64 0) := b1.cell 6 rfl
      have y_b17 : W3.cell? ⟨w.heap.size + 1, 7, none⟩ = some (.int .i64 0) := b1.cell 7 rfl
      have l_b1 : w.heap.size + 1 < W3.heap.size := b1.lt
      have f_b10 : W3.frozen? ⟨w.heap.size + 1, 0, none⟩ = false := b1.frozen 0
      have f_b11 : W3.frozen? ⟨w.heap.size + 1, 1, none⟩ = false := b1.frozen 1
      have f_b12 : W3.frozen? ⟨w.heap.size + 1, 2, none⟩ = false := b1.frozen 2
      have f_b13 : W3.frozen? ⟨w.heap.size + 1, 3, none⟩ = false := b1.frozen 3
      have f_b14 : W3.frozen? ⟨w.heap.size + 1, 4, none⟩ = false := b1.frozen 4
      have f_b15 : W3.frozen? ⟨w.heap.size + 1, 5, none⟩ = false := b1.frozen 5
      have f_b16 : W3.frozen? ⟨w.heap.size + 1, 6, none⟩ = false := b1.frozen 6
      have f_b17 : W3.frozen? ⟨w.heap.size + 1, 7, none⟩ = false := b1.frozen 7
      have y_b20 : W3.cell? ⟨w.heap.size + 1 + 1, 0, none⟩ = some (.int .i64 0) := b2.cell 0 rfl
      have y_b21 : W3.cell? ⟨w.heap.size + 1 + 1, 1, none⟩ = some (.int .i64 0) := b2.cell 1 rfl
      have y_b22 : W3.cell? ⟨w.heap.size + 1 + 1, 2, none⟩ = some (.int .i64 0) := b2.cell 2 rfl
      have y_b23 : W3.cell? ⟨w.heap.size + 1 + 1, 3, none⟩ = some (.int .i64 0) := b2.cell 3 rfl
      have y_b24 : W3.cell? ⟨w.heap.size + 1 + 1, 4, none⟩ = some (.int .i64 0) := b2.cell 4 rfl
      have y_b25 : W3.cell? ⟨w.heap.size + 1 + 1, 5, none⟩ = some (.int .i64 0) := b2.cell 5 rfl
      have y_b26 : W3.cell? ⟨w.heap.size + 1 + 1, 6, none⟩ = some (.int .i64 0) := b2.cell 6 rfl
      have y_b27 : W3.cell? ⟨w.heap.size + 1 + 1, 7, none⟩ = some (.int .i64 0) := b2.cell 7 rfl
      have l_b2 : w.heap.size + 1 + 1 < W3.heap.size := b2.lt
      have f_b20 : W3.frozen? ⟨w.heap.size + 1 + 1, 0, none⟩ = false := b2.frozen 0
      have f_b21 : W3.frozen? ⟨w.heap.size + 1 + 1, 1, none⟩ = false := b2.frozen 1
      have f_b22 : W3.frozen? ⟨w.heap.size + 1 + 1, 2, none⟩ = false := b2.frozen 2
      have f_b23 : W3.frozen? ⟨w.heap.size + 1 + 1, 3, none⟩ = false := b2.frozen 3
      have f_b24 : W3.frozen? ⟨w.heap.size + 1 + 1, 4, none⟩ = false := b2.frozen 4
      have f_b25 : W3.frozen? ⟨w.heap.size + 1 + 1, 5, none⟩ = false := b2.frozen 5
      have f_b26 : W3.frozen? ⟨w.heap.size + 1 + 1, 6, none⟩ = false := b2.frozen 6
      have f_b27 : W3.frozen? ⟨w.heap.size + 1 + 1, 7, none⟩ = false := b2.frozen 7
      go_wp2_with fail
      refine bodyPost_ret (v := .tuple #[.agg #[.int .i64 0, .int .i64 0, .int .i64 0, .int .i64 0, .int .i64 0, .int .i64 0, .int .i64 0, .int .i64 0], .agg #[.int .i64 0, .int .i64 0, .int .i64 0, .int .i64 0, .int .i64 0, .int .i64 0, .int .i64 0, .int .i64 0], .int .i64 2]) (by simp [results, Try.results29, go_sem, *]) rfl (HvRet.r HV.out HQ.out ?_)
      repeat' (first | with_reducible assumption | with_reducible exact Below.refl _ _ | (with_reducible refine Below.setCell ?_ ?_ _) | (with_reducible refine Below.alloc ?_ ?_ _) | (with_reducible refine Below.drew ?_) | (with_reducible refine below_dr ?_ _) | (with_reducible refine Below.trans ?_ (Below.mono (by with_reducible assumption) ?_)) | omega | (simp; done) | (simp; omega))
    have HQ := Lib.hid hq
    clear hq
    have y_b00 : W3.cell? ⟨w.heap.size, 0, none⟩ = some (.int .i64 m0) := b0.cell 0 rfl
    have y_b01 : W3.cell? ⟨w.heap.size, 1, none⟩ = some (.int .i64 m1) := b0.cell 1 rfl
    have y_b02 : W3.cell? ⟨w.heap.size, 2, none⟩ = some (.int .i64 m2) := b0.cell 2 rfl
    have y_b03 : W3.cell? ⟨w.heap.size, 3, none⟩ = some (.int .i64 m3) := b0.cell 3 rfl
    have y_b04 : W3.cell? ⟨w.heap.size, 4, none⟩ = some (.int .i64 m4) := b0.cell 4 rfl
    have y_b05 : W3.cell? ⟨w.heap.size, 5, none⟩ = some (.int .i64 m5) := b0.cell 5 rfl
    have y_b06 : W3.cell? ⟨w.heap.size, 6, none⟩ = some (.int .i64 m6) := b0.cell 6 rfl
    have y_b07 : W3.cell? ⟨w.heap.size, 7, none⟩ = some (.int .i64 m7) := b0.cell 7 rfl
    have l_b0 : w.heap.size < W3.heap.size := b0.lt
    go_wp2_with fail
    clear y_b00 y_b01 y_b02 y_b03 y_b04 y_b05 y_b06 y_b07 l_b0
    refine (bezier4_any m0 m1 m2 m3 m4 m5 m6 m7 _).mono ?_
    rintro e w4 ⟨rfl, hb4⟩
    replace b0 : Blk w4 (w.heap.size) 29 #[.int .i64 m0, .int .i64 m1, .int .i64 m2, .int .i64 m3, .int .i64 m4, .int .i64 m5, .int .i64 m6, .int .i64 m7] := by repeat' (first | with_reducible assumption | (with_reducible refine Blk.drew ?_) | (with_reducible refine Blk.carry ?_ (by with_reducible assumption)) | (with_reducible refine Blk.alloc ?_ _) | (with_reducible refine Blk.far ?_ ?_ _) | omega | (simp; done) | (simp; omega))
    replace b1 : Blk w4 (w.heap.size + 1) 29 #[.int .i64 0, .int .i64 0, .int .i64 0, .int .i64 0, .int .i64 0, .int .i64 0, .int .i64 0, .int .i64 0] := by repeat' (first | with_reducible assumption | (with_reducible refine Blk.drew ?_) | (with_reducible refine Blk.carry ?_ (by with_reducible assumption)) | (with_reducible refine Blk.alloc ?_ _) | (with_reducible refine Blk.far ?_ ?_ _) | omega | (simp; done) | (simp; omega))
    replace b2 : Blk w4 (w.heap.size + 1 + 1) 29 #[.int .i64 0, .int .i64 0, .int .i64 0, .int .i64 0, .int .i64 0, .int .i64 0, .int .i64 0, .int .i64 0] := by repeat' (first | with_reducible assumption | (with_reducible refine Blk.drew ?_) | (with_reducible refine Blk.carry ?_ (by with_reducible assumption)) | (with_reducible refine Blk.alloc ?_ _) | (with_reducible refine Blk.far ?_ ?_ _) | omega | (simp; done) | (simp; omega))
    have zz4 := hb4.size
    (try simp only [World.size_alloc] at zz4)
    have zg4 := g0.size
    replace g0 : Below w.heap.size w w4 := by repeat' (first | with_reducible assumption | with_reducible exact Below.refl _ _ | (with_reducible refine Below.setCell ?_ ?_ _) | (with_reducible refine Below.alloc ?_ ?_ _) | (with_reducible refine Below.drew ?_) | (with_reducible refine below_dr ?_ _) | (with_reducible refine Below.trans ?_ (Below.mono (by with_reducible assumption) ?_)) | omega | (simp; done) | (simp; omega))
    clear hb4 zz4 zg4
    have zg := g0.size
    have l24 : w.heap.size + 1 + 1 < w4.heap.size := b2.lt
    go_upto_region 7 with fail
    generalize hW : w4.alloc (.cells #[.int .i64 m0, .int .i64 m1, .int .i64 m2, .int .i64 m3, .int .i64 m4, .int .i64 m5, .int .i64 m6, .int .i64 m7] 97) = W5
    replace b0 : Blk W5 (w.heap.size) 29 #[.int .i64 m0, .int .i64 m1, .int .i64 m2, .int .i64 m3, .int .i64 m4, .int .i64 m5, .int .i64 m6, .int .i64 m7] := by rw [← hW]; repeat' (first | with_reducible assumption | (with_reducible refine Blk.drew ?_) | (with_reducible refine Blk.carry ?_ (by with_reducible assumption)) | (with_reducible refine Blk.alloc ?_ _) | (with_reducible refine Blk.far ?_ ?_ _) | omega | (simp; done) | (simp; omega))
    replace b1 : Blk W5 (w.heap.size + 1) 29 #[.int .i64 0, .int .i64 0, .int .i64 0, .int .i64 0, .int .i64 0, .int .i64 0, .int .i64 0, .int .i64 0] := by rw [← hW]; repeat' (first | with_reducible assumption | (with_reducible refine Blk.drew ?_) | (with_reducible refine Blk.carry ?_ (by with_reducible assumption)) | (with_reducible refine Blk.alloc ?_ _) | (with_reducible refine Blk.far ?_ ?_ _) | omega | (simp; done) | (simp; omega))
    replace b2 : Blk W5 (w.heap.size + 1 + 1) 29 #[.int .i64 0, .int .i64 0, .int .i64 0, .int .i64 0, .int .i64 0, .int .i64 0, .int .i64 0, .int .i64 0] := by rw [← hW]; repeat' (first | with_reducible assumption | (with_reducible refine Blk.drew ?_) | (with_reducible refine Blk.carry ?_ (by with_reducible assumption)) | (with_reducible refine Blk.alloc ?_ _) | (with_reducible refine Blk.far ?_ ?_ _) | omega | (simp; done) | (simp; omega))
    have bz : Blk W5 (w4.heap.size) 97 #[.int .i64 m0, .int .i64 m1, .int .i64 m2, .int .i64 m3, .int .i64 m4, .int .i64 m5, .int .i64 m6, .int .i64 m7] := by rw [← hW]; exact Blk.new _ _ _
    replace g0 : Below w.heap.size w W5 := by rw [← hW]; repeat' (first | with_reducible assumption | with_reducible exact Below.refl _ _ | (with_reducible refine Below.setCell ?_ ?_ _) | (with_reducible refine Below.alloc ?_ ?_ _) | (with_reducible refine Below.drew ?_) | (with_reducible refine below_dr ?_ _) | (with_reducible refine Below.trans ?_ (Below.mono (by with_reducible assumption) ?_)) | omega | (simp; done) | (simp; omega))
    replace zg := g0.size
    clear hW b0
    have y_bz0 : W5.cell? ⟨w4.heap.size, 0, none⟩ = some (.int .i64 m0) := bz.cell 0 rfl
    have y_bz1 : W5.cell? ⟨w4.heap.size, 1, none⟩ = some (.int .i64 m1) := bz.cell 1 rfl
    have y_bz2 : W5.cell? ⟨w4.heap.size, 2, none⟩ = some (.int .i64 m2) := bz.cell 2 rfl
    have y_bz3 : W5.cell? ⟨w4.heap.size, 3, none⟩ = some (.int .i64 m3) := bz.cell 3 rfl
    have y_bz4 : W5.cell? ⟨w4.heap.size, 4, none⟩ = some (.int .i64 m4) := bz.cell 4 rfl
    have y_bz5 : W5.cell? ⟨w4.heap.size, 5, none⟩ = some (.int .i64 m5) := bz.cell 5 rfl
    have y_bz6 : W5.cell? ⟨w4.heap.size, 6, none⟩ = some (.int .i64 m6) := bz.cell 6 rfl
    have y_bz7 : W5.cell? ⟨w4.heap.size, 7, none⟩ = some (.int .i64 m7) := bz.cell 7 rfl
    have l_bz : w4.heap.size < W5.heap.size := bz.lt
    have l_b1 := b1.lt
    have l_b2 := b2.lt
    go_region_held3 (fun w' => (∀ o, w'.cell? ⟨w4.heap.size, o, none⟩ = W5.cell? ⟨w4.heap.size, o, none⟩) ∧ W5.heap.size ≤ w'.heap.size)
      (first | ((try dsimp only); exact ⟨fun o => (by (repeat (first | with_reducible exact rfl | (with_reducible refine (cell_drew_at _ _).trans ?_) | (with_reducible refine (World.cell?_setCell_other _ _ _ _ (fun e => by injection e with e; omega)).trans ?_) | (with_reducible refine (cell_alloc_at _ _ (by first | omega | (simp; done) | (simp; omega))).trans ?_) | (with_reducible refine (hcwP0 _ o (by first | omega | (simp; done) | (simp; omega))).trans ?_) | (with_reducible refine (hcwP1 _ o (by first | omega | (simp; done) | (simp; omega))).trans ?_) | (with_reducible refine (hcwQ0 _ o (by first | omega | (simp; done) | (simp; omega))).trans ?_) | (with_reducible refine (hcwQ1 _ o (by first | omega | (simp; done) | (simp; omega))).trans ?_)))), (by first | omega | (simp; done) | (simp; omega))⟩) | fail)
      (first
        | (go_at_call 66; (with_reducible refine (CP0.out _).mono ?_); rintro e wP0 ⟨rfl, hbwP0⟩; obtain ⟨hcwP0, hfwP0⟩ := bcell hbwP0; have hzwP0 := hbwP0.size; (try simp only [World.size_drew] at hcwP0 hfwP0 hzwP0); have k1wP0 : Blk wP0 (w.heap.size + 1) 29 #[.int .i64 0, .int .i64 0, .int .i64 0, .int .i64 0, .int .i64 0, .int .i64 0, .int .i64 0, .int .i64 0] := (by repeat' (first | with_reducible assumption | (with_reducible refine Blk.drew ?_) | (with_reducible refine Blk.carry ?_ (by with_reducible assumption)) | (with_reducible refine Blk.alloc ?_ _) | (with_reducible refine Blk.far ?_ ?_ _) | omega | (simp; done) | (simp; omega))); have k2wP0 : Blk wP0 (w.heap.size + 1 + 1) 29 #[.int .i64 0, .int .i64 0, .int .i64 0, .int .i64 0, .int .i64 0, .int .i64 0, .int .i64 0, .int .i64 0] := (by repeat' (first | with_reducible assumption | (with_reducible refine Blk.drew ?_) | (with_reducible refine Blk.carry ?_ (by with_reducible assumption)) | (with_reducible refine Blk.alloc ?_ _) | (with_reducible refine Blk.far ?_ ?_ _) | omega | (simp; done) | (simp; omega))))
        | (go_at_call 66; (with_reducible refine (CP1.out _).mono ?_); rintro e wP1 ⟨rfl, hbwP1⟩; obtain ⟨hcwP1, hfwP1⟩ := bcell hbwP1; have hzwP1 := hbwP1.size; (try simp only [World.size_drew] at hcwP1 hfwP1 hzwP1); have k1wP1 : Blk wP1 (w.heap.size + 1) 29 #[.int .i64 0, .int .i64 0, .int .i64 0, .int .i64 0, .int .i64 0, .int .i64 0, .int .i64 0, .int .i64 0] := (by repeat' (first | with_reducible assumption | (with_reducible refine Blk.drew ?_) | (with_reducible refine Blk.carry ?_ (by with_reducible assumption)) | (with_reducible refine Blk.alloc ?_ _) | (with_reducible refine Blk.far ?_ ?_ _) | omega | (simp; done) | (simp; omega))); have k2wP1 : Blk wP1 (w.heap.size + 1 + 1) 29 #[.int .i64 0, .int .i64 0, .int .i64 0, .int .i64 0, .int .i64 0, .int .i64 0, .int .i64 0, .int .i64 0] := (by repeat' (first | with_reducible assumption | (with_reducible refine Blk.drew ?_) | (with_reducible refine Blk.carry ?_ (by with_reducible assumption)) | (with_reducible refine Blk.alloc ?_ _) | (with_reducible refine Blk.far ?_ ?_ _) | omega | (simp; done) | (simp; omega))))
        | (go_at_call 65; (with_reducible refine (cubicOf_any (m0 * 8) (m1 * 8) ((m0 + m2) * 4) ((m1 + m3) * 4) ((m0 + m2 + (m2 + m4)) * 2) ((m1 + m3 + (m3 + m5)) * 2) (m0 + m2 + (m2 + m4) + (m2 + m4 + (m4 + m6))) (m1 + m3 + (m3 + m5) + (m3 + m5 + (m5 + m7))) _).mono ?_); rintro e wQ0 ⟨rfl, hbwQ0⟩; obtain ⟨hcwQ0, hfwQ0⟩ := bcell hbwQ0; have hzwQ0 := hbwQ0.size; (try simp only [World.size_drew] at hcwQ0 hfwQ0 hzwQ0); have k1wQ0 : Blk wQ0 (w.heap.size + 1) 29 #[.int .i64 0, .int .i64 0, .int .i64 0, .int .i64 0, .int .i64 0, .int .i64 0, .int .i64 0, .int .i64 0] := (by repeat' (first | with_reducible assumption | (with_reducible refine Blk.drew ?_) | (with_reducible refine Blk.carry ?_ (by with_reducible assumption)) | (with_reducible refine Blk.alloc ?_ _) | (with_reducible refine Blk.far ?_ ?_ _) | omega | (simp; done) | (simp; omega))); have k2wQ0 : Blk wQ0 (w.heap.size + 1 + 1) 29 #[.int .i64 0, .int .i64 0, .int .i64 0, .int .i64 0, .int .i64 0, .int .i64 0, .int .i64 0, .int .i64 0] := (by repeat' (first | with_reducible assumption | (with_reducible refine Blk.drew ?_) | (with_reducible refine Blk.carry ?_ (by with_reducible assumption)) | (with_reducible refine Blk.alloc ?_ _) | (with_reducible refine Blk.far ?_ ?_ _) | omega | (simp; done) | (simp; omega))))
        | (go_at_call 65; (with_reducible refine (cubicOf_any (m0 + m2 + (m2 + m4) + (m2 + m4 + (m4 + m6))) (m1 + m3 + (m3 + m5) + (m3 + m5 + (m5 + m7))) ((m2 + m4 + (m4 + m6)) * 2) ((m3 + m5 + (m5 + m7)) * 2) ((m4 + m6) * 4) ((m5 + m7) * 4) (m6 * 8) (m7 * 8) _).mono ?_); rintro e wQ1 ⟨rfl, hbwQ1⟩; obtain ⟨hcwQ1, hfwQ1⟩ := bcell hbwQ1; have hzwQ1 := hbwQ1.size; (try simp only [World.size_drew] at hcwQ1 hfwQ1 hzwQ1); have k1wQ1 : Blk wQ1 (w.heap.size + 1) 29 #[.int .i64 0, .int .i64 0, .int .i64 0, .int .i64 0, .int .i64 0, .int .i64 0, .int .i64 0, .int .i64 0] := (by repeat' (first | with_reducible assumption | (with_reducible refine Blk.drew ?_) | (with_reducible refine Blk.carry ?_ (by with_reducible assumption)) | (with_reducible refine Blk.alloc ?_ _) | (with_reducible refine Blk.far ?_ ?_ _) | omega | (simp; done) | (simp; omega))); have k2wQ1 : Blk wQ1 (w.heap.size + 1 + 1) 29 #[.int .i64 0, .int .i64 0, .int .i64 0, .int .i64 0, .int .i64 0, .int .i64 0, .int .i64 0, .int .i64 0] := (by repeat' (first | with_reducible assumption | (with_reducible refine Blk.drew ?_) | (with_reducible refine Blk.carry ?_ (by with_reducible assumption)) | (with_reducible refine Blk.alloc ?_ _) | (with_reducible refine Blk.far ?_ ?_ _) | omega | (simp; done) | (simp; omega))); have y_b10 : wQ1.cell? ⟨w.heap.size + 1, 0, none⟩ = some (.int .i64 0) := k1wQ1.cell 0 rfl; have f_b10 : wQ1.frozen? ⟨w.heap.size + 1, 0, none⟩ = false := k1wQ1.frozen 0; have y_b11 : wQ1.cell? ⟨w.heap.size + 1, 1, none⟩ = some (.int .i64 0) := k1wQ1.cell 1 rfl; have f_b11 : wQ1.frozen? ⟨w.heap.size + 1, 1, none⟩ = false := k1wQ1.frozen 1; have y_b12 : wQ1.cell? ⟨w.heap.size + 1, 2, none⟩ = some (.int .i64 0) := k1wQ1.cell 2 rfl; have f_b12 : wQ1.frozen? ⟨w.heap.size + 1, 2, none⟩ = false := k1wQ1.frozen 2; have y_b13 : wQ1.cell? ⟨w.heap.size + 1, 3, none⟩ = some (.int .i64 0) := k1wQ1.cell 3 rfl; have f_b13 : wQ1.frozen? ⟨w.heap.size + 1, 3, none⟩ = false := k1wQ1.frozen 3; have y_b14 : wQ1.cell? ⟨w.heap.size + 1, 4, none⟩ = some (.int .i64 0) := k1wQ1.cell 4 rfl; have f_b14 : wQ1.frozen? ⟨w.heap.size + 1, 4, none⟩ = false := k1wQ1.frozen 4; have y_b15 : wQ1.cell? ⟨w.heap.size + 1, 5, none⟩ = some (.int .i64 0) := k1wQ1.cell 5 rfl; have f_b15 : wQ1.frozen? ⟨w.heap.size + 1, 5, none⟩ = false := k1wQ1.frozen 5; have y_b16 : wQ1.cell? ⟨w.heap.size + 1, 6, none⟩ = some (.int .i64 0) := k1wQ1.cell 6 rfl; have f_b16 : wQ1.frozen? ⟨w.heap.size + 1, 6, none⟩ = false := k1wQ1.frozen 6; have y_b17 : wQ1.cell? ⟨w.heap.size + 1, 7, none⟩ = some (.int .i64 0) := k1wQ1.cell 7 rfl; have f_b17 : wQ1.frozen? ⟨w.heap.size + 1, 7, none⟩ = false := k1wQ1.frozen 7; have y_b20 : wQ1.cell? ⟨w.heap.size + 1 + 1, 0, none⟩ = some (.int .i64 0) := k2wQ1.cell 0 rfl; have f_b20 : wQ1.frozen? ⟨w.heap.size + 1 + 1, 0, none⟩ = false := k2wQ1.frozen 0; have y_b21 : wQ1.cell? ⟨w.heap.size + 1 + 1, 1, none⟩ = some (.int .i64 0) := k2wQ1.cell 1 rfl; have f_b21 : wQ1.frozen? ⟨w.heap.size + 1 + 1, 1, none⟩ = false := k2wQ1.frozen 1; have y_b22 : wQ1.cell? ⟨w.heap.size + 1 + 1, 2, none⟩ = some (.int .i64 0) := k2wQ1.cell 2 rfl; have f_b22 : wQ1.frozen? ⟨w.heap.size + 1 + 1, 2, none⟩ = false := k2wQ1.frozen 2; have y_b23 : wQ1.cell? ⟨w.heap.size + 1 + 1, 3, none⟩ = some (.int .i64 0) := k2wQ1.cell 3 rfl; have f_b23 : wQ1.frozen? ⟨w.heap.size + 1 + 1, 3, none⟩ = false := k2wQ1.frozen 3; have y_b24 : wQ1.cell? ⟨w.heap.size + 1 + 1, 4, none⟩ = some (.int .i64 0) := k2wQ1.cell 4 rfl; have f_b24 : wQ1.frozen? ⟨w.heap.size + 1 + 1, 4, none⟩ = false := k2wQ1.frozen 4; have y_b25 : wQ1.cell? ⟨w.heap.size + 1 + 1, 5, none⟩ = some (.int .i64 0) := k2wQ1.cell 5 rfl; have f_b25 : wQ1.frozen? ⟨w.heap.size + 1 + 1, 5, none⟩ = false := k2wQ1.frozen 5; have y_b26 : wQ1.cell? ⟨w.heap.size + 1 + 1, 6, none⟩ = some (.int .i64 0) := k2wQ1.cell 6 rfl; have f_b26 : wQ1.frozen? ⟨w.heap.size + 1 + 1, 6, none⟩ = false := k2wQ1.frozen 6; have y_b27 : wQ1.cell? ⟨w.heap.size + 1 + 1, 7, none⟩ = some (.int .i64 0) := k2wQ1.cell 7 rfl; have f_b27 : wQ1.frozen? ⟨w.heap.size + 1 + 1, 7, none⟩ = false := k2wQ1.frozen 7; have l_b1q := k1wQ1.lt; have l_b2q := k2wQ1.lt))
    (try clear hcwP0 hfwP0 hcwP1 hfwP1 hcwQ0 hfwQ0 hcwQ1 hfwQ1)
    go_wp2_with fail
    refine bodyPost_ret (v := .tuple #[.agg #[.int .i64 (m0 * 8), .int .i64 (m1 * 8), .int .i64 ((m0 + m2) * 4), .int .i64 ((m1 + m3) * 4), .int .i64 ((m0 + m2 + (m2 + m4)) * 2), .int .i64 ((m1 + m3 + (m3 + m5)) * 2), .int .i64 (m0 + m2 + (m2 + m4) + (m2 + m4 + (m4 + m6))), .int .i64 (m1 + m3 + (m3 + m5) + (m3 + m5 + (m5 + m7)))], .agg #[.int .i64 (m0 + m2 + (m2 + m4) + (m2 + m4 + (m4 + m6))), .int .i64 (m1 + m3 + (m3 + m5) + (m3 + m5 + (m5 + m7))), .int .i64 ((m2 + m4 + (m4 + m6)) * 2), .int .i64 ((m3 + m5 + (m5 + m7)) * 2), .int .i64 ((m4 + m6) * 4), .int .i64 ((m5 + m7) * 4), .int .i64 (m6 * 8), .int .i64 (m7 * 8)], .int .i64 0]) (by simp [results, Try.results29, go_sem, *]) rfl (HvRet.t HV.out HQ.out ?_)
    repeat' (first | with_reducible assumption | with_reducible exact Below.refl _ _ | (with_reducible refine Below.setCell ?_ ?_ _) | (with_reducible refine Below.alloc ?_ ?_ _) | (with_reducible refine Below.drew ?_) | (with_reducible refine below_dr ?_ _) | (with_reducible refine Below.trans ?_ (Below.mono (by with_reducible assumption) ?_)) | omega | (simp; done) | (simp; omega))
end Go.Proofs.Ytpfbgpefaegipaa
