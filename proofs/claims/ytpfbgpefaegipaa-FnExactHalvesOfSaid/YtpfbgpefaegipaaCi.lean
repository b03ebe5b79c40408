/- Walks: the corners of the box of four points, the reference's side. -/
import Derived.Test.YtpfbgpefaegipaaCd
import Derived.StillTailTactics
namespace Go.Proofs.Ytpfbgpefaegipaa
open Go.RowKit
def mnI (a b : Int) : Int := min a b
def mxI (a b : Int) : Int := max a b
def lo4 (a b c d : Int) : Nat → Int
  | 0 => a
  | 1 => mnI a b
  | 2 => mnI (mnI a b) c
  | _ => mnI (mnI (mnI a b) c) d
def hi4 (a b c d : Int) : Nat → Int
  | 0 => a
  | 1 => mxI a b
  | 2 => mxI (mxI a b) c
  | _ => mxI (mxI (mxI a b) c) d
set_option maxHeartbeats 400000 in
theorem l00Min_any0 (a b : Int) (w : World) :
    Calls Try.prog 92 #[.int .i64 a, .int .i64 b] w fun e w' => e = .returned (.int .i64 (min a b)) ∧ w = w' := by
  by_cases h : a < b
  · have H := Lib.hid (show a = min a b by omega)
    go_enter Try.func92, Try.ntmps92
    go_wp2
    go_ret
    exact ⟨ret_i64 H.out, rfl⟩
  · have H := Lib.hid (show b = min a b by omega)
    have h2 : decide (a < b) = false := by simpa using h
    go_enter Try.func92, Try.ntmps92
    go_wp2
    go_ret
    exact ⟨ret_i64 H.out, rfl⟩
theorem l00Min_any (a b : Int) (w : World) :
    Calls Try.prog 92 #[.int .i64 a, .int .i64 b] w fun e w' => e = .returned (.int .i64 (mnI a b)) ∧ w = w' := l00Min_any0 a b w
theorem l00MaxI_any (a b : Int) (w : World) :
    Calls Try.prog 93 #[.int .i64 a, .int .i64 b] w fun e w' => e = .returned (.int .i64 (mxI a b)) ∧ w = w' := l00Max_any a b w
set_option maxRecDepth 100000 in
set_option maxHeartbeats 6400000 in
theorem l09Corners_any (m0 m1 m2 m3 m4 m5 m6 m7 : Int) (b : Nat) (w : World) (hb : b < w.heap.size) (c0 : w.cell? ⟨b, 0, none⟩ = some (.int .i64 m0)) (c1 : w.cell? ⟨b, 1, none⟩ = some (.int .i64 m1)) (c2 : w.cell? ⟨b, 2, none⟩ = some (.int .i64 m2)) (c3 : w.cell? ⟨b, 3, none⟩ = some (.int .i64 m3)) (c4 : w.cell? ⟨b, 4, none⟩ = some (.int .i64 m4)) (c5 : w.cell? ⟨b, 5, none⟩ = some (.int .i64 m5)) (c6 : w.cell? ⟨b, 6, none⟩ = some (.int .i64 m6)) (c7 : w.cell? ⟨b, 7, none⟩ = some (.int .i64 m7)) :
    Calls Try.prog 54 #[.slice (some ⟨b, 0, none⟩) 4 4] w fun e w' => e = .returned (.tuple #[.agg #[.int .i64 (mnI (mnI (mnI m0 m2) m4) m6), .int .i64 (mnI (mnI (mnI m1 m3) m5) m7)], .agg #[.int .i64 (mxI (mxI (mxI m0 m2) m4) m6), .int .i64 (mxI (mxI (mxI m1 m3) m5) m7)]]) ∧ Below w.heap.size w w' := by
  have hb1 : b < w.heap.size + 1 := by omega
  have hb2 : b < w.heap.size + 1 + 1 := by omega
  have hb3 : b < w.heap.size + 1 + 1 + 1 := by omega
  go_enter Try.func54, Try.ntmps54
  go_wp2_with fail
  generalize hW : ((((w.alloc (.cells #[.int .i64 0, .int .i64 0] 27)).alloc (.cells #[.int .i64 0, .int .i64 0] 27)).alloc (.cells #[.int .i64 m0, .int .i64 m1] 27)).alloc (.cells #[.int .i64 m0, .int .i64 m1] 27)) = W0
  have g0 : Below w.heap.size w W0 := by rw [← hW]; repeat' (first | assumption | exact Below.refl _ _ | (refine Below.setCell ?_ ?_ _) | (refine Below.alloc ?_ ?_ _) | (refine below_dr ?_ _) | exact Nat.le_refl _ | (simp; done) | (simp; omega))
  have b0 : Blk W0 (w.heap.size) 27 #[.int .i64 0, .int .i64 0] := by rw [← hW]; exact (((Blk.newAt _ _ _ (by simp)).alloc _).alloc _).alloc _
  have b1 : Blk W0 (w.heap.size + 1) 27 #[.int .i64 0, .int .i64 0] := by rw [← hW]; exact ((Blk.newAt _ _ _ (by simp)).alloc _).alloc _
  have b2 : Blk W0 (w.heap.size + 1 + 1) 27 #[.int .i64 m0, .int .i64 m1] := by rw [← hW]; exact (Blk.newAt _ _ _ (by simp)).alloc _
  have b3 : Blk W0 (w.heap.size + 1 + 1 + 1) 27 #[.int .i64 m0, .int .i64 m1] := by rw [← hW]; exact Blk.newAt _ _ _ (by simp)
  clear hW
  have HC := Lib.hid (fun (wr : World) (hbel : Below w.heap.size w wr) => (⟨(hbel.cell (p := ⟨b, 0, none⟩) hb).trans c0, (hbel.cell (p := ⟨b, 1, none⟩) hb).trans c1, (hbel.cell (p := ⟨b, 2, none⟩) hb).trans c2, (hbel.cell (p := ⟨b, 3, none⟩) hb).trans c3, (hbel.cell (p := ⟨b, 4, none⟩) hb).trans c4, (hbel.cell (p := ⟨b, 5, none⟩) hb).trans c5, (hbel.cell (p := ⟨b, 6, none⟩) hb).trans c6, (hbel.cell (p := ⟨b, 7, none⟩) hb).trans c7⟩ : wr.cell? ⟨b, 0, none⟩ = some (.int .i64 m0) ∧ wr.cell? ⟨b, 1, none⟩ = some (.int .i64 m1) ∧ wr.cell? ⟨b, 2, none⟩ = some (.int .i64 m2) ∧ wr.cell? ⟨b, 3, none⟩ = some (.int .i64 m3) ∧ wr.cell? ⟨b, 4, none⟩ = some (.int .i64 m4) ∧ wr.cell? ⟨b, 5, none⟩ = some (.int .i64 m5) ∧ wr.cell? ⟨b, 6, none⟩ = some (.int .i64 m6) ∧ wr.cell? ⟨b, 7, none⟩ = some (.int .i64 m7)))
  clear c0 c1 c2 c3 c4 c5 c6 c7
  go_loopw [6] (fun i wr => ∃ k : Nat, k ≤ 3 ∧ i = .int .i64 ((k + 1 : Nat) : Int) ∧ Blk wr (w.heap.size) 27 #[.int .i64 0, .int .i64 0] ∧ Blk wr (w.heap.size + 1) 27 #[.int .i64 0, .int .i64 0] ∧ Blk wr (w.heap.size + 1 + 1) 27 #[.int .i64 (lo4 m0 m2 m4 m6 k), .int .i64 (lo4 m1 m3 m5 m7 k)] ∧ Blk wr (w.heap.size + 1 + 1 + 1) 27 #[.int .i64 (hi4 m0 m2 m4 m6 k), .int .i64 (hi4 m1 m3 m5 m7 k)] ∧ Below w.heap.size w wr) (fun i _ => 4 - (intOf i).toNat)
  case atStart => exact ⟨0, by omega, rfl, b0, b1, b2, b3, g0⟩
  case round =>
    clear b0 b1 b2 b3 g0
    obtain ⟨k, hk, rfl, b0, b1, b2, b3, g0⟩ := hrel
    obtain ⟨c0, c1, c2, c3, c4, c5, c6, c7⟩ := HC.out _ g0
    have zg := g0.size
    by_cases hlt : k < 3
    · rcases (by omega : k = 0 ∨ k = 1 ∨ k = 2) with rfl | rfl | rfl
      · clear hk hlt
        replace b2 : Blk wr _ 27 #[.int .i64 m0, .int .i64 m1] := b2
        replace b3 : Blk wr _ 27 #[.int .i64 m0, .int .i64 m1] := b3
        have z2 := b2.lt
        have z3 := b3.lt
        have y0 : wr.cell? ⟨w.heap.size + 1 + 1, 0, none⟩ = some (.int .i64 m0) := b2.cell 0 rfl
        have y1 : wr.cell? ⟨w.heap.size + 1 + 1, 1, none⟩ = some (.int .i64 m1) := b2.cell 1 rfl
        have f0 := b2.frozen 0
        have f1 := b2.frozen 1
        go_wp2_with fail
        refine wp_region_still_tail 17 (by kernel_rfl) (by kernel_rfl) ?_
        simp only [List.take_succ_cons, List.take_zero, List.drop_succ_cons, List.drop_zero]
        repeat (first | still_step | (refine wpStill_step (fun K hK => ?_); go_simp; refine ⟨_, (l00Min_any _ _ _).mono (fun _ _ h => ⟨h.1, h.2.symm⟩), hK _ ?_⟩; clear hK K))
        refine wpStill_nil ?_
        change wpList _ _ _ _ _ wr.drew
        go_wp2_with fail
        clear y0 y1 f0 f1
        generalize hW : ((wr.setCell ⟨w.heap.size + 1 + 1, 0, none⟩ (.int .i64 (mnI m0 m2))).setCell ⟨w.heap.size + 1 + 1, 1, none⟩ (.int .i64 (mnI m1 m3))).drew = W1
        replace b0 : Blk W1 (w.heap.size) 27 #[.int .i64 0, .int .i64 0] := by rw [← hW]; exact ((b0.far (by simp only; omega) _).far (by simp only; omega) _).drew
        replace b1 : Blk W1 (w.heap.size + 1) 27 #[.int .i64 0, .int .i64 0] := by rw [← hW]; exact ((b1.far (by simp only; omega) _).far (by simp only; omega) _).drew
        replace b2 : Blk W1 (w.heap.size + 1 + 1) 27 #[.int .i64 (mnI m0 m2), .int .i64 (mnI m1 m3)] := by rw [← hW]; exact ((b2.set_ 0 _).set_ 1 _).drew
        replace b3 : Blk W1 (w.heap.size + 1 + 1 + 1) 27 #[.int .i64 m0, .int .i64 m1] := by rw [← hW]; exact ((b3.far (by simp only; omega) _).far (by simp only; omega) _).drew
        replace g0 : Below w.heap.size w W1 := by rw [← hW]; repeat' (first | with_reducible assumption | with_reducible exact Below.refl _ _ | (with_reducible refine Below.setCell ?_ ?_ _) | (with_reducible refine Below.alloc ?_ ?_ _) | (with_reducible refine Below.drew ?_) | (with_reducible refine below_dr ?_ _) | (with_reducible refine Below.trans ?_ (Below.mono (by with_reducible assumption) ?_)) | omega | (simp; done) | (simp; omega))
        have zW1 : W1.heap.size = wr.heap.size := by rw [← hW]; simp
        clear hW c0 c1 c2 c3 c4 c5 c6 c7
        obtain ⟨c0, c1, c2, c3, c4, c5, c6, c7⟩ := HC.out _ g0
        have y0 : W1.cell? ⟨w.heap.size + 1 + 1 + 1, 0, none⟩ = some (.int .i64 m0) := b3.cell 0 rfl
        have y1 : W1.cell? ⟨w.heap.size + 1 + 1 + 1, 1, none⟩ = some (.int .i64 m1) := b3.cell 1 rfl
        have f0 := b3.frozen 0
        have f1 := b3.frozen 1
        go_wp2_with fail
        refine wp_region_still_tail 17 (by kernel_rfl) (by kernel_rfl) ?_
        simp only [List.take_succ_cons, List.take_zero, List.drop_succ_cons, List.drop_zero]
        repeat (first | still_step | (refine wpStill_step (fun K hK => ?_); go_simp; refine ⟨_, (l00MaxI_any _ _ _).mono (fun _ _ h => ⟨h.1, h.2.symm⟩), hK _ ?_⟩; clear hK K))
        refine wpStill_nil ?_
        change wpList _ _ _ _ _ W1.drew
        go_wp2_with fail
        clear y0 y1 f0 f1
        generalize hW : ((W1.setCell ⟨w.heap.size + 1 + 1 + 1, 0, none⟩ (.int .i64 (mxI m0 m2))).setCell ⟨w.heap.size + 1 + 1 + 1, 1, none⟩ (.int .i64 (mxI m1 m3))).drew = W2
        replace b0 : Blk W2 (w.heap.size) 27 #[.int .i64 0, .int .i64 0] := by rw [← hW]; exact ((b0.far (by simp only; omega) _).far (by simp only; omega) _).drew
        replace b1 : Blk W2 (w.heap.size + 1) 27 #[.int .i64 0, .int .i64 0] := by rw [← hW]; exact ((b1.far (by simp only; omega) _).far (by simp only; omega) _).drew
        replace b2 : Blk W2 (w.heap.size + 1 + 1) 27 #[.int .i64 (mnI m0 m2), .int .i64 (mnI m1 m3)] := by rw [← hW]; exact ((b2.far (by simp only; omega) _).far (by simp only; omega) _).drew
        replace b3 : Blk W2 (w.heap.size + 1 + 1 + 1) 27 #[.int .i64 (mxI m0 m2), .int .i64 (mxI m1 m3)] := by rw [← hW]; exact ((b3.set_ 0 _).set_ 1 _).drew
        replace g0 : Below w.heap.size w W2 := by rw [← hW]; repeat' (first | with_reducible assumption | with_reducible exact Below.refl _ _ | (with_reducible refine Below.setCell ?_ ?_ _) | (with_reducible refine Below.alloc ?_ ?_ _) | (with_reducible refine Below.drew ?_) | (with_reducible refine below_dr ?_ _) | (with_reducible refine Below.trans ?_ (Below.mono (by with_reducible assumption) ?_)) | omega | (simp; done) | (simp; omega))
        have zW2 : W2.heap.size = W1.heap.size := by rw [← hW]; simp
        clear hW c0 c1 c2 c3 c4 c5 c6 c7
        obtain ⟨c0, c1, c2, c3, c4, c5, c6, c7⟩ := HC.out _ g0
        clear c0 c1 c2 c3 c4 c5 c6 c7
        go_roundw
        case rel => exact ⟨1, by omega, by go_num, b0, b1, b2, b3, g0⟩
        case measure => simp [intOf]
      · clear hk hlt
        replace b2 : Blk wr _ 27 #[.int .i64 (mnI m0 m2), .int .i64 (mnI m1 m3)] := b2
        replace b3 : Blk wr _ 27 #[.int .i64 (mxI m0 m2), .int .i64 (mxI m1 m3)] := b3
        have z2 := b2.lt
        have z3 := b3.lt
        have y0 : wr.cell? ⟨w.heap.size + 1 + 1, 0, none⟩ = some (.int .i64 (mnI m0 m2)) := b2.cell 0 rfl
        have y1 : wr.cell? ⟨w.heap.size + 1 + 1, 1, none⟩ = some (.int .i64 (mnI m1 m3)) := b2.cell 1 rfl
        have f0 := b2.frozen 0
        have f1 := b2.frozen 1
        go_wp2_with fail
        refine wp_region_still_tail 17 (by kernel_rfl) (by kernel_rfl) ?_
        simp only [List.take_succ_cons, List.take_zero, List.drop_succ_cons, List.drop_zero]
        repeat (first | still_step | (refine wpStill_step (fun K hK => ?_); go_simp; refine ⟨_, (l00Min_any _ _ _).mono (fun _ _ h => ⟨h.1, h.2.symm⟩), hK _ ?_⟩; clear hK K))
        refine wpStill_nil ?_
        change wpList _ _ _ _ _ wr.drew
        go_wp2_with fail
        clear y0 y1 f0 f1
        generalize hW : ((wr.setCell ⟨w.heap.size + 1 + 1, 0, none⟩ (.int .i64 (mnI (mnI m0 m2) m4))).setCell ⟨w.heap.size + 1 + 1, 1, none⟩ (.int .i64 (mnI (mnI m1 m3) m5))).drew = W1
        replace b0 : Blk W1 (w.heap.size) 27 #[.int .i64 0, .int .i64 0] := by rw [← hW]; exact ((b0.far (by simp only; omega) _).far (by simp only; omega) _).drew
        replace b1 : Blk W1 (w.heap.size + 1) 27 #[.int .i64 0, .int .i64 0] := by rw [← hW]; exact ((b1.far (by simp only; omega) _).far (by simp only; omega) _).drew
        replace b2 : Blk W1 (w.heap.size + 1 + 1) 27 #[.int .i64 (mnI (mnI m0 m2) m4), .int .i64 (mnI (mnI m1 m3) m5)] := by rw [← hW]; exact ((b2.set_ 0 _).set_ 1 _).drew
        replace b3 : Blk W1 (w.heap.size + 1 + 1 + 1) 27 #[.int .i64 (mxI m0 m2), .int .i64 (mxI m1 m3)] := by rw [← hW]; exact ((b3.far (by simp only; omega) _).far (by simp only; omega) _).drew
        replace g0 : Below w.heap.size w W1 := by rw [← hW]; repeat' (first | with_reducible assumption | with_reducible exact Below.refl _ _ | (with_reducible refine Below.setCell ?_ ?_ _) | (with_reducible refine Below.alloc ?_ ?_ _) | (with_reducible refine Below.drew ?_) | (with_reducible refine below_dr ?_ _) | (with_reducible refine Below.trans ?_ (Below.mono (by with_reducible assumption) ?_)) | omega | (simp; done) | (simp; omega))
        have zW1 : W1.heap.size = wr.heap.size := by rw [← hW]; simp
        clear hW c0 c1 c2 c3 c4 c5 c6 c7
        obtain ⟨c0, c1, c2, c3, c4, c5, c6, c7⟩ := HC.out _ g0
        have y0 : W1.cell? ⟨w.heap.size + 1 + 1 + 1, 0, none⟩ = some (.int .i64 (mxI m0 m2)) := b3.cell 0 rfl
        have y1 : W1.cell? ⟨w.heap.size + 1 + 1 + 1, 1, none⟩ = some (.int .i64 (mxI m1 m3)) := b3.cell 1 rfl
        have f0 := b3.frozen 0
        have f1 := b3.frozen 1
        go_wp2_with fail
        refine wp_region_still_tail 17 (by kernel_rfl) (by kernel_rfl) ?_
        simp only [List.take_succ_cons, List.take_zero, List.drop_succ_cons, List.drop_zero]
        repeat (first | still_step | (refine wpStill_step (fun K hK => ?_); go_simp; refine ⟨_, (l00MaxI_any _ _ _).mono (fun _ _ h => ⟨h.1, h.2.symm⟩), hK _ ?_⟩; clear hK K))
        refine wpStill_nil ?_
        change wpList _ _ _ _ _ W1.drew
        go_wp2_with fail
        clear y0 y1 f0 f1
        generalize hW : ((W1.setCell ⟨w.heap.size + 1 + 1 + 1, 0, none⟩ (.int .i64 (mxI (mxI m0 m2) m4))).setCell ⟨w.heap.size + 1 + 1 + 1, 1, none⟩ (.int .i64 (mxI (mxI m1 m3) m5))).drew = W2
        replace b0 : Blk W2 (w.heap.size) 27 #[.int .i64 0, .int .i64 0] := by rw [← hW]; exact ((b0.far (by simp only; omega) _).far (by simp only; omega) _).drew
        replace b1 : Blk W2 (w.heap.size + 1) 27 #[.int .i64 0, .int .i64 0] := by rw [← hW]; exact ((b1.far (by simp only; omega) _).far (by simp only; omega) _).drew
        replace b2 : Blk W2 (w.heap.size + 1 + 1) 27 #[.int .i64 (mnI (mnI m0 m2) m4), .int .i64 (mnI (mnI m1 m3) m5)] := by rw [← hW]; exact ((b2.far (by simp only; omega) _).far (by simp only; omega) _).drew
        replace b3 : Blk W2 (w.heap.size + 1 + 1 + 1) 27 #[.int .i64 (mxI (mxI m0 m2) m4), .int .i64 (mxI (mxI m1 m3) m5)] := by rw [← hW]; exact ((b3.set_ 0 _).set_ 1 _).drew
        replace g0 : Below w.heap.size w W2 := by rw [← hW]; repeat' (first | with_reducible assumption | with_reducible exact Below.refl _ _ | (with_reducible refine Below.setCell ?_ ?_ _) | (with_reducible refine Below.alloc ?_ ?_ _) | (with_reducible refine Below.drew ?_) | (with_reducible refine below_dr ?_ _) | (with_reducible refine Below.trans ?_ (Below.mono (by with_reducible assumption) ?_)) | omega | (simp; done) | (simp; omega))
        have zW2 : W2.heap.size = W1.heap.size := by rw [← hW]; simp
        clear hW c0 c1 c2 c3 c4 c5 c6 c7
        obtain ⟨c0, c1, c2, c3, c4, c5, c6, c7⟩ := HC.out _ g0
        clear c0 c1 c2 c3 c4 c5 c6 c7
        go_roundw
        case rel => exact ⟨2, by omega, by go_num, b0, b1, b2, b3, g0⟩
        case measure => simp [intOf]
      · clear hk hlt
        replace b2 : Blk wr _ 27 #[.int .i64 (mnI (mnI m0 m2) m4), .int .i64 (mnI (mnI m1 m3) m5)] := b2
        replace b3 : Blk wr _ 27 #[.int .i64 (mxI (mxI m0 m2) m4), .int .i64 (mxI (mxI m1 m3) m5)] := b3
        have z2 := b2.lt
        have z3 := b3.lt
        have y0 : wr.cell? ⟨w.heap.size + 1 + 1, 0, none⟩ = some (.int .i64 (mnI (mnI m0 m2) m4)) := b2.cell 0 rfl
        have y1 : wr.cell? ⟨w.heap.size + 1 + 1, 1, none⟩ = some (.int .i64 (mnI (mnI m1 m3) m5)) := b2.cell 1 rfl
        have f0 := b2.frozen 0
        have f1 := b2.frozen 1
        go_wp2_with fail
        refine wp_region_still_tail 17 (by kernel_rfl) (by kernel_rfl) ?_
        simp only [List.take_succ_cons, List.take_zero, List.drop_succ_cons, List.drop_zero]
        repeat (first | still_step | (refine wpStill_step (fun K hK => ?_); go_simp; refine ⟨_, (l00Min_any _ _ _).mono (fun _ _ h => ⟨h.1, h.2.symm⟩), hK _ ?_⟩; clear hK K))
        refine wpStill_nil ?_
        change wpList _ _ _ _ _ wr.drew
        go_wp2_with fail
        clear y0 y1 f0 f1
        generalize hW : ((wr.setCell ⟨w.heap.size + 1 + 1, 0, none⟩ (.int .i64 (mnI (mnI (mnI m0 m2) m4) m6))).setCell ⟨w.heap.size + 1 + 1, 1, none⟩ (.int .i64 (mnI (mnI (mnI m1 m3) m5) m7))).drew = W1
        replace b0 : Blk W1 (w.heap.size) 27 #[.int .i64 0, .int .i64 0] := by rw [← hW]; exact ((b0.far (by simp only; omega) _).far (by simp only; omega) _).drew
        replace b1 : Blk W1 (w.heap.size + 1) 27 #[.int .i64 0, .int .i64 0] := by rw [← hW]; exact ((b1.far (by simp only; omega) _).far (by simp only; omega) _).drew
        replace b2 : Blk W1 (w.heap.size + 1 + 1) 27 #[.int .i64 (mnI (mnI (mnI m0 m2) m4) m6), .int .i64 (mnI (mnI (mnI m1 m3) m5) m7)] := by rw [← hW]; exact ((b2.set_ 0 _).set_ 1 _).drew
        replace b3 : Blk W1 (w.heap.size + 1 + 1 + 1) 27 #[.int .i64 (mxI (mxI m0 m2) m4), .int .i64 (mxI (mxI m1 m3) m5)] := by rw [← hW]; exact ((b3.far (by simp only; omega) _).far (by simp only; omega) _).drew
        replace g0 : Below w.heap.size w W1 := by rw [← hW]; repeat' (first | with_reducible assumption | with_reducible exact Below.refl _ _ | (with_reducible refine Below.setCell ?_ ?_ _) | (with_reducible refine Below.alloc ?_ ?_ _) | (with_reducible refine Below.drew ?_) | (with_reducible refine below_dr ?_ _) | (with_reducible refine Below.trans ?_ (Below.mono (by with_reducible assumption) ?_)) | omega | (simp; done) | (simp; omega))
        have zW1 : W1.heap.size = wr.heap.size := by rw [← hW]; simp
        clear hW c0 c1 c2 c3 c4 c5 c6 c7
        obtain ⟨c0, c1, c2, c3, c4, c5, c6, c7⟩ := HC.out _ g0
        have y0 : W1.cell? ⟨w.heap.size + 1 + 1 + 1, 0, none⟩ = some (.int .i64 (mxI (mxI m0 m2) m4)) := b3.cell 0 rfl
        have y1 : W1.cell? ⟨w.heap.size + 1 + 1 + 1, 1, none⟩ = some (.int .i64 (mxI (mxI m1 m3) m5)) := b3.cell 1 rfl
        have f0 := b3.frozen 0
        have f1 := b3.frozen 1
        go_wp2_with fail
        refine wp_region_still_tail 17 (by kernel_rfl) (by kernel_rfl) ?_
        simp only [List.take_succ_cons, List.take_zero, List.drop_succ_cons, List.drop_zero]
        repeat (first | still_step | (refine wpStill_step (fun K hK => ?_); go_simp; refine ⟨_, (l00MaxI_any _ _ _).mono (fun _ _ h => ⟨h.1, h.2.symm⟩), hK _ ?_⟩; clear hK K))
        refine wpStill_nil ?_
        change wpList _ _ _ _ _ W1.drew
        go_wp2_with fail
        clear y0 y1 f0 f1
        generalize hW : ((W1.setCell ⟨w.heap.size + 1 + 1 + 1, 0, none⟩ (.int .i64 (mxI (mxI (mxI m0 m2) m4) m6))).setCell ⟨w.heap.size + 1 + 1 + 1, 1, none⟩ (.int .i64 (mxI (mxI (mxI m1 m3) m5) m7))).drew = W2
        replace b0 : Blk W2 (w.heap.size) 27 #[.int .i64 0, .int .i64 0] := by rw [← hW]; exact ((b0.far (by simp only; omega) _).far (by simp only; omega) _).drew
        replace b1 : Blk W2 (w.heap.size + 1) 27 #[.int .i64 0, .int .i64 0] := by rw [← hW]; exact ((b1.far (by simp only; omega) _).far (by simp only; omega) _).drew
        replace b2 : Blk W2 (w.heap.size + 1 + 1) 27 #[.int .i64 (mnI (mnI (mnI m0 m2) m4) m6), .int .i64 (mnI (mnI (mnI m1 m3) m5) m7)] := by rw [← hW]; exact ((b2.far (by simp only; omega) _).far (by simp only; omega) _).drew
        replace b3 : Blk W2 (w.heap.size + 1 + 1 + 1) 27 #[.int .i64 (mxI (mxI (mxI m0 m2) m4) m6), .int .i64 (mxI (mxI (mxI m1 m3) m5) m7)] := by rw [← hW]; exact ((b3.set_ 0 _).set_ 1 _).drew
        replace g0 : Below w.heap.size w W2 := by rw [← hW]; repeat' (first | with_reducible assumption | with_reducible exact Below.refl _ _ | (with_reducible refine Below.setCell ?_ ?_ _) | (with_reducible refine Below.alloc ?_ ?_ _) | (with_reducible refine Below.drew ?_) | (with_reducible refine below_dr ?_ _) | (with_reducible refine Below.trans ?_ (Below.mono (by with_reducible assumption) ?_)) | omega | (simp; done) | (simp; omega))
        have zW2 : W2.heap.size = W1.heap.size := by rw [← hW]; simp
        clear hW c0 c1 c2 c3 c4 c5 c6 c7
        obtain ⟨c0, c1, c2, c3, c4, c5, c6, c7⟩ := HC.out _ g0
        clear c0 c1 c2 c3 c4 c5 c6 c7
        go_roundw
        case rel => exact ⟨3, by omega, by go_num, b0, b1, b2, b3, g0⟩
        case measure => simp [intOf]
    · obtain rfl : k = 3 := by omega
      clear hk hlt
      replace b2 : Blk wr _ 27 #[.int .i64 (mnI (mnI (mnI m0 m2) m4) m6), .int .i64 (mnI (mnI (mnI m1 m3) m5) m7)] := b2
      replace b3 : Blk wr _ 27 #[.int .i64 (mxI (mxI (mxI m0 m2) m4) m6), .int .i64 (mxI (mxI (mxI m1 m3) m5) m7)] := b3
      have z2 := b2.lt
      have z3 := b3.lt
      have y20 : wr.cell? ⟨w.heap.size + 1 + 1, 0, none⟩ = some (.int .i64 (mnI (mnI (mnI m0 m2) m4) m6)) := b2.cell 0 rfl
      have y21 : wr.cell? ⟨w.heap.size + 1 + 1, 1, none⟩ = some (.int .i64 (mnI (mnI (mnI m1 m3) m5) m7)) := b2.cell 1 rfl
      have f20 := b2.frozen 0
      have f21 := b2.frozen 1
      have y30 : wr.cell? ⟨w.heap.size + 1 + 1 + 1, 0, none⟩ = some (.int .i64 (mxI (mxI (mxI m0 m2) m4) m6)) := b3.cell 0 rfl
      have y31 : wr.cell? ⟨w.heap.size + 1 + 1 + 1, 1, none⟩ = some (.int .i64 (mxI (mxI (mxI m1 m3) m5) m7)) := b3.cell 1 rfl
      have f30 := b3.frozen 0
      have f31 := b3.frozen 1
      have y00 : wr.cell? ⟨w.heap.size, 0, none⟩ = some (.int .i64 0) := b0.cell 0 rfl
      have y01 : wr.cell? ⟨w.heap.size, 1, none⟩ = some (.int .i64 0) := b0.cell 1 rfl
      have f00 := b0.frozen 0
      have f01 := b0.frozen 1
      have y10 : wr.cell? ⟨w.heap.size + 1, 0, none⟩ = some (.int .i64 0) := b1.cell 0 rfl
      have y11 : wr.cell? ⟨w.heap.size + 1, 1, none⟩ = some (.int .i64 0) := b1.cell 1 rfl
      have f10 := b1.frozen 0
      have f11 := b1.frozen 1
      have z0 := b0.lt
      have z1 := b1.lt
      go_wp2_with fail
      go_region
      go_wp2_with fail
      refine bodyPost_ret (v := .tuple #[.agg #[.int .i64 (mnI (mnI (mnI m0 m2) m4) m6), .int .i64 (mnI (mnI (mnI m1 m3) m5) m7)], .agg #[.int .i64 (mxI (mxI (mxI m0 m2) m4) m6), .int .i64 (mxI (mxI (mxI m1 m3) m5) m7)]]) (by simp [results, Try.results54, go_sem, *]) rfl ⟨rfl, ?_⟩
      repeat' (first | with_reducible assumption | with_reducible exact Below.refl _ _ | (with_reducible refine Below.setCell ?_ ?_ _) | (with_reducible refine Below.alloc ?_ ?_ _) | (with_reducible refine Below.drew ?_) | (with_reducible refine below_dr ?_ _) | (with_reducible refine Below.trans ?_ (Below.mono (by with_reducible assumption) ?_)) | omega | (simp; done) | (simp; omega))
end Go.Proofs.Ytpfbgpefaegipaa
