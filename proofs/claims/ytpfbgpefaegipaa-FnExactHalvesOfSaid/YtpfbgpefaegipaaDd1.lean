/- Walks: the parts of a cubic, the program's side. -/
import Derived.Test.YtpfbgpefaegipaaDa1
import Derived.Test.YtpfbgpefaegipaaCw3
namespace Go.Proofs.Ytpfbgpefaegipaa
open Go.RowKit
set_option maxRecDepth 100000 in
set_option maxHeartbeats 12800000 in
theorem part0_any (m0 m1 m2 m3 m4 m5 m6 m7 : Int) (w : World) (hok : okC m0 m1 m2 m3 m4 m5 m6 m7 = true) :
    Calls Try.prog 66 #[.agg #[.int .i64 m0, .int .i64 m1, .int .i64 m2, .int .i64 m3, .int .i64 m4, .int .i64 m5, .int .i64 m6, .int .i64 m7], .int .i64 0, .int .i64 2] w fun e w' => e = .returned (.agg #[.int .i64 (m0 * 8), .int .i64 (m1 * 8), .int .i64 ((m0 + m2) * 4), .int .i64 ((m1 + m3) * 4), .int .i64 ((m0 + m2 + (m2 + m4)) * 2), .int .i64 ((m1 + m3 + (m3 + m5)) * 2), .int .i64 (m0 + m2 + (m2 + m4) + (m2 + m4 + (m4 + m6))), .int .i64 (m1 + m3 + (m3 + m5) + (m3 + m5 + (m5 + m7)))]) ∧ Below w.heap.size w w' := by
  have CB0 := Lib.hid ((fun w => by have h := blossom4_any m0 m1 m2 m3 m4 m5 m6 m7 0 2 0 w hok (by omega) (by omega) (by omega) (by omega) (by omega); rw [cas_half00 m0 m2 m4 m6, cas_half00 m1 m3 m5 m7] at h; exact h) : ∀ w : World, Calls Try.prog 100 #[.agg #[.int .i64 m0, .int .i64 m1, .int .i64 m2, .int .i64 m3, .int .i64 m4, .int .i64 m5, .int .i64 m6, .int .i64 m7], .int .i64 0, .int .i64 2, .int .i64 0] w fun e w' => e = .returned (.agg #[.int .i64 (m0 * 8), .int .i64 (m1 * 8)]) ∧ Below w.heap.size w w')
  have CB1 := Lib.hid ((fun w => by have h := blossom4_any m0 m1 m2 m3 m4 m5 m6 m7 0 2 1 w hok (by omega) (by omega) (by omega) (by omega) (by omega); rw [cas_half01 m0 m2 m4 m6, cas_half01 m1 m3 m5 m7] at h; exact h) : ∀ w : World, Calls Try.prog 100 #[.agg #[.int .i64 m0, .int .i64 m1, .int .i64 m2, .int .i64 m3, .int .i64 m4, .int .i64 m5, .int .i64 m6, .int .i64 m7], .int .i64 0, .int .i64 2, .int .i64 1] w fun e w' => e = .returned (.agg #[.int .i64 ((m0 + m2) * 4), .int .i64 ((m1 + m3) * 4)]) ∧ Below w.heap.size w w')
  have CB2 := Lib.hid ((fun w => by have h := blossom4_any m0 m1 m2 m3 m4 m5 m6 m7 0 2 2 w hok (by omega) (by omega) (by omega) (by omega) (by omega); rw [cas_half02 m0 m2 m4 m6, cas_half02 m1 m3 m5 m7] at h; exact h) : ∀ w : World, Calls Try.prog 100 #[.agg #[.int .i64 m0, .int .i64 m1, .int .i64 m2, .int .i64 m3, .int .i64 m4, .int .i64 m5, .int .i64 m6, .int .i64 m7], .int .i64 0, .int .i64 2, .int .i64 2] w fun e w' => e = .returned (.agg #[.int .i64 ((m0 + m2 + (m2 + m4)) * 2), .int .i64 ((m1 + m3 + (m3 + m5)) * 2)]) ∧ Below w.heap.size w w')
  have CB3 := Lib.hid ((fun w => by have h := blossom4_any m0 m1 m2 m3 m4 m5 m6 m7 0 2 3 w hok (by omega) (by omega) (by omega) (by omega) (by omega); rw [cas_half03 m0 m2 m4 m6, cas_half03 m1 m3 m5 m7] at h; exact h) : ∀ w : World, Calls Try.prog 100 #[.agg #[.int .i64 m0, .int .i64 m1, .int .i64 m2, .int .i64 m3, .int .i64 m4, .int .i64 m5, .int .i64 m6, .int .i64 m7], .int .i64 0, .int .i64 2, .int .i64 3] w fun e w' => e = .returned (.agg #[.int .i64 (m0 + m2 + (m2 + m4) + (m2 + m4 + (m4 + m6))), .int .i64 (m1 + m3 + (m3 + m5) + (m3 + m5 + (m5 + m7)))]) ∧ Below w.heap.size w w')
  clear hok
  go_enter Try.func66, Try.ntmps66
  go_wp2_with fail
  generalize hW : ((w.alloc (.cells #[.int .i64 m0, .int .i64 m1, .int .i64 m2, .int .i64 m3, .int .i64 m4, .int .i64 m5, .int .i64 m6, .int .i64 m7] 97)).alloc (.cells #[.int .i64 0, .int .i64 0, .int .i64 0, .int .i64 0, .int .i64 0, .int .i64 0, .int .i64 0, .int .i64 0] 95)).alloc (.cells #[.int .i64 m0, .int .i64 m1, .int .i64 m2, .int .i64 m3, .int .i64 m4, .int .i64 m5, .int .i64 m6, .int .i64 m7] 95) = W0
  have b0 : Blk W0 (w.heap.size) 97 #[.int .i64 m0, .int .i64 m1, .int .i64 m2, .int .i64 m3, .int .i64 m4, .int .i64 m5, .int .i64 m6, .int .i64 m7] := by rw [← hW]; exact ((Blk.new _ _ _).alloc _).alloc _
  have b1 : Blk W0 (w.heap.size + 1) 95 #[.int .i64 0, .int .i64 0, .int .i64 0, .int .i64 0, .int .i64 0, .int .i64 0, .int .i64 0, .int .i64 0] := by rw [← hW]; exact (Blk.newAt _ _ _ (by simp)).alloc _
  have b2 : Blk W0 (w.heap.size + 1 + 1) 95 #[.int .i64 m0, .int .i64 m1, .int .i64 m2, .int .i64 m3, .int .i64 m4, .int .i64 m5, .int .i64 m6, .int .i64 m7] := by rw [← hW]; exact Blk.newAt _ _ _ (by simp)
  have g0 : Below w.heap.size w W0 := by rw [← hW]; repeat' (first | with_reducible assumption | with_reducible exact Below.refl _ _ | (with_reducible refine Below.setCell ?_ ?_ _) | (with_reducible refine Below.alloc ?_ ?_ _) | (with_reducible refine Below.drew ?_) | (with_reducible refine below_dr ?_ _) | (with_reducible refine Below.trans ?_ (Below.mono (by with_reducible assumption) ?_)) | omega | (simp; done) | (simp; omega))
  clear hW
  go_loopw [13] (fun v wr => ∃ j : Nat, j ≤ 4 ∧ v = .int .i64 j ∧ Blk wr (w.heap.size) 97 #[.int .i64 m0, .int .i64 m1, .int .i64 m2, .int .i64 m3, .int .i64 m4, .int .i64 m5, .int .i64 m6, .int .i64 m7] ∧ Blk wr (w.heap.size + 1) 95 #[.int .i64 0, .int .i64 0, .int .i64 0, .int .i64 0, .int .i64 0, .int .i64 0, .int .i64 0, .int .i64 0] ∧ Blk wr (w.heap.size + 1 + 1) 95 (([#[.int .i64 m0, .int .i64 m1, .int .i64 m2, .int .i64 m3, .int .i64 m4, .int .i64 m5, .int .i64 m6, .int .i64 m7], #[.int .i64 (m0 * 8), .int .i64 (m1 * 8), .int .i64 m2, .int .i64 m3, .int .i64 m4, .int .i64 m5, .int .i64 m6, .int .i64 m7], #[.int .i64 (m0 * 8), .int .i64 (m1 * 8), .int .i64 ((m0 + m2) * 4), .int .i64 ((m1 + m3) * 4), .int .i64 m4, .int .i64 m5, .int .i64 m6, .int .i64 m7], #[.int .i64 (m0 * 8), .int .i64 (m1 * 8), .int .i64 ((m0 + m2) * 4), .int .i64 ((m1 + m3) * 4), .int .i64 ((m0 + m2 + (m2 + m4)) * 2), .int .i64 ((m1 + m3 + (m3 + m5)) * 2), .int .i64 m6, .int .i64 m7], #[.int .i64 (m0 * 8), .int .i64 (m1 * 8), .int .i64 ((m0 + m2) * 4), .int .i64 ((m1 + m3) * 4), .int .i64 ((m0 + m2 + (m2 + m4)) * 2), .int .i64 ((m1 + m3 + (m3 + m5)) * 2), .int .i64 (m0 + m2 + (m2 + m4) + (m2 + m4 + (m4 + m6))), .int .i64 (m1 + m3 + (m3 + m5) + (m3 + m5 + (m5 + m7)))]] : List (Array Value)).getD j #[]) ∧ Below w.heap.size w wr) (fun v _ => 4 - (intOf v).toNat)
  case atStart => exact ⟨0, by omega, rfl, b0, b1, b2, g0⟩
  case round =>
    clear b0 b1 b2 g0
    obtain ⟨j, hj, rfl, b0, b1, b2, g0⟩ := hrel
    have zg := g0.size
    rcases (by omega : j = 0 ∨ j = 1 ∨ j = 2 ∨ j = 3 ∨ j = 4) with rfl | rfl | rfl | rfl | rfl
    · clear hj
      replace b2 : Blk wr (w.heap.size + 1 + 1) 95 #[.int .i64 m0, .int .i64 m1, .int .i64 m2, .int .i64 m3, .int .i64 m4, .int .i64 m5, .int .i64 m6, .int .i64 m7] := b2
      have y0 : wr.cell? ⟨w.heap.size, 0, none⟩ = some (.int .i64 m0) := b0.cell 0 rfl
      have y1 : wr.cell? ⟨w.heap.size, 1, none⟩ = some (.int .i64 m1) := b0.cell 1 rfl
      have y2 : wr.cell? ⟨w.heap.size, 2, none⟩ = some (.int .i64 m2) := b0.cell 2 rfl
      have y3 : wr.cell? ⟨w.heap.size, 3, none⟩ = some (.int .i64 m3) := b0.cell 3 rfl
      have y4 : wr.cell? ⟨w.heap.size, 4, none⟩ = some (.int .i64 m4) := b0.cell 4 rfl
      have y5 : wr.cell? ⟨w.heap.size, 5, none⟩ = some (.int .i64 m5) := b0.cell 5 rfl
      have y6 : wr.cell? ⟨w.heap.size, 6, none⟩ = some (.int .i64 m6) := b0.cell 6 rfl
      have y7 : wr.cell? ⟨w.heap.size, 7, none⟩ = some (.int .i64 m7) := b0.cell 7 rfl
      have l0 := b0.lt
      go_wp2_with fail
      clear y0 y1 y2 y3 y4 y5 y6 y7 l0
      refine (CB0.out _).mono ?_
      rintro e w3 ⟨rfl, hb3⟩
      replace b0 : Blk w3 (w.heap.size) 97 #[.int .i64 m0, .int .i64 m1, .int .i64 m2, .int .i64 m3, .int .i64 m4, .int .i64 m5, .int .i64 m6, .int .i64 m7] := by repeat' (first | with_reducible assumption | (with_reducible refine Blk.drew ?_) | (with_reducible refine Blk.carry ?_ (by with_reducible assumption)) | (with_reducible refine Blk.alloc ?_ _) | (with_reducible refine Blk.far ?_ ?_ _) | omega | (simp; done) | (simp; omega))
      replace b1 : Blk w3 (w.heap.size + 1) 95 #[.int .i64 0, .int .i64 0, .int .i64 0, .int .i64 0, .int .i64 0, .int .i64 0, .int .i64 0, .int .i64 0] := by repeat' (first | with_reducible assumption | (with_reducible refine Blk.drew ?_) | (with_reducible refine Blk.carry ?_ (by with_reducible assumption)) | (with_reducible refine Blk.alloc ?_ _) | (with_reducible refine Blk.far ?_ ?_ _) | omega | (simp; done) | (simp; omega))
      replace b2 : Blk w3 (w.heap.size + 1 + 1) 95 #[.int .i64 m0, .int .i64 m1, .int .i64 m2, .int .i64 m3, .int .i64 m4, .int .i64 m5, .int .i64 m6, .int .i64 m7] := by repeat' (first | with_reducible assumption | (with_reducible refine Blk.drew ?_) | (with_reducible refine Blk.carry ?_ (by with_reducible assumption)) | (with_reducible refine Blk.alloc ?_ _) | (with_reducible refine Blk.far ?_ ?_ _) | omega | (simp; done) | (simp; omega))
      replace g0 : Below w.heap.size w w3 := by repeat' (first | with_reducible assumption | with_reducible exact Below.refl _ _ | (with_reducible refine Below.setCell ?_ ?_ _) | (with_reducible refine Below.alloc ?_ ?_ _) | (with_reducible refine Below.drew ?_) | (with_reducible refine below_dr ?_ _) | (with_reducible refine Below.trans ?_ (Below.mono (by with_reducible assumption) ?_)) | omega | (simp; done) | (simp; omega))
      clear hb3
      have l2 := b2.lt
      have y0 : w3.cell? ⟨w.heap.size + 1 + 1, 0, none⟩ = some (.int .i64 m0) := b2.cell 0 rfl
      have y1 : w3.cell? ⟨w.heap.size + 1 + 1, 1, none⟩ = some (.int .i64 m1) := b2.cell 1 rfl
      have f0 := b2.frozen 0
      have f1 := b2.frozen 1
      go_wp2_with fail
      go_roundw
      case rel => exact ⟨1, by omega, by go_num, b0.far (by simp only; omega) _ |>.far (by simp only; omega) _, b1.far (by simp only; omega) _ |>.far (by simp only; omega) _, (b2.set_ 0 _).set_ 1 _, by repeat' (first | with_reducible assumption | with_reducible exact Below.refl _ _ | (with_reducible refine Below.setCell ?_ ?_ _) | (with_reducible refine Below.alloc ?_ ?_ _) | (with_reducible refine Below.drew ?_) | (with_reducible refine below_dr ?_ _) | (with_reducible refine Below.trans ?_ (Below.mono (by with_reducible assumption) ?_)) | omega | (simp; done) | (simp; omega))⟩
      case measure => simp [intOf]
    · clear hj
      replace b2 : Blk wr (w.heap.size + 1 + 1) 95 #[.int .i64 (m0 * 8), .int .i64 (m1 * 8), .int .i64 m2, .int .i64 m3, .int .i64 m4, .int .i64 m5, .int .i64 m6, .int .i64 m7] := b2
      have y0 : wr.cell? ⟨w.heap.size, 0, none⟩ = some (.int .i64 m0) := b0.cell 0 rfl
      have y1 : wr.cell? ⟨w.heap.size, 1, none⟩ = some (.int .i64 m1) := b0.cell 1 rfl
      have y2 : wr.cell? ⟨w.heap.size, 2, none⟩ = some (.int .i64 m2) := b0.cell 2 rfl
      have y3 : wr.cell? ⟨w.heap.size, 3, none⟩ = some (.int .i64 m3) := b0.cell 3 rfl
      have y4 : wr.cell? ⟨w.heap.size, 4, none⟩ = some (.int .i64 m4) := b0.cell 4 rfl
      have y5 : wr.cell? ⟨w.heap.size, 5, none⟩ = some (.int .i64 m5) := b0.cell 5 rfl
      have y6 : wr.cell? ⟨w.heap.size, 6, none⟩ = some (.int .i64 m6) := b0.cell 6 rfl
      have y7 : wr.cell? ⟨w.heap.size, 7, none⟩ = some (.int .i64 m7) := b0.cell 7 rfl
      have l0 := b0.lt
      go_wp2_with fail
      clear y0 y1 y2 y3 y4 y5 y6 y7 l0
      refine (CB1.out _).mono ?_
      rintro e w3 ⟨rfl, hb3⟩
      replace b0 : Blk w3 (w.heap.size) 97 #[.int .i64 m0, .int .i64 m1, .int .i64 m2, .int .i64 m3, .int .i64 m4, .int .i64 m5, .int .i64 m6, .int .i64 m7] := by repeat' (first | with_reducible assumption | (with_reducible refine Blk.drew ?_) | (with_reducible refine Blk.carry ?_ (by with_reducible assumption)) | (with_reducible refine Blk.alloc ?_ _) | (with_reducible refine Blk.far ?_ ?_ _) | omega | (simp; done) | (simp; omega))
      replace b1 : Blk w3 (w.heap.size + 1) 95 #[.int .i64 0, .int .i64 0, .int .i64 0, .int .i64 0, .int .i64 0, .int .i64 0, .int .i64 0, .int .i64 0] := by repeat' (first | with_reducible assumption | (with_reducible refine Blk.drew ?_) | (with_reducible refine Blk.carry ?_ (by with_reducible assumption)) | (with_reducible refine Blk.alloc ?_ _) | (with_reducible refine Blk.far ?_ ?_ _) | omega | (simp; done) | (simp; omega))
      replace b2 : Blk w3 (w.heap.size + 1 + 1) 95 #[.int .i64 (m0 * 8), .int .i64 (m1 * 8), .int .i64 m2, .int .i64 m3, .int .i64 m4, .int .i64 m5, .int .i64 m6, .int .i64 m7] := by repeat' (first | with_reducible assumption | (with_reducible refine Blk.drew ?_) | (with_reducible refine Blk.carry ?_ (by with_reducible assumption)) | (with_reducible refine Blk.alloc ?_ _) | (with_reducible refine Blk.far ?_ ?_ _) | omega | (simp; done) | (simp; omega))
      replace g0 : Below w.heap.size w w3 := by repeat' (first | with_reducible assumption | with_reducible exact Below.refl _ _ | (with_reducible refine Below.setCell ?_ ?_ _) | (with_reducible refine Below.alloc ?_ ?_ _) | (with_reducible refine Below.drew ?_) | (with_reducible refine below_dr ?_ _) | (with_reducible refine Below.trans ?_ (Below.mono (by with_reducible assumption) ?_)) | omega | (simp; done) | (simp; omega))
      clear hb3
      have l2 := b2.lt
      have y2 : w3.cell? ⟨w.heap.size + 1 + 1, 2, none⟩ = some (.int .i64 m2) := b2.cell 2 rfl
      have y3 : w3.cell? ⟨w.heap.size + 1 + 1, 3, none⟩ = some (.int .i64 m3) := b2.cell 3 rfl
      have f2 := b2.frozen 2
      have f3 := b2.frozen 3
      go_wp2_with fail
      go_roundw
      case rel => exact ⟨2, by omega, by go_num, b0.far (by simp only; omega) _ |>.far (by simp only; omega) _, b1.far (by simp only; omega) _ |>.far (by simp only; omega) _, (b2.set_ 2 _).set_ 3 _, by repeat' (first | with_reducible assumption | with_reducible exact Below.refl _ _ | (with_reducible refine Below.setCell ?_ ?_ _) | (with_reducible refine Below.alloc ?_ ?_ _) | (with_reducible refine Below.drew ?_) | (with_reducible refine below_dr ?_ _) | (with_reducible refine Below.trans ?_ (Below.mono (by with_reducible assumption) ?_)) | omega | (simp; done) | (simp; omega))⟩
      case measure => simp [intOf]
    · clear hj
      replace b2 : Blk wr (w.heap.size + 1 + 1) 95 #[.int .i64 (m0 * 8), .int .i64 (m1 * 8), .int .i64 ((m0 + m2) * 4), .int .i64 ((m1 + m3) * 4), .int .i64 m4, .int .i64 m5, .int .i64 m6, .int .i64 m7] := b2
      have y0 : wr.cell? ⟨w.heap.size, 0, none⟩ = some (.int .i64 m0) := b0.cell 0 rfl
      have y1 : wr.cell? ⟨w.heap.size, 1, none⟩ = some (.int .i64 m1) := b0.cell 1 rfl
      have y2 : wr.cell? ⟨w.heap.size, 2, none⟩ = some (.int .i64 m2) := b0.cell 2 rfl
      have y3 : wr.cell? ⟨w.heap.size, 3, none⟩ = some (.int .i64 m3) := b0.cell 3 rfl
      have y4 : wr.cell? ⟨w.heap.size, 4, none⟩ = some (.int .i64 m4) := b0.cell 4 rfl
      have y5 : wr.cell? ⟨w.heap.size, 5, none⟩ = some (.int .i64 m5) := b0.cell 5 rfl
      have y6 : wr.cell? ⟨w.heap.size, 6, none⟩ = some (.int .i64 m6) := b0.cell 6 rfl
      have y7 : wr.cell? ⟨w.heap.size, 7, none⟩ = some (.int .i64 m7) := b0.cell 7 rfl
      have l0 := b0.lt
      go_wp2_with fail
      clear y0 y1 y2 y3 y4 y5 y6 y7 l0
      refine (CB2.out _).mono ?_
      rintro e w3 ⟨rfl, hb3⟩
      replace b0 : Blk w3 (w.heap.size) 97 #[.int .i64 m0, .int .i64 m1, .int .i64 m2, .int .i64 m3, .int .i64 m4, .int .i64 m5, .int .i64 m6, .int .i64 m7] := by repeat' (first | with_reducible assumption | (with_reducible refine Blk.drew ?_) | (with_reducible refine Blk.carry ?_ (by with_reducible assumption)) | (with_reducible refine Blk.alloc ?_ _) | (with_reducible refine Blk.far ?_ ?_ _) | omega | (simp; done) | (simp; omega))
      replace b1 : Blk w3 (w.heap.size + 1) 95 #[.int .i64 0, .int .i64 0, .int .i64 0, .int .i64 0, .int .i64 0, .int .i64 0, .int .i64 0, .int .i64 0] := by repeat' (first | with_reducible assumption | (with_reducible refine Blk.drew ?_) | (with_reducible refine Blk.carry ?_ (by with_reducible assumption)) | (with_reducible refine Blk.alloc ?_ _) | (with_reducible refine Blk.far ?_ ?_ _) | omega | (simp; done) | (simp; omega))
      replace b2 : Blk w3 (w.heap.size + 1 + 1) 95 #[.int .i64 (m0 * 8), .int .i64 (m1 * 8), .int .i64 ((m0 + m2) * 4), .int .i64 ((m1 + m3) * 4), .int .i64 m4, .int .i64 m5, .int .i64 m6, .int .i64 m7] := by repeat' (first | with_reducible assumption | (with_reducible refine Blk.drew ?_) | (with_reducible refine Blk.carry ?_ (by with_reducible assumption)) | (with_reducible refine Blk.alloc ?_ _) | (with_reducible refine Blk.far ?_ ?_ _) | omega | (simp; done) | (simp; omega))
      replace g0 : Below w.heap.size w w3 := by repeat' (first | with_reducible assumption | with_reducible exact Below.refl _ _ | (with_reducible refine Below.setCell ?_ ?_ _) | (with_reducible refine Below.alloc ?_ ?_ _) | (with_reducible refine Below.drew ?_) | (with_reducible refine below_dr ?_ _) | (with_reducible refine Below.trans ?_ (Below.mono (by with_reducible assumption) ?_)) | omega | (simp; done) | (simp; omega))
      clear hb3
      have l2 := b2.lt
      have y4 : w3.cell? ⟨w.heap.size + 1 + 1, 4, none⟩ = some (.int .i64 m4) := b2.cell 4 rfl
      have y5 : w3.cell? ⟨w.heap.size + 1 + 1, 5, none⟩ = some (.int .i64 m5) := b2.cell 5 rfl
      have f4 := b2.frozen 4
      have f5 := b2.frozen 5
      go_wp2_with fail
      go_roundw
      case rel => exact ⟨3, by omega, by go_num, b0.far (by simp only; omega) _ |>.far (by simp only; omega) _, b1.far (by simp only; omega) _ |>.far (by simp only; omega) _, (b2.set_ 4 _).set_ 5 _, by repeat' (first | with_reducible assumption | with_reducible exact Below.refl _ _ | (with_reducible refine Below.setCell ?_ ?_ _) | (with_reducible refine Below.alloc ?_ ?_ _) | (with_reducible refine Below.drew ?_) | (with_reducible refine below_dr ?_ _) | (with_reducible refine Below.trans ?_ (Below.mono (by with_reducible assumption) ?_)) | omega | (simp; done) | (simp; omega))⟩
      case measure => simp [intOf]
    · clear hj
      replace b2 : Blk wr (w.heap.size + 1 + 1) 95 #[.int .i64 (m0 * 8), .int .i64 (m1 * 8), .int .i64 ((m0 + m2) * 4), .int .i64 ((m1 + m3) * 4), .int .i64 ((m0 + m2 + (m2 + m4)) * 2), .int .i64 ((m1 + m3 + (m3 + m5)) * 2), .int .i64 m6, .int .i64 m7] := b2
      have y0 : wr.cell? ⟨w.heap.size, 0, none⟩ = some (.int .i64 m0) := b0.cell 0 rfl
      have y1 : wr.cell? ⟨w.heap.size, 1, none⟩ = some (.int .i64 m1) := b0.cell 1 rfl
      have y2 : wr.cell? ⟨w.heap.size, 2, none⟩ = some (.int .i64 m2) := b0.cell 2 rfl
      have y3 : wr.cell? ⟨w.heap.size, 3, none⟩ = some (.int .i64 m3) := b0.cell 3 rfl
      have y4 : wr.cell? ⟨w.heap.size, 4, none⟩ = some (.int .i64 m4) := b0.cell 4 rfl
      have y5 : wr.cell? ⟨w.heap.size, 5, none⟩ = some (.int .i64 m5) := b0.cell 5 rfl
      have y6 : wr.cell? ⟨w.heap.size, 6, none⟩ = some (.int .i64 m6) := b0.cell 6 rfl
      have y7 : wr.cell? ⟨w.heap.size, 7, none⟩ = some (.int .i64 m7) := b0.cell 7 rfl
      have l0 := b0.lt
      go_wp2_with fail
      clear y0 y1 y2 y3 y4 y5 y6 y7 l0
      refine (CB3.out _).mono ?_
      rintro e w3 ⟨rfl, hb3⟩
      replace b0 : Blk w3 (w.heap.size) 97 #[.int .i64 m0, .int .i64 m1, .int .i64 m2, .int .i64 m3, .int .i64 m4, .int .i64 m5, .int .i64 m6, .int .i64 m7] := by repeat' (first | with_reducible assumption | (with_reducible refine Blk.drew ?_) | (with_reducible refine Blk.carry ?_ (by with_reducible assumption)) | (with_reducible refine Blk.alloc ?_ _) | (with_reducible refine Blk.far ?_ ?_ _) | omega | (simp; done) | (simp; omega))
      replace b1 : Blk w3 (w.heap.size + 1) 95 #[.int .i64 0, .int .i64 0, .int .i64 0, .int .i64 0, .int .i64 0, .int .i64 0, .int .i64 0, .int .i64 0] := by repeat' (first | with_reducible assumption | (with_reducible refine Blk.drew ?_) | (with_reducible refine Blk.carry ?_ (by with_reducible assumption)) | (with_reducible refine Blk.alloc ?_ _) | (with_reducible refine Blk.far ?_ ?_ _) | omega | (simp; done) | (simp; omega))
      replace b2 : Blk w3 (w.heap.size + 1 + 1) 95 #[.int .i64 (m0 * 8), .int .i64 (m1 * 8), .int .i64 ((m0 + m2) * 4), .int .i64 ((m1 + m3) * 4), .int .i64 ((m0 + m2 + (m2 + m4)) * 2), .int .i64 ((m1 + m3 + (m3 + m5)) * 2), .int .i64 m6, .int .i64 m7] := by repeat' (first | with_reducible assumption | (with_reducible refine Blk.drew ?_) | (with_reducible refine Blk.carry ?_ (by with_reducible assumption)) | (with_reducible refine Blk.alloc ?_ _) | (with_reducible refine Blk.far ?_ ?_ _) | omega | (simp; done) | (simp; omega))
      replace g0 : Below w.heap.size w w3 := by repeat' (first | with_reducible assumption | with_reducible exact Below.refl _ _ | (with_reducible refine Below.setCell ?_ ?_ _) | (with_reducible refine Below.alloc ?_ ?_ _) | (with_reducible refine Below.drew ?_) | (with_reducible refine below_dr ?_ _) | (with_reducible refine Below.trans ?_ (Below.mono (by with_reducible assumption) ?_)) | omega | (simp; done) | (simp; omega))
      clear hb3
      have l2 := b2.lt
      have y6 : w3.cell? ⟨w.heap.size + 1 + 1, 6, none⟩ = some (.int .i64 m6) := b2.cell 6 rfl
      have y7 : w3.cell? ⟨w.heap.size + 1 + 1, 7, none⟩ = some (.int .i64 m7) := b2.cell 7 rfl
      have f6 := b2.frozen 6
      have f7 := b2.frozen 7
      go_wp2_with fail
      go_roundw
      case rel => exact ⟨4, by omega, by go_num, b0.far (by simp only; omega) _ |>.far (by simp only; omega) _, b1.far (by simp only; omega) _ |>.far (by simp only; omega) _, (b2.set_ 6 _).set_ 7 _, by repeat' (first | with_reducible assumption | with_reducible exact Below.refl _ _ | (with_reducible refine Below.setCell ?_ ?_ _) | (with_reducible refine Below.alloc ?_ ?_ _) | (with_reducible refine Below.drew ?_) | (with_reducible refine below_dr ?_ _) | (with_reducible refine Below.trans ?_ (Below.mono (by with_reducible assumption) ?_)) | omega | (simp; done) | (simp; omega))⟩
      case measure => simp [intOf]
    · replace b2 : Blk wr (w.heap.size + 1 + 1) 95 #[.int .i64 (m0 * 8), .int .i64 (m1 * 8), .int .i64 ((m0 + m2) * 4), .int .i64 ((m1 + m3) * 4), .int .i64 ((m0 + m2 + (m2 + m4)) * 2), .int .i64 ((m1 + m3 + (m3 + m5)) * 2), .int .i64 (m0 + m2 + (m2 + m4) + (m2 + m4 + (m4 + m6))), .int .i64 (m1 + m3 + (m3 + m5) + (m3 + m5 + (m5 + m7)))] := b2
      have y0 : wr.cell? ⟨w.heap.size + 1 + 1, 0, none⟩ = some (.int .i64 (m0 * 8)) := b2.cell 0 rfl
      have y1 : wr.cell? ⟨w.heap.size + 1 + 1, 1, none⟩ = some (.int .i64 (m1 * 8)) := b2.cell 1 rfl
      have y2 : wr.cell? ⟨w.heap.size + 1 + 1, 2, none⟩ = some (.int .i64 ((m0 + m2) * 4)) := b2.cell 2 rfl
      have y3 : wr.cell? ⟨w.heap.size + 1 + 1, 3, none⟩ = some (.int .i64 ((m1 + m3) * 4)) := b2.cell 3 rfl
      have y4 : wr.cell? ⟨w.heap.size + 1 + 1, 4, none⟩ = some (.int .i64 ((m0 + m2 + (m2 + m4)) * 2)) := b2.cell 4 rfl
      have y5 : wr.cell? ⟨w.heap.size + 1 + 1, 5, none⟩ = some (.int .i64 ((m1 + m3 + (m3 + m5)) * 2)) := b2.cell 5 rfl
      have y6 : wr.cell? ⟨w.heap.size + 1 + 1, 6, none⟩ = some (.int .i64 (m0 + m2 + (m2 + m4) + (m2 + m4 + (m4 + m6)))) := b2.cell 6 rfl
      have y7 : wr.cell? ⟨w.heap.size + 1 + 1, 7, none⟩ = some (.int .i64 (m1 + m3 + (m3 + m5) + (m3 + m5 + (m5 + m7)))) := b2.cell 7 rfl
      have f0 := b1.frozen 0
      have f1 := b1.frozen 1
      have f2 := b1.frozen 2
      have f3 := b1.frozen 3
      have f4 := b1.frozen 4
      have f5 := b1.frozen 5
      have f6 := b1.frozen 6
      have f7 := b1.frozen 7
      have n0 : wr.cell? ⟨w.heap.size + 1, 0, none⟩ = some (.int .i64 0) := b1.cell 0 rfl
      have n1 : wr.cell? ⟨w.heap.size + 1, 1, none⟩ = some (.int .i64 0) := b1.cell 1 rfl
      have n2 : wr.cell? ⟨w.heap.size + 1, 2, none⟩ = some (.int .i64 0) := b1.cell 2 rfl
      have n3 : wr.cell? ⟨w.heap.size + 1, 3, none⟩ = some (.int .i64 0) := b1.cell 3 rfl
      have n4 : wr.cell? ⟨w.heap.size + 1, 4, none⟩ = some (.int .i64 0) := b1.cell 4 rfl
      have n5 : wr.cell? ⟨w.heap.size + 1, 5, none⟩ = some (.int .i64 0) := b1.cell 5 rfl
      have n6 : wr.cell? ⟨w.heap.size + 1, 6, none⟩ = some (.int .i64 0) := b1.cell 6 rfl
      have n7 : wr.cell? ⟨w.heap.size + 1, 7, none⟩ = some (.int .i64 0) := b1.cell 7 rfl
      have l1 := b1.lt
      have l2 := b2.lt
      go_wp2_with fail
      refine bodyPost_ret (v := .agg #[.int .i64 (m0 * 8), .int .i64 (m1 * 8), .int .i64 ((m0 + m2) * 4), .int .i64 ((m1 + m3) * 4), .int .i64 ((m0 + m2 + (m2 + m4)) * 2), .int .i64 ((m1 + m3 + (m3 + m5)) * 2), .int .i64 (m0 + m2 + (m2 + m4) + (m2 + m4 + (m4 + m6))), .int .i64 (m1 + m3 + (m3 + m5) + (m3 + m5 + (m5 + m7)))]) (by simp [results, Try.results66, go_sem, *]) rfl ⟨rfl, ?_⟩
      repeat' (first | with_reducible assumption | with_reducible exact Below.refl _ _ | (with_reducible refine Below.setCell ?_ ?_ _) | (with_reducible refine Below.alloc ?_ ?_ _) | (with_reducible refine Below.drew ?_) | (with_reducible refine below_dr ?_ _) | (with_reducible refine Below.trans ?_ (Below.mono (by with_reducible assumption) ?_)) | omega | (simp; done) | (simp; omega))
set_option maxRecDepth 100000 in
set_option maxHeartbeats 12800000 in
theorem part1_any (m0 m1 m2 m3 m4 m5 m6 m7 : Int) (w : World) (hok : okC m0 m1 m2 m3 m4 m5 m6 m7 = true) :
    Calls Try.prog 66 #[.agg #[.int .i64 m0, .int .i64 m1, .int .i64 m2, .int .i64 m3, .int .i64 m4, .int .i64 m5, .int .i64 m6, .int .i64 m7], .int .i64 1, .int .i64 2] w fun e w' => e = .returned (.agg #[.int .i64 (m0 + m2 + (m2 + m4) + (m2 + m4 + (m4 + m6))), .int .i64 (m1 + m3 + (m3 + m5) + (m3 + m5 + (m5 + m7))), .int .i64 ((m2 + m4 + (m4 + m6)) * 2), .int .i64 ((m3 + m5 + (m5 + m7)) * 2), .int .i64 ((m4 + m6) * 4), .int .i64 ((m5 + m7) * 4), .int .i64 (m6 * 8), .int .i64 (m7 * 8)]) ∧ Below w.heap.size w w' := by
  have CB0 := Lib.hid ((fun w => by have h := blossom4_any m0 m1 m2 m3 m4 m5 m6 m7 1 2 0 w hok (by omega) (by omega) (by omega) (by omega) (by omega); rw [cas_half10 m0 m2 m4 m6, cas_half10 m1 m3 m5 m7] at h; exact h) : ∀ w : World, Calls Try.prog 100 #[.agg #[.int .i64 m0, .int .i64 m1, .int .i64 m2, .int .i64 m3, .int .i64 m4, .int .i64 m5, .int .i64 m6, .int .i64 m7], .int .i64 1, .int .i64 2, .int .i64 0] w fun e w' => e = .returned (.agg #[.int .i64 (m0 + m2 + (m2 + m4) + (m2 + m4 + (m4 + m6))), .int .i64 (m1 + m3 + (m3 + m5) + (m3 + m5 + (m5 + m7)))]) ∧ Below w.heap.size w w')
  have CB1 := Lib.hid ((fun w => by have h := blossom4_any m0 m1 m2 m3 m4 m5 m6 m7 1 2 1 w hok (by omega) (by omega) (by omega) (by omega) (by omega); rw [cas_half11 m0 m2 m4 m6, cas_half11 m1 m3 m5 m7] at h; exact h) : ∀ w : World, Calls Try.prog 100 #[.agg #[.int .i64 m0, .int .i64 m1, .int .i64 m2, .int .i64 m3, .int .i64 m4, .int .i64 m5, .int .i64 m6, .int .i64 m7], .int .i64 1, .int .i64 2, .int .i64 1] w fun e w' => e = .returned (.agg #[.int .i64 ((m2 + m4 + (m4 + m6)) * 2), .int .i64 ((m3 + m5 + (m5 + m7)) * 2)]) ∧ Below w.heap.size w w')
  have CB2 := Lib.hid ((fun w => by have h := blossom4_any m0 m1 m2 m3 m4 m5 m6 m7 1 2 2 w hok (by omega) (by omega) (by omega) (by omega) (by omega); rw [cas_half12 m0 m2 m4 m6, cas_half12 m1 m3 m5 m7] at h; exact h) : ∀ w : World, Calls Try.prog 100 #[.agg #[.int .i64 m0, .int .i64 m1, .int .i64 m2, .int .i64 m3, .int .i64 m4, .int .i64 m5, .int .i64 m6, .int .i64 m7], .int .i64 1, .int .i64 2, .int .i64 2] w fun e w' => e = .returned (.agg #[.int .i64 ((m4 + m6) * 4), .int .i64 ((m5 + m7) * 4)]) ∧ Below w.heap.size w w')
  have CB3 := Lib.hid ((fun w => by have h := blossom4_any m0 m1 m2 m3 m4 m5 m6 m7 1 2 3 w hok (by omega) (by omega) (by omega) (by omega) (by omega); rw [cas_half13 m0 m2 m4 m6, cas_half13 m1 m3 m5 m7] at h; exact h) : ∀ w : World, Calls Try.prog 100 #[.agg #[.int .i64 m0, .int .i64 m1, .int .i64 m2, .int .i64 m3, .int .i64 m4, .int .i64 m5, .int .i64 m6, .int .i64 m7], .int .i64 1, .int .i64 2, .int .i64 3] w fun e w' => e = .returned (.agg #[.int .i64 (m6 * 8), .int .i64 (m7 * 8)]) ∧ Below w.heap.size w w')
  clear hok
  go_enter Try.func66, Try.ntmps66
  go_wp2_with fail
  generalize hW : ((w.alloc (.cells #[.int .i64 m0, .int .i64 m1, .int .i64 m2, .int .i64 m3, .int .i64 m4, .int .i64 m5, .int .i64 m6, .int .i64 m7] 97)).alloc (.cells #[.int .i64 0, .int .i64 0, .int .i64 0, .int .i64 0, .int .i64 0, .int .i64 0, .int .i64 0, .int .i64 0] 95)).alloc (.cells #[.int .i64 m0, .int .i64 m1, .int .i64 m2, .int .i64 m3, .int .i64 m4, .int .i64 m5, .int .i64 m6, .int .i64 m7] 95) = W0
  have b0 : Blk W0 (w.heap.size) 97 #[.int .i64 m0, .int .i64 m1, .int .i64 m2, .int .i64 m3, .int .i64 m4, .int .i64 m5, .int .i64 m6, .int .i64 m7] := by rw [← hW]; exact ((Blk.new _ _ _).alloc _).alloc _
  have b1 : Blk W0 (w.heap.size + 1) 95 #[.int .i64 0, .int .i64 0, .int .i64 0, .int .i64 0, .int .i64 0, .int .i64 0, .int .i64 0, .int .i64 0] := by rw [← hW]; exact (Blk.newAt _ _ _ (by simp)).alloc _
  have b2 : Blk W0 (w.heap.size + 1 + 1) 95 #[.int .i64 m0, .int .i64 m1, .int .i64 m2, .int .i64 m3, .int .i64 m4, .int .i64 m5, .int .i64 m6, .int .i64 m7] := by rw [← hW]; exact Blk.newAt _ _ _ (by simp)
  have g0 : Below w.heap.size w W0 := by rw [← hW]; repeat' (first | with_reducible assumption | with_reducible exact Below.refl _ _ | (with_reducible refine Below.setCell ?_ ?_ _) | (with_reducible refine Below.alloc ?_ ?_ _) | (with_reducible refine Below.drew ?_) | (with_reducible refine below_dr ?_ _) | (with_reducible refine Below.trans ?_ (Below.mono (by with_reducible assumption) ?_)) | omega | (simp; done) | (simp; omega))
  clear hW
  go_loopw [13] (fun v wr => ∃ j : Nat, j ≤ 4 ∧ v = .int .i64 j ∧ Blk wr (w.heap.size) 97 #[.int .i64 m0, .int .i64 m1, .int .i64 m2, .int .i64 m3, .int .i64 m4, .int .i64 m5, .int .i64 m6, .int .i64 m7] ∧ Blk wr (w.heap.size + 1) 95 #[.int .i64 0, .int .i64 0, .int .i64 0, .int .i64 0, .int .i64 0, .int .i64 0, .int .i64 0, .int .i64 0] ∧ Blk wr (w.heap.size + 1 + 1) 95 (([#[.int .i64 m0, .int .i64 m1, .int .i64 m2, .int .i64 m3, .int .i64 m4, .int .i64 m5, .int .i64 m6, .int .i64 m7], #[.int .i64 (m0 + m2 + (m2 + m4) + (m2 + m4 + (m4 + m6))), .int .i64 (m1 + m3 + (m3 + m5) + (m3 + m5 + (m5 + m7))), .int .i64 m2, .int .i64 m3, .int .i64 m4, .int .i64 m5, .int .i64 m6, .int .i64 m7], #[.int .i64 (m0 + m2 + (m2 + m4) + (m2 + m4 + (m4 + m6))), .int .i64 (m1 + m3 + (m3 + m5) + (m3 + m5 + (m5 + m7))), .int .i64 ((m2 + m4 + (m4 + m6)) * 2), .int .i64 ((m3 + m5 + (m5 + m7)) * 2), .int .i64 m4, .int .i64 m5, .int .i64 m6, .int .i64 m7], #[.int .i64 (m0 + m2 + (m2 + m4) + (m2 + m4 + (m4 + m6))), .int .i64 (m1 + m3 + (m3 + m5) + (m3 + m5 + (m5 + m7))), .int .i64 ((m2 + m4 + (m4 + m6)) * 2), .int .i64 ((m3 + m5 + (m5 + m7)) * 2), .int .i64 ((m4 + m6) * 4), .int .i64 ((m5 + m7) * 4), .int .i64 m6, .int .i64 m7], #[.int .i64 (m0 + m2 + (m2 + m4) + (m2 + m4 + (m4 + m6))), .int .i64 (m1 + m3 + (m3 + m5) + (m3 + m5 + (m5 + m7))), .int .i64 ((m2 + m4 + (m4 + m6)) * 2), .int .i64 ((m3 + m5 + (m5 + m7)) * 2), .int .i64 ((m4 + m6) * 4), .int .i64 ((m5 + m7) * 4), .int .i64 (m6 * 8), .int .i64 (m7 * 8)]] : List (Array Value)).getD j #[]) ∧ Below w.heap.size w wr) (fun v _ => 4 - (intOf v).toNat)
  case atStart => exact ⟨0, by omega, rfl, b0, b1, b2, g0⟩
  case round =>
    clear b0 b1 b2 g0
    obtain ⟨j, hj, rfl, b0, b1, b2, g0⟩ := hrel
    have zg := g0.size
    rcases (by omega : j = 0 ∨ j = 1 ∨ j = 2 ∨ j = 3 ∨ j = 4) with rfl | rfl | rfl | rfl | rfl
    · clear hj
      replace b2 : Blk wr (w.heap.size + 1 + 1) 95 #[.int .i64 m0, .int .i64 m1, .int .i64 m2, .int .i64 m3, .int .i64 m4, .int .i64 m5, .int .i64 m6, .int .i64 m7] := b2
      have y0 : wr.cell? ⟨w.heap.size, 0, none⟩ = some (.int .i64 m0) := b0.cell 0 rfl
      have y1 : wr.cell? ⟨w.heap.size, 1, none⟩ = some (.int .i64 m1) := b0.cell 1 rfl
      have y2 : wr.cell? ⟨w.heap.size, 2, none⟩ = some (.int .i64 m2) := b0.cell 2 rfl
      have y3 : wr.cell? ⟨w.heap.size, 3, none⟩ = some (.int .i64 m3) := b0.cell 3 rfl
      have y4 : wr.cell? ⟨w.heap.size, 4, none⟩ = some (.int .i64 m4) := b0.cell 4 rfl
      have y5 : wr.cell? ⟨w.heap.size, 5, none⟩ = some (.int .i64 m5) := b0.cell 5 rfl
      have y6 : wr.cell? ⟨w.heap.size, 6, none⟩ = some (.int .i64 m6) := b0.cell 6 rfl
      have y7 : wr.cell? ⟨w.heap.size, 7, none⟩ = some (.int .i64 m7) := b0.cell 7 rfl
      have l0 := b0.lt
      go_wp2_with fail
      clear y0 y1 y2 y3 y4 y5 y6 y7 l0
      refine (CB0.out _).mono ?_
      rintro e w3 ⟨rfl, hb3⟩
      replace b0 : Blk w3 (w.heap.size) 97 #[.int .i64 m0, .int .i64 m1, .int .i64 m2, .int .i64 m3, .int .i64 m4, .int .i64 m5, .int .i64 m6, .int .i64 m7] := by repeat' (first | with_reducible assumption | (with_reducible refine Blk.drew ?_) | (with_reducible refine Blk.carry ?_ (by with_reducible assumption)) | (with_reducible refine Blk.alloc ?_ _) | (with_reducible refine Blk.far ?_ ?_ _) | omega | (simp; done) | (simp; omega))
      replace b1 : Blk w3 (w.heap.size + 1) 95 #[.int .i64 0, .int .i64 0, .int .i64 0, .int .i64 0, .int .i64 0, .int .i64 0, .int .i64 0, .int .i64 0] := by repeat' (first | with_reducible assumption | (with_reducible refine Blk.drew ?_) | (with_reducible refine Blk.carry ?_ (by with_reducible assumption)) | (with_reducible refine Blk.alloc ?_ _) | (with_reducible refine Blk.far ?_ ?_ _) | omega | (simp; done) | (simp; omega))
      replace b2 : Blk w3 (w.heap.size + 1 + 1) 95 #[.int .i64 m0, .int .i64 m1, .int .i64 m2, .int .i64 m3, .int .i64 m4, .int .i64 m5, .int .i64 m6, .int .i64 m7] := by repeat' (first | with_reducible assumption | (with_reducible refine Blk.drew ?_) | (with_reducible refine Blk.carry ?_ (by with_reducible assumption)) | (with_reducible refine Blk.alloc ?_ _) | (with_reducible refine Blk.far ?_ ?_ _) | omega | (simp; done) | (simp; omega))
      replace g0 : Below w.heap.size w w3 := by repeat' (first | with_reducible assumption | with_reducible exact Below.refl _ _ | (with_reducible refine Below.setCell ?_ ?_ _) | (with_reducible refine Below.alloc ?_ ?_ _) | (with_reducible refine Below.drew ?_) | (with_reducible refine below_dr ?_ _) | (with_reducible refine Below.trans ?_ (Below.mono (by with_reducible assumption) ?_)) | omega | (simp; done) | (simp; omega))
      clear hb3
      have l2 := b2.lt
      have y0 : w3.cell? ⟨w.heap.size + 1 + 1, 0, none⟩ = some (.int .i64 m0) := b2.cell 0 rfl
      have y1 : w3.cell? ⟨w.heap.size + 1 + 1, 1, none⟩ = some (.int .i64 m1) := b2.cell 1 rfl
      have f0 := b2.frozen 0
      have f1 := b2.frozen 1
      go_wp2_with fail
      go_roundw
      case rel => exact ⟨1, by omega, by go_num, b0.far (by simp only; omega) _ |>.far (by simp only; omega) _, b1.far (by simp only; omega) _ |>.far (by simp only; omega) _, (b2.set_ 0 _).set_ 1 _, by repeat' (first | with_reducible assumption | with_reducible exact Below.refl _ _ | (with_reducible refine Below.setCell ?_ ?_ _) | (with_reducible refine Below.alloc ?_ ?_ _) | (with_reducible refine Below.drew ?_) | (with_reducible refine below_dr ?_ _) | (with_reducible refine Below.trans ?_ (Below.mono (by with_reducible assumption) ?_)) | omega | (simp; done) | (simp; omega))⟩
      case measure => simp [intOf]
    · clear hj
      replace b2 : Blk wr (w.heap.size + 1 + 1) 95 #[.int .i64 (m0 + m2 + (m2 + m4) + (m2 + m4 + (m4 + m6))), .int .i64 (m1 + m3 + (m3 + m5) + (m3 + m5 + (m5 + m7))), .int .i64 m2, .int .i64 m3, .int .i64 m4, .int .i64 m5, .int .i64 m6, .int .i64 m7] := b2
      have y0 : wr.cell? ⟨w.heap.size, 0, none⟩ = some (.int .i64 m0) := b0.cell 0 rfl
      have y1 : wr.cell? ⟨w.heap.size, 1, none⟩ = some (.int .i64 m1) := b0.cell 1 rfl
      have y2 : wr.cell? ⟨w.heap.size, 2, none⟩ = some (.int .i64 m2) := b0.cell 2 rfl
      have y3 : wr.cell? ⟨w.heap.size, 3, none⟩ = some (.int .i64 m3) := b0.cell 3 rfl
      have y4 : wr.cell? ⟨w.heap.size, 4, none⟩ = some (.int .i64 m4) := b0.cell 4 rfl
      have y5 : wr.cell? ⟨w.heap.size, 5, none⟩ = some (.int .i64 m5) := b0.cell 5 rfl
      have y6 : wr.cell? ⟨w.heap.size, 6, none⟩ = some (.int .i64 m6) := b0.cell 6 rfl
      have y7 : wr.cell? ⟨w.heap.size, 7, none⟩ = some (.int .i64 m7) := b0.cell 7 rfl
      have l0 := b0.lt
      go_wp2_with fail
      clear y0 y1 y2 y3 y4 y5 y6 y7 l0
      refine (CB1.out _).mono ?_
      rintro e w3 ⟨rfl, hb3⟩
      replace b0 : Blk w3 (w.heap.size) 97 #[.int .i64 m0, .int .i64 m1, .int .i64 m2, .int .i64 m3, .int .i64 m4, .int .i64 m5, .int .i64 m6, .int .i64 m7] := by repeat' (first | with_reducible assumption | (with_reducible refine Blk.drew ?_) | (with_reducible refine Blk.carry ?_ (by with_reducible assumption)) | (with_reducible refine Blk.alloc ?_ _) | (with_reducible refine Blk.far ?_ ?_ _) | omega | (simp; done) | (simp; omega))
      replace b1 : Blk w3 (w.heap.size + 1) 95 #[.int .i64 0, .int .i64 0, .int .i64 0, .int .i64 0, .int .i64 0, .int .i64 0, .int .i64 0, .int .i64 0] := by repeat' (first | with_reducible assumption | (with_reducible refine Blk.drew ?_) | (with_reducible refine Blk.carry ?_ (by with_reducible assumption)) | (with_reducible refine Blk.alloc ?_ _) | (with_reducible refine Blk.far ?_ ?_ _) | omega | (simp; done) | (simp; omega))
      replace b2 : Blk w3 (w.heap.size + 1 + 1) 95 #[.int .i64 (m0 + m2 + (m2 + m4) + (m2 + m4 + (m4 + m6))), .int .i64 (m1 + m3 + (m3 + m5) + (m3 + m5 + (m5 + m7))), .int .i64 m2, .int .i64 m3, .int .i64 m4, .int .i64 m5, .int .i64 m6, .int .i64 m7] := by repeat' (first | with_reducible assumption | (with_reducible refine Blk.drew ?_) | (with_reducible refine Blk.carry ?_ (by with_reducible assumption)) | (with_reducible refine Blk.alloc ?_ _) | (with_reducible refine Blk.far ?_ ?_ _) | omega | (simp; done) | (simp; omega))
      replace g0 : Below w.heap.size w w3 := by repeat' (first | with_reducible assumption | with_reducible exact Below.refl _ _ | (with_reducible refine Below.setCell ?_ ?_ _) | (with_reducible refine Below.alloc ?_ ?_ _) | (with_reducible refine Below.drew ?_) | (with_reducible refine below_dr ?_ _) | (with_reducible refine Below.trans ?_ (Below.mono (by with_reducible assumption) ?_)) | omega | (simp; done) | (simp; omega))
      clear hb3
      have l2 := b2.lt
      have y2 : w3.cell? ⟨w.heap.size + 1 + 1, 2, none⟩ = some (.int .i64 m2) := b2.cell 2 rfl
      have y3 : w3.cell? ⟨w.heap.size + 1 + 1, 3, none⟩ = some (.int .i64 m3) := b2.cell 3 rfl
      have f2 := b2.frozen 2
      have f3 := b2.frozen 3
      go_wp2_with fail
      go_roundw
      case rel => exact ⟨2, by omega, by go_num, b0.far (by simp only; omega) _ |>.far (by simp only; omega) _, b1.far (by simp only; omega) _ |>.far (by simp only; omega) _, (b2.set_ 2 _).set_ 3 _, by repeat' (first | with_reducible assumption | with_reducible exact Below.refl _ _ | (with_reducible refine Below.setCell ?_ ?_ _) | (with_reducible refine Below.alloc ?_ ?_ _) | (with_reducible refine Below.drew ?_) | (with_reducible refine below_dr ?_ _) | (with_reducible refine Below.trans ?_ (Below.mono (by with_reducible assumption) ?_)) | omega | (simp; done) | (simp; omega))⟩
      case measure => simp [intOf]
    · clear hj
      replace b2 : Blk wr (w.heap.size + 1 + 1) 95 #[.int .i64 (m0 + m2 + (m2 + m4) + (m2 + m4 + (m4 + m6))), .int .i64 (m1 + m3 + (m3 + m5) + (m3 + m5 + (m5 + m7))), .int .i64 ((m2 + m4 + (m4 + m6)) * 2), .int .i64 ((m3 + m5 + (m5 + m7)) * 2), .int .i64 m4, .int .i64 m5, .int .i64 m6, .int .i64 m7] := b2
      have y0 : wr.cell? ⟨w.heap.size, 0, none⟩ = some (.int .i64 m0) := b0.cell 0 rfl
      have y1 : wr.cell? ⟨w.heap.size, 1, none⟩ = some (.int .i64 m1) := b0.cell 1 rfl
      have y2 : wr.cell? ⟨w.heap.size, 2, none⟩ = some (.int .i64 m2) := b0.cell 2 rfl
      have y3 : wr.cell? ⟨w.heap.size, 3, none⟩ = some (.int .i64 m3) := b0.cell 3 rfl
      have y4 : wr.cell? ⟨w.heap.size, 4, none⟩ = some (.int .i64 m4) := b0.cell 4 rfl
      have y5 : wr.cell? ⟨w.heap.size, 5, none⟩ = some (.int .i64 m5) := b0.cell 5 rfl
      have y6 : wr.cell? ⟨w.heap.size, 6, none⟩ = some (.int .i64 m6) := b0.cell 6 rfl
      have y7 : wr.cell? ⟨w.heap.size, 7, none⟩ = some (.int .i64 m7) := b0.cell 7 rfl
      have l0 := b0.lt
      go_wp2_with fail
      clear y0 y1 y2 y3 y4 y5 y6 y7 l0
      refine (CB2.out _).mono ?_
      rintro e w3 ⟨rfl, hb3⟩
      replace b0 : Blk w3 (w.heap.size) 97 #[.int .i64 m0, .int .i64 m1, .int .i64 m2, .int .i64 m3, .int .i64 m4, .int .i64 m5, .int .i64 m6, .int .i64 m7] := by repeat' (first | with_reducible assumption | (with_reducible refine Blk.drew ?_) | (with_reducible refine Blk.carry ?_ (by with_reducible assumption)) | (with_reducible refine Blk.alloc ?_ _) | (with_reducible refine Blk.far ?_ ?_ _) | omega | (simp; done) | (simp; omega))
      replace b1 : Blk w3 (w.heap.size + 1) 95 #[.int .i64 0, .int .i64 0, .int .i64 0, .int .i64 0, .int .i64 0, .int .i64 0, .int .i64 0, .int .i64 0] := by repeat' (first | with_reducible assumption | (with_reducible refine Blk.drew ?_) | (with_reducible refine Blk.carry ?_ (by with_reducible assumption)) | (with_reducible refine Blk.alloc ?_ _) | (with_reducible refine Blk.far ?_ ?_ _) | omega | (simp; done) | (simp; omega))
      replace b2 : Blk w3 (w.heap.size + 1 + 1) 95 #[.int .i64 (m0 + m2 + (m2 + m4) + (m2 + m4 + (m4 + m6))), .int .i64 (m1 + m3 + (m3 + m5) + (m3 + m5 + (m5 + m7))), .int .i64 ((m2 + m4 + (m4 + m6)) * 2), .int .i64 ((m3 + m5 + (m5 + m7)) * 2), .int .i64 m4, .int .i64 m5, .int .i64 m6, .int .i64 m7] := by repeat' (first | with_reducible assumption | (with_reducible refine Blk.drew ?_) | (with_reducible refine Blk.carry ?_ (by with_reducible assumption)) | (with_reducible refine Blk.alloc ?_ _) | (with_reducible refine Blk.far ?_ ?_ _) | omega | (simp; done) | (simp; omega))
      replace g0 : Below w.heap.size w w3 := by repeat' (first | with_reducible assumption | with_reducible exact Below.refl _ _ | (with_reducible refine Below.setCell ?_ ?_ _) | (with_reducible refine Below.alloc ?_ ?_ _) | (with_reducible refine Below.drew ?_) | (with_reducible refine below_dr ?_ _) | (with_reducible refine Below.trans ?_ (Below.mono (by with_reducible assumption) ?_)) | omega | (simp; done) | (simp; omega))
      clear hb3
      have l2 := b2.lt
      have y4 : w3.cell? ⟨w.heap.size + 1 + 1, 4, none⟩ = some (.int .i64 m4) := b2.cell 4 rfl
      have y5 : w3.cell? ⟨w.heap.size + 1 + 1, 5, none⟩ = some (.int .i64 m5) := b2.cell 5 rfl
      have f4 := b2.frozen 4
      have f5 := b2.frozen 5
      go_wp2_with fail
      go_roundw
      case rel => exact ⟨3, by omega, by go_num, b0.far (by simp only; omega) _ |>.far (by simp only; omega) _, b1.far (by simp only; omega) _ |>.far (by simp only; omega) _, (b2.set_ 4 _).set_ 5 _, by repeat' (first | with_reducible assumption | with_reducible exact Below.refl _ _ | (with_reducible refine Below.setCell ?_ ?_ _) | (with_reducible refine Below.alloc ?_ ?_ _) | (with_reducible refine Below.drew ?_) | (with_reducible refine below_dr ?_ _) | (with_reducible refine Below.trans ?_ (Below.mono (by with_reducible assumption) ?_)) | omega | (simp; done) | (simp; omega))⟩
      case measure => simp [intOf]
    · clear hj
      replace b2 : Blk wr (w.heap.size + 1 + 1) 95 #[.int .i64 (m0 + m2 + (m2 + m4) + (m2 + m4 + (m4 + m6))), .int .i64 (m1 + m3 + (m3 + m5) + (m3 + m5 + (m5 + m7))), .int .i64 ((m2 + m4 + (m4 + m6)) * 2), .int .i64 ((m3 + m5 + (m5 + m7)) * 2), .int .i64 ((m4 + m6) * 4), .int .i64 ((m5 + m7) * 4), .int .i64 m6, .int .i64 m7] := b2
      have y0 : wr.cell? ⟨w.heap.size, 0, none⟩ = some (.int .i64 m0) := b0.cell 0 rfl
      have y1 : wr.cell? ⟨w.heap.size, 1, none⟩ = some (.int .i64 m1) := b0.cell 1 rfl
      have y2 : wr.cell? ⟨w.heap.size, 2, none⟩ = some (.int .i64 m2) := b0.cell 2 rfl
      have y3 : wr.cell? ⟨w.heap.size, 3, none⟩ = some (.int .i64 m3) := b0.cell 3 rfl
      have y4 : wr.cell? ⟨w.heap.size, 4, none⟩ = some (.int .i64 m4) := b0.cell 4 rfl
      have y5 : wr.cell? ⟨w.heap.size, 5, none⟩ = some (.int .i64 m5) := b0.cell 5 rfl
      have y6 : wr.cell? ⟨w.heap.size, 6, none⟩ = some (.int .i64 m6) := b0.cell 6 rfl
      have y7 : wr.cell? ⟨w.heap.size, 7, none⟩ = some (.int .i64 m7) := b0.cell 7 rfl
      have l0 := b0.lt
      go_wp2_with fail
      clear y0 y1 y2 y3 y4 y5 y6 y7 l0
      refine (CB3.out _).mono ?_
      rintro e w3 ⟨rfl, hb3⟩
      replace b0 : Blk w3 (w.heap.size) 97 #[.int .i64 m0, .int .i64 m1, .int .i64 m2, .int .i64 m3, .int .i64 m4, .int .i64 m5, .int .i64 m6, .int .i64 m7] := by repeat' (first | with_reducible assumption | (with_reducible refine Blk.drew ?_) | (with_reducible refine Blk.carry ?_ (by with_reducible assumption)) | (with_reducible refine Blk.alloc ?_ _) | (with_reducible refine Blk.far ?_ ?_ _) | omega | (simp; done) | (simp; omega))
      replace b1 : Blk w3 (w.heap.size + 1) 95 #[.int .i64 0, .int .i64 0, .int .i64 0, .int .i64 0, .int .i64 0, .int .i64 0, .int .i64 0, .int .i64 0] := by repeat' (first | with_reducible assumption | (with_reducible refine Blk.drew ?_) | (with_reducible refine Blk.carry ?_ (by with_reducible assumption)) | (with_reducible refine Blk.alloc ?_ _) | (with_reducible refine Blk.far ?_ ?_ _) | omega | (simp; done) | (simp; omega))
      replace b2 : Blk w3 (w.heap.size + 1 + 1) 95 #[.int .i64 (m0 + m2 + (m2 + m4) + (m2 + m4 + (m4 + m6))), .int .i64 (m1 + m3 + (m3 + m5) + (m3 + m5 + (m5 + m7))), .int .i64 ((m2 + m4 + (m4 + m6)) * 2), .int .i64 ((m3 + m5 + (m5 + m7)) * 2), .int .i64 ((m4 + m6) * 4), .int .i64 ((m5 + m7) * 4), .int .i64 m6, .int .i64 m7] := by repeat' (first | with_reducible assumption | (with_reducible refine Blk.drew ?_) | (with_reducible refine Blk.carry ?_ (by with_reducible assumption)) | (with_reducible refine Blk.alloc ?_ _) | (with_reducible refine Blk.far ?_ ?_ _) | omega | (simp; done) | (simp; omega))
      replace g0 : Below w.heap.size w w3 := by repeat' (first | with_reducible assumption | with_reducible exact Below.refl _ _ | (with_reducible refine Below.setCell ?_ ?_ _) | (with_reducible refine Below.alloc ?_ ?_ _) | (with_reducible refine Below.drew ?_) | (with_reducible refine below_dr ?_ _) | (with_reducible refine Below.trans ?_ (Below.mono (by with_reducible assumption) ?_)) | omega | (simp; done) | (simp; omega))
      clear hb3
      have l2 := b2.lt
      have y6 : w3.cell? ⟨w.heap.size + 1 + 1, 6, none⟩ = some (.int .i64 m6) := b2.cell 6 rfl
      have y7 : w3.cell? ⟨w.heap.size + 1 + 1, 7, none⟩ = some (.int .i64 m7) := b2.cell 7 rfl
      have f6 := b2.frozen 6
      have f7 := b2.frozen 7
      go_wp2_with fail
      go_roundw
      case rel => exact ⟨4, by omega, by go_num, b0.far (by simp only; omega) _ |>.far (by simp only; omega) _, b1.far (by simp only; omega) _ |>.far (by simp only; omega) _, (b2.set_ 6 _).set_ 7 _, by repeat' (first | with_reducible assumption | with_reducible exact Below.refl _ _ | (with_reducible refine Below.setCell ?_ ?_ _) | (with_reducible refine Below.alloc ?_ ?_ _) | (with_reducible refine Below.drew ?_) | (with_reducible refine below_dr ?_ _) | (with_reducible refine Below.trans ?_ (Below.mono (by with_reducible assumption) ?_)) | omega | (simp; done) | (simp; omega))⟩
      case measure => simp [intOf]
    · replace b2 : Blk wr (w.heap.size + 1 + 1) 95 #[.int .i64 (m0 + m2 + (m2 + m4) + (m2 + m4 + (m4 + m6))), .int .i64 (m1 + m3 + (m3 + m5) + (m3 + m5 + (m5 + m7))), .int .i64 ((m2 + m4 + (m4 + m6)) * 2), .int .i64 ((m3 + m5 + (m5 + m7)) * 2), .int .i64 ((m4 + m6) * 4), .int .i64 ((m5 + m7) * 4), .int .i64 (m6 * 8), .int .i64 (m7 * 8)] := b2
      have y0 : wr.cell? ⟨w.heap.size + 1 + 1, 0, none⟩ = some (.int .i64 (m0 + m2 + (m2 + m4) + (m2 + m4 + (m4 + m6)))) := b2.cell 0 rfl
      have y1 : wr.cell? ⟨w.heap.size + 1 + 1, 1, none⟩ = some (.int .i64 (m1 + m3 + (m3 + m5) + (m3 + m5 + (m5 + m7)))) := b2.cell 1 rfl
      have y2 : wr.cell? ⟨w.heap.size + 1 + 1, 2, none⟩ = some (.int .i64 ((m2 + m4 + (m4 + m6)) * 2)) := b2.cell 2 rfl
      have y3 : wr.cell? ⟨w.heap.size + 1 + 1, 3, none⟩ = some (.int .i64 ((m3 + m5 + (m5 + m7)) * 2)) := b2.cell 3 rfl
      have y4 : wr.cell? ⟨w.heap.size + 1 + 1, 4, none⟩ = some (.int .i64 ((m4 + m6) * 4)) := b2.cell 4 rfl
      have y5 : wr.cell? ⟨w.heap.size + 1 + 1, 5, none⟩ = some (.int .i64 ((m5 + m7) * 4)) := b2.cell 5 rfl
      have y6 : wr.cell? ⟨w.heap.size + 1 + 1, 6, none⟩ = some (.int .i64 (m6 * 8)) := b2.cell 6 rfl
      have y7 : wr.cell? ⟨w.heap.size + 1 + 1, 7, none⟩ = some (.int .i64 (m7 * 8)) := b2.cell 7 rfl
      have f0 := b1.frozen 0
      have f1 := b1.frozen 1
      have f2 := b1.frozen 2
      have f3 := b1.frozen 3
      have f4 := b1.frozen 4
      have f5 := b1.frozen 5
      have f6 := b1.frozen 6
      have f7 := b1.frozen 7
      have n0 : wr.cell? ⟨w.heap.size + 1, 0, none⟩ = some (.int .i64 0) := b1.cell 0 rfl
      have n1 : wr.cell? ⟨w.heap.size + 1, 1, none⟩ = some (.int .i64 0) := b1.cell 1 rfl
      have n2 : wr.cell? ⟨w.heap.size + 1, 2, none⟩ = some (.int .i64 0) := b1.cell 2 rfl
      have n3 : wr.cell? ⟨w.heap.size + 1, 3, none⟩ = some (.int .i64 0) := b1.cell 3 rfl
      have n4 : wr.cell? ⟨w.heap.size + 1, 4, none⟩ = some (.int .i64 0) := b1.cell 4 rfl
      have n5 : wr.cell? ⟨w.heap.size + 1, 5, none⟩ = some (.int .i64 0) := b1.cell 5 rfl
      have n6 : wr.cell? ⟨w.heap.size + 1, 6, none⟩ = some (.int .i64 0) := b1.cell 6 rfl
      have n7 : wr.cell? ⟨w.heap.size + 1, 7, none⟩ = some (.int .i64 0) := b1.cell 7 rfl
      have l1 := b1.lt
      have l2 := b2.lt
      go_wp2_with fail
      refine bodyPost_ret (v := .agg #[.int .i64 (m0 + m2 + (m2 + m4) + (m2 + m4 + (m4 + m6))), .int .i64 (m1 + m3 + (m3 + m5) + (m3 + m5 + (m5 + m7))), .int .i64 ((m2 + m4 + (m4 + m6)) * 2), .int .i64 ((m3 + m5 + (m5 + m7)) * 2), .int .i64 ((m4 + m6) * 4), .int .i64 ((m5 + m7) * 4), .int .i64 (m6 * 8), .int .i64 (m7 * 8)]) (by simp [results, Try.results66, go_sem, *]) rfl ⟨rfl, ?_⟩
      repeat' (first | with_reducible assumption | with_reducible exact Below.refl _ _ | (with_reducible refine Below.setCell ?_ ?_ _) | (with_reducible refine Below.alloc ?_ ?_ _) | (with_reducible refine Below.drew ?_) | (with_reducible refine below_dr ?_ _) | (with_reducible refine Below.trans ?_ (Below.mono (by with_reducible assumption) ?_)) | omega | (simp; done) | (simp; omega))
set_option maxHeartbeats 1600000 in
theorem cubicOf_any (m0 m1 m2 m3 m4 m5 m6 m7 : Int) (w : World) :
    Calls Try.prog 65 #[.agg #[.int .i64 m0, .int .i64 m1, .int .i64 m2, .int .i64 m3, .int .i64 m4, .int .i64 m5, .int .i64 m6, .int .i64 m7]] w fun e w' => e = .returned (.agg #[.int .i64 m0, .int .i64 m1, .int .i64 m2, .int .i64 m3, .int .i64 m4, .int .i64 m5, .int .i64 m6, .int .i64 m7]) ∧ Below w.heap.size w w' := by
  go_enter Try.func65, Try.ntmps65
  go_wp2
  refine bodyPost_ret (v := .agg #[.int .i64 m0, .int .i64 m1, .int .i64 m2, .int .i64 m3, .int .i64 m4, .int .i64 m5, .int .i64 m6, .int .i64 m7]) (by simp [results, Try.results65, go_sem]) rfl ⟨rfl, ?_⟩
  repeat' (first | with_reducible assumption | with_reducible exact Below.refl _ _ | (with_reducible refine Below.setCell ?_ ?_ _) | (with_reducible refine Below.alloc ?_ ?_ _) | (with_reducible refine Below.drew ?_) | (with_reducible refine below_dr ?_ _) | (with_reducible refine Below.trans ?_ (Below.mono (by with_reducible assumption) ?_)) | omega | (simp; done) | (simp; omega))
end Go.Proofs.Ytpfbgpefaegipaa
