/- The walk of the law on CubicAt: it returns true. -/
import Derived.Test.YtpfbgpefaegipaaCv3
import Derived.Test.YtpfbgpefaegipaaCw4
namespace Go.Proofs.Ytpfbgpefaegipaa
open Go.RowKit
set_option maxHeartbeats 6400000 in
theorem walk_CubicAt (m0 m1 m2 m3 m4 m5 m6 m7 k level : Int) (w_m0 : (Lit.int .i64 m0).wf = true) (w_m1 : (Lit.int .i64 m1).wf = true) (w_m2 : (Lit.int .i64 m2).wf = true) (w_m3 : (Lit.int .i64 m3).wf = true) (w_m4 : (Lit.int .i64 m4).wf = true) (w_m5 : (Lit.int .i64 m5).wf = true) (w_m6 : (Lit.int .i64 m6).wf = true) (w_m7 : (Lit.int .i64 m7).wf = true) (w_k : (Lit.int .i64 k).wf = true) (w_level : (Lit.int .i64 level).wf = true) (w : World) :
    Calls Try.prog 9 #[.agg #[.int .i64 m0, .int .i64 m1, .int .i64 m2, .int .i64 m3, .int .i64 m4, .int .i64 m5, .int .i64 m6, .int .i64 m7], .int .i64 k, .int .i64 level] w fun e w' => e = .returned (.bool true) ∧ Below w.heap.size w w' := by
  have i_m0 := i64_bounds w_m0
  have i_m1 := i64_bounds w_m1
  have i_m2 := i64_bounds w_m2
  have i_m3 := i64_bounds w_m3
  have i_m4 := i64_bounds w_m4
  have i_m5 := i64_bounds w_m5
  have i_m6 := i64_bounds w_m6
  have i_m7 := i64_bounds w_m7
  have i_k := i64_bounds w_k
  have i_level := i64_bounds w_level
  have C1 := Lib.hid (fun w => specCubicAt_any m0 m1 m2 m3 m4 m5 m6 m7 k level w i_k i_level)
  have C2 := Lib.hid (fun w => implCubicAt_any m0 m1 m2 m3 m4 m5 m6 m7 k level w i_k i_level)
  unfold CaRet at C1 C2
  generalize caV (okC m0 m1 m2 m3 m4 m5 m6 m7) k level (near (mixI m0 m2 m4 m6 k (pw level)) (pw level * pw level * pw level)) = v0 at C1 C2
  generalize caV (okC m0 m1 m2 m3 m4 m5 m6 m7) k level (near (mixI m1 m3 m5 m7 k (pw level)) (pw level * pw level * pw level)) = v1 at C1 C2
  generalize caC (okC m0 m1 m2 m3 m4 m5 m6 m7) k level = c at C1 C2
  clear i_m0 w_m0 i_m1 w_m1 i_m2 w_m2 i_m3 w_m3 i_m4 w_m4 i_m5 w_m5 i_m6 w_m6 i_m7 w_m7 i_k w_k i_level w_level
  have e_v0 : (v0 != v0) = false := by simp
  have e_v1 : (v1 != v1) = false := by simp
  have e_c : (c != c) = false := by simp
  go_enter Try.func9, Try.ntmps9
  go_upto_region 1 with fail
  go_cut [7, 8] (fun sA sZ wx => LeftP [.int .i64 v0, .int .i64 v1] sA wx ∧ sZ = .int .i64 c ∧ Below w.heap.size w wx ∧ AtL w.heap.size [.int .i64 m0, .int .i64 m1, .int .i64 m2, .int .i64 m3, .int .i64 m4, .int .i64 m5, .int .i64 m6, .int .i64 m7] wx)
  case first =>
    go_wp2_with fail
    refine (toCubic_any m0 m1 m2 m3 m4 m5 m6 m7 _).mono ?_
    rintro e wA1 ⟨rfl, hbwA1⟩
    have bx := (AtL.new w [.int .i64 m0, .int .i64 m1, .int .i64 m2, .int .i64 m3, .int .i64 m4, .int .i64 m5, .int .i64 m6, .int .i64 m7] 25).below hbwA1
    have x0 : wA1.cell? ⟨w.heap.size, 0, none⟩ = some (.int .i64 m0) := bx.cell 0 rfl
    have x1 : wA1.cell? ⟨w.heap.size, 1, none⟩ = some (.int .i64 m1) := bx.cell 1 rfl
    have x2 : wA1.cell? ⟨w.heap.size, 2, none⟩ = some (.int .i64 m2) := bx.cell 2 rfl
    have x3 : wA1.cell? ⟨w.heap.size, 3, none⟩ = some (.int .i64 m3) := bx.cell 3 rfl
    have x4 : wA1.cell? ⟨w.heap.size, 4, none⟩ = some (.int .i64 m4) := bx.cell 4 rfl
    have x5 : wA1.cell? ⟨w.heap.size, 5, none⟩ = some (.int .i64 m5) := bx.cell 5 rfl
    have x6 : wA1.cell? ⟨w.heap.size, 6, none⟩ = some (.int .i64 m6) := bx.cell 6 rfl
    have x7 : wA1.cell? ⟨w.heap.size, 7, none⟩ = some (.int .i64 m7) := bx.cell 7 rfl
    have xz : w.heap.size < wA1.heap.size := bx.lt
    have gA1 : Below w.heap.size w wA1 := by repeat' (first | with_reducible assumption | with_reducible exact Below.refl _ _ | (with_reducible refine Below.setCell ?_ ?_ _) | (with_reducible refine Below.alloc ?_ ?_ _) | (with_reducible refine Below.drew ?_) | (with_reducible refine below_dr ?_ _) | (with_reducible refine Below.trans ?_ (Below.mono (by with_reducible assumption) ?_)) | omega | (simp; done) | (simp; omega))
    have zA1 := gA1.size
    go_wp2_with fail
    clear x0 x1 x2 x3 x4 x5 x6 x7 xz
    refine (C1.out _).mono ?_
    rintro e wC1 ⟨rfl, hbwC1⟩
    replace bx := bx.below hbwC1
    have gC1 : Below w.heap.size w wC1 := by repeat' (first | with_reducible assumption | with_reducible exact Below.refl _ _ | (with_reducible refine Below.setCell ?_ ?_ _) | (with_reducible refine Below.alloc ?_ ?_ _) | (with_reducible refine Below.drew ?_) | (with_reducible refine below_dr ?_ _) | (with_reducible refine Below.trans ?_ (Below.mono (by with_reducible assumption) ?_)) | omega | (simp; done) | (simp; omega))
    have xz : w.heap.size < wC1.heap.size := bx.lt
    go_wp2_with fail
    go_meet
    exact ⟨⟨_, rfl, by repeat' (first | with_reducible assumption | with_reducible exact AtL.new _ _ _ | ((with_reducible refine AtL.newAt ?_); (first | rfl | (simp; done))) | (with_reducible refine AtL.drew ?_) | (with_reducible apply AtL.store2) | (with_reducible refine AtL.alloc ?_ _) | (with_reducible refine AtL.far ?_ ?_ _ _) | (with_reducible refine AtL.below ?_ (by with_reducible assumption)) | omega | (simp; done) | (simp; omega))⟩, rfl, by repeat' (first | with_reducible assumption | with_reducible exact Below.refl _ _ | (with_reducible refine Below.setCell ?_ ?_ _) | (with_reducible refine Below.alloc ?_ ?_ _) | (with_reducible refine Below.drew ?_) | (with_reducible refine below_dr ?_ _) | (with_reducible refine Below.trans ?_ (Below.mono (by with_reducible assumption) ?_)) | omega | (simp; done) | (simp; omega)), by repeat' (first | with_reducible assumption | with_reducible exact AtL.new _ _ _ | ((with_reducible refine AtL.newAt ?_); (first | rfl | (simp; done))) | (with_reducible refine AtL.drew ?_) | (with_reducible apply AtL.store2) | (with_reducible refine AtL.alloc ?_ _) | (with_reducible refine AtL.far ?_ ?_ _ _) | (with_reducible refine AtL.below ?_ (by with_reducible assumption)) | omega | (simp; done) | (simp; omega))⟩
  case rest =>
    obtain ⟨⟨g0, rfl, at0⟩, rfl, bel1, bx⟩ := hcut
    obtain ⟨W1, hW1⟩ : ∃ W : World, W = wc := ⟨_, rfl⟩
    subst hW1
    have lt0 := at0.lt
    have x0 : W1.cell? ⟨w.heap.size, 0, none⟩ = some (.int .i64 m0) := bx.cell 0 rfl
    have x1 : W1.cell? ⟨w.heap.size, 1, none⟩ = some (.int .i64 m1) := bx.cell 1 rfl
    have x2 : W1.cell? ⟨w.heap.size, 2, none⟩ = some (.int .i64 m2) := bx.cell 2 rfl
    have x3 : W1.cell? ⟨w.heap.size, 3, none⟩ = some (.int .i64 m3) := bx.cell 3 rfl
    have x4 : W1.cell? ⟨w.heap.size, 4, none⟩ = some (.int .i64 m4) := bx.cell 4 rfl
    have x5 : W1.cell? ⟨w.heap.size, 5, none⟩ = some (.int .i64 m5) := bx.cell 5 rfl
    have x6 : W1.cell? ⟨w.heap.size, 6, none⟩ = some (.int .i64 m6) := bx.cell 6 rfl
    have x7 : W1.cell? ⟨w.heap.size, 7, none⟩ = some (.int .i64 m7) := bx.cell 7 rfl
    have xz : w.heap.size < W1.heap.size := bx.lt
    go_upto_region 2 with fail
    clear x0 x1 x2 x3 x4 x5 x6 x7 xz
    go_cut [9, 10] (fun sA sZ wx => LeftP [.int .i64 v0, .int .i64 v1] sA wx ∧ sZ = .int .i64 c ∧ Below w.heap.size w wx ∧ AtL w.heap.size [.int .i64 m0, .int .i64 m1, .int .i64 m2, .int .i64 m3, .int .i64 m4, .int .i64 m5, .int .i64 m6, .int .i64 m7] wx ∧ AtL g0 [.int .i64 v0, .int .i64 v1] wx)
    case first =>
      have x0 : W1.cell? ⟨w.heap.size, 0, none⟩ = some (.int .i64 m0) := bx.cell 0 rfl
      have x1 : W1.cell? ⟨w.heap.size, 1, none⟩ = some (.int .i64 m1) := bx.cell 1 rfl
      have x2 : W1.cell? ⟨w.heap.size, 2, none⟩ = some (.int .i64 m2) := bx.cell 2 rfl
      have x3 : W1.cell? ⟨w.heap.size, 3, none⟩ = some (.int .i64 m3) := bx.cell 3 rfl
      have x4 : W1.cell? ⟨w.heap.size, 4, none⟩ = some (.int .i64 m4) := bx.cell 4 rfl
      have x5 : W1.cell? ⟨w.heap.size, 5, none⟩ = some (.int .i64 m5) := bx.cell 5 rfl
      have x6 : W1.cell? ⟨w.heap.size, 6, none⟩ = some (.int .i64 m6) := bx.cell 6 rfl
      have x7 : W1.cell? ⟨w.heap.size, 7, none⟩ = some (.int .i64 m7) := bx.cell 7 rfl
      have xz : w.heap.size < W1.heap.size := bx.lt
      go_wp2_with fail
      refine (toCubic_any m0 m1 m2 m3 m4 m5 m6 m7 _).mono ?_
      rintro e wA2 ⟨rfl, hbwA2⟩
      replace bx := bx.below hbwA2
      replace at0 := at0.below hbwA2
      have x0 : wA2.cell? ⟨w.heap.size, 0, none⟩ = some (.int .i64 m0) := bx.cell 0 rfl
      have x1 : wA2.cell? ⟨w.heap.size, 1, none⟩ = some (.int .i64 m1) := bx.cell 1 rfl
      have x2 : wA2.cell? ⟨w.heap.size, 2, none⟩ = some (.int .i64 m2) := bx.cell 2 rfl
      have x3 : wA2.cell? ⟨w.heap.size, 3, none⟩ = some (.int .i64 m3) := bx.cell 3 rfl
      have x4 : wA2.cell? ⟨w.heap.size, 4, none⟩ = some (.int .i64 m4) := bx.cell 4 rfl
      have x5 : wA2.cell? ⟨w.heap.size, 5, none⟩ = some (.int .i64 m5) := bx.cell 5 rfl
      have x6 : wA2.cell? ⟨w.heap.size, 6, none⟩ = some (.int .i64 m6) := bx.cell 6 rfl
      have x7 : wA2.cell? ⟨w.heap.size, 7, none⟩ = some (.int .i64 m7) := bx.cell 7 rfl
      have xz : w.heap.size < wA2.heap.size := bx.lt
      have gA2 : Below w.heap.size w wA2 := by repeat' (first | with_reducible assumption | with_reducible exact Below.refl _ _ | (with_reducible refine Below.setCell ?_ ?_ _) | (with_reducible refine Below.alloc ?_ ?_ _) | (with_reducible refine Below.drew ?_) | (with_reducible refine below_dr ?_ _) | (with_reducible refine Below.trans ?_ (Below.mono (by with_reducible assumption) ?_)) | omega | (simp; done) | (simp; omega))
      have zA2 := gA2.size
      go_wp2_with fail
      clear x0 x1 x2 x3 x4 x5 x6 x7 xz
      refine (C2.out _).mono ?_
      rintro e wC2 ⟨rfl, hbwC2⟩
      replace bx := bx.below hbwC2
      replace at0 := at0.below hbwC2
      have gC2 : Below w.heap.size w wC2 := by repeat' (first | with_reducible assumption | with_reducible exact Below.refl _ _ | (with_reducible refine Below.setCell ?_ ?_ _) | (with_reducible refine Below.alloc ?_ ?_ _) | (with_reducible refine Below.drew ?_) | (with_reducible refine below_dr ?_ _) | (with_reducible refine Below.trans ?_ (Below.mono (by with_reducible assumption) ?_)) | omega | (simp; done) | (simp; omega))
      have xz : w.heap.size < wC2.heap.size := bx.lt
      have xo0 := at0.lt
      go_wp2_with fail
      go_meet
      exact ⟨⟨_, rfl, by repeat' (first | with_reducible assumption | with_reducible exact AtL.new _ _ _ | ((with_reducible refine AtL.newAt ?_); (first | rfl | (simp; done))) | (with_reducible refine AtL.drew ?_) | (with_reducible apply AtL.store2) | (with_reducible refine AtL.alloc ?_ _) | (with_reducible refine AtL.far ?_ ?_ _ _) | (with_reducible refine AtL.below ?_ (by with_reducible assumption)) | omega | (simp; done) | (simp; omega))⟩, rfl, by repeat' (first | with_reducible assumption | with_reducible exact Below.refl _ _ | (with_reducible refine Below.setCell ?_ ?_ _) | (with_reducible refine Below.alloc ?_ ?_ _) | (with_reducible refine Below.drew ?_) | (with_reducible refine below_dr ?_ _) | (with_reducible refine Below.trans ?_ (Below.mono (by with_reducible assumption) ?_)) | omega | (simp; done) | (simp; omega)), by repeat' (first | with_reducible assumption | with_reducible exact AtL.new _ _ _ | ((with_reducible refine AtL.newAt ?_); (first | rfl | (simp; done))) | (with_reducible refine AtL.drew ?_) | (with_reducible apply AtL.store2) | (with_reducible refine AtL.alloc ?_ _) | (with_reducible refine AtL.far ?_ ?_ _ _) | (with_reducible refine AtL.below ?_ (by with_reducible assumption)) | omega | (simp; done) | (simp; omega)), by repeat' (first | with_reducible assumption | with_reducible exact AtL.new _ _ _ | ((with_reducible refine AtL.newAt ?_); (first | rfl | (simp; done))) | (with_reducible refine AtL.drew ?_) | (with_reducible apply AtL.store2) | (with_reducible refine AtL.alloc ?_ _) | (with_reducible refine AtL.far ?_ ?_ _ _) | (with_reducible refine AtL.below ?_ (by with_reducible assumption)) | omega | (simp; done) | (simp; omega))⟩
    case rest =>
      obtain ⟨⟨h0, rfl, bt0⟩, rfl, bel2, -, ct0⟩ := hcut
      obtain ⟨W2, hW2⟩ : ∃ W : World, W = wc := ⟨_, rfl⟩
      subst hW2
      have u0 : W2.cell? ⟨h0, 0, none⟩ = some (.int .i64 v0) := bt0.cell 0 rfl
      have u1 : W2.cell? ⟨h0, 1, none⟩ = some (.int .i64 v1) := bt0.cell 1 rfl
      have v0 : W2.cell? ⟨g0, 0, none⟩ = some (.int .i64 v0) := ct0.cell 0 rfl
      have v1 : W2.cell? ⟨g0, 1, none⟩ = some (.int .i64 v1) := ct0.cell 1 rfl
      have uz := bt0.lt
      have vz := ct0.lt
      go_wp2_with fail
      clear u0 v0 u1 v1 uz vz
      refine (eqPt_same v0 v1 _).mono ?_
      rintro e wE0 ⟨rfl, hbwE0⟩
      have gE0 : Below w.heap.size w wE0 := by (have zE := bel2.size); repeat' (first | with_reducible assumption | with_reducible exact Below.refl _ _ | (with_reducible refine Below.setCell ?_ ?_ _) | (with_reducible refine Below.alloc ?_ ?_ _) | (with_reducible refine Below.drew ?_) | (with_reducible refine below_dr ?_ _) | (with_reducible refine Below.trans ?_ (Below.mono (by with_reducible assumption) ?_)) | omega | (simp; done) | (simp; omega))
      go_wp2
      go_ret
      exact ⟨rfl, by repeat' (first | with_reducible assumption | with_reducible exact Below.refl _ _ | (with_reducible refine Below.setCell ?_ ?_ _) | (with_reducible refine Below.alloc ?_ ?_ _) | (with_reducible refine Below.drew ?_) | (with_reducible refine below_dr ?_ _) | (with_reducible refine Below.trans ?_ (Below.mono (by with_reducible assumption) ?_)) | omega | (simp; done) | (simp; omega))⟩
end Go.Proofs.Ytpfbgpefaegipaa
