/- The walk of the law on HalvesOf: it returns true. -/
import Derived.Test.YtpfbgpefaegipaaDc1
import Derived.Test.YtpfbgpefaegipaaDe1
namespace Go.Proofs.Ytpfbgpefaegipaa
open Go.RowKit
set_option maxHeartbeats 12800000 in
theorem walk_HalvesOf (m0 m1 m2 m3 m4 m5 m6 m7 : Int) (w_m0 : (Lit.int .i64 m0).wf = true) (w_m1 : (Lit.int .i64 m1).wf = true) (w_m2 : (Lit.int .i64 m2).wf = true) (w_m3 : (Lit.int .i64 m3).wf = true) (w_m4 : (Lit.int .i64 m4).wf = true) (w_m5 : (Lit.int .i64 m5).wf = true) (w_m6 : (Lit.int .i64 m6).wf = true) (w_m7 : (Lit.int .i64 m7).wf = true) (w : World) :
    Calls Try.prog 8 #[.agg #[.int .i64 m0, .int .i64 m1, .int .i64 m2, .int .i64 m3, .int .i64 m4, .int .i64 m5, .int .i64 m6, .int .i64 m7]] w fun e w' => e = .returned (.bool true) ∧ Below w.heap.size w w' := by
  have i_m0 := i64_bounds w_m0
  have i_m1 := i64_bounds w_m1
  have i_m2 := i64_bounds w_m2
  have i_m3 := i64_bounds w_m3
  have i_m4 := i64_bounds w_m4
  have i_m5 := i64_bounds w_m5
  have i_m6 := i64_bounds w_m6
  have i_m7 := i64_bounds w_m7
  have C1 := Lib.hid (fun w => specHalvesOf_any m0 m1 m2 m3 m4 m5 m6 m7 w)
  have C2 := Lib.hid (fun w => implHalvesOf_any m0 m1 m2 m3 m4 m5 m6 m7 w)
  unfold HvRet at C1 C2
  generalize hv0 m0 m1 m2 m3 m4 m5 m6 m7 = v0 at C1 C2
  generalize hv1 m0 m1 m2 m3 m4 m5 m6 m7 = v1 at C1 C2
  generalize hv2 m0 m1 m2 m3 m4 m5 m6 m7 = v2 at C1 C2
  generalize hv3 m0 m1 m2 m3 m4 m5 m6 m7 = v3 at C1 C2
  generalize hv4 m0 m1 m2 m3 m4 m5 m6 m7 = v4 at C1 C2
  generalize hv5 m0 m1 m2 m3 m4 m5 m6 m7 = v5 at C1 C2
  generalize hv6 m0 m1 m2 m3 m4 m5 m6 m7 = v6 at C1 C2
  generalize hv7 m0 m1 m2 m3 m4 m5 m6 m7 = v7 at C1 C2
  generalize hv8 m0 m1 m2 m3 m4 m5 m6 m7 = v8 at C1 C2
  generalize hv9 m0 m1 m2 m3 m4 m5 m6 m7 = v9 at C1 C2
  generalize hv10 m0 m1 m2 m3 m4 m5 m6 m7 = v10 at C1 C2
  generalize hv11 m0 m1 m2 m3 m4 m5 m6 m7 = v11 at C1 C2
  generalize hv12 m0 m1 m2 m3 m4 m5 m6 m7 = v12 at C1 C2
  generalize hv13 m0 m1 m2 m3 m4 m5 m6 m7 = v13 at C1 C2
  generalize hv14 m0 m1 m2 m3 m4 m5 m6 m7 = v14 at C1 C2
  generalize hv15 m0 m1 m2 m3 m4 m5 m6 m7 = v15 at C1 C2
  generalize hvC m0 m1 m2 m3 m4 m5 m6 m7 = cc at C1 C2
  clear i_m0 w_m0 i_m1 w_m1 i_m2 w_m2 i_m3 w_m3 i_m4 w_m4 i_m5 w_m5 i_m6 w_m6 i_m7 w_m7
  have e_v0 : (v0 != v0) = false := by simp
  have e_v1 : (v1 != v1) = false := by simp
  have e_v2 : (v2 != v2) = false := by simp
  have e_v3 : (v3 != v3) = false := by simp
  have e_v4 : (v4 != v4) = false := by simp
  have e_v5 : (v5 != v5) = false := by simp
  have e_v6 : (v6 != v6) = false := by simp
  have e_v7 : (v7 != v7) = false := by simp
  have e_v8 : (v8 != v8) = false := by simp
  have e_v9 : (v9 != v9) = false := by simp
  have e_v10 : (v10 != v10) = false := by simp
  have e_v11 : (v11 != v11) = false := by simp
  have e_v12 : (v12 != v12) = false := by simp
  have e_v13 : (v13 != v13) = false := by simp
  have e_v14 : (v14 != v14) = false := by simp
  have e_v15 : (v15 != v15) = false := by simp
  have e_cc : (cc != cc) = false := by simp
  go_enter Try.func8, Try.ntmps8
  go_upto_region 1 with fail
  go_cut [3, 4, 5] (fun sA sB sZ wx => LeftP [.int .i64 v0, .int .i64 v1, .int .i64 v2, .int .i64 v3, .int .i64 v4, .int .i64 v5, .int .i64 v6, .int .i64 v7] sA wx ∧ LeftP [.int .i64 v8, .int .i64 v9, .int .i64 v10, .int .i64 v11, .int .i64 v12, .int .i64 v13, .int .i64 v14, .int .i64 v15] sB wx ∧ sZ = .int .i64 cc ∧ Below w.heap.size w wx ∧ AtL w.heap.size [.int .i64 m0, .int .i64 m1, .int .i64 m2, .int .i64 m3, .int .i64 m4, .int .i64 m5, .int .i64 m6, .int .i64 m7] wx)
  case first =>
    go_wp2_with fail
    refine (toCubic_any m0 m1 m2 m3 m4 m5 m6 m7 _).mono ?_
    rintro e wA1 ⟨rfl, hbwA1⟩
    have bx := (AtL.new w [.int .i64 m0, .int .i64 m1, .int .i64 m2, .int .i64 m3, .int .i64 m4, .int .i64 m5, .int .i64 m6, .int .i64 m7] 25).below hbwA1
    have x0 : wA1.cell? ⟨w.heap.size, 0, none⟩ = some (.int .i64 m0) := bx.cell 0 rfl
    have x1 : wA1.cell? ⟨w.heap.size, 1, none⟩ = some (.int .i64 m1) := bx.cell 1 rfl
    have x2 : wA1.cell? ⟨w.heap.size, 2, none⟩ = some (.int .i64 m2) := bx.cell 2 rfl
    have x3 : wA1.cell? ⟨w.heap.size, 3, none⟩ = some (.int .i64 m3) := bx.cell 3 rfl
    have x4 : wA1.cell? ⟨w.heap.size, 4, none⟩ = some (.int .i64 m4) := bx.cell 4 rfl
    have x5 : wA1.cell? ⟨w.heap.size, 5, none⟩ = some (.int .i64 m5) := bx.cell 5 rfl
    have x6 : wA1.cell? ⟨w.heap.size, 6, none⟩ = some (.int .i64 m6) := bx.cell 6 rfl
    have x7 : wA1.cell? ⟨w.heap.size, 7, none⟩ = some (.int .i64 m7) := bx.cell 7 rfl
    have xz : w.heap.size < wA1.heap.size := bx.lt
    have gA1 : Below w.heap.size w wA1 := by repeat' (first | with_reducible assumption | with_reducible exact Below.refl _ _ | (with_reducible refine Below.setCell ?_ ?_ _) | (with_reducible refine Below.alloc ?_ ?_ _) | (with_reducible refine Below.drew ?_) | (with_reducible refine below_dr ?_ _) | (with_reducible refine Below.trans ?_ (Below.mono (by with_reducible assumption) ?_)) | omega | (simp; done) | (simp; omega))
    have zA1 := gA1.size
    go_wp2_with fail
    clear x0 x1 x2 x3 x4 x5 x6 x7 xz
    refine (C1.out _).mono ?_
    rintro e wC1 ⟨rfl, hbwC1⟩
    replace bx := bx.below hbwC1
    have gC1 : Below w.heap.size w wC1 := by repeat' (first | with_reducible assumption | with_reducible exact Below.refl _ _ | (with_reducible refine Below.setCell ?_ ?_ _) | (with_reducible refine Below.alloc ?_ ?_ _) | (with_reducible refine Below.drew ?_) | (with_reducible refine below_dr ?_ _) | (with_reducible refine Below.trans ?_ (Below.mono (by with_reducible assumption) ?_)) | omega | (simp; done) | (simp; omega))
    have xz : w.heap.size < wC1.heap.size := bx.lt
    go_wp2_with fail
    go_meet
    exact ⟨⟨_, rfl, by repeat' (first | with_reducible assumption | with_reducible exact AtL.new _ _ _ | ((with_reducible refine AtL.newAt ?_); (first | rfl | (simp; done))) | (with_reducible refine AtL.drew ?_) | (with_reducible apply AtL.store8) | (with_reducible refine AtL.alloc ?_ _) | (with_reducible refine AtL.far ?_ ?_ _ _) | (with_reducible refine AtL.below ?_ (by with_reducible assumption)) | omega | (simp; done) | (simp; omega))⟩, ⟨_, rfl, by repeat' (first | with_reducible assumption | with_reducible exact AtL.new _ _ _ | ((with_reducible refine AtL.newAt ?_); (first | rfl | (simp; done))) | (with_reducible refine AtL.drew ?_) | (with_reducible apply AtL.store8) | (with_reducible refine AtL.alloc ?_ _) | (with_reducible refine AtL.far ?_ ?_ _ _) | (with_reducible refine AtL.below ?_ (by with_reducible assumption)) | omega | (simp; done) | (simp; omega))⟩, rfl, by repeat' (first | with_reducible assumption | with_reducible exact Below.refl _ _ | (with_reducible refine Below.setCell ?_ ?_ _) | (with_reducible refine Below.alloc ?_ ?_ _) | (with_reducible refine Below.drew ?_) | (with_reducible refine below_dr ?_ _) | (with_reducible refine Below.trans ?_ (Below.mono (by with_reducible assumption) ?_)) | omega | (simp; done) | (simp; omega)), by repeat' (first | with_reducible assumption | with_reducible exact AtL.new _ _ _ | ((with_reducible refine AtL.newAt ?_); (first | rfl | (simp; done))) | (with_reducible refine AtL.drew ?_) | (with_reducible apply AtL.store8) | (with_reducible refine AtL.alloc ?_ _) | (with_reducible refine AtL.far ?_ ?_ _ _) | (with_reducible refine AtL.below ?_ (by with_reducible assumption)) | omega | (simp; done) | (simp; omega))⟩
  case rest =>
    obtain ⟨⟨g0, rfl, at0⟩, ⟨g1, rfl, at1⟩, rfl, bel1, bx⟩ := hcut
    obtain ⟨W1, hW1⟩ : ∃ W : World, W = wc := ⟨_, rfl⟩
    subst hW1
    have lt0 := at0.lt
    have lt1 := at1.lt
    have x0 : W1.cell? ⟨w.heap.size, 0, none⟩ = some (.int .i64 m0) := bx.cell 0 rfl
    have x1 : W1.cell? ⟨w.heap.size, 1, none⟩ = some (.int .i64 m1) := bx.cell 1 rfl
    have x2 : W1.cell? ⟨w.heap.size, 2, none⟩ = some (.int .i64 m2) := bx.cell 2 rfl
    have x3 : W1.cell? ⟨w.heap.size, 3, none⟩ = some (.int .i64 m3) := bx.cell 3 rfl
    have x4 : W1.cell? ⟨w.heap.size, 4, none⟩ = some (.int .i64 m4) := bx.cell 4 rfl
    have x5 : W1.cell? ⟨w.heap.size, 5, none⟩ = some (.int .i64 m5) := bx.cell 5 rfl
    have x6 : W1.cell? ⟨w.heap.size, 6, none⟩ = some (.int .i64 m6) := bx.cell 6 rfl
    have x7 : W1.cell? ⟨w.heap.size, 7, none⟩ = some (.int .i64 m7) := bx.cell 7 rfl
    have xz : w.heap.size < W1.heap.size := bx.lt
    go_upto_region 2 with fail
    clear x0 x1 x2 x3 x4 x5 x6 x7 xz
    go_cut [6, 7, 8] (fun sA sB sZ wx => LeftP [.int .i64 v0, .int .i64 v1, .int .i64 v2, .int .i64 v3, .int .i64 v4, .int .i64 v5, .int .i64 v6, .int .i64 v7] sA wx ∧ LeftP [.int .i64 v8, .int .i64 v9, .int .i64 v10, .int .i64 v11, .int .i64 v12, .int .i64 v13, .int .i64 v14, .int .i64 v15] sB wx ∧ sZ = .int .i64 cc ∧ Below w.heap.size w wx ∧ AtL w.heap.size [.int .i64 m0, .int .i64 m1, .int .i64 m2, .int .i64 m3, .int .i64 m4, .int .i64 m5, .int .i64 m6, .int .i64 m7] wx ∧ AtL g0 [.int .i64 v0, .int .i64 v1, .int .i64 v2, .int .i64 v3, .int .i64 v4, .int .i64 v5, .int .i64 v6, .int .i64 v7] wx ∧ AtL g1 [.int .i64 v8, .int .i64 v9, .int .i64 v10, .int .i64 v11, .int .i64 v12, .int .i64 v13, .int .i64 v14, .int .i64 v15] wx)
    case first =>
      have x0 : W1.cell? ⟨w.heap.size, 0, none⟩ = some (.int .i64 m0) := bx.cell 0 rfl
      have x1 : W1.cell? ⟨w.heap.size, 1, none⟩ = some (.int .i64 m1) := bx.cell 1 rfl
      have x2 : W1.cell? ⟨w.heap.size, 2, none⟩ = some (.int .i64 m2) := bx.cell 2 rfl
      have x3 : W1.cell? ⟨w.heap.size, 3, none⟩ = some (.int .i64 m3) := bx.cell 3 rfl
      have x4 : W1.cell? ⟨w.heap.size, 4, none⟩ = some (.int .i64 m4) := bx.cell 4 rfl
      have x5 : W1.cell? ⟨w.heap.size, 5, none⟩ = some (.int .i64 m5) := bx.cell 5 rfl
      have x6 : W1.cell? ⟨w.heap.size, 6, none⟩ = some (.int .i64 m6) := bx.cell 6 rfl
      have x7 : W1.cell? ⟨w.heap.size, 7, none⟩ = some (.int .i64 m7) := bx.cell 7 rfl
      have xz : w.heap.size < W1.heap.size := bx.lt
      go_wp2_with fail
      refine (toCubic_any m0 m1 m2 m3 m4 m5 m6 m7 _).mono ?_
      rintro e wA2 ⟨rfl, hbwA2⟩
      replace bx := bx.below hbwA2
      replace at0 := at0.below hbwA2
      replace at1 := at1.below hbwA2
      have x0 : wA2.cell? ⟨w.heap.size, 0, none⟩ = some (.int .i64 m0) := bx.cell 0 rfl
      have x1 : wA2.cell? ⟨w.heap.size, 1, none⟩ = some (.int .i64 m1) := bx.cell 1 rfl
      have x2 : wA2.cell? ⟨w.heap.size, 2, none⟩ = some (.int .i64 m2) := bx.cell 2 rfl
      have x3 : wA2.cell? ⟨w.heap.size, 3, none⟩ = some (.int .i64 m3) := bx.cell 3 rfl
      have x4 : wA2.cell? ⟨w.heap.size, 4, none⟩ = some (.int .i64 m4) := bx.cell 4 rfl
      have x5 : wA2.cell? ⟨w.heap.size, 5, none⟩ = some (.int .i64 m5) := bx.cell 5 rfl
      have x6 : wA2.cell? ⟨w.heap.size, 6, none⟩ = some (.int .i64 m6) := bx.cell 6 rfl
      have x7 : wA2.cell? ⟨w.heap.size, 7, none⟩ = some (.int .i64 m7) := bx.cell 7 rfl
      have xz : w.heap.size < wA2.heap.size := bx.lt
      have gA2 : Below w.heap.size w wA2 := by repeat' (first | with_reducible assumption | with_reducible exact Below.refl _ _ | (with_reducible refine Below.setCell ?_ ?_ _) | (with_reducible refine Below.alloc ?_ ?_ _) | (with_reducible refine Below.drew ?_) | (with_reducible refine below_dr ?_ _) | (with_reducible refine Below.trans ?_ (Below.mono (by with_reducible assumption) ?_)) | omega | (simp; done) | (simp; omega))
      have zA2 := gA2.size
      go_wp2_with fail
      clear x0 x1 x2 x3 x4 x5 x6 x7 xz
      refine (C2.out _).mono ?_
      rintro e wC2 ⟨rfl, hbwC2⟩
      replace bx := bx.below hbwC2
      replace at0 := at0.below hbwC2
      replace at1 := at1.below hbwC2
      have gC2 : Below w.heap.size w wC2 := by repeat' (first | with_reducible assumption | with_reducible exact Below.refl _ _ | (with_reducible refine Below.setCell ?_ ?_ _) | (with_reducible refine Below.alloc ?_ ?_ _) | (with_reducible refine Below.drew ?_) | (with_reducible refine below_dr ?_ _) | (with_reducible refine Below.trans ?_ (Below.mono (by with_reducible assumption) ?_)) | omega | (simp; done) | (simp; omega))
      have xz : w.heap.size < wC2.heap.size := bx.lt
      have xo0 := at0.lt
      have xo1 := at1.lt
      go_wp2_with fail
      go_meet
      exact ⟨⟨_, rfl, by repeat' (first | with_reducible assumption | with_reducible exact AtL.new _ _ _ | ((with_reducible refine AtL.newAt ?_); (first | rfl | (simp; done))) | (with_reducible refine AtL.drew ?_) | (with_reducible apply AtL.store8) | (with_reducible refine AtL.alloc ?_ _) | (with_reducible refine AtL.far ?_ ?_ _ _) | (with_reducible refine AtL.below ?_ (by with_reducible assumption)) | omega | (simp; done) | (simp; omega))⟩, ⟨_, rfl, by repeat' (first | with_reducible assumption | with_reducible exact AtL.new _ _ _ | ((with_reducible refine AtL.newAt ?_); (first | rfl | (simp; done))) | (with_reducible refine AtL.drew ?_) | (with_reducible apply AtL.store8) | (with_reducible refine AtL.alloc ?_ _) | (with_reducible refine AtL.far ?_ ?_ _ _) | (with_reducible refine AtL.below ?_ (by with_reducible assumption)) | omega | (simp; done) | (simp; omega))⟩, rfl, by repeat' (first | with_reducible assumption | with_reducible exact Below.refl _ _ | (with_reducible refine Below.setCell ?_ ?_ _) | (with_reducible refine Below.alloc ?_ ?_ _) | (with_reducible refine Below.drew ?_) | (with_reducible refine below_dr ?_ _) | (with_reducible refine Below.trans ?_ (Below.mono (by with_reducible assumption) ?_)) | omega | (simp; done) | (simp; omega)), by repeat' (first | with_reducible assumption | with_reducible exact AtL.new _ _ _ | ((with_reducible refine AtL.newAt ?_); (first | rfl | (simp; done))) | (with_reducible refine AtL.drew ?_) | (with_reducible apply AtL.store8) | (with_reducible refine AtL.alloc ?_ _) | (with_reducible refine AtL.far ?_ ?_ _ _) | (with_reducible refine AtL.below ?_ (by with_reducible assumption)) | omega | (simp; done) | (simp; omega)), by repeat' (first | with_reducible assumption | with_reducible exact AtL.new _ _ _ | ((with_reducible refine AtL.newAt ?_); (first | rfl | (simp; done))) | (with_reducible refine AtL.drew ?_) | (with_reducible apply AtL.store8) | (with_reducible refine AtL.alloc ?_ _) | (with_reducible refine AtL.far ?_ ?_ _ _) | (with_reducible refine AtL.below ?_ (by with_reducible assumption)) | omega | (simp; done) | (simp; omega)), by repeat' (first | with_reducible assumption | with_reducible exact AtL.new _ _ _ | ((with_reducible refine AtL.newAt ?_); (first | rfl | (simp; done))) | (with_reducible refine AtL.drew ?_) | (with_reducible apply AtL.store8) | (with_reducible refine AtL.alloc ?_ _) | (with_reducible refine AtL.far ?_ ?_ _ _) | (with_reducible refine AtL.below ?_ (by with_reducible assumption)) | omega | (simp; done) | (simp; omega))⟩
    case rest =>
      obtain ⟨⟨h0, rfl, bt0⟩, ⟨h1, rfl, bt1⟩, rfl, bel2, -, ct0, ct1⟩ := hcut
      obtain ⟨W2, hW2⟩ : ∃ W : World, W = wc := ⟨_, rfl⟩
      subst hW2
      have u0 : W2.cell? ⟨h0, 0, none⟩ = some (.int .i64 v0) := bt0.cell 0 rfl
      have u1 : W2.cell? ⟨h0, 1, none⟩ = some (.int .i64 v1) := bt0.cell 1 rfl
      have u2 : W2.cell? ⟨h0, 2, none⟩ = some (.int .i64 v2) := bt0.cell 2 rfl
      have u3 : W2.cell? ⟨h0, 3, none⟩ = some (.int .i64 v3) := bt0.cell 3 rfl
      have u4 : W2.cell? ⟨h0, 4, none⟩ = some (.int .i64 v4) := bt0.cell 4 rfl
      have u5 : W2.cell? ⟨h0, 5, none⟩ = some (.int .i64 v5) := bt0.cell 5 rfl
      have u6 : W2.cell? ⟨h0, 6, none⟩ = some (.int .i64 v6) := bt0.cell 6 rfl
      have u7 : W2.cell? ⟨h0, 7, none⟩ = some (.int .i64 v7) := bt0.cell 7 rfl
      have v0 : W2.cell? ⟨g0, 0, none⟩ = some (.int .i64 v0) := ct0.cell 0 rfl
      have v1 : W2.cell? ⟨g0, 1, none⟩ = some (.int .i64 v1) := ct0.cell 1 rfl
      have v2 : W2.cell? ⟨g0, 2, none⟩ = some (.int .i64 v2) := ct0.cell 2 rfl
      have v3 : W2.cell? ⟨g0, 3, none⟩ = some (.int .i64 v3) := ct0.cell 3 rfl
      have v4 : W2.cell? ⟨g0, 4, none⟩ = some (.int .i64 v4) := ct0.cell 4 rfl
      have v5 : W2.cell? ⟨g0, 5, none⟩ = some (.int .i64 v5) := ct0.cell 5 rfl
      have v6 : W2.cell? ⟨g0, 6, none⟩ = some (.int .i64 v6) := ct0.cell 6 rfl
      have v7 : W2.cell? ⟨g0, 7, none⟩ = some (.int .i64 v7) := ct0.cell 7 rfl
      have uz := bt0.lt
      have vz := ct0.lt
      go_wp2_with fail
      clear u0 v0 u1 v1 u2 v2 u3 v3 u4 v4 u5 v5 u6 v6 u7 v7 uz vz
      refine (eqCubic_same v0 v1 v2 v3 v4 v5 v6 v7 _).mono ?_
      rintro e wE0 ⟨rfl, hbwE0⟩
      have gE0 : Below w.heap.size w wE0 := by (have zE := bel2.size); repeat' (first | with_reducible assumption | with_reducible exact Below.refl _ _ | (with_reducible refine Below.setCell ?_ ?_ _) | (with_reducible refine Below.alloc ?_ ?_ _) | (with_reducible refine Below.drew ?_) | (with_reducible refine below_dr ?_ _) | (with_reducible refine Below.trans ?_ (Below.mono (by with_reducible assumption) ?_)) | omega | (simp; done) | (simp; omega))
      replace bt1 := bt1.below hbwE0
      replace ct1 := ct1.below hbwE0
      have u0 : wE0.cell? ⟨h1, 0, none⟩ = some (.int .i64 v8) := bt1.cell 0 rfl
      have u1 : wE0.cell? ⟨h1, 1, none⟩ = some (.int .i64 v9) := bt1.cell 1 rfl
      have u2 : wE0.cell? ⟨h1, 2, none⟩ = some (.int .i64 v10) := bt1.cell 2 rfl
      have u3 : wE0.cell? ⟨h1, 3, none⟩ = some (.int .i64 v11) := bt1.cell 3 rfl
      have u4 : wE0.cell? ⟨h1, 4, none⟩ = some (.int .i64 v12) := bt1.cell 4 rfl
      have u5 : wE0.cell? ⟨h1, 5, none⟩ = some (.int .i64 v13) := bt1.cell 5 rfl
      have u6 : wE0.cell? ⟨h1, 6, none⟩ = some (.int .i64 v14) := bt1.cell 6 rfl
      have u7 : wE0.cell? ⟨h1, 7, none⟩ = some (.int .i64 v15) := bt1.cell 7 rfl
      have v0 : wE0.cell? ⟨g1, 0, none⟩ = some (.int .i64 v8) := ct1.cell 0 rfl
      have v1 : wE0.cell? ⟨g1, 1, none⟩ = some (.int .i64 v9) := ct1.cell 1 rfl
      have v2 : wE0.cell? ⟨g1, 2, none⟩ = some (.int .i64 v10) := ct1.cell 2 rfl
      have v3 : wE0.cell? ⟨g1, 3, none⟩ = some (.int .i64 v11) := ct1.cell 3 rfl
      have v4 : wE0.cell? ⟨g1, 4, none⟩ = some (.int .i64 v12) := ct1.cell 4 rfl
      have v5 : wE0.cell? ⟨g1, 5, none⟩ = some (.int .i64 v13) := ct1.cell 5 rfl
      have v6 : wE0.cell? ⟨g1, 6, none⟩ = some (.int .i64 v14) := ct1.cell 6 rfl
      have v7 : wE0.cell? ⟨g1, 7, none⟩ = some (.int .i64 v15) := ct1.cell 7 rfl
      have uz := bt1.lt
      have vz := ct1.lt
      go_wp2_with fail
      clear u0 v0 u1 v1 u2 v2 u3 v3 u4 v4 u5 v5 u6 v6 u7 v7 uz vz
      refine (eqCubic_same v8 v9 v10 v11 v12 v13 v14 v15 _).mono ?_
      rintro e wE1 ⟨rfl, hbwE1⟩
      have gE1 : Below w.heap.size w wE1 := by (have zE := gE0.size); repeat' (first | with_reducible assumption | with_reducible exact Below.refl _ _ | (with_reducible refine Below.setCell ?_ ?_ _) | (with_reducible refine Below.alloc ?_ ?_ _) | (with_reducible refine Below.drew ?_) | (with_reducible refine below_dr ?_ _) | (with_reducible refine Below.trans ?_ (Below.mono (by with_reducible assumption) ?_)) | omega | (simp; done) | (simp; omega))
      go_wp2
      go_ret
      exact ⟨rfl, by repeat' (first | with_reducible assumption | with_reducible exact Below.refl _ _ | (with_reducible refine Below.setCell ?_ ?_ _) | (with_reducible refine Below.alloc ?_ ?_ _) | (with_reducible refine Below.drew ?_) | (with_reducible refine below_dr ?_ _) | (with_reducible refine Below.trans ?_ (Below.mono (by with_reducible assumption) ?_)) | omega | (simp; done) | (simp; omega))⟩
end Go.Proofs.Ytpfbgpefaegipaa
