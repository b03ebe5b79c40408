/- Walks: which states of the machine are valid: the program's side, and the law. -/
import Derived.Test.YtdikenapnncmfaaHze
import Derived.Test.YtdikenapnncmfaaAb
import Derived.Test.YtdikenapnncmfaaHz5
namespace Go.Proofs.Ytdikenapnncmfaa
open Go.RowKit
set_option linter.unusedVariables false
theorem row_one (w : World) (x : Int) (t : TypeId) : Row RvInt64 1 (w.alloc (.cells #[.int .i64 x] t)) (w.heap.size + 1) (some ⟨w.heap.size, 0, none⟩) [x] := by
  refine .inr ⟨_, 0, rfl, by omega, fun k d hk => ?_⟩
  match k, hk with
  | 0, hk =>
    obtain rfl := Option.some.inj hk
    refine ⟨_, rfl, fun i u hu => ?_⟩
    match i, hu with
    | 0, hu => obtain rfl := Option.some.inj hu; simp [go_sem]
set_option maxRecDepth 100000 in
set_option maxHeartbeats 12800000 in
theorem implValidHinter_any (a0 : Int) (a1A : Option Addr) (a1c : Nat) (a1l : List DPt) (a2A : Option Addr) (a2c : Nat) (a2l : List DPt) (a3A : Option Addr) (a3c : Nat) (a3l : List DBool) (a4A : Option Addr) (a4c : Nat) (a4l : List DBool) (a5A : Option Addr) (a5c : Nat) (a5l : List DInt64) (a6A : Option Addr) (a6c : Nat) (a6l : List DInt64) (a7A : Option Addr) (a7c : Nat) (a7l : List DInt64) (a8 : Bool) (a9 : Int) (a10 : Int) (a11 : Int) (a12 : Int) (w : World) (h_a : totHinter (a0, a1l, a2l, a3l, a4l, a5l, a6l, a7l, a8, a9, a10, a11, a12) ≤ 1048576) (r_a1 : Row RvPt 2 w w.heap.size a1A a1l) (r_a2 : Row RvPt 2 w w.heap.size a2A a2l) (r_a3 : Row RvBool 1 w w.heap.size a3A a3l) (r_a4 : Row RvBool 1 w w.heap.size a4A a4l) (r_a5 : Row RvInt64 1 w w.heap.size a5A a5l) (r_a6 : Row RvInt64 1 w w.heap.size a6A a6l) (r_a7 : Row RvInt64 1 w w.heap.size a7A a7l) :
    Calls Try.prog 47 #[.agg #[.int .i64 a0, .slice a1A a1l.length a1c, .slice a2A a2l.length a2c, .slice a3A a3l.length a3c, .slice a4A a4l.length a4c, .slice a5A a5l.length a5c, .slice a6A a6l.length a6c, .slice a7A a7l.length a7c, .bool a8, .int .i64 a9, .int .i64 a10, .int .i64 a11, .int .i64 a12]] w fun e w' => e = .returned (.bool (vH (a0, a1l, a2l, a3l, a4l, a5l, a6l, a7l, a8, a9, a10, a11, a12))) ∧ Below w.heap.size w w' := by
  simp only [totHinter] at h_a
  have hl_a1 : a1l.length ≤ 1048576 := Nat.le_trans (totRow_len totPt _) (by omega)
  have hl_a2 : a2l.length ≤ 1048576 := Nat.le_trans (totRow_len totPt _) (by omega)
  have hl_a3 : a3l.length ≤ 1048576 := Nat.le_trans (totRow_len totBool _) (by omega)
  have hl_a4 : a4l.length ≤ 1048576 := Nat.le_trans (totRow_len totBool _) (by omega)
  have hl_a5 : a5l.length ≤ 1048576 := Nat.le_trans (totRow_len totInt64 _) (by omega)
  have hl_a6 : a6l.length ≤ 1048576 := Nat.le_trans (totRow_len totInt64 _) (by omega)
  have hl_a7 : a7l.length ≤ 1048576 := Nat.le_trans (totRow_len totInt64 _) (by omega)
  clear h_a
  rw [vH_eq]
  have CE := Lib.hid (fun (w1 : World) (hb : Below w.heap.size w w1) => hasEnds_any a0 a1A a1c a1l a2A a2c a2l a3A a3c a3l a4A a4c a4l a5A a5c a5l a6A a6c a6l a7A a7c a7l a8 a9 a10 a11 a12 w1 hl_a1 hl_a5 ((Row.carry (w' := w1) r_a5 hb (Nat.le_refl _)).more hb.size))
  have CO := Lib.hid (fun (w1 : World) (hb : Below w.heap.size w w1) => allPts_any a1l a1A a1c w1 hl_a1 ((Row.carry (w' := w1) r_a1 hb (Nat.le_refl _)).more hb.size))
  have CN := Lib.hid (fun (w1 : World) (hb : Below w.heap.size w w1) => allPts_any a2l a2A a2c w1 hl_a2 ((Row.carry (w' := w1) r_a2 hb (Nat.le_refl _)).more hb.size))
  have CV := Lib.hid (fun (w1 : World) (hb : Below w.heap.size w w1) => allNums_any a6l a6A a6c w1 hl_a6 ((Row.carry (w' := w1) r_a6 hb (Nat.le_refl _)).more hb.size))
  have CS := Lib.hid (fun (w1 : World) (hb : Below w.heap.size w w1) => allNums_any a7l a7A a7c w1 hl_a7 ((Row.carry (w' := w1) r_a7 hb (Nat.le_refl _)).more hb.size))
  have R7 := Lib.hid (fun w1 => isSize_any a0 w1)
  have R9 := Lib.hid (fun w1 => isState_any a10 w1)
  have R10 := Lib.hid (fun w1 => isSetting_any a11 w1)
  have R11 := Lib.hid (fun w1 => isSetting_any a12 w1)
  have e8 : ([a9] : List DInt64).all (fun x : DInt64 => rngB x 0 ((a1l.length : Int) - 1)) = rngB a9 0 ((a1l.length : Int) - 1) := by simp
  have RP := Lib.hid (fun (w1 : World) (A : Option Addr) (c : Nat) (r : Row RvInt64 1 w1 w1.heap.size A [a9]) => hasPoints_any a0 a1A a1c a1l a2A a2c a2l a3A a3c a3l a4A a4c a4l a5A a5c a5l a6A a6c a6l a7A a7c a7l a8 a9 a10 a11 a12 [a9] A c w1 hl_a1 (by simp) r)
  rw [e8] at RP
  clear e8
  generalize a1l.all pS = v3 at CO ⊢
  generalize a2l.all pS = v4 at CN ⊢
  generalize a7l.all nS = v5 at CS ⊢
  generalize a6l.all nS = v6 at CV ⊢
  generalize rngB a0 1 128 = v7 at R7 ⊢
  generalize rngB a9 0 ((a1l.length : Int) - 1) = v8 at RP ⊢
  generalize rngB a10 0 5 = v9 at R9 ⊢
  generalize rngB a11 0 32767 = v10 at R10 ⊢
  generalize rngB a12 0 32767 = v11 at R11 ⊢
  clear r_a1 r_a2 r_a3 r_a4 r_a5 r_a6 r_a7
  generalize decide (enF 0 a5l = some ((a1l.length : Int) - 2)) = d2 at CE ⊢
  generalize a1l.length = n1 at *
  generalize a2l.length = n2 at *
  generalize a3l.length = n3 at *
  generalize a4l.length = n4 at *
  generalize a5l.length = n5 at *
  generalize a6l.length = n6 at *
  generalize a7l.length = n7 at *
  obtain ⟨d1, hd1⟩ : ∃ d, d = decide ((2 ≤ n1 ∧ n1 ≤ 242) ∧ n2 = n1 ∧ n3 = n1 ∧ n4 = n1) := ⟨_, rfl⟩
  rw [← hd1]
  have HD1 := Lib.hid hd1
  clear hd1
  obtain ⟨d3, hd3⟩ : ∃ d, d = decide (n7 ≤ 32 ∧ n6 ≤ 16) := ⟨_, rfl⟩
  rw [← hd3]
  have HD3 := Lib.hid hd3
  clear hd3
  by_cases g0 : (n1 : Int) < 2
  case pos =>
    have H := Lib.hid (show d1 = false from HD1.out.trans (decide_eq_false (by omega)))
    have t0 : decide ((n1 : Int) < 2) = true := decide_eq_true (by omega)
    go_enter Try.func47, Try.ntmps47
    go_wp2_with fail
    go_ret
    exact ⟨ret_bool (by rw [H.out]; rfl), by repeat' (first | with_reducible assumption | with_reducible exact Below.refl _ _ | (with_reducible refine Below.setCell ?_ ?_ _) | (with_reducible refine Below.alloc ?_ ?_ _) | (with_reducible refine Below.drew ?_) | (with_reducible refine below_dr ?_ _) | (with_reducible refine Below.trans ?_ (Below.mono (by with_reducible assumption) ?_)) | omega | (simp; done) | (simp; omega))⟩
  case neg =>
    have t0 : decide ((n1 : Int) < 2) = false := decide_eq_false (by omega)
    by_cases g1 : (242 : Int) < (n1 : Int)
    case pos =>
      have H := Lib.hid (show d1 = false from HD1.out.trans (decide_eq_false (by omega)))
      have t1 : decide ((242 : Int) < (n1 : Int)) = true := decide_eq_true (by omega)
      go_enter Try.func47, Try.ntmps47
      go_wp2_with fail
      go_ret
      exact ⟨ret_bool (by rw [H.out]; rfl), by repeat' (first | with_reducible assumption | with_reducible exact Below.refl _ _ | (with_reducible refine Below.setCell ?_ ?_ _) | (with_reducible refine Below.alloc ?_ ?_ _) | (with_reducible refine Below.drew ?_) | (with_reducible refine below_dr ?_ _) | (with_reducible refine Below.trans ?_ (Below.mono (by with_reducible assumption) ?_)) | omega | (simp; done) | (simp; omega))⟩
    case neg =>
      have t1 : decide ((242 : Int) < (n1 : Int)) = false := decide_eq_false (by omega)
      by_cases g2 : (n2 : Int) ≠ (n1 : Int)
      case pos =>
        have H := Lib.hid (show d1 = false from HD1.out.trans (decide_eq_false (by omega)))
        have t2 : ((n2 : Int) != (n1 : Int)) = true := by rw [bne_iff_ne]; omega
        go_enter Try.func47, Try.ntmps47
        go_wp2_with fail
        go_ret
        exact ⟨ret_bool (by rw [H.out]; rfl), by repeat' (first | with_reducible assumption | with_reducible exact Below.refl _ _ | (with_reducible refine Below.setCell ?_ ?_ _) | (with_reducible refine Below.alloc ?_ ?_ _) | (with_reducible refine Below.drew ?_) | (with_reducible refine below_dr ?_ _) | (with_reducible refine Below.trans ?_ (Below.mono (by with_reducible assumption) ?_)) | omega | (simp; done) | (simp; omega))⟩
      case neg =>
        have t2 : ((n2 : Int) != (n1 : Int)) = false := by rw [bne_eq_false_iff_eq]; omega
        by_cases g3 : (n3 : Int) ≠ (n1 : Int)
        case pos =>
          have H := Lib.hid (show d1 = false from HD1.out.trans (decide_eq_false (by omega)))
          have t3 : ((n3 : Int) != (n1 : Int)) = true := by rw [bne_iff_ne]; omega
          go_enter Try.func47, Try.ntmps47
          go_wp2_with fail
          go_ret
          exact ⟨ret_bool (by rw [H.out]; rfl), by repeat' (first | with_reducible assumption | with_reducible exact Below.refl _ _ | (with_reducible refine Below.setCell ?_ ?_ _) | (with_reducible refine Below.alloc ?_ ?_ _) | (with_reducible refine Below.drew ?_) | (with_reducible refine below_dr ?_ _) | (with_reducible refine Below.trans ?_ (Below.mono (by with_reducible assumption) ?_)) | omega | (simp; done) | (simp; omega))⟩
        case neg =>
          have t3 : ((n3 : Int) != (n1 : Int)) = false := by rw [bne_eq_false_iff_eq]; omega
          by_cases g4 : (n4 : Int) ≠ (n1 : Int)
          case pos =>
            have H := Lib.hid (show d1 = false from HD1.out.trans (decide_eq_false (by omega)))
            have t4 : ((n4 : Int) != (n1 : Int)) = true := by rw [bne_iff_ne]; omega
            go_enter Try.func47, Try.ntmps47
            go_wp2_with fail
            go_ret
            exact ⟨ret_bool (by rw [H.out]; rfl), by repeat' (first | with_reducible assumption | with_reducible exact Below.refl _ _ | (with_reducible refine Below.setCell ?_ ?_ _) | (with_reducible refine Below.alloc ?_ ?_ _) | (with_reducible refine Below.drew ?_) | (with_reducible refine below_dr ?_ _) | (with_reducible refine Below.trans ?_ (Below.mono (by with_reducible assumption) ?_)) | omega | (simp; done) | (simp; omega))⟩
          case neg =>
            have t4 : ((n4 : Int) != (n1 : Int)) = false := by rw [bne_eq_false_iff_eq]; omega
            have G := Lib.hid (show d1 = true from HD1.out.trans (decide_eq_true (by omega)))
            clear g0 g1 g2 g3 g4
            go_enter Try.func47, Try.ntmps47
            go_wp2_with fail
            clear t0 t1 t2 t3 t4
            refine (CE.out _ (by repeat' (first | with_reducible assumption | with_reducible exact Below.refl _ _ | (with_reducible refine Below.setCell ?_ ?_ _) | (with_reducible refine Below.alloc ?_ ?_ _) | (with_reducible refine Below.drew ?_) | (with_reducible refine below_dr ?_ _) | (with_reducible refine Below.trans ?_ (Below.mono (by with_reducible assumption) ?_)) | omega | (simp; done) | (simp; omega)))).mono ?_
            rintro e w1 ⟨rfl, hb1⟩
            have at1 : AtL w.heap.size [.int .i64 a0, .slice a1A n1 a1c, .slice a2A n2 a2c, .slice a3A n3 a3c, .slice a4A n4 a4c, .slice a5A n5 a5c, .slice a6A n6 a6c, .slice a7A n7 a7c, .bool a8, .int .i64 a9, .int .i64 a10, .int .i64 a11, .int .i64 a12] w1 := (AtL.new w [.int .i64 a0, .slice a1A n1 a1c, .slice a2A n2 a2c, .slice a3A n3 a3c, .slice a4A n4 a4c, .slice a5A n5 a5c, .slice a6A n6 a6c, .slice a7A n7 a7c, .bool a8, .int .i64 a9, .int .i64 a10, .int .i64 a11, .int .i64 a12] _).below hb1
            have y0_1 : w1.cell? ⟨w.heap.size, 0, none⟩ = some (.int .i64 a0) := at1.cell 0 rfl
            have y1_1 : w1.cell? ⟨w.heap.size, 1, none⟩ = some (.slice a1A n1 a1c) := at1.cell 1 rfl
            have y2_1 : w1.cell? ⟨w.heap.size, 2, none⟩ = some (.slice a2A n2 a2c) := at1.cell 2 rfl
            have y3_1 : w1.cell? ⟨w.heap.size, 3, none⟩ = some (.slice a3A n3 a3c) := at1.cell 3 rfl
            have y4_1 : w1.cell? ⟨w.heap.size, 4, none⟩ = some (.slice a4A n4 a4c) := at1.cell 4 rfl
            have y5_1 : w1.cell? ⟨w.heap.size, 5, none⟩ = some (.slice a5A n5 a5c) := at1.cell 5 rfl
            have y6_1 : w1.cell? ⟨w.heap.size, 6, none⟩ = some (.slice a6A n6 a6c) := at1.cell 6 rfl
            have y7_1 : w1.cell? ⟨w.heap.size, 7, none⟩ = some (.slice a7A n7 a7c) := at1.cell 7 rfl
            have y8_1 : w1.cell? ⟨w.heap.size, 8, none⟩ = some (.bool a8) := at1.cell 8 rfl
            have y9_1 : w1.cell? ⟨w.heap.size, 9, none⟩ = some (.int .i64 a9) := at1.cell 9 rfl
            have y10_1 : w1.cell? ⟨w.heap.size, 10, none⟩ = some (.int .i64 a10) := at1.cell 10 rfl
            have y11_1 : w1.cell? ⟨w.heap.size, 11, none⟩ = some (.int .i64 a11) := at1.cell 11 rfl
            have y12_1 : w1.cell? ⟨w.heap.size, 12, none⟩ = some (.int .i64 a12) := at1.cell 12 rfl
            have qz1 := at1.lt
            have bz1 : Below w.heap.size w w1 := by repeat' (first | with_reducible assumption | with_reducible exact Below.refl _ _ | (with_reducible refine Below.setCell ?_ ?_ _) | (with_reducible refine Below.alloc ?_ ?_ _) | (with_reducible refine Below.drew ?_) | (with_reducible refine below_dr ?_ _) | (with_reducible refine Below.trans ?_ (Below.mono (by with_reducible assumption) ?_)) | omega | (simp; done) | (simp; omega))
            clear hb1
            cases d2
            case false =>
              go_wp2_with fail
              go_ret
              exact ⟨ret_bool (by simp), by repeat' (first | with_reducible assumption | with_reducible exact Below.refl _ _ | (with_reducible refine Below.setCell ?_ ?_ _) | (with_reducible refine Below.alloc ?_ ?_ _) | (with_reducible refine Below.drew ?_) | (with_reducible refine below_dr ?_ _) | (with_reducible refine Below.trans ?_ (Below.mono (by with_reducible assumption) ?_)) | omega | (simp; done) | (simp; omega))⟩
            case true =>
              by_cases e2 : (16 : Int) < (n6 : Int)
              case pos =>
                have t2 : decide ((16 : Int) < (n6 : Int)) = true := decide_eq_true e2
                have H := Lib.hid (show d3 = false from HD3.out.trans (decide_eq_false (by omega)))
                go_wp2_with fail
                go_ret
                exact ⟨ret_bool (by rw [H.out]; simp), by repeat' (first | with_reducible assumption | with_reducible exact Below.refl _ _ | (with_reducible refine Below.setCell ?_ ?_ _) | (with_reducible refine Below.alloc ?_ ?_ _) | (with_reducible refine Below.drew ?_) | (with_reducible refine below_dr ?_ _) | (with_reducible refine Below.trans ?_ (Below.mono (by with_reducible assumption) ?_)) | omega | (simp; done) | (simp; omega))⟩
              case neg =>
                have t2 : decide ((16 : Int) < (n6 : Int)) = false := decide_eq_false e2
                by_cases e1 : (32 : Int) < (n7 : Int)
                case pos =>
                  have t1 : decide ((32 : Int) < (n7 : Int)) = true := decide_eq_true e1
                  have H := Lib.hid (show d3 = false from HD3.out.trans (decide_eq_false (by omega)))
                  go_wp2_with fail
                  go_ret
                  exact ⟨ret_bool (by rw [H.out]; simp), by repeat' (first | with_reducible assumption | with_reducible exact Below.refl _ _ | (with_reducible refine Below.setCell ?_ ?_ _) | (with_reducible refine Below.alloc ?_ ?_ _) | (with_reducible refine Below.drew ?_) | (with_reducible refine below_dr ?_ _) | (with_reducible refine Below.trans ?_ (Below.mono (by with_reducible assumption) ?_)) | omega | (simp; done) | (simp; omega))⟩
                case neg =>
                  have t1 : decide ((32 : Int) < (n7 : Int)) = false := decide_eq_false e1
                  have HC := Lib.hid (show d3 = true from HD3.out.trans (decide_eq_true (by omega)))
                  clear e1 e2
                  go_wp2_with fail
                  refine (CO.out _ (by repeat' (first | with_reducible assumption | with_reducible exact Below.refl _ _ | (with_reducible refine Below.setCell ?_ ?_ _) | (with_reducible refine Below.alloc ?_ ?_ _) | (with_reducible refine Below.drew ?_) | (with_reducible refine below_dr ?_ _) | (with_reducible refine Below.trans ?_ (Below.mono (by with_reducible assumption) ?_)) | omega | (simp; done) | (simp; omega)))).mono ?_
                  rintro e w2 ⟨rfl, hb2⟩
                  have at2 : AtL w.heap.size [.int .i64 a0, .slice a1A n1 a1c, .slice a2A n2 a2c, .slice a3A n3 a3c, .slice a4A n4 a4c, .slice a5A n5 a5c, .slice a6A n6 a6c, .slice a7A n7 a7c, .bool a8, .int .i64 a9, .int .i64 a10, .int .i64 a11, .int .i64 a12] w2 := at1.below hb2
                  have y0_2 : w2.cell? ⟨w.heap.size, 0, none⟩ = some (.int .i64 a0) := at2.cell 0 rfl
                  have y1_2 : w2.cell? ⟨w.heap.size, 1, none⟩ = some (.slice a1A n1 a1c) := at2.cell 1 rfl
                  have y2_2 : w2.cell? ⟨w.heap.size, 2, none⟩ = some (.slice a2A n2 a2c) := at2.cell 2 rfl
                  have y3_2 : w2.cell? ⟨w.heap.size, 3, none⟩ = some (.slice a3A n3 a3c) := at2.cell 3 rfl
                  have y4_2 : w2.cell? ⟨w.heap.size, 4, none⟩ = some (.slice a4A n4 a4c) := at2.cell 4 rfl
                  have y5_2 : w2.cell? ⟨w.heap.size, 5, none⟩ = some (.slice a5A n5 a5c) := at2.cell 5 rfl
                  have y6_2 : w2.cell? ⟨w.heap.size, 6, none⟩ = some (.slice a6A n6 a6c) := at2.cell 6 rfl
                  have y7_2 : w2.cell? ⟨w.heap.size, 7, none⟩ = some (.slice a7A n7 a7c) := at2.cell 7 rfl
                  have y8_2 : w2.cell? ⟨w.heap.size, 8, none⟩ = some (.bool a8) := at2.cell 8 rfl
                  have y9_2 : w2.cell? ⟨w.heap.size, 9, none⟩ = some (.int .i64 a9) := at2.cell 9 rfl
                  have y10_2 : w2.cell? ⟨w.heap.size, 10, none⟩ = some (.int .i64 a10) := at2.cell 10 rfl
                  have y11_2 : w2.cell? ⟨w.heap.size, 11, none⟩ = some (.int .i64 a11) := at2.cell 11 rfl
                  have y12_2 : w2.cell? ⟨w.heap.size, 12, none⟩ = some (.int .i64 a12) := at2.cell 12 rfl
                  have qz2 := at2.lt
                  have bz2 : Below w.heap.size w w2 := by repeat' (first | with_reducible assumption | with_reducible exact Below.refl _ _ | (with_reducible refine Below.setCell ?_ ?_ _) | (with_reducible refine Below.alloc ?_ ?_ _) | (with_reducible refine Below.drew ?_) | (with_reducible refine below_dr ?_ _) | (with_reducible refine Below.trans ?_ (Below.mono (by with_reducible assumption) ?_)) | omega | (simp; done) | (simp; omega))
                  clear y0_1 y1_1 y2_1 y3_1 y4_1 y5_1 y6_1 y7_1 y8_1 y9_1 y10_1 y11_1 y12_1 bz1 qz1
                  clear hb2
                  cases v3
                  case false =>
                    go_wp2_with fail
                    go_ret
                    exact ⟨ret_bool (by simp [G.out, HC.out]), by repeat' (first | with_reducible assumption | with_reducible exact Below.refl _ _ | (with_reducible refine Below.setCell ?_ ?_ _) | (with_reducible refine Below.alloc ?_ ?_ _) | (with_reducible refine Below.drew ?_) | (with_reducible refine below_dr ?_ _) | (with_reducible refine Below.trans ?_ (Below.mono (by with_reducible assumption) ?_)) | omega | (simp; done) | (simp; omega))⟩
                  case true =>
                    go_wp2_with fail
                    refine (CN.out _ (by repeat' (first | with_reducible assumption | with_reducible exact Below.refl _ _ | (with_reducible refine Below.setCell ?_ ?_ _) | (with_reducible refine Below.alloc ?_ ?_ _) | (with_reducible refine Below.drew ?_) | (with_reducible refine below_dr ?_ _) | (with_reducible refine Below.trans ?_ (Below.mono (by with_reducible assumption) ?_)) | omega | (simp; done) | (simp; omega)))).mono ?_
                    rintro e w3 ⟨rfl, hb3⟩
                    have at3 : AtL w.heap.size [.int .i64 a0, .slice a1A n1 a1c, .slice a2A n2 a2c, .slice a3A n3 a3c, .slice a4A n4 a4c, .slice a5A n5 a5c, .slice a6A n6 a6c, .slice a7A n7 a7c, .bool a8, .int .i64 a9, .int .i64 a10, .int .i64 a11, .int .i64 a12] w3 := at2.below hb3
                    have y0_3 : w3.cell? ⟨w.heap.size, 0, none⟩ = some (.int .i64 a0) := at3.cell 0 rfl
                    have y1_3 : w3.cell? ⟨w.heap.size, 1, none⟩ = some (.slice a1A n1 a1c) := at3.cell 1 rfl
                    have y2_3 : w3.cell? ⟨w.heap.size, 2, none⟩ = some (.slice a2A n2 a2c) := at3.cell 2 rfl
                    have y3_3 : w3.cell? ⟨w.heap.size, 3, none⟩ = some (.slice a3A n3 a3c) := at3.cell 3 rfl
                    have y4_3 : w3.cell? ⟨w.heap.size, 4, none⟩ = some (.slice a4A n4 a4c) := at3.cell 4 rfl
                    have y5_3 : w3.cell? ⟨w.heap.size, 5, none⟩ = some (.slice a5A n5 a5c) := at3.cell 5 rfl
                    have y6_3 : w3.cell? ⟨w.heap.size, 6, none⟩ = some (.slice a6A n6 a6c) := at3.cell 6 rfl
                    have y7_3 : w3.cell? ⟨w.heap.size, 7, none⟩ = some (.slice a7A n7 a7c) := at3.cell 7 rfl
                    have y8_3 : w3.cell? ⟨w.heap.size, 8, none⟩ = some (.bool a8) := at3.cell 8 rfl
                    have y9_3 : w3.cell? ⟨w.heap.size, 9, none⟩ = some (.int .i64 a9) := at3.cell 9 rfl
                    have y10_3 : w3.cell? ⟨w.heap.size, 10, none⟩ = some (.int .i64 a10) := at3.cell 10 rfl
                    have y11_3 : w3.cell? ⟨w.heap.size, 11, none⟩ = some (.int .i64 a11) := at3.cell 11 rfl
                    have y12_3 : w3.cell? ⟨w.heap.size, 12, none⟩ = some (.int .i64 a12) := at3.cell 12 rfl
                    have qz3 := at3.lt
                    have bz3 : Below w.heap.size w w3 := by repeat' (first | with_reducible assumption | with_reducible exact Below.refl _ _ | (with_reducible refine Below.setCell ?_ ?_ _) | (with_reducible refine Below.alloc ?_ ?_ _) | (with_reducible refine Below.drew ?_) | (with_reducible refine below_dr ?_ _) | (with_reducible refine Below.trans ?_ (Below.mono (by with_reducible assumption) ?_)) | omega | (simp; done) | (simp; omega))
                    clear y0_2 y1_2 y2_2 y3_2 y4_2 y5_2 y6_2 y7_2 y8_2 y9_2 y10_2 y11_2 y12_2 bz2 qz2
                    clear hb3
                    cases v4
                    case false =>
                      go_wp2_with fail
                      go_ret
                      exact ⟨ret_bool (by simp [G.out, HC.out]), by repeat' (first | with_reducible assumption | with_reducible exact Below.refl _ _ | (with_reducible refine Below.setCell ?_ ?_ _) | (with_reducible refine Below.alloc ?_ ?_ _) | (with_reducible refine Below.drew ?_) | (with_reducible refine below_dr ?_ _) | (with_reducible refine Below.trans ?_ (Below.mono (by with_reducible assumption) ?_)) | omega | (simp; done) | (simp; omega))⟩
                    case true =>
                      go_wp2_with fail
                      refine (CV.out _ (by repeat' (first | with_reducible assumption | with_reducible exact Below.refl _ _ | (with_reducible refine Below.setCell ?_ ?_ _) | (with_reducible refine Below.alloc ?_ ?_ _) | (with_reducible refine Below.drew ?_) | (with_reducible refine below_dr ?_ _) | (with_reducible refine Below.trans ?_ (Below.mono (by with_reducible assumption) ?_)) | omega | (simp; done) | (simp; omega)))).mono ?_
                      rintro e w4 ⟨rfl, hb4⟩
                      have at4 : AtL w.heap.size [.int .i64 a0, .slice a1A n1 a1c, .slice a2A n2 a2c, .slice a3A n3 a3c, .slice a4A n4 a4c, .slice a5A n5 a5c, .slice a6A n6 a6c, .slice a7A n7 a7c, .bool a8, .int .i64 a9, .int .i64 a10, .int .i64 a11, .int .i64 a12] w4 := at3.below hb4
                      have y0_4 : w4.cell? ⟨w.heap.size, 0, none⟩ = some (.int .i64 a0) := at4.cell 0 rfl
                      have y1_4 : w4.cell? ⟨w.heap.size, 1, none⟩ = some (.slice a1A n1 a1c) := at4.cell 1 rfl
                      have y2_4 : w4.cell? ⟨w.heap.size, 2, none⟩ = some (.slice a2A n2 a2c) := at4.cell 2 rfl
                      have y3_4 : w4.cell? ⟨w.heap.size, 3, none⟩ = some (.slice a3A n3 a3c) := at4.cell 3 rfl
                      have y4_4 : w4.cell? ⟨w.heap.size, 4, none⟩ = some (.slice a4A n4 a4c) := at4.cell 4 rfl
                      have y5_4 : w4.cell? ⟨w.heap.size, 5, none⟩ = some (.slice a5A n5 a5c) := at4.cell 5 rfl
                      have y6_4 : w4.cell? ⟨w.heap.size, 6, none⟩ = some (.slice a6A n6 a6c) := at4.cell 6 rfl
                      have y7_4 : w4.cell? ⟨w.heap.size, 7, none⟩ = some (.slice a7A n7 a7c) := at4.cell 7 rfl
                      have y8_4 : w4.cell? ⟨w.heap.size, 8, none⟩ = some (.bool a8) := at4.cell 8 rfl
                      have y9_4 : w4.cell? ⟨w.heap.size, 9, none⟩ = some (.int .i64 a9) := at4.cell 9 rfl
                      have y10_4 : w4.cell? ⟨w.heap.size, 10, none⟩ = some (.int .i64 a10) := at4.cell 10 rfl
                      have y11_4 : w4.cell? ⟨w.heap.size, 11, none⟩ = some (.int .i64 a11) := at4.cell 11 rfl
                      have y12_4 : w4.cell? ⟨w.heap.size, 12, none⟩ = some (.int .i64 a12) := at4.cell 12 rfl
                      have qz4 := at4.lt
                      have bz4 : Below w.heap.size w w4 := by repeat' (first | with_reducible assumption | with_reducible exact Below.refl _ _ | (with_reducible refine Below.setCell ?_ ?_ _) | (with_reducible refine Below.alloc ?_ ?_ _) | (with_reducible refine Below.drew ?_) | (with_reducible refine below_dr ?_ _) | (with_reducible refine Below.trans ?_ (Below.mono (by with_reducible assumption) ?_)) | omega | (simp; done) | (simp; omega))
                      clear y0_3 y1_3 y2_3 y3_3 y4_3 y5_3 y6_3 y7_3 y8_3 y9_3 y10_3 y11_3 y12_3 bz3 qz3
                      clear hb4
                      cases v6
                      case false =>
                        go_wp2_with fail
                        go_ret
                        exact ⟨ret_bool (by simp [G.out, HC.out]), by repeat' (first | with_reducible assumption | with_reducible exact Below.refl _ _ | (with_reducible refine Below.setCell ?_ ?_ _) | (with_reducible refine Below.alloc ?_ ?_ _) | (with_reducible refine Below.drew ?_) | (with_reducible refine below_dr ?_ _) | (with_reducible refine Below.trans ?_ (Below.mono (by with_reducible assumption) ?_)) | omega | (simp; done) | (simp; omega))⟩
                      case true =>
                        go_wp2_with fail
                        refine (CS.out _ (by repeat' (first | with_reducible assumption | with_reducible exact Below.refl _ _ | (with_reducible refine Below.setCell ?_ ?_ _) | (with_reducible refine Below.alloc ?_ ?_ _) | (with_reducible refine Below.drew ?_) | (with_reducible refine below_dr ?_ _) | (with_reducible refine Below.trans ?_ (Below.mono (by with_reducible assumption) ?_)) | omega | (simp; done) | (simp; omega)))).mono ?_
                        rintro e w5 ⟨rfl, hb5⟩
                        have at5 : AtL w.heap.size [.int .i64 a0, .slice a1A n1 a1c, .slice a2A n2 a2c, .slice a3A n3 a3c, .slice a4A n4 a4c, .slice a5A n5 a5c, .slice a6A n6 a6c, .slice a7A n7 a7c, .bool a8, .int .i64 a9, .int .i64 a10, .int .i64 a11, .int .i64 a12] w5 := at4.below hb5
                        have y0_5 : w5.cell? ⟨w.heap.size, 0, none⟩ = some (.int .i64 a0) := at5.cell 0 rfl
                        have y1_5 : w5.cell? ⟨w.heap.size, 1, none⟩ = some (.slice a1A n1 a1c) := at5.cell 1 rfl
                        have y2_5 : w5.cell? ⟨w.heap.size, 2, none⟩ = some (.slice a2A n2 a2c) := at5.cell 2 rfl
                        have y3_5 : w5.cell? ⟨w.heap.size, 3, none⟩ = some (.slice a3A n3 a3c) := at5.cell 3 rfl
                        have y4_5 : w5.cell? ⟨w.heap.size, 4, none⟩ = some (.slice a4A n4 a4c) := at5.cell 4 rfl
                        have y5_5 : w5.cell? ⟨w.heap.size, 5, none⟩ = some (.slice a5A n5 a5c) := at5.cell 5 rfl
                        have y6_5 : w5.cell? ⟨w.heap.size, 6, none⟩ = some (.slice a6A n6 a6c) := at5.cell 6 rfl
                        have y7_5 : w5.cell? ⟨w.heap.size, 7, none⟩ = some (.slice a7A n7 a7c) := at5.cell 7 rfl
                        have y8_5 : w5.cell? ⟨w.heap.size, 8, none⟩ = some (.bool a8) := at5.cell 8 rfl
                        have y9_5 : w5.cell? ⟨w.heap.size, 9, none⟩ = some (.int .i64 a9) := at5.cell 9 rfl
                        have y10_5 : w5.cell? ⟨w.heap.size, 10, none⟩ = some (.int .i64 a10) := at5.cell 10 rfl
                        have y11_5 : w5.cell? ⟨w.heap.size, 11, none⟩ = some (.int .i64 a11) := at5.cell 11 rfl
                        have y12_5 : w5.cell? ⟨w.heap.size, 12, none⟩ = some (.int .i64 a12) := at5.cell 12 rfl
                        have qz5 := at5.lt
                        have bz5 : Below w.heap.size w w5 := by repeat' (first | with_reducible assumption | with_reducible exact Below.refl _ _ | (with_reducible refine Below.setCell ?_ ?_ _) | (with_reducible refine Below.alloc ?_ ?_ _) | (with_reducible refine Below.drew ?_) | (with_reducible refine below_dr ?_ _) | (with_reducible refine Below.trans ?_ (Below.mono (by with_reducible assumption) ?_)) | omega | (simp; done) | (simp; omega))
                        clear y0_4 y1_4 y2_4 y3_4 y4_4 y5_4 y6_4 y7_4 y8_4 y9_4 y10_4 y11_4 y12_4 bz4 qz4
                        clear hb5
                        cases v5
                        case false =>
                          go_wp2_with fail
                          go_ret
                          exact ⟨ret_bool (by simp [G.out, HC.out]), by repeat' (first | with_reducible assumption | with_reducible exact Below.refl _ _ | (with_reducible refine Below.setCell ?_ ?_ _) | (with_reducible refine Below.alloc ?_ ?_ _) | (with_reducible refine Below.drew ?_) | (with_reducible refine below_dr ?_ _) | (with_reducible refine Below.trans ?_ (Below.mono (by with_reducible assumption) ?_)) | omega | (simp; done) | (simp; omega))⟩
                        case true =>
                          go_wp2_with fail
                          refine (R7.out _).mono ?_
                          rintro e w9 ⟨rfl, rfl⟩
                          cases v7
                          case false =>
                            go_wp2_with fail
                            go_ret
                            exact ⟨ret_bool (by simp [G.out, HC.out]), by repeat' (first | with_reducible assumption | with_reducible exact Below.refl _ _ | (with_reducible refine Below.setCell ?_ ?_ _) | (with_reducible refine Below.alloc ?_ ?_ _) | (with_reducible refine Below.drew ?_) | (with_reducible refine below_dr ?_ _) | (with_reducible refine Below.trans ?_ (Below.mono (by with_reducible assumption) ?_)) | omega | (simp; done) | (simp; omega))⟩
                          case true =>
                            go_wp2_with fail
                            refine (RP.out _ _ _ ((row_one _ _ _).more (by simp))).mono ?_
                            rintro e w6 ⟨rfl, hb6⟩
                            have at6 : AtL w.heap.size [.int .i64 a0, .slice a1A n1 a1c, .slice a2A n2 a2c, .slice a3A n3 a3c, .slice a4A n4 a4c, .slice a5A n5 a5c, .slice a6A n6 a6c, .slice a7A n7 a7c, .bool a8, .int .i64 a9, .int .i64 a10, .int .i64 a11, .int .i64 a12] w6 := (at5.alloc _).below hb6
                            have y0_6 : w6.cell? ⟨w.heap.size, 0, none⟩ = some (.int .i64 a0) := at6.cell 0 rfl
                            have y1_6 : w6.cell? ⟨w.heap.size, 1, none⟩ = some (.slice a1A n1 a1c) := at6.cell 1 rfl
                            have y2_6 : w6.cell? ⟨w.heap.size, 2, none⟩ = some (.slice a2A n2 a2c) := at6.cell 2 rfl
                            have y3_6 : w6.cell? ⟨w.heap.size, 3, none⟩ = some (.slice a3A n3 a3c) := at6.cell 3 rfl
                            have y4_6 : w6.cell? ⟨w.heap.size, 4, none⟩ = some (.slice a4A n4 a4c) := at6.cell 4 rfl
                            have y5_6 : w6.cell? ⟨w.heap.size, 5, none⟩ = some (.slice a5A n5 a5c) := at6.cell 5 rfl
                            have y6_6 : w6.cell? ⟨w.heap.size, 6, none⟩ = some (.slice a6A n6 a6c) := at6.cell 6 rfl
                            have y7_6 : w6.cell? ⟨w.heap.size, 7, none⟩ = some (.slice a7A n7 a7c) := at6.cell 7 rfl
                            have y8_6 : w6.cell? ⟨w.heap.size, 8, none⟩ = some (.bool a8) := at6.cell 8 rfl
                            have y9_6 : w6.cell? ⟨w.heap.size, 9, none⟩ = some (.int .i64 a9) := at6.cell 9 rfl
                            have y10_6 : w6.cell? ⟨w.heap.size, 10, none⟩ = some (.int .i64 a10) := at6.cell 10 rfl
                            have y11_6 : w6.cell? ⟨w.heap.size, 11, none⟩ = some (.int .i64 a11) := at6.cell 11 rfl
                            have y12_6 : w6.cell? ⟨w.heap.size, 12, none⟩ = some (.int .i64 a12) := at6.cell 12 rfl
                            have qz6 := at6.lt
                            have bz6 : Below w.heap.size w w6 := by repeat' (first | with_reducible assumption | with_reducible exact Below.refl _ _ | (with_reducible refine Below.setCell ?_ ?_ _) | (with_reducible refine Below.alloc ?_ ?_ _) | (with_reducible refine Below.drew ?_) | (with_reducible refine below_dr ?_ _) | (with_reducible refine Below.trans ?_ (Below.mono (by with_reducible assumption) ?_)) | omega | (simp; done) | (simp; omega))
                            clear y0_5 y1_5 y2_5 y3_5 y4_5 y5_5 y6_5 y7_5 y8_5 y9_5 y10_5 y11_5 y12_5 bz5 qz5
                            clear hb6
                            cases v8
                            case false =>
                              go_wp2_with fail
                              go_ret
                              exact ⟨ret_bool (by simp [G.out, HC.out]), by repeat' (first | with_reducible assumption | with_reducible exact Below.refl _ _ | (with_reducible refine Below.setCell ?_ ?_ _) | (with_reducible refine Below.alloc ?_ ?_ _) | (with_reducible refine Below.drew ?_) | (with_reducible refine below_dr ?_ _) | (with_reducible refine Below.trans ?_ (Below.mono (by with_reducible assumption) ?_)) | omega | (simp; done) | (simp; omega))⟩
                            case true =>
                              go_wp2_with fail
                              refine (R9.out _).mono ?_
                              rintro e w9 ⟨rfl, rfl⟩
                              cases v9
                              case false =>
                                go_wp2_with fail
                                go_ret
                                exact ⟨ret_bool (by simp [G.out, HC.out]), by repeat' (first | with_reducible assumption | with_reducible exact Below.refl _ _ | (with_reducible refine Below.setCell ?_ ?_ _) | (with_reducible refine Below.alloc ?_ ?_ _) | (with_reducible refine Below.drew ?_) | (with_reducible refine below_dr ?_ _) | (with_reducible refine Below.trans ?_ (Below.mono (by with_reducible assumption) ?_)) | omega | (simp; done) | (simp; omega))⟩
                              case true =>
                                go_wp2_with fail
                                refine (R10.out _).mono ?_
                                rintro e w9 ⟨rfl, rfl⟩
                                cases v10
                                case false =>
                                  go_wp2_with fail
                                  go_ret
                                  exact ⟨ret_bool (by simp [G.out, HC.out]), by repeat' (first | with_reducible assumption | with_reducible exact Below.refl _ _ | (with_reducible refine Below.setCell ?_ ?_ _) | (with_reducible refine Below.alloc ?_ ?_ _) | (with_reducible refine Below.drew ?_) | (with_reducible refine below_dr ?_ _) | (with_reducible refine Below.trans ?_ (Below.mono (by with_reducible assumption) ?_)) | omega | (simp; done) | (simp; omega))⟩
                                case true =>
                                  go_wp2_with fail
                                  refine (R11.out _).mono ?_
                                  rintro e w9 ⟨rfl, rfl⟩
                                  go_wp2_with fail
                                  go_ret
                                  exact ⟨ret_bool (by simp [G.out, HC.out]), by repeat' (first | with_reducible assumption | with_reducible exact Below.refl _ _ | (with_reducible refine Below.setCell ?_ ?_ _) | (with_reducible refine Below.alloc ?_ ?_ _) | (with_reducible refine Below.drew ?_) | (with_reducible refine below_dr ?_ _) | (with_reducible refine Below.trans ?_ (Below.mono (by with_reducible assumption) ?_)) | omega | (simp; done) | (simp; omega))⟩
set_option maxRecDepth 100000 in
set_option maxHeartbeats 12800000 in
theorem walk_ValidHinter (a : AHinter) (w : World) (k_a : okHinter w w.heap.size a) :
    Calls Try.prog 10 #[.agg #[.int .i64 a.1, .slice a.2.1.1 a.2.1.2.2.length a.2.1.2.1, .slice a.2.2.1.1 a.2.2.1.2.2.length a.2.2.1.2.1, .slice a.2.2.2.1.1 a.2.2.2.1.2.2.length a.2.2.2.1.2.1, .slice a.2.2.2.2.1.1 a.2.2.2.2.1.2.2.length a.2.2.2.2.1.2.1, .slice a.2.2.2.2.2.1.1 a.2.2.2.2.2.1.2.2.length a.2.2.2.2.2.1.2.1, .slice a.2.2.2.2.2.2.1.1 a.2.2.2.2.2.2.1.2.2.length a.2.2.2.2.2.2.1.2.1, .slice a.2.2.2.2.2.2.2.1.1 a.2.2.2.2.2.2.2.1.2.2.length a.2.2.2.2.2.2.2.1.2.1, .bool a.2.2.2.2.2.2.2.2.1, .int .i64 a.2.2.2.2.2.2.2.2.2.1, .int .i64 a.2.2.2.2.2.2.2.2.2.2.1, .int .i64 a.2.2.2.2.2.2.2.2.2.2.2.1, .int .i64 a.2.2.2.2.2.2.2.2.2.2.2.2]] w fun e w' => e = .returned (.bool true) ∧ Below w.heap.size w w' := by
  obtain ⟨a0, ⟨a1A, a1c, a1q⟩, ⟨a2A, a2c, a2q⟩, ⟨a3A, a3c, a3q⟩, ⟨a4A, a4c, a4q⟩, ⟨a5A, a5c, a5q⟩, ⟨a6A, a6c, a6q⟩, ⟨a7A, a7c, a7q⟩, a8, a9, a10, a11, a12⟩ := a
  obtain ⟨w_a0, nc_a1, cm_a1, rd_a1, ok_a1, nc_a2, cm_a2, rd_a2, ok_a2, nc_a3, cm_a3, rd_a3, ok_a3, nc_a4, cm_a4, rd_a4, ok_a4, nc_a5, cm_a5, rd_a5, ok_a5, nc_a6, cm_a6, rd_a6, ok_a6, nc_a7, cm_a7, rd_a7, ok_a7, w_a9, w_a10, w_a11, w_a12⟩ := k_a
  simp only at w_a0 nc_a1 cm_a1 rd_a1 ok_a1 nc_a2 cm_a2 rd_a2 ok_a2 nc_a3 cm_a3 rd_a3 ok_a3 nc_a4 cm_a4 rd_a4 ok_a4 nc_a5 cm_a5 rd_a5 ok_a5 nc_a6 cm_a6 rd_a6 ok_a6 nc_a7 cm_a7 rd_a7 ok_a7 w_a9 w_a10 w_a11 w_a12 ⊢
  have row_a1 : Row RvPt 2 w w.heap.size a1A (a1q.map dPt) := Row.of rd_a1 (fun i b hb => rv_Pt b (ok_a1 i b hb))
  have sz_a1 : szRow SzPt (a1q.map dPt) := ⟨Nat.le_trans (Nat.le_of_eq (List.length_map _)) (Nat.le_trans nc_a1 cm_a1), fun i b hb => sz_map sz_Pt ok_a1 i b hb⟩
  have hn_a1 : a1q.length = (a1q.map dPt).length := (List.length_map _).symm
  rw [hn_a1]
  generalize a1q.map dPt = a1l at row_a1 sz_a1 ⊢
  have HZ_a1 := Lib.hid sz_a1
  clear nc_a1 cm_a1 rd_a1 ok_a1 hn_a1 sz_a1
  have row_a2 : Row RvPt 2 w w.heap.size a2A (a2q.map dPt) := Row.of rd_a2 (fun i b hb => rv_Pt b (ok_a2 i b hb))
  have sz_a2 : szRow SzPt (a2q.map dPt) := ⟨Nat.le_trans (Nat.le_of_eq (List.length_map _)) (Nat.le_trans nc_a2 cm_a2), fun i b hb => sz_map sz_Pt ok_a2 i b hb⟩
  have hn_a2 : a2q.length = (a2q.map dPt).length := (List.length_map _).symm
  rw [hn_a2]
  generalize a2q.map dPt = a2l at row_a2 sz_a2 ⊢
  have HZ_a2 := Lib.hid sz_a2
  clear nc_a2 cm_a2 rd_a2 ok_a2 hn_a2 sz_a2
  have row_a3 : Row RvBool 1 w w.heap.size a3A (a3q.map dBool) := Row.of rd_a3 (fun i b hb => rv_Bool b (ok_a3 i b hb))
  have sz_a3 : szRow SzBool (a3q.map dBool) := ⟨Nat.le_trans (Nat.le_of_eq (List.length_map _)) (Nat.le_trans nc_a3 cm_a3), fun i b hb => sz_map sz_Bool ok_a3 i b hb⟩
  have hn_a3 : a3q.length = (a3q.map dBool).length := (List.length_map _).symm
  rw [hn_a3]
  generalize a3q.map dBool = a3l at row_a3 sz_a3 ⊢
  have HZ_a3 := Lib.hid sz_a3
  clear nc_a3 cm_a3 rd_a3 ok_a3 hn_a3 sz_a3
  have row_a4 : Row RvBool 1 w w.heap.size a4A (a4q.map dBool) := Row.of rd_a4 (fun i b hb => rv_Bool b (ok_a4 i b hb))
  have sz_a4 : szRow SzBool (a4q.map dBool) := ⟨Nat.le_trans (Nat.le_of_eq (List.length_map _)) (Nat.le_trans nc_a4 cm_a4), fun i b hb => sz_map sz_Bool ok_a4 i b hb⟩
  have hn_a4 : a4q.length = (a4q.map dBool).length := (List.length_map _).symm
  rw [hn_a4]
  generalize a4q.map dBool = a4l at row_a4 sz_a4 ⊢
  have HZ_a4 := Lib.hid sz_a4
  clear nc_a4 cm_a4 rd_a4 ok_a4 hn_a4 sz_a4
  have row_a5 : Row RvInt64 1 w w.heap.size a5A (a5q.map dInt64) := Row.of rd_a5 (fun i b hb => rv_Int64 b (ok_a5 i b hb))
  have sz_a5 : szRow SzInt64 (a5q.map dInt64) := ⟨Nat.le_trans (Nat.le_of_eq (List.length_map _)) (Nat.le_trans nc_a5 cm_a5), fun i b hb => sz_map sz_Int64 ok_a5 i b hb⟩
  have hn_a5 : a5q.length = (a5q.map dInt64).length := (List.length_map _).symm
  rw [hn_a5]
  generalize a5q.map dInt64 = a5l at row_a5 sz_a5 ⊢
  have HZ_a5 := Lib.hid sz_a5
  clear nc_a5 cm_a5 rd_a5 ok_a5 hn_a5 sz_a5
  have row_a6 : Row RvInt64 1 w w.heap.size a6A (a6q.map dInt64) := Row.of rd_a6 (fun i b hb => rv_Int64 b (ok_a6 i b hb))
  have sz_a6 : szRow SzInt64 (a6q.map dInt64) := ⟨Nat.le_trans (Nat.le_of_eq (List.length_map _)) (Nat.le_trans nc_a6 cm_a6), fun i b hb => sz_map sz_Int64 ok_a6 i b hb⟩
  have hn_a6 : a6q.length = (a6q.map dInt64).length := (List.length_map _).symm
  rw [hn_a6]
  generalize a6q.map dInt64 = a6l at row_a6 sz_a6 ⊢
  have HZ_a6 := Lib.hid sz_a6
  clear nc_a6 cm_a6 rd_a6 ok_a6 hn_a6 sz_a6
  have row_a7 : Row RvInt64 1 w w.heap.size a7A (a7q.map dInt64) := Row.of rd_a7 (fun i b hb => rv_Int64 b (ok_a7 i b hb))
  have sz_a7 : szRow SzInt64 (a7q.map dInt64) := ⟨Nat.le_trans (Nat.le_of_eq (List.length_map _)) (Nat.le_trans nc_a7 cm_a7), fun i b hb => sz_map sz_Int64 ok_a7 i b hb⟩
  have hn_a7 : a7q.length = (a7q.map dInt64).length := (List.length_map _).symm
  rw [hn_a7]
  generalize a7q.map dInt64 = a7l at row_a7 sz_a7 ⊢
  have HZ_a7 := Lib.hid sz_a7
  clear nc_a7 cm_a7 rd_a7 ok_a7 hn_a7 sz_a7
  have HZP_a := Lib.hid (show SzHinter (a0, a1l, a2l, a3l, a4l, a5l, a6l, a7l, a8, a9, a10, a11, a12) from ⟨HZ_a1.out, HZ_a2.out, HZ_a3.out, HZ_a4.out, HZ_a5.out, HZ_a6.out, HZ_a7.out⟩)
  have C1 := Lib.hid (fun (ha : totHinter (a0, a1l, a2l, a3l, a4l, a5l, a6l, a7l, a8, a9, a10, a11, a12) ≤ 1048576) a1A' a1c' a2A' a2c' a3A' a3c' a4A' a4c' a5A' a5c' a6A' a6c' a7A' a7c' w q_a1 q_a2 q_a3 q_a4 q_a5 q_a6 q_a7 => specValidHinter_any a0 a1A' a1c' a1l a2A' a2c' a2l a3A' a3c' a3l a4A' a4c' a4l a5A' a5c' a5l a6A' a6c' a6l a7A' a7c' a7l a8 a9 a10 a11 a12 w ha q_a1 q_a2 q_a3 q_a4 q_a5 q_a6 q_a7)
  have C2 := Lib.hid (fun (ha : totHinter (a0, a1l, a2l, a3l, a4l, a5l, a6l, a7l, a8, a9, a10, a11, a12) ≤ 1048576) a1A' a1c' a2A' a2c' a3A' a3c' a4A' a4c' a5A' a5c' a6A' a6c' a7A' a7c' w q_a1 q_a2 q_a3 q_a4 q_a5 q_a6 q_a7 => implValidHinter_any a0 a1A' a1c' a1l a2A' a2c' a2l a3A' a3c' a3l a4A' a4c' a4l a5A' a5c' a5l a6A' a6c' a6l a7A' a7c' a7l a8 a9 a10 a11 a12 w ha q_a1 q_a2 q_a3 q_a4 q_a5 q_a6 q_a7)
  generalize vH (a0, a1l, a2l, a3l, a4l, a5l, a6l, a7l, a8, a9, a10, a11, a12) = v at C1 C2
  have e_v : (v != v) = false := by simp
  go_enter Try.func10, Try.ntmps10
  go_wp2_with fail
  generalize hW : (w.alloc (.cells #[.int .i64 a0, .slice a1A a1l.length a1c, .slice a2A a2l.length a2c, .slice a3A a3l.length a3c, .slice a4A a4l.length a4c, .slice a5A a5l.length a5c, .slice a6A a6l.length a6c, .slice a7A a7l.length a7c, .bool a8, .int .i64 a9, .int .i64 a10, .int .i64 a11, .int .i64 a12] 76)) = W0
  have row_a1w : Row RvPt 2 w (w.heap.size) a1A a1l := row_a1
  have row_a2w : Row RvPt 2 w (w.heap.size) a2A a2l := row_a2
  have row_a3w : Row RvBool 1 w (w.heap.size) a3A a3l := row_a3
  have row_a4w : Row RvBool 1 w (w.heap.size) a4A a4l := row_a4
  have row_a5w : Row RvInt64 1 w (w.heap.size) a5A a5l := row_a5
  have row_a6w : Row RvInt64 1 w (w.heap.size) a6A a6l := row_a6
  have row_a7w : Row RvInt64 1 w (w.heap.size) a7A a7l := row_a7
  have bx_aW0 : AtL (w.heap.size) [.int .i64 a0, .slice a1A a1l.length a1c, .slice a2A a2l.length a2c, .slice a3A a3l.length a3c, .slice a4A a4l.length a4c, .slice a5A a5l.length a5c, .slice a6A a6l.length a6c, .slice a7A a7l.length a7c, .bool a8, .int .i64 a9, .int .i64 a10, .int .i64 a11, .int .i64 a12] W0 := by rw [← hW]; repeat' (first | with_reducible assumption | with_reducible exact AtL.new _ _ _ | ((with_reducible refine AtL.newAt ?_); (first | rfl | (simp; done))) | (with_reducible refine AtL.drew ?_) | (with_reducible refine AtL.below ?_ (by with_reducible assumption)) | (with_reducible refine AtL.alloc ?_ _) | (with_reducible refine AtL.far ?_ ?_ _ _) | omega | (simp; done) | (simp; omega))
  have row_a1W0 : Row RvPt 2 W0 (w.heap.size) a1A a1l := by rw [← hW]; repeat' (first | with_reducible assumption | (with_reducible refine Row.drew ?_) | (with_reducible refine Row.carry ?_ (by with_reducible assumption) ?_) | (with_reducible refine Row.alloc ?_ ?_ _) | (with_reducible refine Row.setCell ?_ ?_ _) | omega | (simp; done) | (simp; omega))
  have row_a2W0 : Row RvPt 2 W0 (w.heap.size) a2A a2l := by rw [← hW]; repeat' (first | with_reducible assumption | (with_reducible refine Row.drew ?_) | (with_reducible refine Row.carry ?_ (by with_reducible assumption) ?_) | (with_reducible refine Row.alloc ?_ ?_ _) | (with_reducible refine Row.setCell ?_ ?_ _) | omega | (simp; done) | (simp; omega))
  have row_a3W0 : Row RvBool 1 W0 (w.heap.size) a3A a3l := by rw [← hW]; repeat' (first | with_reducible assumption | (with_reducible refine Row.drew ?_) | (with_reducible refine Row.carry ?_ (by with_reducible assumption) ?_) | (with_reducible refine Row.alloc ?_ ?_ _) | (with_reducible refine Row.setCell ?_ ?_ _) | omega | (simp; done) | (simp; omega))
  have row_a4W0 : Row RvBool 1 W0 (w.heap.size) a4A a4l := by rw [← hW]; repeat' (first | with_reducible assumption | (with_reducible refine Row.drew ?_) | (with_reducible refine Row.carry ?_ (by with_reducible assumption) ?_) | (with_reducible refine Row.alloc ?_ ?_ _) | (with_reducible refine Row.setCell ?_ ?_ _) | omega | (simp; done) | (simp; omega))
  have row_a5W0 : Row RvInt64 1 W0 (w.heap.size) a5A a5l := by rw [← hW]; repeat' (first | with_reducible assumption | (with_reducible refine Row.drew ?_) | (with_reducible refine Row.carry ?_ (by with_reducible assumption) ?_) | (with_reducible refine Row.alloc ?_ ?_ _) | (with_reducible refine Row.setCell ?_ ?_ _) | omega | (simp; done) | (simp; omega))
  have row_a6W0 : Row RvInt64 1 W0 (w.heap.size) a6A a6l := by rw [← hW]; repeat' (first | with_reducible assumption | (with_reducible refine Row.drew ?_) | (with_reducible refine Row.carry ?_ (by with_reducible assumption) ?_) | (with_reducible refine Row.alloc ?_ ?_ _) | (with_reducible refine Row.setCell ?_ ?_ _) | omega | (simp; done) | (simp; omega))
  have row_a7W0 : Row RvInt64 1 W0 (w.heap.size) a7A a7l := by rw [← hW]; repeat' (first | with_reducible assumption | (with_reducible refine Row.drew ?_) | (with_reducible refine Row.carry ?_ (by with_reducible assumption) ?_) | (with_reducible refine Row.alloc ?_ ?_ _) | (with_reducible refine Row.setCell ?_ ?_ _) | omega | (simp; done) | (simp; omega))
  have qW0 : w.heap.size ≤ W0.heap.size := by rw [← hW]; first | (simp; done) | (simp; omega)
  have bn : Below w.heap.size w W0 := by rw [← hW]; repeat' (first | with_reducible assumption | with_reducible exact Below.refl _ _ | (with_reducible refine Below.setCell ?_ ?_ _) | (with_reducible refine Below.alloc ?_ ?_ _) | (with_reducible refine Below.drew ?_) | (with_reducible refine below_dr ?_ _) | (with_reducible refine Below.trans ?_ (Below.mono (by with_reducible assumption) ?_)) | omega | (simp; done) | (simp; omega))
  have bW0 := Lib.hid bn
  clear hW bn
  clear row_a1w row_a1 row_a2w row_a2 row_a3w row_a3 row_a4w row_a4 row_a5w row_a5 row_a6w row_a6 row_a7w row_a7
  have kbx_a0 := bx_aW0.cell 0 rfl
  have kbx_a1 := bx_aW0.cell 1 rfl
  have kbx_a2 := bx_aW0.cell 2 rfl
  have kbx_a3 := bx_aW0.cell 3 rfl
  have kbx_a4 := bx_aW0.cell 4 rfl
  have kbx_a5 := bx_aW0.cell 5 rfl
  have kbx_a6 := bx_aW0.cell 6 rfl
  have kbx_a7 := bx_aW0.cell 7 rfl
  have kbx_a8 := bx_aW0.cell 8 rfl
  have kbx_a9 := bx_aW0.cell 9 rfl
  have kbx_a10 := bx_aW0.cell 10 rfl
  have kbx_a11 := bx_aW0.cell 11 rfl
  have kbx_a12 := bx_aW0.cell 12 rfl
  have lbx_a := bx_aW0.lt
  go_wp2_with fail
  clear kbx_a0 kbx_a1 kbx_a2 kbx_a3 kbx_a4 kbx_a5 kbx_a6 kbx_a7 kbx_a8 kbx_a9 kbx_a10 kbx_a11 kbx_a12 lbx_a
  obtain ⟨T0, hT0⟩ : ∃ T, T = totHinter (a0, a1l, a2l, a3l, a4l, a5l, a6l, a7l, a8, a9, a10, a11, a12) := ⟨_, rfl⟩
  have HTT0 := Lib.hid hT0
  refine (szHinter_any a0 a1A a1c a1l a2A a2c a2l a3A a3c a3l a4A a4c a4l a5A a5c a5l a6A a6c a6l a7A a7c a7l a8 a9 a10 a11 a12 1048576 _ (by omega) (by omega) HZP_a.out ?_ ?_ ?_ ?_ ?_ ?_ ?_).mono ?_
  · (refine Row.more (B := w.heap.size) ?_ (by first | omega | ((try simp only [World.size_setCell]); (try simp only [World.size_drew]); (try simp only [World.size_alloc]); omega))); repeat' (first | with_reducible assumption | (with_reducible refine Row.drew ?_) | (with_reducible refine Row.carry ?_ (by with_reducible assumption) ?_) | (with_reducible refine Row.alloc ?_ ?_ _) | (with_reducible refine Row.setCell ?_ ?_ _) | omega | (simp; done) | (simp; omega))
  · (refine Row.more (B := w.heap.size) ?_ (by first | omega | ((try simp only [World.size_setCell]); (try simp only [World.size_drew]); (try simp only [World.size_alloc]); omega))); repeat' (first | with_reducible assumption | (with_reducible refine Row.drew ?_) | (with_reducible refine Row.carry ?_ (by with_reducible assumption) ?_) | (with_reducible refine Row.alloc ?_ ?_ _) | (with_reducible refine Row.setCell ?_ ?_ _) | omega | (simp; done) | (simp; omega))
  · (refine Row.more (B := w.heap.size) ?_ (by first | omega | ((try simp only [World.size_setCell]); (try simp only [World.size_drew]); (try simp only [World.size_alloc]); omega))); repeat' (first | with_reducible assumption | (with_reducible refine Row.drew ?_) | (with_reducible refine Row.carry ?_ (by with_reducible assumption) ?_) | (with_reducible refine Row.alloc ?_ ?_ _) | (with_reducible refine Row.setCell ?_ ?_ _) | omega | (simp; done) | (simp; omega))
  · (refine Row.more (B := w.heap.size) ?_ (by first | omega | ((try simp only [World.size_setCell]); (try simp only [World.size_drew]); (try simp only [World.size_alloc]); omega))); repeat' (first | with_reducible assumption | (with_reducible refine Row.drew ?_) | (with_reducible refine Row.carry ?_ (by with_reducible assumption) ?_) | (with_reducible refine Row.alloc ?_ ?_ _) | (with_reducible refine Row.setCell ?_ ?_ _) | omega | (simp; done) | (simp; omega))
  · (refine Row.more (B := w.heap.size) ?_ (by first | omega | ((try simp only [World.size_setCell]); (try simp only [World.size_drew]); (try simp only [World.size_alloc]); omega))); repeat' (first | with_reducible assumption | (with_reducible refine Row.drew ?_) | (with_reducible refine Row.carry ?_ (by with_reducible assumption) ?_) | (with_reducible refine Row.alloc ?_ ?_ _) | (with_reducible refine Row.setCell ?_ ?_ _) | omega | (simp; done) | (simp; omega))
  · (refine Row.more (B := w.heap.size) ?_ (by first | omega | ((try simp only [World.size_setCell]); (try simp only [World.size_drew]); (try simp only [World.size_alloc]); omega))); repeat' (first | with_reducible assumption | (with_reducible refine Row.drew ?_) | (with_reducible refine Row.carry ?_ (by with_reducible assumption) ?_) | (with_reducible refine Row.alloc ?_ ?_ _) | (with_reducible refine Row.setCell ?_ ?_ _) | omega | (simp; done) | (simp; omega))
  · (refine Row.more (B := w.heap.size) ?_ (by first | omega | ((try simp only [World.size_setCell]); (try simp only [World.size_drew]); (try simp only [World.size_alloc]); omega))); repeat' (first | with_reducible assumption | (with_reducible refine Row.drew ?_) | (with_reducible refine Row.carry ?_ (by with_reducible assumption) ?_) | (with_reducible refine Row.alloc ?_ ?_ _) | (with_reducible refine Row.setCell ?_ ?_ _) | omega | (simp; done) | (simp; omega))
  rw [← hT0]
  clear hT0
  by_cases hfit : (T0 : Int) ≤ 1048576
  case neg =>
    rw [szV_no hfit]
    rintro e wN ⟨rfl, hb⟩
    go_wp2_with fail
    go_ret
    have bp := bW0.out
    exact ⟨rfl, by repeat' (first | with_reducible assumption | with_reducible exact Below.refl _ _ | (with_reducible refine Below.setCell ?_ ?_ _) | (with_reducible refine Below.alloc ?_ ?_ _) | (with_reducible refine Below.drew ?_) | (with_reducible refine below_dr ?_ _) | (with_reducible refine Below.trans ?_ (Below.mono (by with_reducible assumption) ?_)) | omega | (simp; done) | (simp; omega))⟩
  case pos =>
    rw [szV_yes hfit]
    have HT_a := Lib.hid (show totHinter (a0, a1l, a2l, a3l, a4l, a5l, a6l, a7l, a8, a9, a10, a11, a12) ≤ 1048576 by rw [← HTT0.out]; omega)
    obtain ⟨V0, hV⟩ : ∃ V : Int, V = 1048576 - T0 := ⟨_, rfl⟩
    have hVV : 0 ≤ V0 ∧ V0 ≤ 1048576 := by omega
    rw [← hV]
    rintro e wS0 ⟨rfl, hbwS0⟩
    clear hV hfit
    obtain ⟨hV0_0, hV1_0⟩ := hVV
    have zwS0 := hbwS0.size
    (try simp only [World.size_setCell] at zwS0)
    (try simp only [World.size_drew] at zwS0)
    (try simp only [World.size_alloc] at zwS0)
    have qwS0 : w.heap.size ≤ wS0.heap.size := by omega
    have bx_awS0 : AtL (w.heap.size) [.int .i64 a0, .slice a1A a1l.length a1c, .slice a2A a2l.length a2c, .slice a3A a3l.length a3c, .slice a4A a4l.length a4c, .slice a5A a5l.length a5c, .slice a6A a6l.length a6c, .slice a7A a7l.length a7c, .bool a8, .int .i64 a9, .int .i64 a10, .int .i64 a11, .int .i64 a12] wS0 := by repeat' (first | with_reducible assumption | with_reducible exact AtL.new _ _ _ | ((with_reducible refine AtL.newAt ?_); (first | rfl | (simp; done))) | (with_reducible refine AtL.drew ?_) | (with_reducible refine AtL.below ?_ (by with_reducible assumption)) | (with_reducible refine AtL.alloc ?_ _) | (with_reducible refine AtL.far ?_ ?_ _ _) | omega | (simp; done) | (simp; omega))
    have row_a1wS0 : Row RvPt 2 wS0 (w.heap.size) a1A a1l := by repeat' (first | with_reducible assumption | (with_reducible refine Row.drew ?_) | (with_reducible refine Row.carry ?_ (by with_reducible assumption) ?_) | (with_reducible refine Row.alloc ?_ ?_ _) | (with_reducible refine Row.setCell ?_ ?_ _) | omega | (simp; done) | (simp; omega))
    have row_a2wS0 : Row RvPt 2 wS0 (w.heap.size) a2A a2l := by repeat' (first | with_reducible assumption | (with_reducible refine Row.drew ?_) | (with_reducible refine Row.carry ?_ (by with_reducible assumption) ?_) | (with_reducible refine Row.alloc ?_ ?_ _) | (with_reducible refine Row.setCell ?_ ?_ _) | omega | (simp; done) | (simp; omega))
    have row_a3wS0 : Row RvBool 1 wS0 (w.heap.size) a3A a3l := by repeat' (first | with_reducible assumption | (with_reducible refine Row.drew ?_) | (with_reducible refine Row.carry ?_ (by with_reducible assumption) ?_) | (with_reducible refine Row.alloc ?_ ?_ _) | (with_reducible refine Row.setCell ?_ ?_ _) | omega | (simp; done) | (simp; omega))
    have row_a4wS0 : Row RvBool 1 wS0 (w.heap.size) a4A a4l := by repeat' (first | with_reducible assumption | (with_reducible refine Row.drew ?_) | (with_reducible refine Row.carry ?_ (by with_reducible assumption) ?_) | (with_reducible refine Row.alloc ?_ ?_ _) | (with_reducible refine Row.setCell ?_ ?_ _) | omega | (simp; done) | (simp; omega))
    have row_a5wS0 : Row RvInt64 1 wS0 (w.heap.size) a5A a5l := by repeat' (first | with_reducible assumption | (with_reducible refine Row.drew ?_) | (with_reducible refine Row.carry ?_ (by with_reducible assumption) ?_) | (with_reducible refine Row.alloc ?_ ?_ _) | (with_reducible refine Row.setCell ?_ ?_ _) | omega | (simp; done) | (simp; omega))
    have row_a6wS0 : Row RvInt64 1 wS0 (w.heap.size) a6A a6l := by repeat' (first | with_reducible assumption | (with_reducible refine Row.drew ?_) | (with_reducible refine Row.carry ?_ (by with_reducible assumption) ?_) | (with_reducible refine Row.alloc ?_ ?_ _) | (with_reducible refine Row.setCell ?_ ?_ _) | omega | (simp; done) | (simp; omega))
    have row_a7wS0 : Row RvInt64 1 wS0 (w.heap.size) a7A a7l := by repeat' (first | with_reducible assumption | (with_reducible refine Row.drew ?_) | (with_reducible refine Row.carry ?_ (by with_reducible assumption) ?_) | (with_reducible refine Row.alloc ?_ ?_ _) | (with_reducible refine Row.setCell ?_ ?_ _) | omega | (simp; done) | (simp; omega))
    have bp := bW0.out
    have bn : Below w.heap.size w wS0 := by repeat' (first | with_reducible assumption | with_reducible exact Below.refl _ _ | (with_reducible refine Below.setCell ?_ ?_ _) | (with_reducible refine Below.alloc ?_ ?_ _) | (with_reducible refine Below.drew ?_) | (with_reducible refine below_dr ?_ _) | (with_reducible refine Below.trans ?_ (Below.mono (by with_reducible assumption) ?_)) | omega | (simp; done) | (simp; omega))
    have bwS0 := Lib.hid bn
    clear bn
    clear bp bW0
    clear hbwS0
    clear bx_aW0
    clear row_a1W0
    clear row_a2W0
    clear row_a3W0
    clear row_a4W0
    clear row_a5W0
    clear row_a6W0
    clear row_a7W0
    have kbx_a0 := bx_awS0.cell 0 rfl
    have kbx_a1 := bx_awS0.cell 1 rfl
    have kbx_a2 := bx_awS0.cell 2 rfl
    have kbx_a3 := bx_awS0.cell 3 rfl
    have kbx_a4 := bx_awS0.cell 4 rfl
    have kbx_a5 := bx_awS0.cell 5 rfl
    have kbx_a6 := bx_awS0.cell 6 rfl
    have kbx_a7 := bx_awS0.cell 7 rfl
    have kbx_a8 := bx_awS0.cell 8 rfl
    have kbx_a9 := bx_awS0.cell 9 rfl
    have kbx_a10 := bx_awS0.cell 10 rfl
    have kbx_a11 := bx_awS0.cell 11 rfl
    have kbx_a12 := bx_awS0.cell 12 rfl
    have lbx_a := bx_awS0.lt
    go_wp2_with fail
    refine (xtoHinter_any a0 a1A a1c a1l a2A a2c a2l a3A a3c a3l a4A a4c a4l a5A a5c a5l a6A a6c a6l a7A a7c a7l a8 a9 a10 a11 a12 _ (HT_a.out) ?_ ?_ ?_ ?_ ?_ ?_ ?_).mono ?_
    · (refine Row.more (B := w.heap.size) ?_ (by first | omega | ((try simp only [World.size_setCell]); (try simp only [World.size_drew]); (try simp only [World.size_alloc]); omega))); repeat' (first | with_reducible assumption | (with_reducible refine Row.drew ?_) | (with_reducible refine Row.carry ?_ (by with_reducible assumption) ?_) | (with_reducible refine Row.alloc ?_ ?_ _) | (with_reducible refine Row.setCell ?_ ?_ _) | omega | (simp; done) | (simp; omega))
    · (refine Row.more (B := w.heap.size) ?_ (by first | omega | ((try simp only [World.size_setCell]); (try simp only [World.size_drew]); (try simp only [World.size_alloc]); omega))); repeat' (first | with_reducible assumption | (with_reducible refine Row.drew ?_) | (with_reducible refine Row.carry ?_ (by with_reducible assumption) ?_) | (with_reducible refine Row.alloc ?_ ?_ _) | (with_reducible refine Row.setCell ?_ ?_ _) | omega | (simp; done) | (simp; omega))
    · (refine Row.more (B := w.heap.size) ?_ (by first | omega | ((try simp only [World.size_setCell]); (try simp only [World.size_drew]); (try simp only [World.size_alloc]); omega))); repeat' (first | with_reducible assumption | (with_reducible refine Row.drew ?_) | (with_reducible refine Row.carry ?_ (by with_reducible assumption) ?_) | (with_reducible refine Row.alloc ?_ ?_ _) | (with_reducible refine Row.setCell ?_ ?_ _) | omega | (simp; done) | (simp; omega))
    · (refine Row.more (B := w.heap.size) ?_ (by first | omega | ((try simp only [World.size_setCell]); (try simp only [World.size_drew]); (try simp only [World.size_alloc]); omega))); repeat' (first | with_reducible assumption | (with_reducible refine Row.drew ?_) | (with_reducible refine Row.carry ?_ (by with_reducible assumption) ?_) | (with_reducible refine Row.alloc ?_ ?_ _) | (with_reducible refine Row.setCell ?_ ?_ _) | omega | (simp; done) | (simp; omega))
    · (refine Row.more (B := w.heap.size) ?_ (by first | omega | ((try simp only [World.size_setCell]); (try simp only [World.size_drew]); (try simp only [World.size_alloc]); omega))); repeat' (first | with_reducible assumption | (with_reducible refine Row.drew ?_) | (with_reducible refine Row.carry ?_ (by with_reducible assumption) ?_) | (with_reducible refine Row.alloc ?_ ?_ _) | (with_reducible refine Row.setCell ?_ ?_ _) | omega | (simp; done) | (simp; omega))
    · (refine Row.more (B := w.heap.size) ?_ (by first | omega | ((try simp only [World.size_setCell]); (try simp only [World.size_drew]); (try simp only [World.size_alloc]); omega))); repeat' (first | with_reducible assumption | (with_reducible refine Row.drew ?_) | (with_reducible refine Row.carry ?_ (by with_reducible assumption) ?_) | (with_reducible refine Row.alloc ?_ ?_ _) | (with_reducible refine Row.setCell ?_ ?_ _) | omega | (simp; done) | (simp; omega))
    · (refine Row.more (B := w.heap.size) ?_ (by first | omega | ((try simp only [World.size_setCell]); (try simp only [World.size_drew]); (try simp only [World.size_alloc]); omega))); repeat' (first | with_reducible assumption | (with_reducible refine Row.drew ?_) | (with_reducible refine Row.carry ?_ (by with_reducible assumption) ?_) | (with_reducible refine Row.alloc ?_ ?_ _) | (with_reducible refine Row.setCell ?_ ?_ _) | omega | (simp; done) | (simp; omega))
    intro e wA0 hq
    obtain ⟨owA0_a1A, owA0_a1c, owA0_a2A, owA0_a2c, owA0_a3A, owA0_a3c, owA0_a4A, owA0_a4c, owA0_a5A, owA0_a5c, owA0_a6A, owA0_a6c, owA0_a7A, owA0_a7c, rfl, owA0_a1, owA0_a2, owA0_a3, owA0_a4, owA0_a5, owA0_a6, owA0_a7, hbwA0⟩ := hq
    clear kbx_a0 kbx_a1 kbx_a2 kbx_a3 kbx_a4 kbx_a5 kbx_a6 kbx_a7 kbx_a8 kbx_a9 kbx_a10 kbx_a11 kbx_a12 lbx_a
    have zwA0 := hbwA0.size
    (try simp only [World.size_setCell] at zwA0)
    (try simp only [World.size_drew] at zwA0)
    (try simp only [World.size_alloc] at zwA0)
    have qwA0 : w.heap.size ≤ wA0.heap.size := by omega
    have bx_awA0 : AtL (w.heap.size) [.int .i64 a0, .slice a1A a1l.length a1c, .slice a2A a2l.length a2c, .slice a3A a3l.length a3c, .slice a4A a4l.length a4c, .slice a5A a5l.length a5c, .slice a6A a6l.length a6c, .slice a7A a7l.length a7c, .bool a8, .int .i64 a9, .int .i64 a10, .int .i64 a11, .int .i64 a12] wA0 := by repeat' (first | with_reducible assumption | with_reducible exact AtL.new _ _ _ | ((with_reducible refine AtL.newAt ?_); (first | rfl | (simp; done))) | (with_reducible refine AtL.drew ?_) | (with_reducible refine AtL.below ?_ (by with_reducible assumption)) | (with_reducible refine AtL.alloc ?_ _) | (with_reducible refine AtL.far ?_ ?_ _ _) | omega | (simp; done) | (simp; omega))
    have row_a1wA0 : Row RvPt 2 wA0 (w.heap.size) a1A a1l := by repeat' (first | with_reducible assumption | (with_reducible refine Row.drew ?_) | (with_reducible refine Row.carry ?_ (by with_reducible assumption) ?_) | (with_reducible refine Row.alloc ?_ ?_ _) | (with_reducible refine Row.setCell ?_ ?_ _) | omega | (simp; done) | (simp; omega))
    have row_a2wA0 : Row RvPt 2 wA0 (w.heap.size) a2A a2l := by repeat' (first | with_reducible assumption | (with_reducible refine Row.drew ?_) | (with_reducible refine Row.carry ?_ (by with_reducible assumption) ?_) | (with_reducible refine Row.alloc ?_ ?_ _) | (with_reducible refine Row.setCell ?_ ?_ _) | omega | (simp; done) | (simp; omega))
    have row_a3wA0 : Row RvBool 1 wA0 (w.heap.size) a3A a3l := by repeat' (first | with_reducible assumption | (with_reducible refine Row.drew ?_) | (with_reducible refine Row.carry ?_ (by with_reducible assumption) ?_) | (with_reducible refine Row.alloc ?_ ?_ _) | (with_reducible refine Row.setCell ?_ ?_ _) | omega | (simp; done) | (simp; omega))
    have row_a4wA0 : Row RvBool 1 wA0 (w.heap.size) a4A a4l := by repeat' (first | with_reducible assumption | (with_reducible refine Row.drew ?_) | (with_reducible refine Row.carry ?_ (by with_reducible assumption) ?_) | (with_reducible refine Row.alloc ?_ ?_ _) | (with_reducible refine Row.setCell ?_ ?_ _) | omega | (simp; done) | (simp; omega))
    have row_a5wA0 : Row RvInt64 1 wA0 (w.heap.size) a5A a5l := by repeat' (first | with_reducible assumption | (with_reducible refine Row.drew ?_) | (with_reducible refine Row.carry ?_ (by with_reducible assumption) ?_) | (with_reducible refine Row.alloc ?_ ?_ _) | (with_reducible refine Row.setCell ?_ ?_ _) | omega | (simp; done) | (simp; omega))
    have row_a6wA0 : Row RvInt64 1 wA0 (w.heap.size) a6A a6l := by repeat' (first | with_reducible assumption | (with_reducible refine Row.drew ?_) | (with_reducible refine Row.carry ?_ (by with_reducible assumption) ?_) | (with_reducible refine Row.alloc ?_ ?_ _) | (with_reducible refine Row.setCell ?_ ?_ _) | omega | (simp; done) | (simp; omega))
    have row_a7wA0 : Row RvInt64 1 wA0 (w.heap.size) a7A a7l := by repeat' (first | with_reducible assumption | (with_reducible refine Row.drew ?_) | (with_reducible refine Row.carry ?_ (by with_reducible assumption) ?_) | (with_reducible refine Row.alloc ?_ ?_ _) | (with_reducible refine Row.setCell ?_ ?_ _) | omega | (simp; done) | (simp; omega))
    have bp := bwS0.out
    have bn : Below w.heap.size w wA0 := by repeat' (first | with_reducible assumption | with_reducible exact Below.refl _ _ | (with_reducible refine Below.setCell ?_ ?_ _) | (with_reducible refine Below.alloc ?_ ?_ _) | (with_reducible refine Below.drew ?_) | (with_reducible refine below_dr ?_ _) | (with_reducible refine Below.trans ?_ (Below.mono (by with_reducible assumption) ?_)) | omega | (simp; done) | (simp; omega))
    have bwA0 := Lib.hid bn
    clear bn
    clear bp bwS0
    clear hbwA0
    clear bx_awS0
    clear row_a1wS0
    clear row_a2wS0
    clear row_a3wS0
    clear row_a4wS0
    clear row_a5wS0
    clear row_a6wS0
    clear row_a7wS0
    go_wp2_with fail
    refine (C1.out HT_a.out owA0_a1A owA0_a1c owA0_a2A owA0_a2c owA0_a3A owA0_a3c owA0_a4A owA0_a4c owA0_a5A owA0_a5c owA0_a6A owA0_a6c owA0_a7A owA0_a7c _ ?_ ?_ ?_ ?_ ?_ ?_ ?_).mono ?_
    · exact Row.more (B := wA0.heap.size) owA0_a1.here (by first | exact Nat.le_refl _ | omega)
    · exact Row.more (B := wA0.heap.size) owA0_a2.here (by first | exact Nat.le_refl _ | omega)
    · exact Row.more (B := wA0.heap.size) owA0_a3.here (by first | exact Nat.le_refl _ | omega)
    · exact Row.more (B := wA0.heap.size) owA0_a4.here (by first | exact Nat.le_refl _ | omega)
    · exact Row.more (B := wA0.heap.size) owA0_a5.here (by first | exact Nat.le_refl _ | omega)
    · exact Row.more (B := wA0.heap.size) owA0_a6.here (by first | exact Nat.le_refl _ | omega)
    · exact Row.more (B := wA0.heap.size) owA0_a7.here (by first | exact Nat.le_refl _ | omega)
    rintro e wB ⟨rfl, hbwB⟩
    clear owA0_a1
    clear owA0_a2
    clear owA0_a3
    clear owA0_a4
    clear owA0_a5
    clear owA0_a6
    clear owA0_a7
    have zwB := hbwB.size
    (try simp only [World.size_setCell] at zwB)
    (try simp only [World.size_drew] at zwB)
    (try simp only [World.size_alloc] at zwB)
    have qwB : w.heap.size ≤ wB.heap.size := by omega
    have bx_awB : AtL (w.heap.size) [.int .i64 a0, .slice a1A a1l.length a1c, .slice a2A a2l.length a2c, .slice a3A a3l.length a3c, .slice a4A a4l.length a4c, .slice a5A a5l.length a5c, .slice a6A a6l.length a6c, .slice a7A a7l.length a7c, .bool a8, .int .i64 a9, .int .i64 a10, .int .i64 a11, .int .i64 a12] wB := by repeat' (first | with_reducible assumption | with_reducible exact AtL.new _ _ _ | ((with_reducible refine AtL.newAt ?_); (first | rfl | (simp; done))) | (with_reducible refine AtL.drew ?_) | (with_reducible refine AtL.below ?_ (by with_reducible assumption)) | (with_reducible refine AtL.alloc ?_ _) | (with_reducible refine AtL.far ?_ ?_ _ _) | omega | (simp; done) | (simp; omega))
    have row_a1wB : Row RvPt 2 wB (w.heap.size) a1A a1l := by repeat' (first | with_reducible assumption | (with_reducible refine Row.drew ?_) | (with_reducible refine Row.carry ?_ (by with_reducible assumption) ?_) | (with_reducible refine Row.alloc ?_ ?_ _) | (with_reducible refine Row.setCell ?_ ?_ _) | omega | (simp; done) | (simp; omega))
    have row_a2wB : Row RvPt 2 wB (w.heap.size) a2A a2l := by repeat' (first | with_reducible assumption | (with_reducible refine Row.drew ?_) | (with_reducible refine Row.carry ?_ (by with_reducible assumption) ?_) | (with_reducible refine Row.alloc ?_ ?_ _) | (with_reducible refine Row.setCell ?_ ?_ _) | omega | (simp; done) | (simp; omega))
    have row_a3wB : Row RvBool 1 wB (w.heap.size) a3A a3l := by repeat' (first | with_reducible assumption | (with_reducible refine Row.drew ?_) | (with_reducible refine Row.carry ?_ (by with_reducible assumption) ?_) | (with_reducible refine Row.alloc ?_ ?_ _) | (with_reducible refine Row.setCell ?_ ?_ _) | omega | (simp; done) | (simp; omega))
    have row_a4wB : Row RvBool 1 wB (w.heap.size) a4A a4l := by repeat' (first | with_reducible assumption | (with_reducible refine Row.drew ?_) | (with_reducible refine Row.carry ?_ (by with_reducible assumption) ?_) | (with_reducible refine Row.alloc ?_ ?_ _) | (with_reducible refine Row.setCell ?_ ?_ _) | omega | (simp; done) | (simp; omega))
    have row_a5wB : Row RvInt64 1 wB (w.heap.size) a5A a5l := by repeat' (first | with_reducible assumption | (with_reducible refine Row.drew ?_) | (with_reducible refine Row.carry ?_ (by with_reducible assumption) ?_) | (with_reducible refine Row.alloc ?_ ?_ _) | (with_reducible refine Row.setCell ?_ ?_ _) | omega | (simp; done) | (simp; omega))
    have row_a6wB : Row RvInt64 1 wB (w.heap.size) a6A a6l := by repeat' (first | with_reducible assumption | (with_reducible refine Row.drew ?_) | (with_reducible refine Row.carry ?_ (by with_reducible assumption) ?_) | (with_reducible refine Row.alloc ?_ ?_ _) | (with_reducible refine Row.setCell ?_ ?_ _) | omega | (simp; done) | (simp; omega))
    have row_a7wB : Row RvInt64 1 wB (w.heap.size) a7A a7l := by repeat' (first | with_reducible assumption | (with_reducible refine Row.drew ?_) | (with_reducible refine Row.carry ?_ (by with_reducible assumption) ?_) | (with_reducible refine Row.alloc ?_ ?_ _) | (with_reducible refine Row.setCell ?_ ?_ _) | omega | (simp; done) | (simp; omega))
    have bp := bwA0.out
    have bn : Below w.heap.size w wB := by repeat' (first | with_reducible assumption | with_reducible exact Below.refl _ _ | (with_reducible refine Below.setCell ?_ ?_ _) | (with_reducible refine Below.alloc ?_ ?_ _) | (with_reducible refine Below.drew ?_) | (with_reducible refine below_dr ?_ _) | (with_reducible refine Below.trans ?_ (Below.mono (by with_reducible assumption) ?_)) | omega | (simp; done) | (simp; omega))
    have bwB := Lib.hid bn
    clear bn
    clear bp bwA0
    clear hbwB
    clear bx_awA0
    clear row_a1wA0
    clear row_a2wA0
    clear row_a3wA0
    clear row_a4wA0
    clear row_a5wA0
    clear row_a6wA0
    clear row_a7wA0
    have kbx_a0 := bx_awB.cell 0 rfl
    have kbx_a1 := bx_awB.cell 1 rfl
    have kbx_a2 := bx_awB.cell 2 rfl
    have kbx_a3 := bx_awB.cell 3 rfl
    have kbx_a4 := bx_awB.cell 4 rfl
    have kbx_a5 := bx_awB.cell 5 rfl
    have kbx_a6 := bx_awB.cell 6 rfl
    have kbx_a7 := bx_awB.cell 7 rfl
    have kbx_a8 := bx_awB.cell 8 rfl
    have kbx_a9 := bx_awB.cell 9 rfl
    have kbx_a10 := bx_awB.cell 10 rfl
    have kbx_a11 := bx_awB.cell 11 rfl
    have kbx_a12 := bx_awB.cell 12 rfl
    have lbx_a := bx_awB.lt
    go_wp2_with fail
    clear kbx_a0 kbx_a1 kbx_a2 kbx_a3 kbx_a4 kbx_a5 kbx_a6 kbx_a7 kbx_a8 kbx_a9 kbx_a10 kbx_a11 kbx_a12 lbx_a
    refine (xtoHinter_any a0 a1A a1c a1l a2A a2c a2l a3A a3c a3l a4A a4c a4l a5A a5c a5l a6A a6c a6l a7A a7c a7l a8 a9 a10 a11 a12 _ (HT_a.out) ?_ ?_ ?_ ?_ ?_ ?_ ?_).mono ?_
    · (refine Row.more (B := w.heap.size) ?_ (by first | omega | ((try simp only [World.size_setCell]); (try simp only [World.size_drew]); (try simp only [World.size_alloc]); omega))); repeat' (first | with_reducible assumption | (with_reducible refine Row.drew ?_) | (with_reducible refine Row.carry ?_ (by with_reducible assumption) ?_) | (with_reducible refine Row.alloc ?_ ?_ _) | (with_reducible refine Row.setCell ?_ ?_ _) | omega | (simp; done) | (simp; omega))
    · (refine Row.more (B := w.heap.size) ?_ (by first | omega | ((try simp only [World.size_setCell]); (try simp only [World.size_drew]); (try simp only [World.size_alloc]); omega))); repeat' (first | with_reducible assumption | (with_reducible refine Row.drew ?_) | (with_reducible refine Row.carry ?_ (by with_reducible assumption) ?_) | (with_reducible refine Row.alloc ?_ ?_ _) | (with_reducible refine Row.setCell ?_ ?_ _) | omega | (simp; done) | (simp; omega))
    · (refine Row.more (B := w.heap.size) ?_ (by first | omega | ((try simp only [World.size_setCell]); (try simp only [World.size_drew]); (try simp only [World.size_alloc]); omega))); repeat' (first | with_reducible assumption | (with_reducible refine Row.drew ?_) | (with_reducible refine Row.carry ?_ (by with_reducible assumption) ?_) | (with_reducible refine Row.alloc ?_ ?_ _) | (with_reducible refine Row.setCell ?_ ?_ _) | omega | (simp; done) | (simp; omega))
    · (refine Row.more (B := w.heap.size) ?_ (by first | omega | ((try simp only [World.size_setCell]); (try simp only [World.size_drew]); (try simp only [World.size_alloc]); omega))); repeat' (first | with_reducible assumption | (with_reducible refine Row.drew ?_) | (with_reducible refine Row.carry ?_ (by with_reducible assumption) ?_) | (with_reducible refine Row.alloc ?_ ?_ _) | (with_reducible refine Row.setCell ?_ ?_ _) | omega | (simp; done) | (simp; omega))
    · (refine Row.more (B := w.heap.size) ?_ (by first | omega | ((try simp only [World.size_setCell]); (try simp only [World.size_drew]); (try simp only [World.size_alloc]); omega))); repeat' (first | with_reducible assumption | (with_reducible refine Row.drew ?_) | (with_reducible refine Row.carry ?_ (by with_reducible assumption) ?_) | (with_reducible refine Row.alloc ?_ ?_ _) | (with_reducible refine Row.setCell ?_ ?_ _) | omega | (simp; done) | (simp; omega))
    · (refine Row.more (B := w.heap.size) ?_ (by first | omega | ((try simp only [World.size_setCell]); (try simp only [World.size_drew]); (try simp only [World.size_alloc]); omega))); repeat' (first | with_reducible assumption | (with_reducible refine Row.drew ?_) | (with_reducible refine Row.carry ?_ (by with_reducible assumption) ?_) | (with_reducible refine Row.alloc ?_ ?_ _) | (with_reducible refine Row.setCell ?_ ?_ _) | omega | (simp; done) | (simp; omega))
    · (refine Row.more (B := w.heap.size) ?_ (by first | omega | ((try simp only [World.size_setCell]); (try simp only [World.size_drew]); (try simp only [World.size_alloc]); omega))); repeat' (first | with_reducible assumption | (with_reducible refine Row.drew ?_) | (with_reducible refine Row.carry ?_ (by with_reducible assumption) ?_) | (with_reducible refine Row.alloc ?_ ?_ _) | (with_reducible refine Row.setCell ?_ ?_ _) | omega | (simp; done) | (simp; omega))
    intro e wX0 hq
    obtain ⟨gX0_a1A, gX0_a1c, gX0_a2A, gX0_a2c, gX0_a3A, gX0_a3c, gX0_a4A, gX0_a4c, gX0_a5A, gX0_a5c, gX0_a6A, gX0_a6c, gX0_a7A, gX0_a7c, rfl, owX_a1, owX_a2, owX_a3, owX_a4, owX_a5, owX_a6, owX_a7, hbwX0⟩ := hq
    have zwX0 := hbwX0.size
    (try simp only [World.size_setCell] at zwX0)
    (try simp only [World.size_drew] at zwX0)
    (try simp only [World.size_alloc] at zwX0)
    have qwX0 : w.heap.size ≤ wX0.heap.size := by omega
    have bx_awX0 : AtL (w.heap.size) [.int .i64 a0, .slice a1A a1l.length a1c, .slice a2A a2l.length a2c, .slice a3A a3l.length a3c, .slice a4A a4l.length a4c, .slice a5A a5l.length a5c, .slice a6A a6l.length a6c, .slice a7A a7l.length a7c, .bool a8, .int .i64 a9, .int .i64 a10, .int .i64 a11, .int .i64 a12] wX0 := by repeat' (first | with_reducible assumption | with_reducible exact AtL.new _ _ _ | ((with_reducible refine AtL.newAt ?_); (first | rfl | (simp; done))) | (with_reducible refine AtL.drew ?_) | (with_reducible refine AtL.below ?_ (by with_reducible assumption)) | (with_reducible refine AtL.alloc ?_ _) | (with_reducible refine AtL.far ?_ ?_ _ _) | omega | (simp; done) | (simp; omega))
    have row_a1wX0 : Row RvPt 2 wX0 (w.heap.size) a1A a1l := by repeat' (first | with_reducible assumption | (with_reducible refine Row.drew ?_) | (with_reducible refine Row.carry ?_ (by with_reducible assumption) ?_) | (with_reducible refine Row.alloc ?_ ?_ _) | (with_reducible refine Row.setCell ?_ ?_ _) | omega | (simp; done) | (simp; omega))
    have row_a2wX0 : Row RvPt 2 wX0 (w.heap.size) a2A a2l := by repeat' (first | with_reducible assumption | (with_reducible refine Row.drew ?_) | (with_reducible refine Row.carry ?_ (by with_reducible assumption) ?_) | (with_reducible refine Row.alloc ?_ ?_ _) | (with_reducible refine Row.setCell ?_ ?_ _) | omega | (simp; done) | (simp; omega))
    have row_a3wX0 : Row RvBool 1 wX0 (w.heap.size) a3A a3l := by repeat' (first | with_reducible assumption | (with_reducible refine Row.drew ?_) | (with_reducible refine Row.carry ?_ (by with_reducible assumption) ?_) | (with_reducible refine Row.alloc ?_ ?_ _) | (with_reducible refine Row.setCell ?_ ?_ _) | omega | (simp; done) | (simp; omega))
    have row_a4wX0 : Row RvBool 1 wX0 (w.heap.size) a4A a4l := by repeat' (first | with_reducible assumption | (with_reducible refine Row.drew ?_) | (with_reducible refine Row.carry ?_ (by with_reducible assumption) ?_) | (with_reducible refine Row.alloc ?_ ?_ _) | (with_reducible refine Row.setCell ?_ ?_ _) | omega | (simp; done) | (simp; omega))
    have row_a5wX0 : Row RvInt64 1 wX0 (w.heap.size) a5A a5l := by repeat' (first | with_reducible assumption | (with_reducible refine Row.drew ?_) | (with_reducible refine Row.carry ?_ (by with_reducible assumption) ?_) | (with_reducible refine Row.alloc ?_ ?_ _) | (with_reducible refine Row.setCell ?_ ?_ _) | omega | (simp; done) | (simp; omega))
    have row_a6wX0 : Row RvInt64 1 wX0 (w.heap.size) a6A a6l := by repeat' (first | with_reducible assumption | (with_reducible refine Row.drew ?_) | (with_reducible refine Row.carry ?_ (by with_reducible assumption) ?_) | (with_reducible refine Row.alloc ?_ ?_ _) | (with_reducible refine Row.setCell ?_ ?_ _) | omega | (simp; done) | (simp; omega))
    have row_a7wX0 : Row RvInt64 1 wX0 (w.heap.size) a7A a7l := by repeat' (first | with_reducible assumption | (with_reducible refine Row.drew ?_) | (with_reducible refine Row.carry ?_ (by with_reducible assumption) ?_) | (with_reducible refine Row.alloc ?_ ?_ _) | (with_reducible refine Row.setCell ?_ ?_ _) | omega | (simp; done) | (simp; omega))
    have bp := bwB.out
    have bn : Below w.heap.size w wX0 := by repeat' (first | with_reducible assumption | with_reducible exact Below.refl _ _ | (with_reducible refine Below.setCell ?_ ?_ _) | (with_reducible refine Below.alloc ?_ ?_ _) | (with_reducible refine Below.drew ?_) | (with_reducible refine below_dr ?_ _) | (with_reducible refine Below.trans ?_ (Below.mono (by with_reducible assumption) ?_)) | omega | (simp; done) | (simp; omega))
    have bwX0 := Lib.hid bn
    clear bn
    clear bp bwB
    clear hbwX0
    clear bx_awB
    clear row_a1wB
    clear row_a2wB
    clear row_a3wB
    clear row_a4wB
    clear row_a5wB
    clear row_a6wB
    clear row_a7wB
    have rx_a1wX0 : Row RvPt 2 wX0 (wX0.heap.size) gX0_a1A a1l := owX_a1.here
    clear owX_a1
    have rx_a2wX0 : Row RvPt 2 wX0 (wX0.heap.size) gX0_a2A a2l := owX_a2.here
    clear owX_a2
    have rx_a3wX0 : Row RvBool 1 wX0 (wX0.heap.size) gX0_a3A a3l := owX_a3.here
    clear owX_a3
    have rx_a4wX0 : Row RvBool 1 wX0 (wX0.heap.size) gX0_a4A a4l := owX_a4.here
    clear owX_a4
    have rx_a5wX0 : Row RvInt64 1 wX0 (wX0.heap.size) gX0_a5A a5l := owX_a5.here
    clear owX_a5
    have rx_a6wX0 : Row RvInt64 1 wX0 (wX0.heap.size) gX0_a6A a6l := owX_a6.here
    clear owX_a6
    have rx_a7wX0 : Row RvInt64 1 wX0 (wX0.heap.size) gX0_a7A a7l := owX_a7.here
    clear owX_a7
    go_wp2_with fail
    generalize hWB : wX0.alloc (.cells #[.int .i64 a0, .slice gX0_a1A a1l.length gX0_a1c, .slice gX0_a2A a2l.length gX0_a2c, .slice gX0_a3A a3l.length gX0_a3c, .slice gX0_a4A a4l.length gX0_a4c, .slice gX0_a5A a5l.length gX0_a5c, .slice gX0_a6A a6l.length gX0_a6c, .slice gX0_a7A a7l.length gX0_a7c, .bool a8, .int .i64 a9, .int .i64 a10, .int .i64 a11, .int .i64 a12] 67) = WB0
    have hbWB0 : Below wX0.heap.size wX0 WB0 := by rw [← hWB]; repeat' (first | with_reducible assumption | with_reducible exact Below.refl _ _ | (with_reducible refine Below.setCell ?_ ?_ _) | (with_reducible refine Below.alloc ?_ ?_ _) | (with_reducible refine Below.drew ?_) | (with_reducible refine below_dr ?_ _) | (with_reducible refine Below.trans ?_ (Below.mono (by with_reducible assumption) ?_)) | omega | (simp; done) | (simp; omega))
    have at_aWB0 : AtL (wX0.heap.size) [.int .i64 a0, .slice gX0_a1A a1l.length gX0_a1c, .slice gX0_a2A a2l.length gX0_a2c, .slice gX0_a3A a3l.length gX0_a3c, .slice gX0_a4A a4l.length gX0_a4c, .slice gX0_a5A a5l.length gX0_a5c, .slice gX0_a6A a6l.length gX0_a6c, .slice gX0_a7A a7l.length gX0_a7c, .bool a8, .int .i64 a9, .int .i64 a10, .int .i64 a11, .int .i64 a12] WB0 := by rw [← hWB]; exact AtL.new _ _ _
    clear hWB
    have zWB0 := hbWB0.size
    (try simp only [World.size_setCell] at zWB0)
    (try simp only [World.size_drew] at zWB0)
    (try simp only [World.size_alloc] at zWB0)
    have qWB0 : w.heap.size ≤ WB0.heap.size := by omega
    have bx_aWB0 : AtL (w.heap.size) [.int .i64 a0, .slice a1A a1l.length a1c, .slice a2A a2l.length a2c, .slice a3A a3l.length a3c, .slice a4A a4l.length a4c, .slice a5A a5l.length a5c, .slice a6A a6l.length a6c, .slice a7A a7l.length a7c, .bool a8, .int .i64 a9, .int .i64 a10, .int .i64 a11, .int .i64 a12] WB0 := by repeat' (first | with_reducible assumption | with_reducible exact AtL.new _ _ _ | ((with_reducible refine AtL.newAt ?_); (first | rfl | (simp; done))) | (with_reducible refine AtL.drew ?_) | (with_reducible refine AtL.below ?_ (by with_reducible assumption)) | (with_reducible refine AtL.alloc ?_ _) | (with_reducible refine AtL.far ?_ ?_ _ _) | omega | (simp; done) | (simp; omega))
    have row_a1WB0 : Row RvPt 2 WB0 (w.heap.size) a1A a1l := by repeat' (first | with_reducible assumption | (with_reducible refine Row.drew ?_) | (with_reducible refine Row.carry ?_ (by with_reducible assumption) ?_) | (with_reducible refine Row.alloc ?_ ?_ _) | (with_reducible refine Row.setCell ?_ ?_ _) | omega | (simp; done) | (simp; omega))
    have row_a2WB0 : Row RvPt 2 WB0 (w.heap.size) a2A a2l := by repeat' (first | with_reducible assumption | (with_reducible refine Row.drew ?_) | (with_reducible refine Row.carry ?_ (by with_reducible assumption) ?_) | (with_reducible refine Row.alloc ?_ ?_ _) | (with_reducible refine Row.setCell ?_ ?_ _) | omega | (simp; done) | (simp; omega))
    have row_a3WB0 : Row RvBool 1 WB0 (w.heap.size) a3A a3l := by repeat' (first | with_reducible assumption | (with_reducible refine Row.drew ?_) | (with_reducible refine Row.carry ?_ (by with_reducible assumption) ?_) | (with_reducible refine Row.alloc ?_ ?_ _) | (with_reducible refine Row.setCell ?_ ?_ _) | omega | (simp; done) | (simp; omega))
    have row_a4WB0 : Row RvBool 1 WB0 (w.heap.size) a4A a4l := by repeat' (first | with_reducible assumption | (with_reducible refine Row.drew ?_) | (with_reducible refine Row.carry ?_ (by with_reducible assumption) ?_) | (with_reducible refine Row.alloc ?_ ?_ _) | (with_reducible refine Row.setCell ?_ ?_ _) | omega | (simp; done) | (simp; omega))
    have row_a5WB0 : Row RvInt64 1 WB0 (w.heap.size) a5A a5l := by repeat' (first | with_reducible assumption | (with_reducible refine Row.drew ?_) | (with_reducible refine Row.carry ?_ (by with_reducible assumption) ?_) | (with_reducible refine Row.alloc ?_ ?_ _) | (with_reducible refine Row.setCell ?_ ?_ _) | omega | (simp; done) | (simp; omega))
    have row_a6WB0 : Row RvInt64 1 WB0 (w.heap.size) a6A a6l := by repeat' (first | with_reducible assumption | (with_reducible refine Row.drew ?_) | (with_reducible refine Row.carry ?_ (by with_reducible assumption) ?_) | (with_reducible refine Row.alloc ?_ ?_ _) | (with_reducible refine Row.setCell ?_ ?_ _) | omega | (simp; done) | (simp; omega))
    have row_a7WB0 : Row RvInt64 1 WB0 (w.heap.size) a7A a7l := by repeat' (first | with_reducible assumption | (with_reducible refine Row.drew ?_) | (with_reducible refine Row.carry ?_ (by with_reducible assumption) ?_) | (with_reducible refine Row.alloc ?_ ?_ _) | (with_reducible refine Row.setCell ?_ ?_ _) | omega | (simp; done) | (simp; omega))
    have rx_a1WB0 : Row RvPt 2 WB0 (wX0.heap.size) gX0_a1A a1l := by repeat' (first | with_reducible assumption | (with_reducible refine Row.drew ?_) | (with_reducible refine Row.carry ?_ (by with_reducible assumption) ?_) | (with_reducible refine Row.alloc ?_ ?_ _) | (with_reducible refine Row.setCell ?_ ?_ _) | omega | (simp; done) | (simp; omega))
    have rx_a2WB0 : Row RvPt 2 WB0 (wX0.heap.size) gX0_a2A a2l := by repeat' (first | with_reducible assumption | (with_reducible refine Row.drew ?_) | (with_reducible refine Row.carry ?_ (by with_reducible assumption) ?_) | (with_reducible refine Row.alloc ?_ ?_ _) | (with_reducible refine Row.setCell ?_ ?_ _) | omega | (simp; done) | (simp; omega))
    have rx_a3WB0 : Row RvBool 1 WB0 (wX0.heap.size) gX0_a3A a3l := by repeat' (first | with_reducible assumption | (with_reducible refine Row.drew ?_) | (with_reducible refine Row.carry ?_ (by with_reducible assumption) ?_) | (with_reducible refine Row.alloc ?_ ?_ _) | (with_reducible refine Row.setCell ?_ ?_ _) | omega | (simp; done) | (simp; omega))
    have rx_a4WB0 : Row RvBool 1 WB0 (wX0.heap.size) gX0_a4A a4l := by repeat' (first | with_reducible assumption | (with_reducible refine Row.drew ?_) | (with_reducible refine Row.carry ?_ (by with_reducible assumption) ?_) | (with_reducible refine Row.alloc ?_ ?_ _) | (with_reducible refine Row.setCell ?_ ?_ _) | omega | (simp; done) | (simp; omega))
    have rx_a5WB0 : Row RvInt64 1 WB0 (wX0.heap.size) gX0_a5A a5l := by repeat' (first | with_reducible assumption | (with_reducible refine Row.drew ?_) | (with_reducible refine Row.carry ?_ (by with_reducible assumption) ?_) | (with_reducible refine Row.alloc ?_ ?_ _) | (with_reducible refine Row.setCell ?_ ?_ _) | omega | (simp; done) | (simp; omega))
    have rx_a6WB0 : Row RvInt64 1 WB0 (wX0.heap.size) gX0_a6A a6l := by repeat' (first | with_reducible assumption | (with_reducible refine Row.drew ?_) | (with_reducible refine Row.carry ?_ (by with_reducible assumption) ?_) | (with_reducible refine Row.alloc ?_ ?_ _) | (with_reducible refine Row.setCell ?_ ?_ _) | omega | (simp; done) | (simp; omega))
    have rx_a7WB0 : Row RvInt64 1 WB0 (wX0.heap.size) gX0_a7A a7l := by repeat' (first | with_reducible assumption | (with_reducible refine Row.drew ?_) | (with_reducible refine Row.carry ?_ (by with_reducible assumption) ?_) | (with_reducible refine Row.alloc ?_ ?_ _) | (with_reducible refine Row.setCell ?_ ?_ _) | omega | (simp; done) | (simp; omega))
    have bp := bwX0.out
    have bn : Below w.heap.size w WB0 := by repeat' (first | with_reducible assumption | with_reducible exact Below.refl _ _ | (with_reducible refine Below.setCell ?_ ?_ _) | (with_reducible refine Below.alloc ?_ ?_ _) | (with_reducible refine Below.drew ?_) | (with_reducible refine below_dr ?_ _) | (with_reducible refine Below.trans ?_ (Below.mono (by with_reducible assumption) ?_)) | omega | (simp; done) | (simp; omega))
    have bWB0 := Lib.hid bn
    clear bn
    clear bp bwX0
    clear hbWB0
    clear bx_awX0
    clear row_a1wX0
    clear row_a2wX0
    clear row_a3wX0
    clear row_a4wX0
    clear row_a5wX0
    clear row_a6wX0
    clear row_a7wX0
    clear rx_a1wX0
    clear rx_a2wX0
    clear rx_a3wX0
    clear rx_a4wX0
    clear rx_a5wX0
    clear rx_a6wX0
    clear rx_a7wX0
    refine (C2.out HT_a.out gX0_a1A gX0_a1c gX0_a2A gX0_a2c gX0_a3A gX0_a3c gX0_a4A gX0_a4c gX0_a5A gX0_a5c gX0_a6A gX0_a6c gX0_a7A gX0_a7c _ ?_ ?_ ?_ ?_ ?_ ?_ ?_).mono ?_
    · (refine Row.more (B := wX0.heap.size) ?_ (by first | omega | ((try simp only [World.size_setCell]); (try simp only [World.size_drew]); (try simp only [World.size_alloc]); omega))); repeat' (first | with_reducible assumption | (with_reducible refine Row.drew ?_) | (with_reducible refine Row.carry ?_ (by with_reducible assumption) ?_) | (with_reducible refine Row.alloc ?_ ?_ _) | (with_reducible refine Row.setCell ?_ ?_ _) | omega | (simp; done) | (simp; omega))
    · (refine Row.more (B := wX0.heap.size) ?_ (by first | omega | ((try simp only [World.size_setCell]); (try simp only [World.size_drew]); (try simp only [World.size_alloc]); omega))); repeat' (first | with_reducible assumption | (with_reducible refine Row.drew ?_) | (with_reducible refine Row.carry ?_ (by with_reducible assumption) ?_) | (with_reducible refine Row.alloc ?_ ?_ _) | (with_reducible refine Row.setCell ?_ ?_ _) | omega | (simp; done) | (simp; omega))
    · (refine Row.more (B := wX0.heap.size) ?_ (by first | omega | ((try simp only [World.size_setCell]); (try simp only [World.size_drew]); (try simp only [World.size_alloc]); omega))); repeat' (first | with_reducible assumption | (with_reducible refine Row.drew ?_) | (with_reducible refine Row.carry ?_ (by with_reducible assumption) ?_) | (with_reducible refine Row.alloc ?_ ?_ _) | (with_reducible refine Row.setCell ?_ ?_ _) | omega | (simp; done) | (simp; omega))
    · (refine Row.more (B := wX0.heap.size) ?_ (by first | omega | ((try simp only [World.size_setCell]); (try simp only [World.size_drew]); (try simp only [World.size_alloc]); omega))); repeat' (first | with_reducible assumption | (with_reducible refine Row.drew ?_) | (with_reducible refine Row.carry ?_ (by with_reducible assumption) ?_) | (with_reducible refine Row.alloc ?_ ?_ _) | (with_reducible refine Row.setCell ?_ ?_ _) | omega | (simp; done) | (simp; omega))
    · (refine Row.more (B := wX0.heap.size) ?_ (by first | omega | ((try simp only [World.size_setCell]); (try simp only [World.size_drew]); (try simp only [World.size_alloc]); omega))); repeat' (first | with_reducible assumption | (with_reducible refine Row.drew ?_) | (with_reducible refine Row.carry ?_ (by with_reducible assumption) ?_) | (with_reducible refine Row.alloc ?_ ?_ _) | (with_reducible refine Row.setCell ?_ ?_ _) | omega | (simp; done) | (simp; omega))
    · (refine Row.more (B := wX0.heap.size) ?_ (by first | omega | ((try simp only [World.size_setCell]); (try simp only [World.size_drew]); (try simp only [World.size_alloc]); omega))); repeat' (first | with_reducible assumption | (with_reducible refine Row.drew ?_) | (with_reducible refine Row.carry ?_ (by with_reducible assumption) ?_) | (with_reducible refine Row.alloc ?_ ?_ _) | (with_reducible refine Row.setCell ?_ ?_ _) | omega | (simp; done) | (simp; omega))
    · (refine Row.more (B := wX0.heap.size) ?_ (by first | omega | ((try simp only [World.size_setCell]); (try simp only [World.size_drew]); (try simp only [World.size_alloc]); omega))); repeat' (first | with_reducible assumption | (with_reducible refine Row.drew ?_) | (with_reducible refine Row.carry ?_ (by with_reducible assumption) ?_) | (with_reducible refine Row.alloc ?_ ?_ _) | (with_reducible refine Row.setCell ?_ ?_ _) | omega | (simp; done) | (simp; omega))
    rintro e wI ⟨rfl, hbwI⟩
    have zwI := hbwI.size
    (try simp only [World.size_setCell] at zwI)
    (try simp only [World.size_drew] at zwI)
    (try simp only [World.size_alloc] at zwI)
    have qwI : w.heap.size ≤ wI.heap.size := by omega
    have bx_awI : AtL (w.heap.size) [.int .i64 a0, .slice a1A a1l.length a1c, .slice a2A a2l.length a2c, .slice a3A a3l.length a3c, .slice a4A a4l.length a4c, .slice a5A a5l.length a5c, .slice a6A a6l.length a6c, .slice a7A a7l.length a7c, .bool a8, .int .i64 a9, .int .i64 a10, .int .i64 a11, .int .i64 a12] wI := by repeat' (first | with_reducible assumption | with_reducible exact AtL.new _ _ _ | ((with_reducible refine AtL.newAt ?_); (first | rfl | (simp; done))) | (with_reducible refine AtL.drew ?_) | (with_reducible refine AtL.below ?_ (by with_reducible assumption)) | (with_reducible refine AtL.alloc ?_ _) | (with_reducible refine AtL.far ?_ ?_ _ _) | omega | (simp; done) | (simp; omega))
    have row_a1wI : Row RvPt 2 wI (w.heap.size) a1A a1l := by repeat' (first | with_reducible assumption | (with_reducible refine Row.drew ?_) | (with_reducible refine Row.carry ?_ (by with_reducible assumption) ?_) | (with_reducible refine Row.alloc ?_ ?_ _) | (with_reducible refine Row.setCell ?_ ?_ _) | omega | (simp; done) | (simp; omega))
    have row_a2wI : Row RvPt 2 wI (w.heap.size) a2A a2l := by repeat' (first | with_reducible assumption | (with_reducible refine Row.drew ?_) | (with_reducible refine Row.carry ?_ (by with_reducible assumption) ?_) | (with_reducible refine Row.alloc ?_ ?_ _) | (with_reducible refine Row.setCell ?_ ?_ _) | omega | (simp; done) | (simp; omega))
    have row_a3wI : Row RvBool 1 wI (w.heap.size) a3A a3l := by repeat' (first | with_reducible assumption | (with_reducible refine Row.drew ?_) | (with_reducible refine Row.carry ?_ (by with_reducible assumption) ?_) | (with_reducible refine Row.alloc ?_ ?_ _) | (with_reducible refine Row.setCell ?_ ?_ _) | omega | (simp; done) | (simp; omega))
    have row_a4wI : Row RvBool 1 wI (w.heap.size) a4A a4l := by repeat' (first | with_reducible assumption | (with_reducible refine Row.drew ?_) | (with_reducible refine Row.carry ?_ (by with_reducible assumption) ?_) | (with_reducible refine Row.alloc ?_ ?_ _) | (with_reducible refine Row.setCell ?_ ?_ _) | omega | (simp; done) | (simp; omega))
    have row_a5wI : Row RvInt64 1 wI (w.heap.size) a5A a5l := by repeat' (first | with_reducible assumption | (with_reducible refine Row.drew ?_) | (with_reducible refine Row.carry ?_ (by with_reducible assumption) ?_) | (with_reducible refine Row.alloc ?_ ?_ _) | (with_reducible refine Row.setCell ?_ ?_ _) | omega | (simp; done) | (simp; omega))
    have row_a6wI : Row RvInt64 1 wI (w.heap.size) a6A a6l := by repeat' (first | with_reducible assumption | (with_reducible refine Row.drew ?_) | (with_reducible refine Row.carry ?_ (by with_reducible assumption) ?_) | (with_reducible refine Row.alloc ?_ ?_ _) | (with_reducible refine Row.setCell ?_ ?_ _) | omega | (simp; done) | (simp; omega))
    have row_a7wI : Row RvInt64 1 wI (w.heap.size) a7A a7l := by repeat' (first | with_reducible assumption | (with_reducible refine Row.drew ?_) | (with_reducible refine Row.carry ?_ (by with_reducible assumption) ?_) | (with_reducible refine Row.alloc ?_ ?_ _) | (with_reducible refine Row.setCell ?_ ?_ _) | omega | (simp; done) | (simp; omega))
    have rx_a1wI : Row RvPt 2 wI (wX0.heap.size) gX0_a1A a1l := by repeat' (first | with_reducible assumption | (with_reducible refine Row.drew ?_) | (with_reducible refine Row.carry ?_ (by with_reducible assumption) ?_) | (with_reducible refine Row.alloc ?_ ?_ _) | (with_reducible refine Row.setCell ?_ ?_ _) | omega | (simp; done) | (simp; omega))
    have rx_a2wI : Row RvPt 2 wI (wX0.heap.size) gX0_a2A a2l := by repeat' (first | with_reducible assumption | (with_reducible refine Row.drew ?_) | (with_reducible refine Row.carry ?_ (by with_reducible assumption) ?_) | (with_reducible refine Row.alloc ?_ ?_ _) | (with_reducible refine Row.setCell ?_ ?_ _) | omega | (simp; done) | (simp; omega))
    have rx_a3wI : Row RvBool 1 wI (wX0.heap.size) gX0_a3A a3l := by repeat' (first | with_reducible assumption | (with_reducible refine Row.drew ?_) | (with_reducible refine Row.carry ?_ (by with_reducible assumption) ?_) | (with_reducible refine Row.alloc ?_ ?_ _) | (with_reducible refine Row.setCell ?_ ?_ _) | omega | (simp; done) | (simp; omega))
    have rx_a4wI : Row RvBool 1 wI (wX0.heap.size) gX0_a4A a4l := by repeat' (first | with_reducible assumption | (with_reducible refine Row.drew ?_) | (with_reducible refine Row.carry ?_ (by with_reducible assumption) ?_) | (with_reducible refine Row.alloc ?_ ?_ _) | (with_reducible refine Row.setCell ?_ ?_ _) | omega | (simp; done) | (simp; omega))
    have rx_a5wI : Row RvInt64 1 wI (wX0.heap.size) gX0_a5A a5l := by repeat' (first | with_reducible assumption | (with_reducible refine Row.drew ?_) | (with_reducible refine Row.carry ?_ (by with_reducible assumption) ?_) | (with_reducible refine Row.alloc ?_ ?_ _) | (with_reducible refine Row.setCell ?_ ?_ _) | omega | (simp; done) | (simp; omega))
    have rx_a6wI : Row RvInt64 1 wI (wX0.heap.size) gX0_a6A a6l := by repeat' (first | with_reducible assumption | (with_reducible refine Row.drew ?_) | (with_reducible refine Row.carry ?_ (by with_reducible assumption) ?_) | (with_reducible refine Row.alloc ?_ ?_ _) | (with_reducible refine Row.setCell ?_ ?_ _) | omega | (simp; done) | (simp; omega))
    have rx_a7wI : Row RvInt64 1 wI (wX0.heap.size) gX0_a7A a7l := by repeat' (first | with_reducible assumption | (with_reducible refine Row.drew ?_) | (with_reducible refine Row.carry ?_ (by with_reducible assumption) ?_) | (with_reducible refine Row.alloc ?_ ?_ _) | (with_reducible refine Row.setCell ?_ ?_ _) | omega | (simp; done) | (simp; omega))
    have at_awI : AtL (wX0.heap.size) [.int .i64 a0, .slice gX0_a1A a1l.length gX0_a1c, .slice gX0_a2A a2l.length gX0_a2c, .slice gX0_a3A a3l.length gX0_a3c, .slice gX0_a4A a4l.length gX0_a4c, .slice gX0_a5A a5l.length gX0_a5c, .slice gX0_a6A a6l.length gX0_a6c, .slice gX0_a7A a7l.length gX0_a7c, .bool a8, .int .i64 a9, .int .i64 a10, .int .i64 a11, .int .i64 a12] wI := by repeat' (first | with_reducible assumption | with_reducible exact AtL.new _ _ _ | ((with_reducible refine AtL.newAt ?_); (first | rfl | (simp; done))) | (with_reducible refine AtL.drew ?_) | (with_reducible refine AtL.below ?_ (by with_reducible assumption)) | (with_reducible refine AtL.alloc ?_ _) | (with_reducible refine AtL.far ?_ ?_ _ _) | omega | (simp; done) | (simp; omega))
    have bp := bWB0.out
    have bn : Below w.heap.size w wI := by repeat' (first | with_reducible assumption | with_reducible exact Below.refl _ _ | (with_reducible refine Below.setCell ?_ ?_ _) | (with_reducible refine Below.alloc ?_ ?_ _) | (with_reducible refine Below.drew ?_) | (with_reducible refine below_dr ?_ _) | (with_reducible refine Below.trans ?_ (Below.mono (by with_reducible assumption) ?_)) | omega | (simp; done) | (simp; omega))
    have bwI := Lib.hid bn
    clear bn
    clear bp bWB0
    clear hbwI
    clear bx_aWB0
    clear row_a1WB0
    clear row_a2WB0
    clear row_a3WB0
    clear row_a4WB0
    clear row_a5WB0
    clear row_a6WB0
    clear row_a7WB0
    clear rx_a1WB0
    clear rx_a2WB0
    clear rx_a3WB0
    clear rx_a4WB0
    clear rx_a5WB0
    clear rx_a6WB0
    clear rx_a7WB0
    clear at_aWB0
    have kat_a0 := at_awI.cell 0 rfl
    have kat_a1 := at_awI.cell 1 rfl
    have kat_a2 := at_awI.cell 2 rfl
    have kat_a3 := at_awI.cell 3 rfl
    have kat_a4 := at_awI.cell 4 rfl
    have kat_a5 := at_awI.cell 5 rfl
    have kat_a6 := at_awI.cell 6 rfl
    have kat_a7 := at_awI.cell 7 rfl
    have kat_a8 := at_awI.cell 8 rfl
    have kat_a9 := at_awI.cell 9 rfl
    have kat_a10 := at_awI.cell 10 rfl
    have kat_a11 := at_awI.cell 11 rfl
    have kat_a12 := at_awI.cell 12 rfl
    have lat_a := at_awI.lt
    have kbx_a0 := bx_awI.cell 0 rfl
    have kbx_a1 := bx_awI.cell 1 rfl
    have kbx_a2 := bx_awI.cell 2 rfl
    have kbx_a3 := bx_awI.cell 3 rfl
    have kbx_a4 := bx_awI.cell 4 rfl
    have kbx_a5 := bx_awI.cell 5 rfl
    have kbx_a6 := bx_awI.cell 6 rfl
    have kbx_a7 := bx_awI.cell 7 rfl
    have kbx_a8 := bx_awI.cell 8 rfl
    have kbx_a9 := bx_awI.cell 9 rfl
    have kbx_a10 := bx_awI.cell 10 rfl
    have kbx_a11 := bx_awI.cell 11 rfl
    have kbx_a12 := bx_awI.cell 12 rfl
    have lbx_a := bx_awI.lt
    go_wp2_with fail
    go_region_held3 (fun w' => (∀ b o, b < wI.heap.size → w'.cell? ⟨b, o, none⟩ = wI.cell? ⟨b, o, none⟩) ∧ wI.heap.size ≤ w'.heap.size)
      (first | ((try dsimp only); exact ⟨fun b o h => (by (repeat (first | with_reducible exact rfl | (with_reducible refine (cell_drew_at _ _).trans ?_) | (with_reducible refine (cell_set_at _ _ (by first | omega | (simp; done) | (simp; omega))).trans ?_) | (with_reducible refine (cell_alloc_at _ _ (by first | omega | (simp; done) | (simp; omega))).trans ?_) | (with_reducible refine (hcwT0 b o (by first | omega | (simp; done) | (simp; omega))).trans ?_) | (with_reducible refine (hcwE0 b o (by first | omega | (simp; done) | (simp; omega))).trans ?_)))), (by first | omega | (simp; done) | (simp; omega))⟩) | fail)
      (first
        | (go_at_call 46; (with_reducible refine (xtoHinter_any a0 a1A a1c a1l a2A a2c a2l a3A a3c a3l a4A a4c a4l a5A a5c a5l a6A a6c a6l a7A a7c a7l a8 a9 a10 a11 a12 _ (HT_a.out) ?_ ?_ ?_ ?_ ?_ ?_ ?_).mono ?_); (focus ((refine Row.more (B := w.heap.size) ?_ (by first | omega | ((try simp only [World.size_setCell]); (try simp only [World.size_drew]); (try simp only [World.size_alloc]); omega))); repeat' (first | with_reducible assumption | (with_reducible refine Row.drew ?_) | (with_reducible refine Row.carry ?_ (by with_reducible assumption) ?_) | (with_reducible refine Row.alloc ?_ ?_ _) | (with_reducible refine Row.setCell ?_ ?_ _) | omega | (simp; done) | (simp; omega)))); (focus ((refine Row.more (B := w.heap.size) ?_ (by first | omega | ((try simp only [World.size_setCell]); (try simp only [World.size_drew]); (try simp only [World.size_alloc]); omega))); repeat' (first | with_reducible assumption | (with_reducible refine Row.drew ?_) | (with_reducible refine Row.carry ?_ (by with_reducible assumption) ?_) | (with_reducible refine Row.alloc ?_ ?_ _) | (with_reducible refine Row.setCell ?_ ?_ _) | omega | (simp; done) | (simp; omega)))); (focus ((refine Row.more (B := w.heap.size) ?_ (by first | omega | ((try simp only [World.size_setCell]); (try simp only [World.size_drew]); (try simp only [World.size_alloc]); omega))); repeat' (first | with_reducible assumption | (with_reducible refine Row.drew ?_) | (with_reducible refine Row.carry ?_ (by with_reducible assumption) ?_) | (with_reducible refine Row.alloc ?_ ?_ _) | (with_reducible refine Row.setCell ?_ ?_ _) | omega | (simp; done) | (simp; omega)))); (focus ((refine Row.more (B := w.heap.size) ?_ (by first | omega | ((try simp only [World.size_setCell]); (try simp only [World.size_drew]); (try simp only [World.size_alloc]); omega))); repeat' (first | with_reducible assumption | (with_reducible refine Row.drew ?_) | (with_reducible refine Row.carry ?_ (by with_reducible assumption) ?_) | (with_reducible refine Row.alloc ?_ ?_ _) | (with_reducible refine Row.setCell ?_ ?_ _) | omega | (simp; done) | (simp; omega)))); (focus ((refine Row.more (B := w.heap.size) ?_ (by first | omega | ((try simp only [World.size_setCell]); (try simp only [World.size_drew]); (try simp only [World.size_alloc]); omega))); repeat' (first | with_reducible assumption | (with_reducible refine Row.drew ?_) | (with_reducible refine Row.carry ?_ (by with_reducible assumption) ?_) | (with_reducible refine Row.alloc ?_ ?_ _) | (with_reducible refine Row.setCell ?_ ?_ _) | omega | (simp; done) | (simp; omega)))); (focus ((refine Row.more (B := w.heap.size) ?_ (by first | omega | ((try simp only [World.size_setCell]); (try simp only [World.size_drew]); (try simp only [World.size_alloc]); omega))); repeat' (first | with_reducible assumption | (with_reducible refine Row.drew ?_) | (with_reducible refine Row.carry ?_ (by with_reducible assumption) ?_) | (with_reducible refine Row.alloc ?_ ?_ _) | (with_reducible refine Row.setCell ?_ ?_ _) | omega | (simp; done) | (simp; omega)))); (focus ((refine Row.more (B := w.heap.size) ?_ (by first | omega | ((try simp only [World.size_setCell]); (try simp only [World.size_drew]); (try simp only [World.size_alloc]); omega))); repeat' (first | with_reducible assumption | (with_reducible refine Row.drew ?_) | (with_reducible refine Row.carry ?_ (by with_reducible assumption) ?_) | (with_reducible refine Row.alloc ?_ ?_ _) | (with_reducible refine Row.setCell ?_ ?_ _) | omega | (simp; done) | (simp; omega)))); intro e wT0 hq; obtain ⟨owE_a1A, owE_a1c, owE_a2A, owE_a2c, owE_a3A, owE_a3c, owE_a4A, owE_a4c, owE_a5A, owE_a5c, owE_a6A, owE_a6c, owE_a7A, owE_a7c, rfl, owE_a1, owE_a2, owE_a3, owE_a4, owE_a5, owE_a6, owE_a7, hbwT0⟩ := hq; obtain ⟨hcwT0, hfwT0⟩ := bcell hbwT0; have hzwT0 := hbwT0.size; (try simp only [World.size_drew] at hcwT0 hfwT0 hzwT0); (try simp only [World.size_alloc] at hcwT0 hfwT0 hzwT0))
        | (go_at_call 41; (with_reducible refine (xeqHinter_any a0 gX0_a1A gX0_a1c a1l gX0_a2A gX0_a2c a2l gX0_a3A gX0_a3c a3l gX0_a4A gX0_a4c a4l gX0_a5A gX0_a5c a5l gX0_a6A gX0_a6c a6l gX0_a7A gX0_a7c a7l a8 a9 a10 a11 a12 owE_a1A owE_a1c owE_a2A owE_a2c owE_a3A owE_a3c owE_a4A owE_a4c owE_a5A owE_a5c owE_a6A owE_a6c owE_a7A owE_a7c _ (Nat.le_trans HT_a.out (by omega)) ?_ ?_ ?_ ?_ ?_ ?_ ?_ ?_ ?_ ?_ ?_ ?_ ?_ ?_).mono ?_); (focus ((refine Row.more (B := wX0.heap.size) ?_ (by first | omega | ((try simp only [World.size_setCell]); (try simp only [World.size_drew]); (try simp only [World.size_alloc]); omega))); repeat' (first | with_reducible assumption | (with_reducible refine Row.drew ?_) | (with_reducible refine Row.carry ?_ (by with_reducible assumption) ?_) | (with_reducible refine Row.alloc ?_ ?_ _) | (with_reducible refine Row.setCell ?_ ?_ _) | omega | (simp; done) | (simp; omega)))); (focus ((refine Row.more (B := wX0.heap.size) ?_ (by first | omega | ((try simp only [World.size_setCell]); (try simp only [World.size_drew]); (try simp only [World.size_alloc]); omega))); repeat' (first | with_reducible assumption | (with_reducible refine Row.drew ?_) | (with_reducible refine Row.carry ?_ (by with_reducible assumption) ?_) | (with_reducible refine Row.alloc ?_ ?_ _) | (with_reducible refine Row.setCell ?_ ?_ _) | omega | (simp; done) | (simp; omega)))); (focus ((refine Row.more (B := wX0.heap.size) ?_ (by first | omega | ((try simp only [World.size_setCell]); (try simp only [World.size_drew]); (try simp only [World.size_alloc]); omega))); repeat' (first | with_reducible assumption | (with_reducible refine Row.drew ?_) | (with_reducible refine Row.carry ?_ (by with_reducible assumption) ?_) | (with_reducible refine Row.alloc ?_ ?_ _) | (with_reducible refine Row.setCell ?_ ?_ _) | omega | (simp; done) | (simp; omega)))); (focus ((refine Row.more (B := wX0.heap.size) ?_ (by first | omega | ((try simp only [World.size_setCell]); (try simp only [World.size_drew]); (try simp only [World.size_alloc]); omega))); repeat' (first | with_reducible assumption | (with_reducible refine Row.drew ?_) | (with_reducible refine Row.carry ?_ (by with_reducible assumption) ?_) | (with_reducible refine Row.alloc ?_ ?_ _) | (with_reducible refine Row.setCell ?_ ?_ _) | omega | (simp; done) | (simp; omega)))); (focus ((refine Row.more (B := wX0.heap.size) ?_ (by first | omega | ((try simp only [World.size_setCell]); (try simp only [World.size_drew]); (try simp only [World.size_alloc]); omega))); repeat' (first | with_reducible assumption | (with_reducible refine Row.drew ?_) | (with_reducible refine Row.carry ?_ (by with_reducible assumption) ?_) | (with_reducible refine Row.alloc ?_ ?_ _) | (with_reducible refine Row.setCell ?_ ?_ _) | omega | (simp; done) | (simp; omega)))); (focus ((refine Row.more (B := wX0.heap.size) ?_ (by first | omega | ((try simp only [World.size_setCell]); (try simp only [World.size_drew]); (try simp only [World.size_alloc]); omega))); repeat' (first | with_reducible assumption | (with_reducible refine Row.drew ?_) | (with_reducible refine Row.carry ?_ (by with_reducible assumption) ?_) | (with_reducible refine Row.alloc ?_ ?_ _) | (with_reducible refine Row.setCell ?_ ?_ _) | omega | (simp; done) | (simp; omega)))); (focus ((refine Row.more (B := wX0.heap.size) ?_ (by first | omega | ((try simp only [World.size_setCell]); (try simp only [World.size_drew]); (try simp only [World.size_alloc]); omega))); repeat' (first | with_reducible assumption | (with_reducible refine Row.drew ?_) | (with_reducible refine Row.carry ?_ (by with_reducible assumption) ?_) | (with_reducible refine Row.alloc ?_ ?_ _) | (with_reducible refine Row.setCell ?_ ?_ _) | omega | (simp; done) | (simp; omega)))); (focus (first | exact owE_a1.here | exact (RowIn.here owE_a1).drew)); (focus (first | exact owE_a2.here | exact (RowIn.here owE_a2).drew)); (focus (first | exact owE_a3.here | exact (RowIn.here owE_a3).drew)); (focus (first | exact owE_a4.here | exact (RowIn.here owE_a4).drew)); (focus (first | exact owE_a5.here | exact (RowIn.here owE_a5).drew)); (focus (first | exact owE_a6.here | exact (RowIn.here owE_a6).drew)); (focus (first | exact owE_a7.here | exact (RowIn.here owE_a7).drew)); rintro e wE0 ⟨rfl, hbwE0⟩; obtain ⟨hcwE0, hfwE0⟩ := bcell hbwE0; have hzwE0 := hbwE0.size; (try simp only [World.size_drew] at hcwE0 hfwE0 hzwE0); (try simp only [World.size_alloc] at hcwE0 hfwE0 hzwE0)))
    clear kat_a0 kat_a1 kat_a2 kat_a3 kat_a4 kat_a5 kat_a6 kat_a7 kat_a8 kat_a9 kat_a10 kat_a11 kat_a12 lat_a
    clear kbx_a0 kbx_a1 kbx_a2 kbx_a3 kbx_a4 kbx_a5 kbx_a6 kbx_a7 kbx_a8 kbx_a9 kbx_a10 kbx_a11 kbx_a12 lbx_a
    all_goals
      have zwE0 := hbwE0.size
      (try simp only [World.size_setCell] at zwE0)
      (try simp only [World.size_drew] at zwE0)
      (try simp only [World.size_alloc] at zwE0)
      have qwE0 : w.heap.size ≤ wE0.heap.size := by omega
      have bx_awE0 : AtL (w.heap.size) [.int .i64 a0, .slice a1A a1l.length a1c, .slice a2A a2l.length a2c, .slice a3A a3l.length a3c, .slice a4A a4l.length a4c, .slice a5A a5l.length a5c, .slice a6A a6l.length a6c, .slice a7A a7l.length a7c, .bool a8, .int .i64 a9, .int .i64 a10, .int .i64 a11, .int .i64 a12] wE0 := by repeat' (first | with_reducible assumption | with_reducible exact AtL.new _ _ _ | ((with_reducible refine AtL.newAt ?_); (first | rfl | (simp; done))) | (with_reducible refine AtL.drew ?_) | (with_reducible refine AtL.below ?_ (by with_reducible assumption)) | (with_reducible refine AtL.alloc ?_ _) | (with_reducible refine AtL.far ?_ ?_ _ _) | omega | (simp; done) | (simp; omega))
      have row_a1wE0 : Row RvPt 2 wE0 (w.heap.size) a1A a1l := by repeat' (first | with_reducible assumption | (with_reducible refine Row.drew ?_) | (with_reducible refine Row.carry ?_ (by with_reducible assumption) ?_) | (with_reducible refine Row.alloc ?_ ?_ _) | (with_reducible refine Row.setCell ?_ ?_ _) | omega | (simp; done) | (simp; omega))
      have row_a2wE0 : Row RvPt 2 wE0 (w.heap.size) a2A a2l := by repeat' (first | with_reducible assumption | (with_reducible refine Row.drew ?_) | (with_reducible refine Row.carry ?_ (by with_reducible assumption) ?_) | (with_reducible refine Row.alloc ?_ ?_ _) | (with_reducible refine Row.setCell ?_ ?_ _) | omega | (simp; done) | (simp; omega))
      have row_a3wE0 : Row RvBool 1 wE0 (w.heap.size) a3A a3l := by repeat' (first | with_reducible assumption | (with_reducible refine Row.drew ?_) | (with_reducible refine Row.carry ?_ (by with_reducible assumption) ?_) | (with_reducible refine Row.alloc ?_ ?_ _) | (with_reducible refine Row.setCell ?_ ?_ _) | omega | (simp; done) | (simp; omega))
      have row_a4wE0 : Row RvBool 1 wE0 (w.heap.size) a4A a4l := by repeat' (first | with_reducible assumption | (with_reducible refine Row.drew ?_) | (with_reducible refine Row.carry ?_ (by with_reducible assumption) ?_) | (with_reducible refine Row.alloc ?_ ?_ _) | (with_reducible refine Row.setCell ?_ ?_ _) | omega | (simp; done) | (simp; omega))
      have row_a5wE0 : Row RvInt64 1 wE0 (w.heap.size) a5A a5l := by repeat' (first | with_reducible assumption | (with_reducible refine Row.drew ?_) | (with_reducible refine Row.carry ?_ (by with_reducible assumption) ?_) | (with_reducible refine Row.alloc ?_ ?_ _) | (with_reducible refine Row.setCell ?_ ?_ _) | omega | (simp; done) | (simp; omega))
      have row_a6wE0 : Row RvInt64 1 wE0 (w.heap.size) a6A a6l := by repeat' (first | with_reducible assumption | (with_reducible refine Row.drew ?_) | (with_reducible refine Row.carry ?_ (by with_reducible assumption) ?_) | (with_reducible refine Row.alloc ?_ ?_ _) | (with_reducible refine Row.setCell ?_ ?_ _) | omega | (simp; done) | (simp; omega))
      have row_a7wE0 : Row RvInt64 1 wE0 (w.heap.size) a7A a7l := by repeat' (first | with_reducible assumption | (with_reducible refine Row.drew ?_) | (with_reducible refine Row.carry ?_ (by with_reducible assumption) ?_) | (with_reducible refine Row.alloc ?_ ?_ _) | (with_reducible refine Row.setCell ?_ ?_ _) | omega | (simp; done) | (simp; omega))
      have rx_a1wE0 : Row RvPt 2 wE0 (wX0.heap.size) gX0_a1A a1l := by repeat' (first | with_reducible assumption | (with_reducible refine Row.drew ?_) | (with_reducible refine Row.carry ?_ (by with_reducible assumption) ?_) | (with_reducible refine Row.alloc ?_ ?_ _) | (with_reducible refine Row.setCell ?_ ?_ _) | omega | (simp; done) | (simp; omega))
      have rx_a2wE0 : Row RvPt 2 wE0 (wX0.heap.size) gX0_a2A a2l := by repeat' (first | with_reducible assumption | (with_reducible refine Row.drew ?_) | (with_reducible refine Row.carry ?_ (by with_reducible assumption) ?_) | (with_reducible refine Row.alloc ?_ ?_ _) | (with_reducible refine Row.setCell ?_ ?_ _) | omega | (simp; done) | (simp; omega))
      have rx_a3wE0 : Row RvBool 1 wE0 (wX0.heap.size) gX0_a3A a3l := by repeat' (first | with_reducible assumption | (with_reducible refine Row.drew ?_) | (with_reducible refine Row.carry ?_ (by with_reducible assumption) ?_) | (with_reducible refine Row.alloc ?_ ?_ _) | (with_reducible refine Row.setCell ?_ ?_ _) | omega | (simp; done) | (simp; omega))
      have rx_a4wE0 : Row RvBool 1 wE0 (wX0.heap.size) gX0_a4A a4l := by repeat' (first | with_reducible assumption | (with_reducible refine Row.drew ?_) | (with_reducible refine Row.carry ?_ (by with_reducible assumption) ?_) | (with_reducible refine Row.alloc ?_ ?_ _) | (with_reducible refine Row.setCell ?_ ?_ _) | omega | (simp; done) | (simp; omega))
      have rx_a5wE0 : Row RvInt64 1 wE0 (wX0.heap.size) gX0_a5A a5l := by repeat' (first | with_reducible assumption | (with_reducible refine Row.drew ?_) | (with_reducible refine Row.carry ?_ (by with_reducible assumption) ?_) | (with_reducible refine Row.alloc ?_ ?_ _) | (with_reducible refine Row.setCell ?_ ?_ _) | omega | (simp; done) | (simp; omega))
      have rx_a6wE0 : Row RvInt64 1 wE0 (wX0.heap.size) gX0_a6A a6l := by repeat' (first | with_reducible assumption | (with_reducible refine Row.drew ?_) | (with_reducible refine Row.carry ?_ (by with_reducible assumption) ?_) | (with_reducible refine Row.alloc ?_ ?_ _) | (with_reducible refine Row.setCell ?_ ?_ _) | omega | (simp; done) | (simp; omega))
      have rx_a7wE0 : Row RvInt64 1 wE0 (wX0.heap.size) gX0_a7A a7l := by repeat' (first | with_reducible assumption | (with_reducible refine Row.drew ?_) | (with_reducible refine Row.carry ?_ (by with_reducible assumption) ?_) | (with_reducible refine Row.alloc ?_ ?_ _) | (with_reducible refine Row.setCell ?_ ?_ _) | omega | (simp; done) | (simp; omega))
      have at_awE0 : AtL (wX0.heap.size) [.int .i64 a0, .slice gX0_a1A a1l.length gX0_a1c, .slice gX0_a2A a2l.length gX0_a2c, .slice gX0_a3A a3l.length gX0_a3c, .slice gX0_a4A a4l.length gX0_a4c, .slice gX0_a5A a5l.length gX0_a5c, .slice gX0_a6A a6l.length gX0_a6c, .slice gX0_a7A a7l.length gX0_a7c, .bool a8, .int .i64 a9, .int .i64 a10, .int .i64 a11, .int .i64 a12] wE0 := by repeat' (first | with_reducible assumption | with_reducible exact AtL.new _ _ _ | ((with_reducible refine AtL.newAt ?_); (first | rfl | (simp; done))) | (with_reducible refine AtL.drew ?_) | (with_reducible refine AtL.below ?_ (by with_reducible assumption)) | (with_reducible refine AtL.alloc ?_ _) | (with_reducible refine AtL.far ?_ ?_ _ _) | omega | (simp; done) | (simp; omega))
      have bp := bwI.out
      have bn : Below w.heap.size w wE0 := by repeat' (first | with_reducible assumption | with_reducible exact Below.refl _ _ | (with_reducible refine Below.setCell ?_ ?_ _) | (with_reducible refine Below.alloc ?_ ?_ _) | (with_reducible refine Below.drew ?_) | (with_reducible refine below_dr ?_ _) | (with_reducible refine Below.trans ?_ (Below.mono (by with_reducible assumption) ?_)) | omega | (simp; done) | (simp; omega))
      have bwE0 := Lib.hid bn
      clear bn
      clear bp bwI
      clear hbwE0
      clear bx_awI
      clear row_a1wI
      clear row_a2wI
      clear row_a3wI
      clear row_a4wI
      clear row_a5wI
      clear row_a6wI
      clear row_a7wI
      clear rx_a1wI
      clear rx_a2wI
      clear rx_a3wI
      clear rx_a4wI
      clear rx_a5wI
      clear rx_a6wI
      clear rx_a7wI
      clear at_awI
      go_wp2_with fail
      go_ret
      have bp := bwE0.out
      exact ⟨rfl, by repeat' (first | with_reducible assumption | with_reducible exact Below.refl _ _ | (with_reducible refine Below.setCell ?_ ?_ _) | (with_reducible refine Below.alloc ?_ ?_ _) | (with_reducible refine Below.drew ?_) | (with_reducible refine below_dr ?_ _) | (with_reducible refine Below.trans ?_ (Below.mono (by with_reducible assumption) ?_)) | omega | (simp; done) | (simp; omega))⟩
end Go.Proofs.Ytdikenapnncmfaa
