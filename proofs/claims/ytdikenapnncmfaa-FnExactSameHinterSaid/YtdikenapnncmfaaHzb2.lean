/- Walks: states of the machine that are the same, on the reference's side. -/
import Derived.Test.YtdikenapnncmfaaHzb
namespace Go.Proofs.Ytdikenapnncmfaa
open Go.RowKit
set_option linter.unusedVariables false
set_option maxRecDepth 100000 in
set_option maxHeartbeats 12800000 in
theorem specSameHinter_any (a0 : Int) (a1A : Option Addr) (a1c : Nat) (a1l : List DPt) (a2A : Option Addr) (a2c : Nat) (a2l : List DPt) (a3A : Option Addr) (a3c : Nat) (a3l : List DBool) (a4A : Option Addr) (a4c : Nat) (a4l : List DBool) (a5A : Option Addr) (a5c : Nat) (a5l : List DInt64) (a6A : Option Addr) (a6c : Nat) (a6l : List DInt64) (a7A : Option Addr) (a7c : Nat) (a7l : List DInt64) (a8 : Bool) (a9 : Int) (a10 : Int) (a11 : Int) (a12 : Int) (b0 : Int) (b1A : Option Addr) (b1c : Nat) (b1l : List DPt) (b2A : Option Addr) (b2c : Nat) (b2l : List DPt) (b3A : Option Addr) (b3c : Nat) (b3l : List DBool) (b4A : Option Addr) (b4c : Nat) (b4l : List DBool) (b5A : Option Addr) (b5c : Nat) (b5l : List DInt64) (b6A : Option Addr) (b6c : Nat) (b6l : List DInt64) (b7A : Option Addr) (b7c : Nat) (b7l : List DInt64) (b8 : Bool) (b9 : Int) (b10 : Int) (b11 : Int) (b12 : Int) (w : World) (h_a : totHinter (a0, a1l, a2l, a3l, a4l, a5l, a6l, a7l, a8, a9, a10, a11, a12) ≤ 1048576) (h_b : totHinter (b0, b1l, b2l, b3l, b4l, b5l, b6l, b7l, b8, b9, b10, b11, b12) ≤ 1048576) (r_a1 : Row RvPt 2 w w.heap.size a1A a1l) (r_a2 : Row RvPt 2 w w.heap.size a2A a2l) (r_a3 : Row RvBool 1 w w.heap.size a3A a3l) (r_a4 : Row RvBool 1 w w.heap.size a4A a4l) (r_a5 : Row RvInt64 1 w w.heap.size a5A a5l) (r_a6 : Row RvInt64 1 w w.heap.size a6A a6l) (r_a7 : Row RvInt64 1 w w.heap.size a7A a7l) (r_b1 : Row RvPt 2 w w.heap.size b1A b1l) (r_b2 : Row RvPt 2 w w.heap.size b2A b2l) (r_b3 : Row RvBool 1 w w.heap.size b3A b3l) (r_b4 : Row RvBool 1 w w.heap.size b4A b4l) (r_b5 : Row RvInt64 1 w w.heap.size b5A b5l) (r_b6 : Row RvInt64 1 w w.heap.size b6A b6l) (r_b7 : Row RvInt64 1 w w.heap.size b7A b7l) :
    Calls Try.prog 48 #[.agg #[.int .i64 a0, .slice a1A a1l.length a1c, .slice a2A a2l.length a2c, .slice a3A a3l.length a3c, .slice a4A a4l.length a4c, .slice a5A a5l.length a5c, .slice a6A a6l.length a6c, .slice a7A a7l.length a7c, .bool a8, .int .i64 a9, .int .i64 a10, .int .i64 a11, .int .i64 a12], .agg #[.int .i64 b0, .slice b1A b1l.length b1c, .slice b2A b2l.length b2c, .slice b3A b3l.length b3c, .slice b4A b4l.length b4c, .slice b5A b5l.length b5c, .slice b6A b6l.length b6c, .slice b7A b7l.length b7c, .bool b8, .int .i64 b9, .int .i64 b10, .int .i64 b11, .int .i64 b12]] w fun e w' => e = .returned (.bool (smH (a0, a1l, a2l, a3l, a4l, a5l, a6l, a7l, a8, a9, a10, a11, a12) (b0, b1l, b2l, b3l, b4l, b5l, b6l, b7l, b8, b9, b10, b11, b12))) ∧ Below w.heap.size w w' := by
  simp only [totHinter] at h_a h_b
  have hl_a1 : a1l.length ≤ 1048576 := Nat.le_trans (totRow_len totPt _) (by omega)
  have hl_a2 : a2l.length ≤ 1048576 := Nat.le_trans (totRow_len totPt _) (by omega)
  have hl_a3 : a3l.length ≤ 1048576 := Nat.le_trans (totRow_len totBool _) (by omega)
  have hl_a4 : a4l.length ≤ 1048576 := Nat.le_trans (totRow_len totBool _) (by omega)
  have hl_a5 : a5l.length ≤ 1048576 := Nat.le_trans (totRow_len totInt64 _) (by omega)
  have hl_a6 : a6l.length ≤ 1048576 := Nat.le_trans (totRow_len totInt64 _) (by omega)
  have hl_a7 : a7l.length ≤ 1048576 := Nat.le_trans (totRow_len totInt64 _) (by omega)
  have hl_b1 : b1l.length ≤ 1048576 := Nat.le_trans (totRow_len totPt _) (by omega)
  have hl_b2 : b2l.length ≤ 1048576 := Nat.le_trans (totRow_len totPt _) (by omega)
  have hl_b3 : b3l.length ≤ 1048576 := Nat.le_trans (totRow_len totBool _) (by omega)
  have hl_b4 : b4l.length ≤ 1048576 := Nat.le_trans (totRow_len totBool _) (by omega)
  have hl_b5 : b5l.length ≤ 1048576 := Nat.le_trans (totRow_len totInt64 _) (by omega)
  have hl_b6 : b6l.length ≤ 1048576 := Nat.le_trans (totRow_len totInt64 _) (by omega)
  have hl_b7 : b7l.length ≤ 1048576 := Nat.le_trans (totRow_len totInt64 _) (by omega)
  clear h_a h_b
  have C1 := Lib.hid (fun (w1 : World) (hb : Below w.heap.size w w1) => s3Pt a1l b1l a1A b1A a1c b1c w.heap.size w1 hl_a1 hl_b1 (Row.carry (w' := w1) r_a1 hb (Nat.le_refl _)) (Row.carry (w' := w1) r_b1 hb (Nat.le_refl _)))
  have C2 := Lib.hid (fun (w1 : World) (hb : Below w.heap.size w w1) => s3Pt a2l b2l a2A b2A a2c b2c w.heap.size w1 hl_a2 hl_b2 (Row.carry (w' := w1) r_a2 hb (Nat.le_refl _)) (Row.carry (w' := w1) r_b2 hb (Nat.le_refl _)))
  have C3 := Lib.hid (fun (w1 : World) (hb : Below w.heap.size w w1) => s3Bool a3l b3l a3A b3A a3c b3c w.heap.size w1 hl_a3 hl_b3 (Row.carry (w' := w1) r_a3 hb (Nat.le_refl _)) (Row.carry (w' := w1) r_b3 hb (Nat.le_refl _)))
  have C4 := Lib.hid (fun (w1 : World) (hb : Below w.heap.size w w1) => s3Bool a4l b4l a4A b4A a4c b4c w.heap.size w1 hl_a4 hl_b4 (Row.carry (w' := w1) r_a4 hb (Nat.le_refl _)) (Row.carry (w' := w1) r_b4 hb (Nat.le_refl _)))
  have C5 := Lib.hid (fun (w1 : World) (hb : Below w.heap.size w w1) => s3Int a5l b5l a5A b5A a5c b5c w.heap.size w1 hl_a5 hl_b5 (Row.carry (w' := w1) r_a5 hb (Nat.le_refl _)) (Row.carry (w' := w1) r_b5 hb (Nat.le_refl _)))
  have C6 := Lib.hid (fun (w1 : World) (hb : Below w.heap.size w w1) => s3Int a6l b6l a6A b6A a6c b6c w.heap.size w1 hl_a6 hl_b6 (Row.carry (w' := w1) r_a6 hb (Nat.le_refl _)) (Row.carry (w' := w1) r_b6 hb (Nat.le_refl _)))
  have C7 := Lib.hid (fun (w1 : World) (hb : Below w.heap.size w w1) => s3Int a7l b7l a7A b7A a7c b7c w.heap.size w1 hl_a7 hl_b7 (Row.carry (w' := w1) r_a7 hb (Nat.le_refl _)) (Row.carry (w' := w1) r_b7 hb (Nat.le_refl _)))
  clear hl_a1 r_a1 hl_a2 r_a2 hl_a3 r_a3 hl_a4 r_a4 hl_a5 r_a5 hl_a6 r_a6 hl_a7 r_a7 hl_b1 r_b1 hl_b2 r_b2 hl_b3 r_b3 hl_b4 r_b4 hl_b5 r_b5 hl_b6 r_b6 hl_b7 r_b7
  have hv : smH (a0, a1l, a2l, a3l, a4l, a5l, a6l, a7l, a8, a9, a10, a11, a12) (b0, b1l, b2l, b3l, b4l, b5l, b6l, b7l, b8, b9, b10, b11, b12) = (decide (a0 = b0) && (eqG kKPt a1l b1l && (eqG kKPt a2l b2l && (eqG kKBool a3l b3l && (eqG kKBool a4l b4l && (eqG kKInt64 a5l b5l && (eqG kKInt64 a6l b6l && (eqG kKInt64 a7l b7l && (decide (a8 = b8) && (decide (a9 = b9) && (decide (a10 = b10) && (decide (a11 = b11) && (decide (a12 = b12)))))))))))))) := rfl
  rw [hv]; clear hv
  have F0 := beq_dec a0 b0
  generalize decide (a0 = b0) = v0 at F0 ⊢
  generalize eqG kKPt a1l b1l = v1 at C1 ⊢
  generalize eqG kKPt a2l b2l = v2 at C2 ⊢
  generalize eqG kKBool a3l b3l = v3 at C3 ⊢
  generalize eqG kKBool a4l b4l = v4 at C4 ⊢
  generalize eqG kKInt64 a5l b5l = v5 at C5 ⊢
  generalize eqG kKInt64 a6l b6l = v6 at C6 ⊢
  generalize eqG kKInt64 a7l b7l = v7 at C7 ⊢
  have F8 := beq_dec a8 b8
  generalize decide (a8 = b8) = v8 at F8 ⊢
  have F9 := beq_dec a9 b9
  generalize decide (a9 = b9) = v9 at F9 ⊢
  have F10 := beq_dec a10 b10
  generalize decide (a10 = b10) = v10 at F10 ⊢
  have F11 := beq_dec a11 b11
  generalize decide (a11 = b11) = v11 at F11 ⊢
  have F12 := beq_dec a12 b12
  generalize decide (a12 = b12) = v12 at F12 ⊢
  go_enter Try.func48, Try.ntmps48
  go_wp2_with fail
  refine (C1.out _ (by repeat' (first | with_reducible assumption | with_reducible exact Below.refl _ _ | (with_reducible refine Below.setCell ?_ ?_ _) | (with_reducible refine Below.alloc ?_ ?_ _) | (with_reducible refine Below.drew ?_) | (with_reducible refine below_dr ?_ _) | (with_reducible refine Below.trans ?_ (Below.mono (by with_reducible assumption) ?_)) | omega | (simp; done) | (simp; omega)))).mono ?_
  rintro e wZ0 ⟨rfl, q0, rfl⟩
  cases v1
  case false =>
    go_wp2_with fail
    go_ret
    exact ⟨ret_bool (by simp), by repeat' (first | with_reducible assumption | with_reducible exact Below.refl _ _ | (with_reducible refine Below.setCell ?_ ?_ _) | (with_reducible refine Below.alloc ?_ ?_ _) | (with_reducible refine Below.drew ?_) | (with_reducible refine below_dr ?_ _) | (with_reducible refine Below.trans ?_ (Below.mono (by with_reducible assumption) ?_)) | omega | (simp; done) | (simp; omega))⟩
  case true =>
    go_wp2_with fail
    refine (C2.out _ (by repeat' (first | with_reducible assumption | with_reducible exact Below.refl _ _ | (with_reducible refine Below.setCell ?_ ?_ _) | (with_reducible refine Below.alloc ?_ ?_ _) | (with_reducible refine Below.drew ?_) | (with_reducible refine below_dr ?_ _) | (with_reducible refine Below.trans ?_ (Below.mono (by with_reducible assumption) ?_)) | omega | (simp; done) | (simp; omega)))).mono ?_
    rintro e wZ1 ⟨rfl, q1, rfl⟩
    cases v2
    case false =>
      go_wp2_with fail
      go_ret
      exact ⟨ret_bool (by simp), by repeat' (first | with_reducible assumption | with_reducible exact Below.refl _ _ | (with_reducible refine Below.setCell ?_ ?_ _) | (with_reducible refine Below.alloc ?_ ?_ _) | (with_reducible refine Below.drew ?_) | (with_reducible refine below_dr ?_ _) | (with_reducible refine Below.trans ?_ (Below.mono (by with_reducible assumption) ?_)) | omega | (simp; done) | (simp; omega))⟩
    case true =>
      go_wp2_with fail
      refine (C3.out _ (by repeat' (first | with_reducible assumption | with_reducible exact Below.refl _ _ | (with_reducible refine Below.setCell ?_ ?_ _) | (with_reducible refine Below.alloc ?_ ?_ _) | (with_reducible refine Below.drew ?_) | (with_reducible refine below_dr ?_ _) | (with_reducible refine Below.trans ?_ (Below.mono (by with_reducible assumption) ?_)) | omega | (simp; done) | (simp; omega)))).mono ?_
      rintro e wZ2 ⟨rfl, q2, rfl⟩
      cases v3
      case false =>
        go_wp2_with fail
        go_ret
        exact ⟨ret_bool (by simp), by repeat' (first | with_reducible assumption | with_reducible exact Below.refl _ _ | (with_reducible refine Below.setCell ?_ ?_ _) | (with_reducible refine Below.alloc ?_ ?_ _) | (with_reducible refine Below.drew ?_) | (with_reducible refine below_dr ?_ _) | (with_reducible refine Below.trans ?_ (Below.mono (by with_reducible assumption) ?_)) | omega | (simp; done) | (simp; omega))⟩
      case true =>
        go_wp2_with fail
        refine (C4.out _ (by repeat' (first | with_reducible assumption | with_reducible exact Below.refl _ _ | (with_reducible refine Below.setCell ?_ ?_ _) | (with_reducible refine Below.alloc ?_ ?_ _) | (with_reducible refine Below.drew ?_) | (with_reducible refine below_dr ?_ _) | (with_reducible refine Below.trans ?_ (Below.mono (by with_reducible assumption) ?_)) | omega | (simp; done) | (simp; omega)))).mono ?_
        rintro e wZ3 ⟨rfl, q3, rfl⟩
        cases v4
        case false =>
          go_wp2_with fail
          go_ret
          exact ⟨ret_bool (by simp), by repeat' (first | with_reducible assumption | with_reducible exact Below.refl _ _ | (with_reducible refine Below.setCell ?_ ?_ _) | (with_reducible refine Below.alloc ?_ ?_ _) | (with_reducible refine Below.drew ?_) | (with_reducible refine below_dr ?_ _) | (with_reducible refine Below.trans ?_ (Below.mono (by with_reducible assumption) ?_)) | omega | (simp; done) | (simp; omega))⟩
        case true =>
          go_wp2_with fail
          refine (C5.out _ (by repeat' (first | with_reducible assumption | with_reducible exact Below.refl _ _ | (with_reducible refine Below.setCell ?_ ?_ _) | (with_reducible refine Below.alloc ?_ ?_ _) | (with_reducible refine Below.drew ?_) | (with_reducible refine below_dr ?_ _) | (with_reducible refine Below.trans ?_ (Below.mono (by with_reducible assumption) ?_)) | omega | (simp; done) | (simp; omega)))).mono ?_
          rintro e wZ4 ⟨rfl, q4, rfl⟩
          cases v5
          case false =>
            go_wp2_with fail
            go_ret
            exact ⟨ret_bool (by simp), by repeat' (first | with_reducible assumption | with_reducible exact Below.refl _ _ | (with_reducible refine Below.setCell ?_ ?_ _) | (with_reducible refine Below.alloc ?_ ?_ _) | (with_reducible refine Below.drew ?_) | (with_reducible refine below_dr ?_ _) | (with_reducible refine Below.trans ?_ (Below.mono (by with_reducible assumption) ?_)) | omega | (simp; done) | (simp; omega))⟩
          case true =>
            go_wp2_with fail
            refine (C6.out _ (by repeat' (first | with_reducible assumption | with_reducible exact Below.refl _ _ | (with_reducible refine Below.setCell ?_ ?_ _) | (with_reducible refine Below.alloc ?_ ?_ _) | (with_reducible refine Below.drew ?_) | (with_reducible refine below_dr ?_ _) | (with_reducible refine Below.trans ?_ (Below.mono (by with_reducible assumption) ?_)) | omega | (simp; done) | (simp; omega)))).mono ?_
            rintro e wZ5 ⟨rfl, q5, rfl⟩
            cases v6
            case false =>
              go_wp2_with fail
              go_ret
              exact ⟨ret_bool (by simp), by repeat' (first | with_reducible assumption | with_reducible exact Below.refl _ _ | (with_reducible refine Below.setCell ?_ ?_ _) | (with_reducible refine Below.alloc ?_ ?_ _) | (with_reducible refine Below.drew ?_) | (with_reducible refine below_dr ?_ _) | (with_reducible refine Below.trans ?_ (Below.mono (by with_reducible assumption) ?_)) | omega | (simp; done) | (simp; omega))⟩
            case true =>
              go_wp2_with fail
              refine (C7.out _ (by repeat' (first | with_reducible assumption | with_reducible exact Below.refl _ _ | (with_reducible refine Below.setCell ?_ ?_ _) | (with_reducible refine Below.alloc ?_ ?_ _) | (with_reducible refine Below.drew ?_) | (with_reducible refine below_dr ?_ _) | (with_reducible refine Below.trans ?_ (Below.mono (by with_reducible assumption) ?_)) | omega | (simp; done) | (simp; omega)))).mono ?_
              rintro e wZ6 ⟨rfl, q6, rfl⟩
              cases v7
              case false =>
                go_wp2_with fail
                go_ret
                exact ⟨ret_bool (by simp), by repeat' (first | with_reducible assumption | with_reducible exact Below.refl _ _ | (with_reducible refine Below.setCell ?_ ?_ _) | (with_reducible refine Below.alloc ?_ ?_ _) | (with_reducible refine Below.drew ?_) | (with_reducible refine below_dr ?_ _) | (with_reducible refine Below.trans ?_ (Below.mono (by with_reducible assumption) ?_)) | omega | (simp; done) | (simp; omega))⟩
              case true =>
                cases v0
                case false =>
                  go_wp2_with fail
                  go_ret
                  exact ⟨ret_bool (by simp), by repeat' (first | with_reducible assumption | with_reducible exact Below.refl _ _ | (with_reducible refine Below.setCell ?_ ?_ _) | (with_reducible refine Below.alloc ?_ ?_ _) | (with_reducible refine Below.drew ?_) | (with_reducible refine below_dr ?_ _) | (with_reducible refine Below.trans ?_ (Below.mono (by with_reducible assumption) ?_)) | omega | (simp; done) | (simp; omega))⟩
                case true =>
                  cases v8
                  case false =>
                    go_wp2_with fail
                    go_ret
                    exact ⟨ret_bool (by simp), by repeat' (first | with_reducible assumption | with_reducible exact Below.refl _ _ | (with_reducible refine Below.setCell ?_ ?_ _) | (with_reducible refine Below.alloc ?_ ?_ _) | (with_reducible refine Below.drew ?_) | (with_reducible refine below_dr ?_ _) | (with_reducible refine Below.trans ?_ (Below.mono (by with_reducible assumption) ?_)) | omega | (simp; done) | (simp; omega))⟩
                  case true =>
                    cases v9
                    case false =>
                      go_wp2_with fail
                      go_ret
                      exact ⟨ret_bool (by simp), by repeat' (first | with_reducible assumption | with_reducible exact Below.refl _ _ | (with_reducible refine Below.setCell ?_ ?_ _) | (with_reducible refine Below.alloc ?_ ?_ _) | (with_reducible refine Below.drew ?_) | (with_reducible refine below_dr ?_ _) | (with_reducible refine Below.trans ?_ (Below.mono (by with_reducible assumption) ?_)) | omega | (simp; done) | (simp; omega))⟩
                    case true =>
                      cases v10
                      case false =>
                        go_wp2_with fail
                        go_ret
                        exact ⟨ret_bool (by simp), by repeat' (first | with_reducible assumption | with_reducible exact Below.refl _ _ | (with_reducible refine Below.setCell ?_ ?_ _) | (with_reducible refine Below.alloc ?_ ?_ _) | (with_reducible refine Below.drew ?_) | (with_reducible refine below_dr ?_ _) | (with_reducible refine Below.trans ?_ (Below.mono (by with_reducible assumption) ?_)) | omega | (simp; done) | (simp; omega))⟩
                      case true =>
                        cases v11
                        case false =>
                          go_wp2_with fail
                          go_ret
                          exact ⟨ret_bool (by simp), by repeat' (first | with_reducible assumption | with_reducible exact Below.refl _ _ | (with_reducible refine Below.setCell ?_ ?_ _) | (with_reducible refine Below.alloc ?_ ?_ _) | (with_reducible refine Below.drew ?_) | (with_reducible refine below_dr ?_ _) | (with_reducible refine Below.trans ?_ (Below.mono (by with_reducible assumption) ?_)) | omega | (simp; done) | (simp; omega))⟩
                        case true =>
                          cases v12
                          case false =>
                            go_wp2_with fail
                            go_ret
                            exact ⟨ret_bool (by simp), by repeat' (first | with_reducible assumption | with_reducible exact Below.refl _ _ | (with_reducible refine Below.setCell ?_ ?_ _) | (with_reducible refine Below.alloc ?_ ?_ _) | (with_reducible refine Below.drew ?_) | (with_reducible refine below_dr ?_ _) | (with_reducible refine Below.trans ?_ (Below.mono (by with_reducible assumption) ?_)) | omega | (simp; done) | (simp; omega))⟩
                          case true =>
                            go_wp2_with fail
                            go_ret
                            exact ⟨ret_bool (by simp), by repeat' (first | with_reducible assumption | with_reducible exact Below.refl _ _ | (with_reducible refine Below.setCell ?_ ?_ _) | (with_reducible refine Below.alloc ?_ ?_ _) | (with_reducible refine Below.drew ?_) | (with_reducible refine below_dr ?_ _) | (with_reducible refine Below.trans ?_ (Below.mono (by with_reducible assumption) ?_)) | omega | (simp; done) | (simp; omega))⟩
end Go.Proofs.Ytdikenapnncmfaa
