/- Walks: they are measured. -/
import Derived.Test.YtdikenapnncmfaaHz2
namespace Go.Proofs.Ytdikenapnncmfaa
open Go.RowKit
set_option linter.unusedVariables false
set_option maxHeartbeats 3200000 in
theorem szHinter_any (x0 : Int) (x1A : Option Addr) (x1c : Nat) (x1l : List DPt) (x2A : Option Addr) (x2c : Nat) (x2l : List DPt) (x3A : Option Addr) (x3c : Nat) (x3l : List DBool) (x4A : Option Addr) (x4c : Nat) (x4l : List DBool) (x5A : Option Addr) (x5c : Nat) (x5l : List DInt64) (x6A : Option Addr) (x6c : Nat) (x6l : List DInt64) (x7A : Option Addr) (x7c : Nat) (x7l : List DInt64) (x8 : Bool) (x9 : Int) (x10 : Int) (x11 : Int) (x12 : Int) (left : Int) (w : World) (h0 : 0 ≤ left) (h1 : left ≤ 1048576) (hz : SzHinter (x0, x1l, x2l, x3l, x4l, x5l, x6l, x7l, x8, x9, x10, x11, x12)) (r_x1 : Row RvPt 2 w w.heap.size x1A x1l) (r_x2 : Row RvPt 2 w w.heap.size x2A x2l) (r_x3 : Row RvBool 1 w w.heap.size x3A x3l) (r_x4 : Row RvBool 1 w w.heap.size x4A x4l) (r_x5 : Row RvInt64 1 w w.heap.size x5A x5l) (r_x6 : Row RvInt64 1 w w.heap.size x6A x6l) (r_x7 : Row RvInt64 1 w w.heap.size x7A x7l) :
    Calls Try.prog 44 #[.agg #[.int .i64 x0, .slice x1A x1l.length x1c, .slice x2A x2l.length x2c, .slice x3A x3l.length x3c, .slice x4A x4l.length x4c, .slice x5A x5l.length x5c, .slice x6A x6l.length x6c, .slice x7A x7l.length x7c, .bool x8, .int .i64 x9, .int .i64 x10, .int .i64 x11, .int .i64 x12], .int .i64 left] w fun e w' => e = .returned (.int .i64 (szV (totHinter (x0, x1l, x2l, x3l, x4l, x5l, x6l, x7l, x8, x9, x10, x11, x12)) left)) ∧ Below w.heap.size w w' := by
  have HT : totHinter (x0, x1l, x2l, x3l, x4l, x5l, x6l, x7l, x8, x9, x10, x11, x12) = totRow totPt x1l + totRow totPt x2l + totRow totBool x3l + totRow totBool x4l + totRow totInt64 x5l + totRow totInt64 x6l + totRow totInt64 x7l := by first | rfl | (simp only [totHinter]; omega) | (simp only [totHinter]; done)
  obtain ⟨V, hV⟩ : ∃ V : Int, V = szV (totHinter (x0, x1l, x2l, x3l, x4l, x5l, x6l, x7l, x8, x9, x10, x11, x12)) left := ⟨_, rfl⟩
  rw [← hV]
  rw [HT] at hV
  clear HT
  have HV := Lib.hid hV
  clear hV
  replace hz : szRow SzPt x1l ∧ szRow SzPt x2l ∧ szRow SzBool x3l ∧ szRow SzBool x4l ∧ szRow SzInt64 x5l ∧ szRow SzInt64 x6l ∧ szRow SzInt64 x7l := hz
  obtain ⟨z_x1, z_x2, z_x3, z_x4, z_x5, z_x6, z_x7⟩ := hz
  obtain ⟨T0, hT0⟩ : ∃ T, T = totRow totPt x1l := ⟨_, rfl⟩
  rw [← hT0] at HV
  obtain ⟨T1, hT1⟩ : ∃ T, T = totRow totPt x2l := ⟨_, rfl⟩
  rw [← hT1] at HV
  obtain ⟨T2, hT2⟩ : ∃ T, T = totRow totBool x3l := ⟨_, rfl⟩
  rw [← hT2] at HV
  obtain ⟨T3, hT3⟩ : ∃ T, T = totRow totBool x4l := ⟨_, rfl⟩
  rw [← hT3] at HV
  obtain ⟨T4, hT4⟩ : ∃ T, T = totRow totInt64 x5l := ⟨_, rfl⟩
  rw [← hT4] at HV
  obtain ⟨T5, hT5⟩ : ∃ T, T = totRow totInt64 x6l := ⟨_, rfl⟩
  rw [← hT5] at HV
  obtain ⟨T6, hT6⟩ : ∃ T, T = totRow totInt64 x7l := ⟨_, rfl⟩
  rw [← hT6] at HV
  go_enter Try.func44, Try.ntmps44
  go_wp2_with fail
  refine (szPtS_any x1l x1A x1c (left) _ (by omega) (by omega) z_x1 ?_).mono ?_
  · exact (Row.carry (w' := _) r_x1 (by repeat' (first | with_reducible assumption | with_reducible exact Below.refl _ _ | (with_reducible refine Below.setCell ?_ ?_ _) | (with_reducible refine Below.alloc ?_ ?_ _) | (with_reducible refine Below.drew ?_) | (with_reducible refine below_dr ?_ _) | (with_reducible refine Below.trans ?_ (Below.mono (by with_reducible assumption) ?_)) | omega | (simp; done) | (simp; omega))) (Nat.le_refl _)).more (by (try simp only [World.size_setCell]); (try simp only [World.size_drew]); (try simp only [World.size_alloc]); omega)
  rw [← hT0]
  clear hT0
  by_cases f0 : (T0 : Int) ≤ left
  case neg =>
    rw [szV_no f0]
    rintro e wZ0 ⟨rfl, hbZ0⟩
    have hzZ0 := hbZ0.size
    have H := Lib.hid (show (-1 : Int) = V by rw [HV.out, szV_no (by omega)])
    go_wp2_with fail
    go_ret
    exact ⟨ret_i H.out, by repeat' (first | with_reducible assumption | with_reducible exact Below.refl _ _ | (with_reducible refine Below.setCell ?_ ?_ _) | (with_reducible refine Below.alloc ?_ ?_ _) | (with_reducible refine Below.drew ?_) | (with_reducible refine below_dr ?_ _) | (with_reducible refine Below.trans ?_ (Below.mono (by with_reducible assumption) ?_)) | omega | (simp; done) | (simp; omega))⟩
  case pos =>
    rw [szV_yes f0]
    obtain ⟨L0, hL0⟩ : ∃ L, L = left - (T0 : Int) := ⟨_, rfl⟩
    rw [← hL0]
    have hl0 : 0 ≤ L0 ∧ L0 ≤ 1048576 := by omega
    have HL0 := Lib.hid hL0
    clear hL0 f0
    obtain ⟨hl0, hm0⟩ := hl0
    rintro e wZ0 ⟨rfl, hbZ0⟩
    obtain ⟨hcZ0, hfZ0⟩ := bcell hbZ0
    have hzZ0 := hbZ0.size
    (try simp only [World.size_alloc] at hcZ0 hfZ0 hzZ0)
    have qZ0 : w.heap.size < wZ0.heap.size := by omega
    go_wp2_with fail
    refine (szPtS_any x2l x2A x2c (L0) _ (by omega) (by omega) z_x2 ?_).mono ?_
    · exact (Row.carry (w' := _) r_x2 (by repeat' (first | with_reducible assumption | with_reducible exact Below.refl _ _ | (with_reducible refine Below.setCell ?_ ?_ _) | (with_reducible refine Below.alloc ?_ ?_ _) | (with_reducible refine Below.drew ?_) | (with_reducible refine below_dr ?_ _) | (with_reducible refine Below.trans ?_ (Below.mono (by with_reducible assumption) ?_)) | omega | (simp; done) | (simp; omega))) (Nat.le_refl _)).more (by (try simp only [World.size_setCell]); (try simp only [World.size_drew]); (try simp only [World.size_alloc]); omega)
    rw [← hT1]
    clear hT1
    by_cases f1 : (T1 : Int) ≤ L0
    case neg =>
      rw [szV_no f1]
      rintro e wZ1 ⟨rfl, hbZ1⟩
      have hzZ1 := hbZ1.size
      have H := Lib.hid (show (-1 : Int) = V by rw [HV.out, szV_no (by have := HL0.out; omega)])
      go_wp2_with fail
      go_ret
      exact ⟨ret_i H.out, by repeat' (first | with_reducible assumption | with_reducible exact Below.refl _ _ | (with_reducible refine Below.setCell ?_ ?_ _) | (with_reducible refine Below.alloc ?_ ?_ _) | (with_reducible refine Below.drew ?_) | (with_reducible refine below_dr ?_ _) | (with_reducible refine Below.trans ?_ (Below.mono (by with_reducible assumption) ?_)) | omega | (simp; done) | (simp; omega))⟩
    case pos =>
      rw [szV_yes f1]
      obtain ⟨L1, hL1⟩ : ∃ L, L = L0 - (T1 : Int) := ⟨_, rfl⟩
      rw [← hL1]
      have hl1 : 0 ≤ L1 ∧ L1 ≤ 1048576 := by omega
      have HL1 := Lib.hid hL1
      clear hL1 f1
      obtain ⟨hl1, hm1⟩ := hl1
      rintro e wZ1 ⟨rfl, hbZ1⟩
      obtain ⟨hcZ1, hfZ1⟩ := bcell hbZ1
      have hzZ1 := hbZ1.size
      (try simp only [World.size_alloc] at hcZ1 hfZ1 hzZ1)
      have qZ1 : w.heap.size < wZ1.heap.size := by omega
      go_wp2_with fail
      refine (szBoolS_any x3l x3A x3c (L1) _ (by omega) (by omega) z_x3 ?_).mono ?_
      · exact (Row.carry (w' := _) r_x3 (by repeat' (first | with_reducible assumption | with_reducible exact Below.refl _ _ | (with_reducible refine Below.setCell ?_ ?_ _) | (with_reducible refine Below.alloc ?_ ?_ _) | (with_reducible refine Below.drew ?_) | (with_reducible refine below_dr ?_ _) | (with_reducible refine Below.trans ?_ (Below.mono (by with_reducible assumption) ?_)) | omega | (simp; done) | (simp; omega))) (Nat.le_refl _)).more (by (try simp only [World.size_setCell]); (try simp only [World.size_drew]); (try simp only [World.size_alloc]); omega)
      rw [← hT2]
      clear hT2
      by_cases f2 : (T2 : Int) ≤ L1
      case neg =>
        rw [szV_no f2]
        rintro e wZ2 ⟨rfl, hbZ2⟩
        have hzZ2 := hbZ2.size
        have H := Lib.hid (show (-1 : Int) = V by rw [HV.out, szV_no (by have := HL0.out; have := HL1.out; omega)])
        go_wp2_with fail
        go_ret
        exact ⟨ret_i H.out, by repeat' (first | with_reducible assumption | with_reducible exact Below.refl _ _ | (with_reducible refine Below.setCell ?_ ?_ _) | (with_reducible refine Below.alloc ?_ ?_ _) | (with_reducible refine Below.drew ?_) | (with_reducible refine below_dr ?_ _) | (with_reducible refine Below.trans ?_ (Below.mono (by with_reducible assumption) ?_)) | omega | (simp; done) | (simp; omega))⟩
      case pos =>
        rw [szV_yes f2]
        obtain ⟨L2, hL2⟩ : ∃ L, L = L1 - (T2 : Int) := ⟨_, rfl⟩
        rw [← hL2]
        have hl2 : 0 ≤ L2 ∧ L2 ≤ 1048576 := by omega
        have HL2 := Lib.hid hL2
        clear hL2 f2
        obtain ⟨hl2, hm2⟩ := hl2
        rintro e wZ2 ⟨rfl, hbZ2⟩
        obtain ⟨hcZ2, hfZ2⟩ := bcell hbZ2
        have hzZ2 := hbZ2.size
        (try simp only [World.size_alloc] at hcZ2 hfZ2 hzZ2)
        have qZ2 : w.heap.size < wZ2.heap.size := by omega
        go_wp2_with fail
        refine (szBoolS_any x4l x4A x4c (L2) _ (by omega) (by omega) z_x4 ?_).mono ?_
        · exact (Row.carry (w' := _) r_x4 (by repeat' (first | with_reducible assumption | with_reducible exact Below.refl _ _ | (with_reducible refine Below.setCell ?_ ?_ _) | (with_reducible refine Below.alloc ?_ ?_ _) | (with_reducible refine Below.drew ?_) | (with_reducible refine below_dr ?_ _) | (with_reducible refine Below.trans ?_ (Below.mono (by with_reducible assumption) ?_)) | omega | (simp; done) | (simp; omega))) (Nat.le_refl _)).more (by (try simp only [World.size_setCell]); (try simp only [World.size_drew]); (try simp only [World.size_alloc]); omega)
        rw [← hT3]
        clear hT3
        by_cases f3 : (T3 : Int) ≤ L2
        case neg =>
          rw [szV_no f3]
          rintro e wZ3 ⟨rfl, hbZ3⟩
          have hzZ3 := hbZ3.size
          have H := Lib.hid (show (-1 : Int) = V by rw [HV.out, szV_no (by have := HL0.out; have := HL1.out; have := HL2.out; omega)])
          go_wp2_with fail
          go_ret
          exact ⟨ret_i H.out, by repeat' (first | with_reducible assumption | with_reducible exact Below.refl _ _ | (with_reducible refine Below.setCell ?_ ?_ _) | (with_reducible refine Below.alloc ?_ ?_ _) | (with_reducible refine Below.drew ?_) | (with_reducible refine below_dr ?_ _) | (with_reducible refine Below.trans ?_ (Below.mono (by with_reducible assumption) ?_)) | omega | (simp; done) | (simp; omega))⟩
        case pos =>
          rw [szV_yes f3]
          obtain ⟨L3, hL3⟩ : ∃ L, L = L2 - (T3 : Int) := ⟨_, rfl⟩
          rw [← hL3]
          have hl3 : 0 ≤ L3 ∧ L3 ≤ 1048576 := by omega
          have HL3 := Lib.hid hL3
          clear hL3 f3
          obtain ⟨hl3, hm3⟩ := hl3
          rintro e wZ3 ⟨rfl, hbZ3⟩
          obtain ⟨hcZ3, hfZ3⟩ := bcell hbZ3
          have hzZ3 := hbZ3.size
          (try simp only [World.size_alloc] at hcZ3 hfZ3 hzZ3)
          have qZ3 : w.heap.size < wZ3.heap.size := by omega
          go_wp2_with fail
          refine (szInt64S_any x5l x5A x5c (L3) _ (by omega) (by omega) z_x5 ?_).mono ?_
          · exact (Row.carry (w' := _) r_x5 (by repeat' (first | with_reducible assumption | with_reducible exact Below.refl _ _ | (with_reducible refine Below.setCell ?_ ?_ _) | (with_reducible refine Below.alloc ?_ ?_ _) | (with_reducible refine Below.drew ?_) | (with_reducible refine below_dr ?_ _) | (with_reducible refine Below.trans ?_ (Below.mono (by with_reducible assumption) ?_)) | omega | (simp; done) | (simp; omega))) (Nat.le_refl _)).more (by (try simp only [World.size_setCell]); (try simp only [World.size_drew]); (try simp only [World.size_alloc]); omega)
          rw [← hT4]
          clear hT4
          by_cases f4 : (T4 : Int) ≤ L3
          case neg =>
            rw [szV_no f4]
            rintro e wZ4 ⟨rfl, hbZ4⟩
            have hzZ4 := hbZ4.size
            have H := Lib.hid (show (-1 : Int) = V by rw [HV.out, szV_no (by have := HL0.out; have := HL1.out; have := HL2.out; have := HL3.out; omega)])
            go_wp2_with fail
            go_ret
            exact ⟨ret_i H.out, by repeat' (first | with_reducible assumption | with_reducible exact Below.refl _ _ | (with_reducible refine Below.setCell ?_ ?_ _) | (with_reducible refine Below.alloc ?_ ?_ _) | (with_reducible refine Below.drew ?_) | (with_reducible refine below_dr ?_ _) | (with_reducible refine Below.trans ?_ (Below.mono (by with_reducible assumption) ?_)) | omega | (simp; done) | (simp; omega))⟩
          case pos =>
            rw [szV_yes f4]
            obtain ⟨L4, hL4⟩ : ∃ L, L = L3 - (T4 : Int) := ⟨_, rfl⟩
            rw [← hL4]
            have hl4 : 0 ≤ L4 ∧ L4 ≤ 1048576 := by omega
            have HL4 := Lib.hid hL4
            clear hL4 f4
            obtain ⟨hl4, hm4⟩ := hl4
            rintro e wZ4 ⟨rfl, hbZ4⟩
            obtain ⟨hcZ4, hfZ4⟩ := bcell hbZ4
            have hzZ4 := hbZ4.size
            (try simp only [World.size_alloc] at hcZ4 hfZ4 hzZ4)
            have qZ4 : w.heap.size < wZ4.heap.size := by omega
            go_wp2_with fail
            refine (szInt64S_any x6l x6A x6c (L4) _ (by omega) (by omega) z_x6 ?_).mono ?_
            · exact (Row.carry (w' := _) r_x6 (by repeat' (first | with_reducible assumption | with_reducible exact Below.refl _ _ | (with_reducible refine Below.setCell ?_ ?_ _) | (with_reducible refine Below.alloc ?_ ?_ _) | (with_reducible refine Below.drew ?_) | (with_reducible refine below_dr ?_ _) | (with_reducible refine Below.trans ?_ (Below.mono (by with_reducible assumption) ?_)) | omega | (simp; done) | (simp; omega))) (Nat.le_refl _)).more (by (try simp only [World.size_setCell]); (try simp only [World.size_drew]); (try simp only [World.size_alloc]); omega)
            rw [← hT5]
            clear hT5
            by_cases f5 : (T5 : Int) ≤ L4
            case neg =>
              rw [szV_no f5]
              rintro e wZ5 ⟨rfl, hbZ5⟩
              have hzZ5 := hbZ5.size
              have H := Lib.hid (show (-1 : Int) = V by rw [HV.out, szV_no (by have := HL0.out; have := HL1.out; have := HL2.out; have := HL3.out; have := HL4.out; omega)])
              go_wp2_with fail
              go_ret
              exact ⟨ret_i H.out, by repeat' (first | with_reducible assumption | with_reducible exact Below.refl _ _ | (with_reducible refine Below.setCell ?_ ?_ _) | (with_reducible refine Below.alloc ?_ ?_ _) | (with_reducible refine Below.drew ?_) | (with_reducible refine below_dr ?_ _) | (with_reducible refine Below.trans ?_ (Below.mono (by with_reducible assumption) ?_)) | omega | (simp; done) | (simp; omega))⟩
            case pos =>
              rw [szV_yes f5]
              obtain ⟨L5, hL5⟩ : ∃ L, L = L4 - (T5 : Int) := ⟨_, rfl⟩
              rw [← hL5]
              have hl5 : 0 ≤ L5 ∧ L5 ≤ 1048576 := by omega
              have HL5 := Lib.hid hL5
              clear hL5 f5
              obtain ⟨hl5, hm5⟩ := hl5
              rintro e wZ5 ⟨rfl, hbZ5⟩
              obtain ⟨hcZ5, hfZ5⟩ := bcell hbZ5
              have hzZ5 := hbZ5.size
              (try simp only [World.size_alloc] at hcZ5 hfZ5 hzZ5)
              have qZ5 : w.heap.size < wZ5.heap.size := by omega
              go_wp2_with fail
              refine (szInt64S_any x7l x7A x7c (L5) _ (by omega) (by omega) z_x7 ?_).mono ?_
              · exact (Row.carry (w' := _) r_x7 (by repeat' (first | with_reducible assumption | with_reducible exact Below.refl _ _ | (with_reducible refine Below.setCell ?_ ?_ _) | (with_reducible refine Below.alloc ?_ ?_ _) | (with_reducible refine Below.drew ?_) | (with_reducible refine below_dr ?_ _) | (with_reducible refine Below.trans ?_ (Below.mono (by with_reducible assumption) ?_)) | omega | (simp; done) | (simp; omega))) (Nat.le_refl _)).more (by (try simp only [World.size_setCell]); (try simp only [World.size_drew]); (try simp only [World.size_alloc]); omega)
              rw [← hT6]
              clear hT6
              by_cases f6 : (T6 : Int) ≤ L5
              case neg =>
                rw [szV_no f6]
                rintro e wZ6 ⟨rfl, hbZ6⟩
                have hzZ6 := hbZ6.size
                have H := Lib.hid (show (-1 : Int) = V by rw [HV.out, szV_no (by have := HL0.out; have := HL1.out; have := HL2.out; have := HL3.out; have := HL4.out; have := HL5.out; omega)])
                go_wp2_with fail
                go_ret
                exact ⟨ret_i H.out, by repeat' (first | with_reducible assumption | with_reducible exact Below.refl _ _ | (with_reducible refine Below.setCell ?_ ?_ _) | (with_reducible refine Below.alloc ?_ ?_ _) | (with_reducible refine Below.drew ?_) | (with_reducible refine below_dr ?_ _) | (with_reducible refine Below.trans ?_ (Below.mono (by with_reducible assumption) ?_)) | omega | (simp; done) | (simp; omega))⟩
              case pos =>
                rw [szV_yes f6]
                obtain ⟨L6, hL6⟩ : ∃ L, L = L5 - (T6 : Int) := ⟨_, rfl⟩
                rw [← hL6]
                have hl6 : 0 ≤ L6 ∧ L6 ≤ 1048576 := by omega
                have HL6 := Lib.hid hL6
                clear hL6 f6
                obtain ⟨hl6, hm6⟩ := hl6
                rintro e wZ6 ⟨rfl, hbZ6⟩
                obtain ⟨hcZ6, hfZ6⟩ := bcell hbZ6
                have hzZ6 := hbZ6.size
                (try simp only [World.size_alloc] at hcZ6 hfZ6 hzZ6)
                have qZ6 : w.heap.size < wZ6.heap.size := by omega
                have H := Lib.hid (show L6 = V by rw [HV.out, szV_yes (by have := HL0.out; have := HL1.out; have := HL2.out; have := HL3.out; have := HL4.out; have := HL5.out; have := HL6.out; omega)]; have := HL0.out; have := HL1.out; have := HL2.out; have := HL3.out; have := HL4.out; have := HL5.out; have := HL6.out; omega)
                go_wp2_with fail
                go_ret
                exact ⟨ret_i H.out, by repeat' (first | with_reducible assumption | with_reducible exact Below.refl _ _ | (with_reducible refine Below.setCell ?_ ?_ _) | (with_reducible refine Below.alloc ?_ ?_ _) | (with_reducible refine Below.drew ?_) | (with_reducible refine below_dr ?_ _) | (with_reducible refine Below.trans ?_ (Below.mono (by with_reducible assumption) ?_)) | omega | (simp; done) | (simp; omega))⟩
end Go.Proofs.Ytdikenapnncmfaa
