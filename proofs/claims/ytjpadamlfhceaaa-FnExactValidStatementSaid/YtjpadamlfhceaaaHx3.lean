/- Walks: statements are measured. -/
import Derived.Test.YtjpadamlfhceaaaHx2
namespace Go.Proofs.Ytjpadamlfhceaaa
open Go.RowKit
set_option linter.unusedVariables false
set_option maxHeartbeats 3200000 in
theorem szStatement_any (x0 : Int) (x1 : ByteArray) (x2 : ByteArray) (x3 : Int) (x4 : Int) (x5A : Option Addr) (x5c : Nat) (x5l : List DTerm) (x6 : Int) (x7 : Int) (x8A : Option Addr) (x8c : Nat) (x8l : List DTerm) (x9A : Option Addr) (x9c : Nat) (x9l : List DString) (x10A : Option Addr) (x10c : Nat) (x10l : List DInt64) (x11 : Bool) (x12 : Bool) (left : Int) (w : World) (h0 : 0 ≤ left) (h1 : left ≤ 1048576) (hz : SzStatement (x0, x1, x2, x3, x4, x5l, x6, x7, x8l, x9l, x10l, x11, x12)) (r_x5 : Row RvTerm 3 w w.heap.size x5A x5l) (r_x8 : Row RvTerm 3 w w.heap.size x8A x8l) (r_x9 : Row RvString 1 w w.heap.size x9A x9l) (r_x10 : Row RvInt64 1 w w.heap.size x10A x10l) :
    Calls Try.prog 4 #[.agg #[.int .i64 x0, .string x1, .string x2, .int .i64 x3, .int .i64 x4, .slice x5A x5l.length x5c, .int .i64 x6, .int .i64 x7, .slice x8A x8l.length x8c, .slice x9A x9l.length x9c, .slice x10A x10l.length x10c, .bool x11, .bool x12], .int .i64 left] w fun e w' => e = .returned (.int .i64 (szV (totStatement (x0, x1, x2, x3, x4, x5l, x6, x7, x8l, x9l, x10l, x11, x12)) left)) ∧ Below w.heap.size w w' := by
  have HT : totStatement (x0, x1, x2, x3, x4, x5l, x6, x7, x8l, x9l, x10l, x11, x12) = x1.size + x2.size + totLinear (x3, x4, x5l) + totLinear (x6, x7, x8l) + totRow totString x9l + totRow totInt64 x10l := by first | rfl | (simp only [totStatement, totLinear, totLinear]; omega) | (simp only [totStatement, totLinear, totLinear]; done)
  obtain ⟨V, hV⟩ : ∃ V : Int, V = szV (totStatement (x0, x1, x2, x3, x4, x5l, x6, x7, x8l, x9l, x10l, x11, x12)) left := ⟨_, rfl⟩
  rw [← hV]
  rw [HT] at hV
  clear HT
  have HV := Lib.hid hV
  clear hV
  replace hz : x1.size ≤ maxLen ∧ x2.size ≤ maxLen ∧ szRow SzTerm x5l ∧ szRow SzTerm x8l ∧ szRow SzString x9l ∧ szRow SzInt64 x10l := hz
  obtain ⟨z_x1, z_x2, z_x5, z_x8, z_x9, z_x10⟩ := hz
  unfold maxLen at z_x1
  unfold maxLen at z_x2
  obtain ⟨T0, hT0⟩ : ∃ T, T = x1.size := ⟨_, rfl⟩
  rw [← hT0] at HV
  obtain ⟨T1, hT1⟩ : ∃ T, T = x2.size := ⟨_, rfl⟩
  rw [← hT1] at HV
  obtain ⟨T2, hT2⟩ : ∃ T, T = totLinear (x3, x4, x5l) := ⟨_, rfl⟩
  rw [← hT2] at HV
  obtain ⟨T3, hT3⟩ : ∃ T, T = totLinear (x6, x7, x8l) := ⟨_, rfl⟩
  rw [← hT3] at HV
  obtain ⟨T4, hT4⟩ : ∃ T, T = totRow totString x9l := ⟨_, rfl⟩
  rw [← hT4] at HV
  obtain ⟨T5, hT5⟩ : ∃ T, T = totRow totInt64 x10l := ⟨_, rfl⟩
  rw [← hT5] at HV
  by_cases f0 : left - (x1.size : Int) < 0
  case pos =>
    have H := Lib.hid (show (-1 : Int) = V by rw [HV.out, szV_no (by omega)])
    go_enter Try.func4, Try.ntmps4
    go_wp2_with fail
    go_ret
    exact ⟨ret_i H.out, by repeat' (first | with_reducible assumption | with_reducible exact Below.refl _ _ | (with_reducible refine Below.setCell ?_ ?_ _) | (with_reducible refine Below.alloc ?_ ?_ _) | (with_reducible refine Below.drew ?_) | (with_reducible refine below_dr ?_ _) | (with_reducible refine Below.trans ?_ (Below.mono (by with_reducible assumption) ?_)) | omega | (simp; done) | (simp; omega))⟩
  case neg =>
    replace f0 : 0 ≤ left - (x1.size : Int) := by omega
    by_cases f1 : left - (x1.size : Int) - (x2.size : Int) < 0
    case pos =>
      have H := Lib.hid (show (-1 : Int) = V by rw [HV.out, szV_no (by omega)])
      go_enter Try.func4, Try.ntmps4
      go_wp2_with fail
      go_ret
      exact ⟨ret_i H.out, by repeat' (first | with_reducible assumption | with_reducible exact Below.refl _ _ | (with_reducible refine Below.setCell ?_ ?_ _) | (with_reducible refine Below.alloc ?_ ?_ _) | (with_reducible refine Below.drew ?_) | (with_reducible refine below_dr ?_ _) | (with_reducible refine Below.trans ?_ (Below.mono (by with_reducible assumption) ?_)) | omega | (simp; done) | (simp; omega))⟩
    case neg =>
      replace f1 : 0 ≤ left - (x1.size : Int) - (x2.size : Int) := by omega
      go_enter Try.func4, Try.ntmps4
      go_wp2_with fail
      refine (szLinear_any x3 x4 x5A x5c x5l (left - (x1.size : Int) - (x2.size : Int)) _ (by omega) (by omega) z_x5 ?_).mono ?_
      · exact (Row.carry (w' := _) r_x5 (by repeat' (first | with_reducible assumption | with_reducible exact Below.refl _ _ | (with_reducible refine Below.setCell ?_ ?_ _) | (with_reducible refine Below.alloc ?_ ?_ _) | (with_reducible refine Below.drew ?_) | (with_reducible refine below_dr ?_ _) | (with_reducible refine Below.trans ?_ (Below.mono (by with_reducible assumption) ?_)) | omega | (simp; done) | (simp; omega))) (Nat.le_refl _)).more (by (try simp only [World.size_setCell]); (try simp only [World.size_drew]); (try simp only [World.size_alloc]); omega)
      rw [← hT2]
      clear hT2
      by_cases f2 : (T2 : Int) ≤ left - (x1.size : Int) - (x2.size : Int)
      case neg =>
        rw [szV_no f2]
        rintro e wZ2 ⟨rfl, hbZ2⟩
        have hzZ2 := hbZ2.size
        have H := Lib.hid (show (-1 : Int) = V by rw [HV.out, szV_no (by omega)])
        go_wp2_with fail
        go_ret
        exact ⟨ret_i H.out, by repeat' (first | with_reducible assumption | with_reducible exact Below.refl _ _ | (with_reducible refine Below.setCell ?_ ?_ _) | (with_reducible refine Below.alloc ?_ ?_ _) | (with_reducible refine Below.drew ?_) | (with_reducible refine below_dr ?_ _) | (with_reducible refine Below.trans ?_ (Below.mono (by with_reducible assumption) ?_)) | omega | (simp; done) | (simp; omega))⟩
      case pos =>
        rw [szV_yes f2]
        obtain ⟨L2, hL2⟩ : ∃ L, L = left - (x1.size : Int) - (x2.size : Int) - (T2 : Int) := ⟨_, rfl⟩
        rw [← hL2]
        have hl2 : 0 ≤ L2 ∧ L2 ≤ 1048576 := by omega
        have HL2 := Lib.hid hL2
        clear hL2 f2
        obtain ⟨hl2, hm2⟩ := hl2
        rintro e wZ2 ⟨rfl, hbZ2⟩
        obtain ⟨hcZ2, hfZ2⟩ := bcell hbZ2
        have hzZ2 := hbZ2.size
        (try simp only [World.size_alloc] at hcZ2 hfZ2 hzZ2)
        have qZ2 : w.heap.size < wZ2.heap.size := by omega
        go_wp2_with fail
        refine (szLinear_any x6 x7 x8A x8c x8l (L2) _ (by omega) (by omega) z_x8 ?_).mono ?_
        · exact (Row.carry (w' := _) r_x8 (by repeat' (first | with_reducible assumption | with_reducible exact Below.refl _ _ | (with_reducible refine Below.setCell ?_ ?_ _) | (with_reducible refine Below.alloc ?_ ?_ _) | (with_reducible refine Below.drew ?_) | (with_reducible refine below_dr ?_ _) | (with_reducible refine Below.trans ?_ (Below.mono (by with_reducible assumption) ?_)) | omega | (simp; done) | (simp; omega))) (Nat.le_refl _)).more (by (try simp only [World.size_setCell]); (try simp only [World.size_drew]); (try simp only [World.size_alloc]); omega)
        rw [← hT3]
        clear hT3
        by_cases f3 : (T3 : Int) ≤ L2
        case neg =>
          rw [szV_no f3]
          rintro e wZ3 ⟨rfl, hbZ3⟩
          have hzZ3 := hbZ3.size
          have H := Lib.hid (show (-1 : Int) = V by rw [HV.out, szV_no (by have := HL2.out; omega)])
          go_wp2_with fail
          go_ret
          exact ⟨ret_i H.out, by repeat' (first | with_reducible assumption | with_reducible exact Below.refl _ _ | (with_reducible refine Below.setCell ?_ ?_ _) | (with_reducible refine Below.alloc ?_ ?_ _) | (with_reducible refine Below.drew ?_) | (with_reducible refine below_dr ?_ _) | (with_reducible refine Below.trans ?_ (Below.mono (by with_reducible assumption) ?_)) | omega | (simp; done) | (simp; omega))⟩
        case pos =>
          rw [szV_yes f3]
          obtain ⟨L3, hL3⟩ : ∃ L, L = L2 - (T3 : Int) := ⟨_, rfl⟩
          rw [← hL3]
          have hl3 : 0 ≤ L3 ∧ L3 ≤ 1048576 := by omega
          have HL3 := Lib.hid hL3
          clear hL3 f3
          obtain ⟨hl3, hm3⟩ := hl3
          rintro e wZ3 ⟨rfl, hbZ3⟩
          obtain ⟨hcZ3, hfZ3⟩ := bcell hbZ3
          have hzZ3 := hbZ3.size
          (try simp only [World.size_alloc] at hcZ3 hfZ3 hzZ3)
          have qZ3 : w.heap.size < wZ3.heap.size := by omega
          go_wp2_with fail
          refine (szStringS_any x9l x9A x9c (L3) _ (by omega) (by omega) z_x9 ?_).mono ?_
          · exact (Row.carry (w' := _) r_x9 (by repeat' (first | with_reducible assumption | with_reducible exact Below.refl _ _ | (with_reducible refine Below.setCell ?_ ?_ _) | (with_reducible refine Below.alloc ?_ ?_ _) | (with_reducible refine Below.drew ?_) | (with_reducible refine below_dr ?_ _) | (with_reducible refine Below.trans ?_ (Below.mono (by with_reducible assumption) ?_)) | omega | (simp; done) | (simp; omega))) (Nat.le_refl _)).more (by (try simp only [World.size_setCell]); (try simp only [World.size_drew]); (try simp only [World.size_alloc]); omega)
          rw [← hT4]
          clear hT4
          by_cases f4 : (T4 : Int) ≤ L3
          case neg =>
            rw [szV_no f4]
            rintro e wZ4 ⟨rfl, hbZ4⟩
            have hzZ4 := hbZ4.size
            have H := Lib.hid (show (-1 : Int) = V by rw [HV.out, szV_no (by have := HL2.out; have := HL3.out; omega)])
            go_wp2_with fail
            go_ret
            exact ⟨ret_i H.out, by repeat' (first | with_reducible assumption | with_reducible exact Below.refl _ _ | (with_reducible refine Below.setCell ?_ ?_ _) | (with_reducible refine Below.alloc ?_ ?_ _) | (with_reducible refine Below.drew ?_) | (with_reducible refine below_dr ?_ _) | (with_reducible refine Below.trans ?_ (Below.mono (by with_reducible assumption) ?_)) | omega | (simp; done) | (simp; omega))⟩
          case pos =>
            rw [szV_yes f4]
            obtain ⟨L4, hL4⟩ : ∃ L, L = L3 - (T4 : Int) := ⟨_, rfl⟩
            rw [← hL4]
            have hl4 : 0 ≤ L4 ∧ L4 ≤ 1048576 := by omega
            have HL4 := Lib.hid hL4
            clear hL4 f4
            obtain ⟨hl4, hm4⟩ := hl4
            rintro e wZ4 ⟨rfl, hbZ4⟩
            obtain ⟨hcZ4, hfZ4⟩ := bcell hbZ4
            have hzZ4 := hbZ4.size
            (try simp only [World.size_alloc] at hcZ4 hfZ4 hzZ4)
            have qZ4 : w.heap.size < wZ4.heap.size := by omega
            go_wp2_with fail
            refine (szInt64S_any x10l x10A x10c (L4) _ (by omega) (by omega) z_x10 ?_).mono ?_
            · exact (Row.carry (w' := _) r_x10 (by repeat' (first | with_reducible assumption | with_reducible exact Below.refl _ _ | (with_reducible refine Below.setCell ?_ ?_ _) | (with_reducible refine Below.alloc ?_ ?_ _) | (with_reducible refine Below.drew ?_) | (with_reducible refine below_dr ?_ _) | (with_reducible refine Below.trans ?_ (Below.mono (by with_reducible assumption) ?_)) | omega | (simp; done) | (simp; omega))) (Nat.le_refl _)).more (by (try simp only [World.size_setCell]); (try simp only [World.size_drew]); (try simp only [World.size_alloc]); omega)
            rw [← hT5]
            clear hT5
            by_cases f5 : (T5 : Int) ≤ L4
            case neg =>
              rw [szV_no f5]
              rintro e wZ5 ⟨rfl, hbZ5⟩
              have hzZ5 := hbZ5.size
              have H := Lib.hid (show (-1 : Int) = V by rw [HV.out, szV_no (by have := HL2.out; have := HL3.out; have := HL4.out; omega)])
              go_wp2_with fail
              go_ret
              exact ⟨ret_i H.out, by repeat' (first | with_reducible assumption | with_reducible exact Below.refl _ _ | (with_reducible refine Below.setCell ?_ ?_ _) | (with_reducible refine Below.alloc ?_ ?_ _) | (with_reducible refine Below.drew ?_) | (with_reducible refine below_dr ?_ _) | (with_reducible refine Below.trans ?_ (Below.mono (by with_reducible assumption) ?_)) | omega | (simp; done) | (simp; omega))⟩
            case pos =>
              rw [szV_yes f5]
              obtain ⟨L5, hL5⟩ : ∃ L, L = L4 - (T5 : Int) := ⟨_, rfl⟩
              rw [← hL5]
              have hl5 : 0 ≤ L5 ∧ L5 ≤ 1048576 := by omega
              have HL5 := Lib.hid hL5
              clear hL5 f5
              obtain ⟨hl5, hm5⟩ := hl5
              rintro e wZ5 ⟨rfl, hbZ5⟩
              obtain ⟨hcZ5, hfZ5⟩ := bcell hbZ5
              have hzZ5 := hbZ5.size
              (try simp only [World.size_alloc] at hcZ5 hfZ5 hzZ5)
              have qZ5 : w.heap.size < wZ5.heap.size := by omega
              have H := Lib.hid (show L5 = V by rw [HV.out, szV_yes (by have := HL2.out; have := HL3.out; have := HL4.out; have := HL5.out; omega)]; have := HL2.out; have := HL3.out; have := HL4.out; have := HL5.out; omega)
              go_wp2_with fail
              go_ret
              exact ⟨ret_i H.out, by repeat' (first | with_reducible assumption | with_reducible exact Below.refl _ _ | (with_reducible refine Below.setCell ?_ ?_ _) | (with_reducible refine Below.alloc ?_ ?_ _) | (with_reducible refine Below.drew ?_) | (with_reducible refine below_dr ?_ _) | (with_reducible refine Below.trans ?_ (Below.mono (by with_reducible assumption) ?_)) | omega | (simp; done) | (simp; omega))⟩
end Go.Proofs.Ytjpadamlfhceaaa
