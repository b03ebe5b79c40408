/- Walks: they are measured. -/
import Derived.Test.YtonoldjhfhngfaaDoorSy1
import Derived.Test.YtonoldjhfhngfaaDoorMem
import Derived.Test.YtonoldjhfhngfaaDoorAw
import Derived.IntWalk
namespace Go.Proofs.YtonoldjhfhngfaaDoor
open Go.RowKit
set_option linter.unusedVariables false
set_option maxHeartbeats 3200000 in
theorem szTerm_any (x0 : ByteArray) (x1 : Int) (x2 : Int) (left : Int) (w : World) (h0 : 0 ≤ left) (h1 : left ≤ 1048576) (hz : SzTerm (x0, x1, x2))  :
    Calls Tryd.prog 98 #[.agg #[.string x0, .int .i64 x1, .int .i64 x2], .int .i64 left] w fun e w' => e = .returned (.int .i64 (szV (totTerm (x0, x1, x2)) left)) ∧ Below w.heap.size w w' := by
  have HT : totTerm (x0, x1, x2) = x0.size := by first | rfl | (simp only [totTerm]; omega) | (simp only [totTerm]; done)
  obtain ⟨V, hV⟩ : ∃ V : Int, V = szV (totTerm (x0, x1, x2)) left := ⟨_, rfl⟩
  rw [← hV]
  rw [HT] at hV
  clear HT
  have HV := Lib.hid hV
  clear hV
  replace hz : x0.size ≤ maxLen := hz
  have z_x0 := hz
  unfold maxLen at z_x0
  obtain ⟨T0, hT0⟩ : ∃ T, T = x0.size := ⟨_, rfl⟩
  rw [← hT0] at HV
  by_cases f0 : left - (x0.size : Int) < 0
  case pos =>
    have H := Lib.hid (show (-1 : Int) = V by rw [HV.out, szV_no (by omega)])
    go_enter Tryd.func98, Tryd.ntmps98
    go_wp2_with fail
    go_ret
    exact ⟨ret_i H.out, by repeat' (first | with_reducible assumption | with_reducible exact Below.refl _ _ | (with_reducible refine Below.setCell ?_ ?_ _) | (with_reducible refine Below.alloc ?_ ?_ _) | (with_reducible refine Below.drew ?_) | (with_reducible refine below_dr ?_ _) | (with_reducible refine Below.trans ?_ (Below.mono (by with_reducible assumption) ?_)) | omega | (simp; done) | (simp; omega))⟩
  case neg =>
    replace f0 : 0 ≤ left - (x0.size : Int) := by omega
    have H := Lib.hid (show left - (x0.size : Int) = V by rw [HV.out, szV_yes (by omega)]; omega)
    go_enter Tryd.func98, Tryd.ntmps98
    go_wp2_with fail
    go_ret
    exact ⟨ret_i H.out, by repeat' (first | with_reducible assumption | with_reducible exact Below.refl _ _ | (with_reducible refine Below.setCell ?_ ?_ _) | (with_reducible refine Below.alloc ?_ ?_ _) | (with_reducible refine Below.drew ?_) | (with_reducible refine below_dr ?_ _) | (with_reducible refine Below.trans ?_ (Below.mono (by with_reducible assumption) ?_)) | omega | (simp; done) | (simp; omega))⟩
set_option maxHeartbeats 3200000 in
theorem szTermS_any (l : List DTerm) (A : Option Addr) (c : Nat) (left : Int) (w : World) (h0 : 0 ≤ left) (h1 : left ≤ 1048576) (hz : szRow SzTerm l) (r : Row RvTerm 3 w w.heap.size A l) :
    Calls Tryd.prog 77 #[.slice A l.length c, .int .i64 left] w fun e w' => e = .returned (.int .i64 (szV (totRow totTerm l) left)) ∧ Below w.heap.size w w' := by
  obtain ⟨hlen, hel⟩ := hz
  have HEL := Lib.hid hel
  clear hel
  obtain ⟨V, hV⟩ : ∃ V : Int, V = szV (totRow totTerm l) left := ⟨_, rfl⟩
  have HV := Lib.hid hV
  rw [← hV]
  clear hV
  have hln := totRow_len totTerm l
  unfold maxLen at hlen
  by_cases f : (l.length : Int) ≤ left
  case neg =>
    have H := Lib.hid (show (-1 : Int) = V by rw [HV.out, szV_no (by omega)])
    have f2 : left - (l.length : Int) < 0 := by omega
    generalize l.length = n at *
    go_enter Tryd.func77, Tryd.ntmps77
    go_wp2_with fail
    go_ret
    exact ⟨ret_i H.out, by repeat' (first | with_reducible assumption | with_reducible exact Below.refl _ _ | (with_reducible refine Below.setCell ?_ ?_ _) | (with_reducible refine Below.alloc ?_ ?_ _) | (with_reducible refine Below.drew ?_) | (with_reducible refine below_dr ?_ _) | (with_reducible refine Below.trans ?_ (Below.mono (by with_reducible assumption) ?_)) | omega | (simp; done) | (simp; omega))⟩
  case pos =>
    have f2 : 0 ≤ left - (l.length : Int) := by omega
    have HALL := Lib.hid (totUp_all totTerm l)
    obtain ⟨n, hn⟩ : ∃ n, n = l.length := ⟨_, rfl⟩
    rw [← hn] at hlen f f2 HALL ⊢
    have HN := Lib.hid hn
    clear hn hln
    go_enter Tryd.func77, Tryd.ntmps77
    go_wp2_with fail
    go_loopw [1, 5] (fun v i wr => ∃ k : Nat, k ≤ n ∧ i = .int .i64 (k : Int) ∧ v = .int .i64 (left - (n + totUp totTerm l k : Nat)) ∧ ((n + totUp totTerm l k : Nat) : Int) ≤ left ∧ Below w.heap.size w wr) (fun _ i _ => n - (intOf i).toNat)
    case atStart => exact ⟨0, Nat.zero_le _, rfl, by simp [totUp], by simp [totUp]; omega, by repeat' (first | with_reducible assumption | with_reducible exact Below.refl _ _ | (with_reducible refine Below.setCell ?_ ?_ _) | (with_reducible refine Below.alloc ?_ ?_ _) | (with_reducible refine Below.drew ?_) | (with_reducible refine below_dr ?_ _) | (with_reducible refine Below.trans ?_ (Below.mono (by with_reducible assumption) ?_)) | omega | (simp; done) | (simp; omega))⟩
    case round =>
      obtain ⟨k, hk, rfl, rfl, hle, hbl⟩ := hrel
      have zr := hbl.size
      by_cases hlt : k < n
      case pos =>
        obtain ⟨⟨x0, x1, x2⟩, ha⟩ : ∃ a, l[k]? = some a := ⟨l[k]'(by have := HN.out; omega), List.getElem?_eq_getElem (by have := HN.out; omega)⟩
        obtain ⟨g, o, row, rfl, hg, hR, hcc⟩ := (Row.carry (w' := wr) r hbl (Nat.le_refl _)).elem ha
        obtain rfl := hR
        have c0 : wr.cell? ⟨g, o + k * 3, none⟩ = some (.string x0) := hcc 0 _ rfl
        have c1 : wr.cell? ⟨g, o + k * 3 + 1, none⟩ = some (.int .i64 x1) := hcc 1 _ rfl
        have c2 : wr.cell? ⟨g, o + k * 3 + 2, none⟩ = some (.int .i64 x2) := hcc 2 _ rfl
        clear hcc
        have hsz := HEL.out k _ ha
        have hts := totUp_snoc (f := totTerm) ha
        have htl := totUp_le totTerm l (k + 1)
        have hgw : g < wr.heap.size := by omega
        have hki : (k : Int) < (n : Int) := by omega
        clear ha
        rw [← HN.out] at htl
        obtain ⟨T, hT⟩ : ∃ T, T = totUp totTerm l k := ⟨_, rfl⟩
        rw [← hT] at hts hle ⊢
        obtain ⟨U, hUU⟩ : ∃ U, U = totTerm (x0, x1, x2) := ⟨_, rfl⟩
        rw [← hUU] at hts
        have HT := Lib.hid hts
        have HTL := Lib.hid htl
        clear hT htl
        by_cases fu : (U : Int) ≤ left - ((n + T : Nat) : Int)
        case pos =>
          go_wp2_with fail
          refine (szTerm_any x0 x1 x2 (left - ((n + T : Nat) : Int)) _ (by omega) (by omega) hsz ).mono ?_
          rw [← hUU]
          rw [szV_yes (by omega)]
          rintro e wZ ⟨rfl, hbZ⟩
          have fy : 0 ≤ left - ((n + T : Nat) : Int) - (U : Int) := by omega
          go_wp2_with fail
          go_roundw
          case rel => exact ⟨k + 1, by omega, by go_num, by rw [HT.out]; congr 1; omega, by rw [HT.out]; omega, by repeat' (first | with_reducible assumption | with_reducible exact Below.refl _ _ | (with_reducible refine Below.setCell ?_ ?_ _) | (with_reducible refine Below.alloc ?_ ?_ _) | (with_reducible refine Below.drew ?_) | (with_reducible refine below_dr ?_ _) | (with_reducible refine Below.trans ?_ (Below.mono (by with_reducible assumption) ?_)) | omega | (simp; done) | (simp; omega))⟩
          case measure => simp [intOf]; omega
        case neg =>
          have H := Lib.hid (show (-1 : Int) = V by rw [HV.out, szV_no (by have := HTL.out; have := HT.out; omega)])
          go_wp2_with fail
          refine (szTerm_any x0 x1 x2 (left - ((n + T : Nat) : Int)) _ (by omega) (by omega) hsz ).mono ?_
          rw [← hUU]
          rw [szV_no (by omega)]
          rintro e wZ ⟨rfl, hbZ⟩
          go_wp2_with fail
          go_ret
          exact ⟨ret_i H.out, by repeat' (first | with_reducible assumption | with_reducible exact Below.refl _ _ | (with_reducible refine Below.setCell ?_ ?_ _) | (with_reducible refine Below.alloc ?_ ?_ _) | (with_reducible refine Below.drew ?_) | (with_reducible refine below_dr ?_ _) | (with_reducible refine Below.trans ?_ (Below.mono (by with_reducible assumption) ?_)) | omega | (simp; done) | (simp; omega))⟩
      case neg =>
        obtain rfl : k = n := by omega
        have H := Lib.hid (show left - ((k + totUp totTerm l k : Nat) : Int) = V by rw [HV.out, HALL.out, szV_yes (by rw [← HALL.out]; exact hle)])
        go_wp2_with fail
        go_ret
        exact ⟨ret_i H.out, by repeat' (first | with_reducible assumption | with_reducible exact Below.refl _ _ | (with_reducible refine Below.setCell ?_ ?_ _) | (with_reducible refine Below.alloc ?_ ?_ _) | (with_reducible refine Below.drew ?_) | (with_reducible refine below_dr ?_ _) | (with_reducible refine Below.trans ?_ (Below.mono (by with_reducible assumption) ?_)) | omega | (simp; done) | (simp; omega))⟩
set_option maxHeartbeats 3200000 in
theorem szLinear_any (x0 : Int) (x1 : Int) (x2A : Option Addr) (x2c : Nat) (x2l : List DTerm) (left : Int) (w : World) (h0 : 0 ≤ left) (h1 : left ≤ 1048576) (hz : SzLinear (x0, x1, x2l)) (r_x2 : Row RvTerm 3 w w.heap.size x2A x2l) :
    Calls Tryd.prog 55 #[.agg #[.int .i64 x0, .int .i64 x1, .slice x2A x2l.length x2c], .int .i64 left] w fun e w' => e = .returned (.int .i64 (szV (totLinear (x0, x1, x2l)) left)) ∧ Below w.heap.size w w' := by
  have HT : totLinear (x0, x1, x2l) = totRow totTerm x2l := by first | rfl | (simp only [totLinear]; omega) | (simp only [totLinear]; done)
  obtain ⟨V, hV⟩ : ∃ V : Int, V = szV (totLinear (x0, x1, x2l)) left := ⟨_, rfl⟩
  rw [← hV]
  rw [HT] at hV
  clear HT
  have HV := Lib.hid hV
  clear hV
  replace hz : szRow SzTerm x2l := hz
  have z_x2 := hz
  obtain ⟨T0, hT0⟩ : ∃ T, T = totRow totTerm x2l := ⟨_, rfl⟩
  rw [← hT0] at HV
  go_enter Tryd.func55, Tryd.ntmps55
  go_wp2_with fail
  refine (szTermS_any x2l x2A x2c (left) _ (by omega) (by omega) z_x2 ?_).mono ?_
  · exact (Row.carry (w' := _) r_x2 (by repeat' (first | with_reducible assumption | with_reducible exact Below.refl _ _ | (with_reducible refine Below.setCell ?_ ?_ _) | (with_reducible refine Below.alloc ?_ ?_ _) | (with_reducible refine Below.drew ?_) | (with_reducible refine below_dr ?_ _) | (with_reducible refine Below.trans ?_ (Below.mono (by with_reducible assumption) ?_)) | omega | (simp; done) | (simp; omega))) (Nat.le_refl _)).more (by (try simp only [World.size_setCell]); (try simp only [World.size_drew]); (try simp only [World.size_alloc]); omega)
  rw [← hT0]
  clear hT0
  by_cases f0 : (T0 : Int) ≤ left
  case neg =>
    rw [szV_no f0]
    rintro e wZ0 ⟨rfl, hbZ0⟩
    have hzZ0 := hbZ0.size
    have H := Lib.hid (show (-1 : Int) = V by rw [HV.out, szV_no (by omega)])
    go_wp2_with fail
    go_ret
    exact ⟨ret_i H.out, by repeat' (first | with_reducible assumption | with_reducible exact Below.refl _ _ | (with_reducible refine Below.setCell ?_ ?_ _) | (with_reducible refine Below.alloc ?_ ?_ _) | (with_reducible refine Below.drew ?_) | (with_reducible refine below_dr ?_ _) | (with_reducible refine Below.trans ?_ (Below.mono (by with_reducible assumption) ?_)) | omega | (simp; done) | (simp; omega))⟩
  case pos =>
    rw [szV_yes f0]
    obtain ⟨L0, hL0⟩ : ∃ L, L = left - (T0 : Int) := ⟨_, rfl⟩
    rw [← hL0]
    have hl0 : 0 ≤ L0 ∧ L0 ≤ 1048576 := by omega
    have HL0 := Lib.hid hL0
    clear hL0 f0
    obtain ⟨hl0, hm0⟩ := hl0
    rintro e wZ0 ⟨rfl, hbZ0⟩
    obtain ⟨hcZ0, hfZ0⟩ := bcell hbZ0
    have hzZ0 := hbZ0.size
    (try simp only [World.size_alloc] at hcZ0 hfZ0 hzZ0)
    have qZ0 : w.heap.size < wZ0.heap.size := by omega
    have H := Lib.hid (show L0 = V by rw [HV.out, szV_yes (by have := HL0.out; omega)]; have := HL0.out; omega)
    go_wp2_with fail
    go_ret
    exact ⟨ret_i H.out, by repeat' (first | with_reducible assumption | with_reducible exact Below.refl _ _ | (with_reducible refine Below.setCell ?_ ?_ _) | (with_reducible refine Below.alloc ?_ ?_ _) | (with_reducible refine Below.drew ?_) | (with_reducible refine below_dr ?_ _) | (with_reducible refine Below.trans ?_ (Below.mono (by with_reducible assumption) ?_)) | omega | (simp; done) | (simp; omega))⟩
set_option maxHeartbeats 3200000 in
theorem szSRow_any (x0 : ByteArray) (x1 : Int) (x2 : Int) (x3A : Option Addr) (x3c : Nat) (x3l : List DTerm) (left : Int) (w : World) (h0 : 0 ≤ left) (h1 : left ≤ 1048576) (hz : SzSRow (x0, x1, x2, x3l)) (r_x3 : Row RvTerm 3 w w.heap.size x3A x3l) :
    Calls Tryd.prog 34 #[.agg #[.string x0, .int .i64 x1, .int .i64 x2, .slice x3A x3l.length x3c], .int .i64 left] w fun e w' => e = .returned (.int .i64 (szV (totSRow (x0, x1, x2, x3l)) left)) ∧ Below w.heap.size w w' := by
  have HT : totSRow (x0, x1, x2, x3l) = x0.size + totLinear (x1, x2, x3l) := by first | rfl | (simp only [totSRow, totLinear]; omega) | (simp only [totSRow, totLinear]; done)
  obtain ⟨V, hV⟩ : ∃ V : Int, V = szV (totSRow (x0, x1, x2, x3l)) left := ⟨_, rfl⟩
  rw [← hV]
  rw [HT] at hV
  clear HT
  have HV := Lib.hid hV
  clear hV
  replace hz : x0.size ≤ maxLen ∧ szRow SzTerm x3l := hz
  obtain ⟨z_x0, z_x3⟩ := hz
  unfold maxLen at z_x0
  obtain ⟨T0, hT0⟩ : ∃ T, T = x0.size := ⟨_, rfl⟩
  rw [← hT0] at HV
  obtain ⟨T1, hT1⟩ : ∃ T, T = totLinear (x1, x2, x3l) := ⟨_, rfl⟩
  rw [← hT1] at HV
  by_cases f0 : left - (x0.size : Int) < 0
  case pos =>
    have H := Lib.hid (show (-1 : Int) = V by rw [HV.out, szV_no (by omega)])
    go_enter Tryd.func34, Tryd.ntmps34
    go_wp2_with fail
    go_ret
    exact ⟨ret_i H.out, by repeat' (first | with_reducible assumption | with_reducible exact Below.refl _ _ | (with_reducible refine Below.setCell ?_ ?_ _) | (with_reducible refine Below.alloc ?_ ?_ _) | (with_reducible refine Below.drew ?_) | (with_reducible refine below_dr ?_ _) | (with_reducible refine Below.trans ?_ (Below.mono (by with_reducible assumption) ?_)) | omega | (simp; done) | (simp; omega))⟩
  case neg =>
    replace f0 : 0 ≤ left - (x0.size : Int) := by omega
    go_enter Tryd.func34, Tryd.ntmps34
    go_wp2_with fail
    refine (szLinear_any x1 x2 x3A x3c x3l (left - (x0.size : Int)) _ (by omega) (by omega) z_x3 ?_).mono ?_
    · exact (Row.carry (w' := _) r_x3 (by repeat' (first | with_reducible assumption | with_reducible exact Below.refl _ _ | (with_reducible refine Below.setCell ?_ ?_ _) | (with_reducible refine Below.alloc ?_ ?_ _) | (with_reducible refine Below.drew ?_) | (with_reducible refine below_dr ?_ _) | (with_reducible refine Below.trans ?_ (Below.mono (by with_reducible assumption) ?_)) | omega | (simp; done) | (simp; omega))) (Nat.le_refl _)).more (by (try simp only [World.size_setCell]); (try simp only [World.size_drew]); (try simp only [World.size_alloc]); omega)
    rw [← hT1]
    clear hT1
    by_cases f1 : (T1 : Int) ≤ left - (x0.size : Int)
    case neg =>
      rw [szV_no f1]
      rintro e wZ1 ⟨rfl, hbZ1⟩
      have hzZ1 := hbZ1.size
      have H := Lib.hid (show (-1 : Int) = V by rw [HV.out, szV_no (by omega)])
      go_wp2_with fail
      go_ret
      exact ⟨ret_i H.out, by repeat' (first | with_reducible assumption | with_reducible exact Below.refl _ _ | (with_reducible refine Below.setCell ?_ ?_ _) | (with_reducible refine Below.alloc ?_ ?_ _) | (with_reducible refine Below.drew ?_) | (with_reducible refine below_dr ?_ _) | (with_reducible refine Below.trans ?_ (Below.mono (by with_reducible assumption) ?_)) | omega | (simp; done) | (simp; omega))⟩
    case pos =>
      rw [szV_yes f1]
      obtain ⟨L1, hL1⟩ : ∃ L, L = left - (x0.size : Int) - (T1 : Int) := ⟨_, rfl⟩
      rw [← hL1]
      have hl1 : 0 ≤ L1 ∧ L1 ≤ 1048576 := by omega
      have HL1 := Lib.hid hL1
      clear hL1 f1
      obtain ⟨hl1, hm1⟩ := hl1
      rintro e wZ1 ⟨rfl, hbZ1⟩
      obtain ⟨hcZ1, hfZ1⟩ := bcell hbZ1
      have hzZ1 := hbZ1.size
      (try simp only [World.size_alloc] at hcZ1 hfZ1 hzZ1)
      have qZ1 : w.heap.size < wZ1.heap.size := by omega
      have H := Lib.hid (show L1 = V by rw [HV.out, szV_yes (by have := HL1.out; omega)]; have := HL1.out; omega)
      go_wp2_with fail
      go_ret
      exact ⟨ret_i H.out, by repeat' (first | with_reducible assumption | with_reducible exact Below.refl _ _ | (with_reducible refine Below.setCell ?_ ?_ _) | (with_reducible refine Below.alloc ?_ ?_ _) | (with_reducible refine Below.drew ?_) | (with_reducible refine below_dr ?_ _) | (with_reducible refine Below.trans ?_ (Below.mono (by with_reducible assumption) ?_)) | omega | (simp; done) | (simp; omega))⟩
set_option maxHeartbeats 3200000 in
theorem szSRowS_any (l : List DSRow) (A : Option Addr) (c : Nat) (left : Int) (w : World) (h0 : 0 ≤ left) (h1 : left ≤ 1048576) (hz : szRow SzSRow l) (r : Row RvSRow 4 w w.heap.size A l) :
    Calls Tryd.prog 18 #[.slice A l.length c, .int .i64 left] w fun e w' => e = .returned (.int .i64 (szV (totRow totSRow l) left)) ∧ Below w.heap.size w w' := by
  obtain ⟨hlen, hel⟩ := hz
  have HEL := Lib.hid hel
  clear hel
  obtain ⟨V, hV⟩ : ∃ V : Int, V = szV (totRow totSRow l) left := ⟨_, rfl⟩
  have HV := Lib.hid hV
  rw [← hV]
  clear hV
  have hln := totRow_len totSRow l
  unfold maxLen at hlen
  by_cases f : (l.length : Int) ≤ left
  case neg =>
    have H := Lib.hid (show (-1 : Int) = V by rw [HV.out, szV_no (by omega)])
    have f2 : left - (l.length : Int) < 0 := by omega
    generalize l.length = n at *
    go_enter Tryd.func18, Tryd.ntmps18
    go_wp2_with fail
    go_ret
    exact ⟨ret_i H.out, by repeat' (first | with_reducible assumption | with_reducible exact Below.refl _ _ | (with_reducible refine Below.setCell ?_ ?_ _) | (with_reducible refine Below.alloc ?_ ?_ _) | (with_reducible refine Below.drew ?_) | (with_reducible refine below_dr ?_ _) | (with_reducible refine Below.trans ?_ (Below.mono (by with_reducible assumption) ?_)) | omega | (simp; done) | (simp; omega))⟩
  case pos =>
    have f2 : 0 ≤ left - (l.length : Int) := by omega
    have HALL := Lib.hid (totUp_all totSRow l)
    obtain ⟨n, hn⟩ : ∃ n, n = l.length := ⟨_, rfl⟩
    rw [← hn] at hlen f f2 HALL ⊢
    have HN := Lib.hid hn
    clear hn hln
    go_enter Tryd.func18, Tryd.ntmps18
    go_wp2_with fail
    go_loopw [1, 5] (fun v i wr => ∃ k : Nat, k ≤ n ∧ i = .int .i64 (k : Int) ∧ v = .int .i64 (left - (n + totUp totSRow l k : Nat)) ∧ ((n + totUp totSRow l k : Nat) : Int) ≤ left ∧ Below w.heap.size w wr) (fun _ i _ => n - (intOf i).toNat)
    case atStart => exact ⟨0, Nat.zero_le _, rfl, by simp [totUp], by simp [totUp]; omega, by repeat' (first | with_reducible assumption | with_reducible exact Below.refl _ _ | (with_reducible refine Below.setCell ?_ ?_ _) | (with_reducible refine Below.alloc ?_ ?_ _) | (with_reducible refine Below.drew ?_) | (with_reducible refine below_dr ?_ _) | (with_reducible refine Below.trans ?_ (Below.mono (by with_reducible assumption) ?_)) | omega | (simp; done) | (simp; omega))⟩
    case round =>
      obtain ⟨k, hk, rfl, rfl, hle, hbl⟩ := hrel
      have zr := hbl.size
      by_cases hlt : k < n
      case pos =>
        obtain ⟨⟨x0, x1, x2, x3l⟩, ha⟩ : ∃ a, l[k]? = some a := ⟨l[k]'(by have := HN.out; omega), List.getElem?_eq_getElem (by have := HN.out; omega)⟩
        obtain ⟨g, o, row, rfl, hg, hR, hcc⟩ := (Row.carry (w' := wr) r hbl (Nat.le_refl _)).elem ha
        obtain ⟨x3A, x3c, rfl, hr_x3⟩ := hR
        have c0 : wr.cell? ⟨g, o + k * 4, none⟩ = some (.string x0) := hcc 0 _ rfl
        have c1 : wr.cell? ⟨g, o + k * 4 + 1, none⟩ = some (.int .i64 x1) := hcc 1 _ rfl
        have c2 : wr.cell? ⟨g, o + k * 4 + 2, none⟩ = some (.int .i64 x2) := hcc 2 _ rfl
        have c3 : wr.cell? ⟨g, o + k * 4 + 3, none⟩ = some (.slice x3A x3l.length x3c) := hcc 3 _ rfl
        clear hcc
        have hsz := HEL.out k _ ha
        have hts := totUp_snoc (f := totSRow) ha
        have htl := totUp_le totSRow l (k + 1)
        have hgw : g < wr.heap.size := by omega
        have hki : (k : Int) < (n : Int) := by omega
        clear ha
        rw [← HN.out] at htl
        obtain ⟨T, hT⟩ : ∃ T, T = totUp totSRow l k := ⟨_, rfl⟩
        rw [← hT] at hts hle ⊢
        obtain ⟨U, hUU⟩ : ∃ U, U = totSRow (x0, x1, x2, x3l) := ⟨_, rfl⟩
        rw [← hUU] at hts
        have HT := Lib.hid hts
        have HTL := Lib.hid htl
        clear hT htl
        by_cases fu : (U : Int) ≤ left - ((n + T : Nat) : Int)
        case pos =>
          go_wp2_with fail
          refine (szSRow_any x0 x1 x2 x3A x3c x3l (left - ((n + T : Nat) : Int)) _ (by omega) (by omega) hsz ?_).mono ?_
          · exact (Row.carry (w' := _) hr_x3 (by repeat' (first | with_reducible assumption | with_reducible exact Below.refl _ _ | (with_reducible refine Below.setCell ?_ ?_ _) | (with_reducible refine Below.alloc ?_ ?_ _) | (with_reducible refine Below.drew ?_) | (with_reducible refine below_dr ?_ _) | (with_reducible refine Below.trans ?_ (Below.mono (by with_reducible assumption) ?_)) | omega | (simp; done) | (simp; omega))) (by omega)).more (by (try simp only [World.size_setCell]); (try simp only [World.size_drew]); (try simp only [World.size_alloc]); omega)
          rw [← hUU]
          rw [szV_yes (by omega)]
          rintro e wZ ⟨rfl, hbZ⟩
          have fy : 0 ≤ left - ((n + T : Nat) : Int) - (U : Int) := by omega
          go_wp2_with fail
          go_roundw
          case rel => exact ⟨k + 1, by omega, by go_num, by rw [HT.out]; congr 1; omega, by rw [HT.out]; omega, by repeat' (first | with_reducible assumption | with_reducible exact Below.refl _ _ | (with_reducible refine Below.setCell ?_ ?_ _) | (with_reducible refine Below.alloc ?_ ?_ _) | (with_reducible refine Below.drew ?_) | (with_reducible refine below_dr ?_ _) | (with_reducible refine Below.trans ?_ (Below.mono (by with_reducible assumption) ?_)) | omega | (simp; done) | (simp; omega))⟩
          case measure => simp [intOf]; omega
        case neg =>
          have H := Lib.hid (show (-1 : Int) = V by rw [HV.out, szV_no (by have := HTL.out; have := HT.out; omega)])
          go_wp2_with fail
          refine (szSRow_any x0 x1 x2 x3A x3c x3l (left - ((n + T : Nat) : Int)) _ (by omega) (by omega) hsz ?_).mono ?_
          · exact (Row.carry (w' := _) hr_x3 (by repeat' (first | with_reducible assumption | with_reducible exact Below.refl _ _ | (with_reducible refine Below.setCell ?_ ?_ _) | (with_reducible refine Below.alloc ?_ ?_ _) | (with_reducible refine Below.drew ?_) | (with_reducible refine below_dr ?_ _) | (with_reducible refine Below.trans ?_ (Below.mono (by with_reducible assumption) ?_)) | omega | (simp; done) | (simp; omega))) (by omega)).more (by (try simp only [World.size_setCell]); (try simp only [World.size_drew]); (try simp only [World.size_alloc]); omega)
          rw [← hUU]
          rw [szV_no (by omega)]
          rintro e wZ ⟨rfl, hbZ⟩
          go_wp2_with fail
          go_ret
          exact ⟨ret_i H.out, by repeat' (first | with_reducible assumption | with_reducible exact Below.refl _ _ | (with_reducible refine Below.setCell ?_ ?_ _) | (with_reducible refine Below.alloc ?_ ?_ _) | (with_reducible refine Below.drew ?_) | (with_reducible refine below_dr ?_ _) | (with_reducible refine Below.trans ?_ (Below.mono (by with_reducible assumption) ?_)) | omega | (simp; done) | (simp; omega))⟩
      case neg =>
        obtain rfl : k = n := by omega
        have H := Lib.hid (show left - ((k + totUp totSRow l k : Nat) : Int) = V by rw [HV.out, HALL.out, szV_yes (by rw [← HALL.out]; exact hle)])
        go_wp2_with fail
        go_ret
        exact ⟨ret_i H.out, by repeat' (first | with_reducible assumption | with_reducible exact Below.refl _ _ | (with_reducible refine Below.setCell ?_ ?_ _) | (with_reducible refine Below.alloc ?_ ?_ _) | (with_reducible refine Below.drew ?_) | (with_reducible refine below_dr ?_ _) | (with_reducible refine Below.trans ?_ (Below.mono (by with_reducible assumption) ?_)) | omega | (simp; done) | (simp; omega))⟩
end Go.Proofs.YtonoldjhfhngfaaDoor
