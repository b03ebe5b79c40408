/- Walks: they are measured. -/
import Derived.Test.YtelefmogmloniaaGl1
import Derived.Test.YtelefmogmloniaaMem
import Derived.Test.YtelefmogmloniaaAw
import Derived.IntWalk
namespace Go.Proofs.Ytelefmogmloniaa
open Go.RowKit
set_option linter.unusedVariables false
set_option maxHeartbeats 3200000 in
theorem szKnotS_any (l : List DKnot) (A : Option Addr) (c : Nat) (left : Int) (w : World) (h0 : 0 ≤ left) (h1 : left ≤ 1048576) (hz : szRow SzKnot l) (r : Row RvKnot 3 w w.heap.size A l) :
    Calls Try.prog 182 #[.slice A l.length c, .int .i64 left] w fun e w' => e = .returned (.int .i64 (szV (totRow totKnot l) left)) ∧ Below w.heap.size w w' := by
  obtain ⟨hlen, hel⟩ := hz
  have HEL := Lib.hid hel
  clear hel
  obtain ⟨V, hV⟩ : ∃ V : Int, V = szV (totRow totKnot l) left := ⟨_, rfl⟩
  have HV := Lib.hid hV
  rw [← hV]
  clear hV
  have hln := totRow_len totKnot l
  rw [totRow_flat (f := totKnot) (fun _ => rfl)] at HV
  unfold maxLen at hlen
  by_cases f : (l.length : Int) ≤ left
  case pos =>
    have H := Lib.hid (show left - l.length = V by rw [HV.out, szV_yes f])
    have f2 : 0 ≤ left - (l.length : Int) := by omega
    generalize l.length = n at *
    go_enter Try.func182, Try.ntmps182
    go_wp2_with fail
    go_ret
    exact ⟨ret_i H.out, by repeat' (first | with_reducible assumption | with_reducible exact Below.refl _ _ | (with_reducible refine Below.setCell ?_ ?_ _) | (with_reducible refine Below.alloc ?_ ?_ _) | (with_reducible refine Below.drew ?_) | (with_reducible refine below_dr ?_ _) | (with_reducible refine Below.trans ?_ (Below.mono (by with_reducible assumption) ?_)) | omega | (simp; done) | (simp; omega))⟩
  case neg =>
    have H := Lib.hid (show (-1 : Int) = V by rw [HV.out, szV_no f])
    have f2 : left - (l.length : Int) < 0 := by omega
    generalize l.length = n at *
    go_enter Try.func182, Try.ntmps182
    go_wp2_with fail
    go_ret
    exact ⟨ret_i H.out, by repeat' (first | with_reducible assumption | with_reducible exact Below.refl _ _ | (with_reducible refine Below.setCell ?_ ?_ _) | (with_reducible refine Below.alloc ?_ ?_ _) | (with_reducible refine Below.drew ?_) | (with_reducible refine below_dr ?_ _) | (with_reducible refine Below.trans ?_ (Below.mono (by with_reducible assumption) ?_)) | omega | (simp; done) | (simp; omega))⟩
set_option maxHeartbeats 3200000 in
theorem szLoop_any (x0A : Option Addr) (x0c : Nat) (x0l : List DKnot) (left : Int) (w : World) (h0 : 0 ≤ left) (h1 : left ≤ 1048576) (hz : SzLoop x0l) (r_x0 : Row RvKnot 3 w w.heap.size x0A x0l) :
    Calls Try.prog 163 #[.agg #[.slice x0A x0l.length x0c], .int .i64 left] w fun e w' => e = .returned (.int .i64 (szV (totLoop x0l) left)) ∧ Below w.heap.size w w' := by
  have HT : totLoop x0l = totRow totKnot x0l := by first | rfl | (simp only [totLoop]; omega) | (simp only [totLoop]; done)
  obtain ⟨V, hV⟩ : ∃ V : Int, V = szV (totLoop x0l) left := ⟨_, rfl⟩
  rw [← hV]
  rw [HT] at hV
  clear HT
  have HV := Lib.hid hV
  clear hV
  replace hz : szRow SzKnot x0l := hz
  have z_x0 := hz
  obtain ⟨T0, hT0⟩ : ∃ T, T = totRow totKnot x0l := ⟨_, rfl⟩
  rw [← hT0] at HV
  go_enter Try.func163, Try.ntmps163
  go_wp2_with fail
  refine (szKnotS_any x0l x0A x0c (left) _ (by omega) (by omega) z_x0 ?_).mono ?_
  · exact (Row.carry (w' := _) r_x0 (by repeat' (first | with_reducible assumption | with_reducible exact Below.refl _ _ | (with_reducible refine Below.setCell ?_ ?_ _) | (with_reducible refine Below.alloc ?_ ?_ _) | (with_reducible refine Below.drew ?_) | (with_reducible refine below_dr ?_ _) | (with_reducible refine Below.trans ?_ (Below.mono (by with_reducible assumption) ?_)) | omega | (simp; done) | (simp; omega))) (Nat.le_refl _)).more (by (try simp only [World.size_setCell]); (try simp only [World.size_drew]); (try simp only [World.size_alloc]); omega)
  rw [← hT0]
  clear hT0
  by_cases f0 : (T0 : Int) ≤ left
  case neg =>
    rw [szV_no f0]
    rintro e wZ0 ⟨rfl, hbZ0⟩
    have hzZ0 := hbZ0.size
    have H := Lib.hid (show (-1 : Int) = V by rw [HV.out, szV_no (by omega)])
    go_wp2_with fail
    go_ret
    exact ⟨ret_i H.out, by repeat' (first | with_reducible assumption | with_reducible exact Below.refl _ _ | (with_reducible refine Below.setCell ?_ ?_ _) | (with_reducible refine Below.alloc ?_ ?_ _) | (with_reducible refine Below.drew ?_) | (with_reducible refine below_dr ?_ _) | (with_reducible refine Below.trans ?_ (Below.mono (by with_reducible assumption) ?_)) | omega | (simp; done) | (simp; omega))⟩
  case pos =>
    rw [szV_yes f0]
    obtain ⟨L0, hL0⟩ : ∃ L, L = left - (T0 : Int) := ⟨_, rfl⟩
    rw [← hL0]
    have hl0 : 0 ≤ L0 ∧ L0 ≤ 1048576 := by omega
    have HL0 := Lib.hid hL0
    clear hL0 f0
    obtain ⟨hl0, hm0⟩ := hl0
    rintro e wZ0 ⟨rfl, hbZ0⟩
    obtain ⟨hcZ0, hfZ0⟩ := bcell hbZ0
    have hzZ0 := hbZ0.size
    (try simp only [World.size_alloc] at hcZ0 hfZ0 hzZ0)
    have qZ0 : w.heap.size < wZ0.heap.size := by omega
    have H := Lib.hid (show L0 = V by rw [HV.out, szV_yes (by have := HL0.out; omega)]; have := HL0.out; omega)
    go_wp2_with fail
    go_ret
    exact ⟨ret_i H.out, by repeat' (first | with_reducible assumption | with_reducible exact Below.refl _ _ | (with_reducible refine Below.setCell ?_ ?_ _) | (with_reducible refine Below.alloc ?_ ?_ _) | (with_reducible refine Below.drew ?_) | (with_reducible refine below_dr ?_ _) | (with_reducible refine Below.trans ?_ (Below.mono (by with_reducible assumption) ?_)) | omega | (simp; done) | (simp; omega))⟩
set_option maxHeartbeats 3200000 in
theorem szLoopS_any (l : List DLoop) (A : Option Addr) (c : Nat) (left : Int) (w : World) (h0 : 0 ≤ left) (h1 : left ≤ 1048576) (hz : szRow SzLoop l) (r : Row RvLoop 1 w w.heap.size A l) :
    Calls Try.prog 112 #[.slice A l.length c, .int .i64 left] w fun e w' => e = .returned (.int .i64 (szV (totRow totLoop l) left)) ∧ Below w.heap.size w w' := by
  obtain ⟨hlen, hel⟩ := hz
  have HEL := Lib.hid hel
  clear hel
  obtain ⟨V, hV⟩ : ∃ V : Int, V = szV (totRow totLoop l) left := ⟨_, rfl⟩
  have HV := Lib.hid hV
  rw [← hV]
  clear hV
  have hln := totRow_len totLoop l
  unfold maxLen at hlen
  by_cases f : (l.length : Int) ≤ left
  case neg =>
    have H := Lib.hid (show (-1 : Int) = V by rw [HV.out, szV_no (by omega)])
    have f2 : left - (l.length : Int) < 0 := by omega
    generalize l.length = n at *
    go_enter Try.func112, Try.ntmps112
    go_wp2_with fail
    go_ret
    exact ⟨ret_i H.out, by repeat' (first | with_reducible assumption | with_reducible exact Below.refl _ _ | (with_reducible refine Below.setCell ?_ ?_ _) | (with_reducible refine Below.alloc ?_ ?_ _) | (with_reducible refine Below.drew ?_) | (with_reducible refine below_dr ?_ _) | (with_reducible refine Below.trans ?_ (Below.mono (by with_reducible assumption) ?_)) | omega | (simp; done) | (simp; omega))⟩
  case pos =>
    have f2 : 0 ≤ left - (l.length : Int) := by omega
    have HALL := Lib.hid (totUp_all totLoop l)
    obtain ⟨n, hn⟩ : ∃ n, n = l.length := ⟨_, rfl⟩
    rw [← hn] at hlen f f2 HALL ⊢
    have HN := Lib.hid hn
    clear hn hln
    go_enter Try.func112, Try.ntmps112
    go_wp2_with fail
    go_loopw [1, 5] (fun v i wr => ∃ k : Nat, k ≤ n ∧ i = .int .i64 (k : Int) ∧ v = .int .i64 (left - (n + totUp totLoop l k : Nat)) ∧ ((n + totUp totLoop l k : Nat) : Int) ≤ left ∧ Below w.heap.size w wr) (fun _ i _ => n - (intOf i).toNat)
    case atStart => exact ⟨0, Nat.zero_le _, rfl, by simp [totUp], by simp [totUp]; omega, by repeat' (first | with_reducible assumption | with_reducible exact Below.refl _ _ | (with_reducible refine Below.setCell ?_ ?_ _) | (with_reducible refine Below.alloc ?_ ?_ _) | (with_reducible refine Below.drew ?_) | (with_reducible refine below_dr ?_ _) | (with_reducible refine Below.trans ?_ (Below.mono (by with_reducible assumption) ?_)) | omega | (simp; done) | (simp; omega))⟩
    case round =>
      obtain ⟨k, hk, rfl, rfl, hle, hbl⟩ := hrel
      have zr := hbl.size
      by_cases hlt : k < n
      case pos =>
        obtain ⟨x0l, ha⟩ : ∃ a, l[k]? = some a := ⟨l[k]'(by have := HN.out; omega), List.getElem?_eq_getElem (by have := HN.out; omega)⟩
        obtain ⟨g, o, row, rfl, hg, hR, hcc⟩ := (Row.carry (w' := wr) r hbl (Nat.le_refl _)).elem ha
        obtain ⟨x0A, x0c, rfl, hr_x0⟩ := hR
        have c0 : wr.cell? ⟨g, o + k, none⟩ = some (.slice x0A x0l.length x0c) := by have h := hcc 0 _ rfl; rw [Nat.mul_one] at h; exact h
        clear hcc
        have hsz := HEL.out k _ ha
        have hts := totUp_snoc (f := totLoop) ha
        have htl := totUp_le totLoop l (k + 1)
        have hgw : g < wr.heap.size := by omega
        have hki : (k : Int) < (n : Int) := by omega
        clear ha
        rw [← HN.out] at htl
        obtain ⟨T, hT⟩ : ∃ T, T = totUp totLoop l k := ⟨_, rfl⟩
        rw [← hT] at hts hle ⊢
        obtain ⟨U, hUU⟩ : ∃ U, U = totLoop x0l := ⟨_, rfl⟩
        rw [← hUU] at hts
        have HT := Lib.hid hts
        have HTL := Lib.hid htl
        clear hT htl
        by_cases fu : (U : Int) ≤ left - ((n + T : Nat) : Int)
        case pos =>
          go_wp2_with fail
          refine (szLoop_any x0A x0c x0l (left - ((n + T : Nat) : Int)) _ (by omega) (by omega) hsz ?_).mono ?_
          · exact (Row.carry (w' := _) hr_x0 (by repeat' (first | with_reducible assumption | with_reducible exact Below.refl _ _ | (with_reducible refine Below.setCell ?_ ?_ _) | (with_reducible refine Below.alloc ?_ ?_ _) | (with_reducible refine Below.drew ?_) | (with_reducible refine below_dr ?_ _) | (with_reducible refine Below.trans ?_ (Below.mono (by with_reducible assumption) ?_)) | omega | (simp; done) | (simp; omega))) (by omega)).more (by (try simp only [World.size_setCell]); (try simp only [World.size_drew]); (try simp only [World.size_alloc]); omega)
          rw [← hUU]
          rw [szV_yes (by omega)]
          rintro e wZ ⟨rfl, hbZ⟩
          have fy : 0 ≤ left - ((n + T : Nat) : Int) - (U : Int) := by omega
          go_wp2_with fail
          go_roundw
          case rel => exact ⟨k + 1, by omega, by go_num, by rw [HT.out]; congr 1; omega, by rw [HT.out]; omega, by repeat' (first | with_reducible assumption | with_reducible exact Below.refl _ _ | (with_reducible refine Below.setCell ?_ ?_ _) | (with_reducible refine Below.alloc ?_ ?_ _) | (with_reducible refine Below.drew ?_) | (with_reducible refine below_dr ?_ _) | (with_reducible refine Below.trans ?_ (Below.mono (by with_reducible assumption) ?_)) | omega | (simp; done) | (simp; omega))⟩
          case measure => simp [intOf]; omega
        case neg =>
          have H := Lib.hid (show (-1 : Int) = V by rw [HV.out, szV_no (by have := HTL.out; have := HT.out; omega)])
          go_wp2_with fail
          refine (szLoop_any x0A x0c x0l (left - ((n + T : Nat) : Int)) _ (by omega) (by omega) hsz ?_).mono ?_
          · exact (Row.carry (w' := _) hr_x0 (by repeat' (first | with_reducible assumption | with_reducible exact Below.refl _ _ | (with_reducible refine Below.setCell ?_ ?_ _) | (with_reducible refine Below.alloc ?_ ?_ _) | (with_reducible refine Below.drew ?_) | (with_reducible refine below_dr ?_ _) | (with_reducible refine Below.trans ?_ (Below.mono (by with_reducible assumption) ?_)) | omega | (simp; done) | (simp; omega))) (by omega)).more (by (try simp only [World.size_setCell]); (try simp only [World.size_drew]); (try simp only [World.size_alloc]); omega)
          rw [← hUU]
          rw [szV_no (by omega)]
          rintro e wZ ⟨rfl, hbZ⟩
          go_wp2_with fail
          go_ret
          exact ⟨ret_i H.out, by repeat' (first | with_reducible assumption | with_reducible exact Below.refl _ _ | (with_reducible refine Below.setCell ?_ ?_ _) | (with_reducible refine Below.alloc ?_ ?_ _) | (with_reducible refine Below.drew ?_) | (with_reducible refine below_dr ?_ _) | (with_reducible refine Below.trans ?_ (Below.mono (by with_reducible assumption) ?_)) | omega | (simp; done) | (simp; omega))⟩
      case neg =>
        obtain rfl : k = n := by omega
        have H := Lib.hid (show left - ((k + totUp totLoop l k : Nat) : Int) = V by rw [HV.out, HALL.out, szV_yes (by rw [← HALL.out]; exact hle)])
        go_wp2_with fail
        go_ret
        exact ⟨ret_i H.out, by repeat' (first | with_reducible assumption | with_reducible exact Below.refl _ _ | (with_reducible refine Below.setCell ?_ ?_ _) | (with_reducible refine Below.alloc ?_ ?_ _) | (with_reducible refine Below.drew ?_) | (with_reducible refine below_dr ?_ _) | (with_reducible refine Below.trans ?_ (Below.mono (by with_reducible assumption) ?_)) | omega | (simp; done) | (simp; omega))⟩
set_option maxHeartbeats 3200000 in
theorem szOutline_any (x0A : Option Addr) (x0c : Nat) (x0l : List DLoop) (left : Int) (w : World) (h0 : 0 ≤ left) (h1 : left ≤ 1048576) (hz : SzOutline x0l) (r_x0 : Row RvLoop 1 w w.heap.size x0A x0l) :
    Calls Try.prog 46 #[.agg #[.slice x0A x0l.length x0c], .int .i64 left] w fun e w' => e = .returned (.int .i64 (szV (totOutline x0l) left)) ∧ Below w.heap.size w w' := by
  have HT : totOutline x0l = totRow totLoop x0l := by first | rfl | (simp only [totOutline]; omega) | (simp only [totOutline]; done)
  obtain ⟨V, hV⟩ : ∃ V : Int, V = szV (totOutline x0l) left := ⟨_, rfl⟩
  rw [← hV]
  rw [HT] at hV
  clear HT
  have HV := Lib.hid hV
  clear hV
  replace hz : szRow SzLoop x0l := hz
  have z_x0 := hz
  obtain ⟨T0, hT0⟩ : ∃ T, T = totRow totLoop x0l := ⟨_, rfl⟩
  rw [← hT0] at HV
  go_enter Try.func46, Try.ntmps46
  go_wp2_with fail
  refine (szLoopS_any x0l x0A x0c (left) _ (by omega) (by omega) z_x0 ?_).mono ?_
  · exact (Row.carry (w' := _) r_x0 (by repeat' (first | with_reducible assumption | with_reducible exact Below.refl _ _ | (with_reducible refine Below.setCell ?_ ?_ _) | (with_reducible refine Below.alloc ?_ ?_ _) | (with_reducible refine Below.drew ?_) | (with_reducible refine below_dr ?_ _) | (with_reducible refine Below.trans ?_ (Below.mono (by with_reducible assumption) ?_)) | omega | (simp; done) | (simp; omega))) (Nat.le_refl _)).more (by (try simp only [World.size_setCell]); (try simp only [World.size_drew]); (try simp only [World.size_alloc]); omega)
  rw [← hT0]
  clear hT0
  by_cases f0 : (T0 : Int) ≤ left
  case neg =>
    rw [szV_no f0]
    rintro e wZ0 ⟨rfl, hbZ0⟩
    have hzZ0 := hbZ0.size
    have H := Lib.hid (show (-1 : Int) = V by rw [HV.out, szV_no (by omega)])
    go_wp2_with fail
    go_ret
    exact ⟨ret_i H.out, by repeat' (first | with_reducible assumption | with_reducible exact Below.refl _ _ | (with_reducible refine Below.setCell ?_ ?_ _) | (with_reducible refine Below.alloc ?_ ?_ _) | (with_reducible refine Below.drew ?_) | (with_reducible refine below_dr ?_ _) | (with_reducible refine Below.trans ?_ (Below.mono (by with_reducible assumption) ?_)) | omega | (simp; done) | (simp; omega))⟩
  case pos =>
    rw [szV_yes f0]
    obtain ⟨L0, hL0⟩ : ∃ L, L = left - (T0 : Int) := ⟨_, rfl⟩
    rw [← hL0]
    have hl0 : 0 ≤ L0 ∧ L0 ≤ 1048576 := by omega
    have HL0 := Lib.hid hL0
    clear hL0 f0
    obtain ⟨hl0, hm0⟩ := hl0
    rintro e wZ0 ⟨rfl, hbZ0⟩
    obtain ⟨hcZ0, hfZ0⟩ := bcell hbZ0
    have hzZ0 := hbZ0.size
    (try simp only [World.size_alloc] at hcZ0 hfZ0 hzZ0)
    have qZ0 : w.heap.size < wZ0.heap.size := by omega
    have H := Lib.hid (show L0 = V by rw [HV.out, szV_yes (by have := HL0.out; omega)]; have := HL0.out; omega)
    go_wp2_with fail
    go_ret
    exact ⟨ret_i H.out, by repeat' (first | with_reducible assumption | with_reducible exact Below.refl _ _ | (with_reducible refine Below.setCell ?_ ?_ _) | (with_reducible refine Below.alloc ?_ ?_ _) | (with_reducible refine Below.drew ?_) | (with_reducible refine below_dr ?_ _) | (with_reducible refine Below.trans ?_ (Below.mono (by with_reducible assumption) ?_)) | omega | (simp; done) | (simp; omega))⟩
set_option maxHeartbeats 3200000 in
theorem szPartS_any (l : List DPart) (A : Option Addr) (c : Nat) (left : Int) (w : World) (h0 : 0 ≤ left) (h1 : left ≤ 1048576) (hz : szRow SzPart l) (r : Row RvPart 3 w w.heap.size A l) :
    Calls Try.prog 47 #[.slice A l.length c, .int .i64 left] w fun e w' => e = .returned (.int .i64 (szV (totRow totPart l) left)) ∧ Below w.heap.size w w' := by
  obtain ⟨hlen, hel⟩ := hz
  have HEL := Lib.hid hel
  clear hel
  obtain ⟨V, hV⟩ : ∃ V : Int, V = szV (totRow totPart l) left := ⟨_, rfl⟩
  have HV := Lib.hid hV
  rw [← hV]
  clear hV
  have hln := totRow_len totPart l
  rw [totRow_flat (f := totPart) (fun _ => rfl)] at HV
  unfold maxLen at hlen
  by_cases f : (l.length : Int) ≤ left
  case pos =>
    have H := Lib.hid (show left - l.length = V by rw [HV.out, szV_yes f])
    have f2 : 0 ≤ left - (l.length : Int) := by omega
    generalize l.length = n at *
    go_enter Try.func47, Try.ntmps47
    go_wp2_with fail
    go_ret
    exact ⟨ret_i H.out, by repeat' (first | with_reducible assumption | with_reducible exact Below.refl _ _ | (with_reducible refine Below.setCell ?_ ?_ _) | (with_reducible refine Below.alloc ?_ ?_ _) | (with_reducible refine Below.drew ?_) | (with_reducible refine below_dr ?_ _) | (with_reducible refine Below.trans ?_ (Below.mono (by with_reducible assumption) ?_)) | omega | (simp; done) | (simp; omega))⟩
  case neg =>
    have H := Lib.hid (show (-1 : Int) = V by rw [HV.out, szV_no f])
    have f2 : left - (l.length : Int) < 0 := by omega
    generalize l.length = n at *
    go_enter Try.func47, Try.ntmps47
    go_wp2_with fail
    go_ret
    exact ⟨ret_i H.out, by repeat' (first | with_reducible assumption | with_reducible exact Below.refl _ _ | (with_reducible refine Below.setCell ?_ ?_ _) | (with_reducible refine Below.alloc ?_ ?_ _) | (with_reducible refine Below.drew ?_) | (with_reducible refine below_dr ?_ _) | (with_reducible refine Below.trans ?_ (Below.mono (by with_reducible assumption) ?_)) | omega | (simp; done) | (simp; omega))⟩
set_option maxHeartbeats 3200000 in
theorem szAnchor_any (x0 : ByteArray) (x1 : Int) (x2 : Int) (left : Int) (w : World) (h0 : 0 ≤ left) (h1 : left ≤ 1048576) (hz : SzAnchor (x0, x1, x2))  :
    Calls Try.prog 113 #[.agg #[.string x0, .int .i64 x1, .int .i64 x2], .int .i64 left] w fun e w' => e = .returned (.int .i64 (szV (totAnchor (x0, x1, x2)) left)) ∧ Below w.heap.size w w' := by
  have HT : totAnchor (x0, x1, x2) = x0.size := by first | rfl | (simp only [totAnchor]; omega) | (simp only [totAnchor]; done)
  obtain ⟨V, hV⟩ : ∃ V : Int, V = szV (totAnchor (x0, x1, x2)) left := ⟨_, rfl⟩
  rw [← hV]
  rw [HT] at hV
  clear HT
  have HV := Lib.hid hV
  clear hV
  replace hz : x0.size ≤ maxLen := hz
  have z_x0 := hz
  unfold maxLen at z_x0
  obtain ⟨T0, hT0⟩ : ∃ T, T = x0.size := ⟨_, rfl⟩
  rw [← hT0] at HV
  by_cases f0 : left - (x0.size : Int) < 0
  case pos =>
    have H := Lib.hid (show (-1 : Int) = V by rw [HV.out, szV_no (by omega)])
    go_enter Try.func113, Try.ntmps113
    go_wp2_with fail
    go_ret
    exact ⟨ret_i H.out, by repeat' (first | with_reducible assumption | with_reducible exact Below.refl _ _ | (with_reducible refine Below.setCell ?_ ?_ _) | (with_reducible refine Below.alloc ?_ ?_ _) | (with_reducible refine Below.drew ?_) | (with_reducible refine below_dr ?_ _) | (with_reducible refine Below.trans ?_ (Below.mono (by with_reducible assumption) ?_)) | omega | (simp; done) | (simp; omega))⟩
  case neg =>
    replace f0 : 0 ≤ left - (x0.size : Int) := by omega
    have H := Lib.hid (show left - (x0.size : Int) = V by rw [HV.out, szV_yes (by omega)]; omega)
    go_enter Try.func113, Try.ntmps113
    go_wp2_with fail
    go_ret
    exact ⟨ret_i H.out, by repeat' (first | with_reducible assumption | with_reducible exact Below.refl _ _ | (with_reducible refine Below.setCell ?_ ?_ _) | (with_reducible refine Below.alloc ?_ ?_ _) | (with_reducible refine Below.drew ?_) | (with_reducible refine below_dr ?_ _) | (with_reducible refine Below.trans ?_ (Below.mono (by with_reducible assumption) ?_)) | omega | (simp; done) | (simp; omega))⟩
set_option maxHeartbeats 3200000 in
theorem szAnchorS_any (l : List DAnchor) (A : Option Addr) (c : Nat) (left : Int) (w : World) (h0 : 0 ≤ left) (h1 : left ≤ 1048576) (hz : szRow SzAnchor l) (r : Row RvAnchor 3 w w.heap.size A l) :
    Calls Try.prog 48 #[.slice A l.length c, .int .i64 left] w fun e w' => e = .returned (.int .i64 (szV (totRow totAnchor l) left)) ∧ Below w.heap.size w w' := by
  obtain ⟨hlen, hel⟩ := hz
  have HEL := Lib.hid hel
  clear hel
  obtain ⟨V, hV⟩ : ∃ V : Int, V = szV (totRow totAnchor l) left := ⟨_, rfl⟩
  have HV := Lib.hid hV
  rw [← hV]
  clear hV
  have hln := totRow_len totAnchor l
  unfold maxLen at hlen
  by_cases f : (l.length : Int) ≤ left
  case neg =>
    have H := Lib.hid (show (-1 : Int) = V by rw [HV.out, szV_no (by omega)])
    have f2 : left - (l.length : Int) < 0 := by omega
    generalize l.length = n at *
    go_enter Try.func48, Try.ntmps48
    go_wp2_with fail
    go_ret
    exact ⟨ret_i H.out, by repeat' (first | with_reducible assumption | with_reducible exact Below.refl _ _ | (with_reducible refine Below.setCell ?_ ?_ _) | (with_reducible refine Below.alloc ?_ ?_ _) | (with_reducible refine Below.drew ?_) | (with_reducible refine below_dr ?_ _) | (with_reducible refine Below.trans ?_ (Below.mono (by with_reducible assumption) ?_)) | omega | (simp; done) | (simp; omega))⟩
  case pos =>
    have f2 : 0 ≤ left - (l.length : Int) := by omega
    have HALL := Lib.hid (totUp_all totAnchor l)
    obtain ⟨n, hn⟩ : ∃ n, n = l.length := ⟨_, rfl⟩
    rw [← hn] at hlen f f2 HALL ⊢
    have HN := Lib.hid hn
    clear hn hln
    go_enter Try.func48, Try.ntmps48
    go_wp2_with fail
    go_loopw [1, 5] (fun v i wr => ∃ k : Nat, k ≤ n ∧ i = .int .i64 (k : Int) ∧ v = .int .i64 (left - (n + totUp totAnchor l k : Nat)) ∧ ((n + totUp totAnchor l k : Nat) : Int) ≤ left ∧ Below w.heap.size w wr) (fun _ i _ => n - (intOf i).toNat)
    case atStart => exact ⟨0, Nat.zero_le _, rfl, by simp [totUp], by simp [totUp]; omega, by repeat' (first | with_reducible assumption | with_reducible exact Below.refl _ _ | (with_reducible refine Below.setCell ?_ ?_ _) | (with_reducible refine Below.alloc ?_ ?_ _) | (with_reducible refine Below.drew ?_) | (with_reducible refine below_dr ?_ _) | (with_reducible refine Below.trans ?_ (Below.mono (by with_reducible assumption) ?_)) | omega | (simp; done) | (simp; omega))⟩
    case round =>
      obtain ⟨k, hk, rfl, rfl, hle, hbl⟩ := hrel
      have zr := hbl.size
      by_cases hlt : k < n
      case pos =>
        obtain ⟨⟨x0, x1, x2⟩, ha⟩ : ∃ a, l[k]? = some a := ⟨l[k]'(by have := HN.out; omega), List.getElem?_eq_getElem (by have := HN.out; omega)⟩
        obtain ⟨g, o, row, rfl, hg, hR, hcc⟩ := (Row.carry (w' := wr) r hbl (Nat.le_refl _)).elem ha
        obtain rfl := hR
        have c0 : wr.cell? ⟨g, o + k * 3, none⟩ = some (.string x0) := hcc 0 _ rfl
        have c1 : wr.cell? ⟨g, o + k * 3 + 1, none⟩ = some (.int .i64 x1) := hcc 1 _ rfl
        have c2 : wr.cell? ⟨g, o + k * 3 + 2, none⟩ = some (.int .i64 x2) := hcc 2 _ rfl
        clear hcc
        have hsz := HEL.out k _ ha
        have hts := totUp_snoc (f := totAnchor) ha
        have htl := totUp_le totAnchor l (k + 1)
        have hgw : g < wr.heap.size := by omega
        have hki : (k : Int) < (n : Int) := by omega
        clear ha
        rw [← HN.out] at htl
        obtain ⟨T, hT⟩ : ∃ T, T = totUp totAnchor l k := ⟨_, rfl⟩
        rw [← hT] at hts hle ⊢
        obtain ⟨U, hUU⟩ : ∃ U, U = totAnchor (x0, x1, x2) := ⟨_, rfl⟩
        rw [← hUU] at hts
        have HT := Lib.hid hts
        have HTL := Lib.hid htl
        clear hT htl
        by_cases fu : (U : Int) ≤ left - ((n + T : Nat) : Int)
        case pos =>
          go_wp2_with fail
          refine (szAnchor_any x0 x1 x2 (left - ((n + T : Nat) : Int)) _ (by omega) (by omega) hsz ).mono ?_
          rw [← hUU]
          rw [szV_yes (by omega)]
          rintro e wZ ⟨rfl, hbZ⟩
          have fy : 0 ≤ left - ((n + T : Nat) : Int) - (U : Int) := by omega
          go_wp2_with fail
          go_roundw
          case rel => exact ⟨k + 1, by omega, by go_num, by rw [HT.out]; congr 1; omega, by rw [HT.out]; omega, by repeat' (first | with_reducible assumption | with_reducible exact Below.refl _ _ | (with_reducible refine Below.setCell ?_ ?_ _) | (with_reducible refine Below.alloc ?_ ?_ _) | (with_reducible refine Below.drew ?_) | (with_reducible refine below_dr ?_ _) | (with_reducible refine Below.trans ?_ (Below.mono (by with_reducible assumption) ?_)) | omega | (simp; done) | (simp; omega))⟩
          case measure => simp [intOf]; omega
        case neg =>
          have H := Lib.hid (show (-1 : Int) = V by rw [HV.out, szV_no (by have := HTL.out; have := HT.out; omega)])
          go_wp2_with fail
          refine (szAnchor_any x0 x1 x2 (left - ((n + T : Nat) : Int)) _ (by omega) (by omega) hsz ).mono ?_
          rw [← hUU]
          rw [szV_no (by omega)]
          rintro e wZ ⟨rfl, hbZ⟩
          go_wp2_with fail
          go_ret
          exact ⟨ret_i H.out, by repeat' (first | with_reducible assumption | with_reducible exact Below.refl _ _ | (with_reducible refine Below.setCell ?_ ?_ _) | (with_reducible refine Below.alloc ?_ ?_ _) | (with_reducible refine Below.drew ?_) | (with_reducible refine below_dr ?_ _) | (with_reducible refine Below.trans ?_ (Below.mono (by with_reducible assumption) ?_)) | omega | (simp; done) | (simp; omega))⟩
      case neg =>
        obtain rfl : k = n := by omega
        have H := Lib.hid (show left - ((k + totUp totAnchor l k : Nat) : Int) = V by rw [HV.out, HALL.out, szV_yes (by rw [← HALL.out]; exact hle)])
        go_wp2_with fail
        go_ret
        exact ⟨ret_i H.out, by repeat' (first | with_reducible assumption | with_reducible exact Below.refl _ _ | (with_reducible refine Below.setCell ?_ ?_ _) | (with_reducible refine Below.alloc ?_ ?_ _) | (with_reducible refine Below.drew ?_) | (with_reducible refine below_dr ?_ _) | (with_reducible refine Below.trans ?_ (Below.mono (by with_reducible assumption) ?_)) | omega | (simp; done) | (simp; omega))⟩
end Go.Proofs.Ytelefmogmloniaa
