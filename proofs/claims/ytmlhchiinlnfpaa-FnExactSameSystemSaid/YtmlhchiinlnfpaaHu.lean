/- Walks: rows of a system are measured. -/
import Derived.Test.YtmlhchiinlnfpaaHr
namespace Go.Proofs.Ytmlhchiinlnfpaa
open Go.RowKit
set_option linter.unusedVariables false
set_option maxHeartbeats 1600000 in
theorem szRow_yes (x0 : ByteArray) (x1 : Int) (x2 : Int) (x3A : Option Addr) (x3c : Nat) (x3l : List ATerm) (left : Int) (w : World) (h0 : 0 ≤ left) (h1 : left ≤ 1048576) (hm : x3l.length ≤ 9223372036854775807) (h : ((x0.size + (x3l.length + totTerm x3l) : Nat) : Int) ≤ left) (hs_x0 : x0.size ≤ maxLen) (r_x3 : Rd cTerm 3 w w.heap.size x3A x3l) (hok : ∀ (w2 : World) (B : Nat) (i : Nat) (a : ATerm), x3l[i]? = some a → okTerm w2 B a) :
    Calls Try.prog 106 #[.agg #[.string x0, .int .i64 x1, .int .i64 x2, .slice x3A x3l.length x3c], .int .i64 left] w fun e w' => e = .returned (.int .i64 (left - ((x0.size + (x3l.length + totTerm x3l) : Nat) : Int))) ∧ Below w.heap.size w w' := by
  have HK := Lib.hid hok
  clear hok
  have HH := Lib.hid h
  clear h
  unfold maxLen at hs_x0
  obtain ⟨V, hV⟩ : ∃ V : Int, V = left - ((x0.size + (x3l.length + totTerm x3l) : Nat) : Int) := ⟨_, rfl⟩
  have HV := Lib.hid hV
  rw [← hV]
  have hv : 0 ≤ V := by have := HH.out; omega
  clear hV
  have f_x0 : 0 ≤ left - (x0.size : Int) := by have := HH.out; omega
  go_enter Try.func106, Try.ntmps106
  go_wp2_with fail
  refine (szLinear_yes x1 x2 x3A x3c x3l (left - x0.size) _ (by omega) (by omega) hm (by have := HH.out; omega) ?_ (HK.out _ _)).mono ?_
  · exact (r_x3.below (by repeat' (first | with_reducible assumption | with_reducible exact Below.refl _ _ | (with_reducible refine Below.setCell ?_ ?_ _) | (with_reducible refine Below.alloc ?_ ?_ _) | (with_reducible refine Below.drew ?_) | (with_reducible refine below_dr ?_ _) | (with_reducible refine Below.trans ?_ (Below.mono (by with_reducible assumption) ?_)) | omega | (simp; done) | (simp; omega)))).more (by (try simp only [World.size_setCell]); (try simp only [World.size_drew]); (try simp only [World.size_alloc]); omega)
  rw [show left - x0.size - ((x3l.length + totTerm x3l : Nat) : Int) = V from by have := HV.out; omega]
  rintro e wZ ⟨rfl, hbZ⟩
  go_wp2_with fail
  go_ret
  exact ⟨rfl, by repeat' (first | with_reducible assumption | with_reducible exact Below.refl _ _ | (with_reducible refine Below.setCell ?_ ?_ _) | (with_reducible refine Below.alloc ?_ ?_ _) | (with_reducible refine Below.drew ?_) | (with_reducible refine below_dr ?_ _) | (with_reducible refine Below.trans ?_ (Below.mono (by with_reducible assumption) ?_)) | omega | (simp; done) | (simp; omega))⟩
set_option maxHeartbeats 1600000 in
theorem szRow_no (x0 : ByteArray) (x1 : Int) (x2 : Int) (x3A : Option Addr) (x3c : Nat) (x3l : List ATerm) (left : Int) (w : World) (h0 : 0 ≤ left) (h1 : left ≤ 1048576) (hm : x3l.length ≤ 9223372036854775807) (h : left < ((x0.size + (x3l.length + totTerm x3l) : Nat) : Int)) (hs_x0 : x0.size ≤ maxLen) (r_x3 : Rd cTerm 3 w w.heap.size x3A x3l) (hok : ∀ (w2 : World) (B : Nat) (i : Nat) (a : ATerm), x3l[i]? = some a → okTerm w2 B a) :
    Calls Try.prog 106 #[.agg #[.string x0, .int .i64 x1, .int .i64 x2, .slice x3A x3l.length x3c], .int .i64 left] w fun e w' => e = .returned (.int .i64 (-1)) ∧ Below w.heap.size w w' := by
  have HK := Lib.hid hok
  clear hok
  have HH := Lib.hid h
  clear h
  unfold maxLen at hs_x0
  by_cases f_x0 : left - (x0.size : Int) < 0
  case pos =>
    go_enter Try.func106, Try.ntmps106
    go_wp2_with fail
    go_ret
    exact ⟨rfl, by repeat' (first | with_reducible assumption | with_reducible exact Below.refl _ _ | (with_reducible refine Below.setCell ?_ ?_ _) | (with_reducible refine Below.alloc ?_ ?_ _) | (with_reducible refine Below.drew ?_) | (with_reducible refine below_dr ?_ _) | (with_reducible refine Below.trans ?_ (Below.mono (by with_reducible assumption) ?_)) | omega | (simp; done) | (simp; omega))⟩
  case neg =>
    replace f_x0 : 0 ≤ left - (x0.size : Int) := by omega
    go_enter Try.func106, Try.ntmps106
    go_wp2_with fail
    refine (szLinear_no x1 x2 x3A x3c x3l (left - x0.size) _ (by omega) (by omega) hm (by have := HH.out; omega) ?_ (HK.out _ _)).mono ?_
    · exact (r_x3.below (by repeat' (first | with_reducible assumption | with_reducible exact Below.refl _ _ | (with_reducible refine Below.setCell ?_ ?_ _) | (with_reducible refine Below.alloc ?_ ?_ _) | (with_reducible refine Below.drew ?_) | (with_reducible refine below_dr ?_ _) | (with_reducible refine Below.trans ?_ (Below.mono (by with_reducible assumption) ?_)) | omega | (simp; done) | (simp; omega)))).more (by (try simp only [World.size_setCell]); (try simp only [World.size_drew]); (try simp only [World.size_alloc]); omega)
    rintro e wZ ⟨rfl, hbZ⟩
    go_wp2_with fail
    go_ret
    exact ⟨rfl, by repeat' (first | with_reducible assumption | with_reducible exact Below.refl _ _ | (with_reducible refine Below.setCell ?_ ?_ _) | (with_reducible refine Below.alloc ?_ ?_ _) | (with_reducible refine Below.drew ?_) | (with_reducible refine below_dr ?_ _) | (with_reducible refine Below.trans ?_ (Below.mono (by with_reducible assumption) ?_)) | omega | (simp; done) | (simp; omega))⟩
def oneRow (d : DRow) : Nat := d.1.size + (d.2.2.2.length + totTerm d.2.2.2)
def totRow (ds : List DRow) : Nat := (ds.map oneRow).sum
theorem totRow_snoc (l : List DRow) (k : Nat) (a : DRow) (h : l[k]? = some a) : totRow (l.take (k + 1)) = totRow (l.take k) + oneRow a := by
  unfold totRow; rw [List.take_add_one, h]; simp
theorem totRow_le (l : List DRow) (k : Nat) : totRow (l.take k) ≤ totRow l := by
  have h := List.take_append_drop k l
  have : totRow l = totRow (l.take k) + totRow (l.drop k) := by
    unfold totRow; rw [← List.sum_append, ← List.map_append, h]
  omega
/-- What is well formed of the elements. -/
def okDRow (d : DRow) : Prop := d.1.size ≤ maxLen ∧ d.2.2.2.length ≤ maxLen ∧ ∀ (w2 : World) (B : Nat) (i : Nat) (a : ATerm), d.2.2.2[i]? = some a → okTerm w2 B a
set_option maxHeartbeats 1600000 in
theorem szRowS_yes (ds : List DRow) (A : Option Addr) (c : Nat) (left : Int) (w : World) (h1 : left ≤ 1048576) (h : ((ds.length + totRow ds : Nat) : Int) ≤ left) (hr : RdRow w w.heap.size A ds) (hok : ∀ (i : Nat) (d : DRow), ds[i]? = some d → okDRow d) :
    Calls Try.prog 70 #[.slice A ds.length c, .int .i64 left] w fun e w' => e = .returned (.int .i64 (left - (ds.length + totRow ds : Nat))) ∧ Below w.heap.size w w' := by
  have HOK := Lib.hid hok
  clear hok
  obtain ⟨n, hn⟩ : ∃ n, n = ds.length := ⟨_, rfl⟩
  rw [← hn]
  rw [← hn] at h
  have HN := Lib.hid hn
  clear hn
  go_enter Try.func70, Try.ntmps70
  go_wp2
  go_loopw [1, 5] (fun v i wr => ∃ k : Nat, k ≤ n ∧ i = .int .i64 k ∧ v = .int .i64 (left - (n + totRow (ds.take k) : Nat)) ∧ Below w.heap.size w wr) (fun _ i _ => n - (intOf i).toNat)
  case atStart => exact ⟨0, Nat.zero_le _, rfl, by simp [totRow], by repeat' (first | with_reducible assumption | with_reducible exact Below.refl _ _ | (with_reducible refine Below.setCell ?_ ?_ _) | (with_reducible refine Below.alloc ?_ ?_ _) | (with_reducible refine Below.drew ?_) | (with_reducible refine below_dr ?_ _) | (with_reducible refine Below.trans ?_ (Below.mono (by with_reducible assumption) ?_)) | omega | (simp; done) | (simp; omega))⟩
  case round =>
    obtain ⟨k, hk, rfl, rfl, hbl⟩ := hrel
    by_cases hlt : k < n
    · obtain ⟨⟨x0, x1, x2, x3l⟩, ha⟩ : ∃ a, ds[k]? = some a := ⟨ds[k]'(by have := HN.out; omega), List.getElem?_eq_getElem (by have := HN.out; omega)⟩
      obtain ⟨g, o, x3A, x3c, rfl, hg, hc, hrd⟩ := (hr.carry hbl (Nat.le_refl _)).elem ha
      have hsz := HOK.out k _ ha
      simp only [okDRow] at hsz
      obtain ⟨hs_x0, hm_x3, hok_x3⟩ := hsz
      have c0 : wr.cell? ⟨g, o + k * 4, none⟩ = some (.string x0) := hc 0 _ rfl
      have c1 : wr.cell? ⟨g, o + k * 4 + 1, none⟩ = some (.int .i64 x1) := hc 1 _ rfl
      have c2 : wr.cell? ⟨g, o + k * 4 + 2, none⟩ = some (.int .i64 x2) := hc 2 _ rfl
      have c3 : wr.cell? ⟨g, o + k * 4 + 3, none⟩ = some (.slice x3A x3l.length x3c) := hc 3 _ rfl
      clear hc
      have hzr := hbl.size
      have hki : (k : Int) < (n : Int) := by omega
      have HKK := Lib.hid hok_x3
      clear hok_x3
      have hone : oneRow (x0, x1, x2, x3l) = x0.size + (x3l.length + totTerm x3l) := rfl
      have hts := totRow_snoc ds k _ ha
      have htl := totRow_le ds (k + 1)
      obtain ⟨T, hT⟩ : ∃ T, T = totRow (ds.take k) := ⟨_, rfl⟩
      rw [← hT] at hts ⊢
      obtain ⟨U, hU⟩ : ∃ U, U = oneRow (x0, x1, x2, x3l) := ⟨_, rfl⟩
      rw [← hU] at hts hone
      have HS := Lib.hid hts
      have hT2 : ((n + T : Nat) : Int) + (U : Int) ≤ left := by omega
      have HONE := Lib.hid hone
      clear hts htl ha hT hU hone
      obtain ⟨V, hV⟩ : ∃ V : Int, V = left - (n + T : Nat) := ⟨_, rfl⟩
      rw [← hV]
      have HV := Lib.hid hV
      have hv0 : (U : Int) ≤ V := by omega
      have hv1 : V ≤ 1048576 := by omega
      have hv2 : 0 ≤ V := by omega
      clear hV hT2
      go_wp2_with fail
      refine (szRow_yes x0 x1 x2 x3A x3c x3l V _ (by omega) (by omega) (by unfold maxLen at hm_x3; omega) (by have := HONE.out; omega) hs_x0 (hrd.more hzr) HKK.out).mono ?_
      rintro e w2 ⟨rfl, hb2⟩
      have hres : V - ((x0.size + (x3l.length + totTerm x3l) : Nat) : Int) = V - (U : Int) := by have := HONE.out; omega
      rw [hres]
      clear hres
      have hv3 : 0 ≤ V - (U : Int) := by omega
      go_wp2_with fail
      go_roundw
      case rel => exact ⟨k + 1, by omega, by go_num, by rw [HS.out]; have := HV.out; go_num, by repeat' (first | with_reducible assumption | with_reducible exact Below.refl _ _ | (with_reducible refine Below.setCell ?_ ?_ _) | (with_reducible refine Below.alloc ?_ ?_ _) | (with_reducible refine Below.drew ?_) | (with_reducible refine below_dr ?_ _) | (with_reducible refine Below.trans ?_ (Below.mono (by with_reducible assumption) ?_)) | omega | (simp; done) | (simp; omega))⟩
      case measure => simp [intOf]; omega
    · obtain rfl : k = n := by omega
      rw [List.take_of_length_le (by have := HN.out; omega)]
      go_wp2
      go_ret
      exact ⟨rfl, hbl⟩
set_option maxHeartbeats 1600000 in
theorem szRowS_no (ds : List DRow) (A : Option Addr) (c : Nat) (left : Int) (w : World) (h0 : 0 ≤ left) (h1 : left ≤ 1048576) (hm : ds.length ≤ 9223372036854775807) (h : left < ((ds.length + totRow ds : Nat) : Int)) (hr : RdRow w w.heap.size A ds) (hok : ∀ (i : Nat) (d : DRow), ds[i]? = some d → okDRow d) :
    Calls Try.prog 70 #[.slice A ds.length c, .int .i64 left] w fun e w' => e = .returned (.int .i64 (-1)) ∧ Below w.heap.size w w' := by
  have HOK := Lib.hid hok
  clear hok
  obtain ⟨n, hn⟩ : ∃ n, n = ds.length := ⟨_, rfl⟩
  rw [← hn]
  rw [← hn] at h hm
  have HN := Lib.hid hn
  clear hn
  by_cases hnl : left < (n : Int)
  · go_enter Try.func70, Try.ntmps70
    go_wp2
    go_ret
    exact ⟨rfl, by repeat' (first | with_reducible assumption | with_reducible exact Below.refl _ _ | (with_reducible refine Below.setCell ?_ ?_ _) | (with_reducible refine Below.alloc ?_ ?_ _) | (with_reducible refine Below.drew ?_) | (with_reducible refine below_dr ?_ _) | (with_reducible refine Below.trans ?_ (Below.mono (by with_reducible assumption) ?_)) | omega | (simp; done) | (simp; omega))⟩
  · go_enter Try.func70, Try.ntmps70
    go_wp2
    go_loopw [1, 5] (fun v i wr => ∃ k : Nat, k ≤ n ∧ i = .int .i64 k ∧ v = .int .i64 (left - (n + totRow (ds.take k) : Nat)) ∧ ((n + totRow (ds.take k) : Nat) : Int) ≤ left ∧ Below w.heap.size w wr) (fun _ i _ => n - (intOf i).toNat)
    case atStart => exact ⟨0, Nat.zero_le _, rfl, by simp [totRow], by simp [totRow]; omega, by repeat' (first | with_reducible assumption | with_reducible exact Below.refl _ _ | (with_reducible refine Below.setCell ?_ ?_ _) | (with_reducible refine Below.alloc ?_ ?_ _) | (with_reducible refine Below.drew ?_) | (with_reducible refine below_dr ?_ _) | (with_reducible refine Below.trans ?_ (Below.mono (by with_reducible assumption) ?_)) | omega | (simp; done) | (simp; omega))⟩
    case round =>
      obtain ⟨k, hk, rfl, rfl, hle, hbl⟩ := hrel
      by_cases hlt : k < n
      · obtain ⟨⟨x0, x1, x2, x3l⟩, ha⟩ : ∃ a, ds[k]? = some a := ⟨ds[k]'(by have := HN.out; omega), List.getElem?_eq_getElem (by have := HN.out; omega)⟩
        obtain ⟨g, o, x3A, x3c, rfl, hg, hc, hrd⟩ := (hr.carry hbl (Nat.le_refl _)).elem ha
        have hsz := HOK.out k _ ha
        simp only [okDRow] at hsz
        obtain ⟨hs_x0, hm_x3, hok_x3⟩ := hsz
        have c0 : wr.cell? ⟨g, o + k * 4, none⟩ = some (.string x0) := hc 0 _ rfl
        have c1 : wr.cell? ⟨g, o + k * 4 + 1, none⟩ = some (.int .i64 x1) := hc 1 _ rfl
        have c2 : wr.cell? ⟨g, o + k * 4 + 2, none⟩ = some (.int .i64 x2) := hc 2 _ rfl
        have c3 : wr.cell? ⟨g, o + k * 4 + 3, none⟩ = some (.slice x3A x3l.length x3c) := hc 3 _ rfl
        clear hc
        have hzr := hbl.size
        have hki : (k : Int) < (n : Int) := by omega
        have HKK := Lib.hid hok_x3
        clear hok_x3
        have hone : oneRow (x0, x1, x2, x3l) = x0.size + (x3l.length + totTerm x3l) := rfl
        have hts := totRow_snoc ds k _ ha
        obtain ⟨T, hT⟩ : ∃ T, T = totRow (ds.take k) := ⟨_, rfl⟩
        rw [← hT] at hts hle ⊢
        obtain ⟨U, hU⟩ : ∃ U, U = oneRow (x0, x1, x2, x3l) := ⟨_, rfl⟩
        rw [← hU] at hts hone
        have HS := Lib.hid hts
        have HONE := Lib.hid hone
        clear hts ha hT hU hone
        obtain ⟨V, hV⟩ : ∃ V : Int, V = left - (n + T : Nat) := ⟨_, rfl⟩
        rw [← hV]
        have HV := Lib.hid hV
        have hv1 : V ≤ 1048576 := by omega
        have hv2 : 0 ≤ V := by omega
        clear hV hle
        by_cases hfit : (U : Int) ≤ V
        · go_wp2_with fail
          refine (szRow_yes x0 x1 x2 x3A x3c x3l V _ (by omega) (by omega) (by unfold maxLen at hm_x3; omega) (by have := HONE.out; omega) hs_x0 (hrd.more hzr) HKK.out).mono ?_
          rintro e w2 ⟨rfl, hb2⟩
          have hres : V - ((x0.size + (x3l.length + totTerm x3l) : Nat) : Int) = V - (U : Int) := by have := HONE.out; omega
          rw [hres]
          clear hres
          have hv3 : 0 ≤ V - (U : Int) := by omega
          go_wp2_with fail
          go_roundw
          case rel => exact ⟨k + 1, by omega, by go_num, by rw [HS.out]; have := HV.out; go_num, by rw [HS.out]; have := HV.out; omega, by repeat' (first | with_reducible assumption | with_reducible exact Below.refl _ _ | (with_reducible refine Below.setCell ?_ ?_ _) | (with_reducible refine Below.alloc ?_ ?_ _) | (with_reducible refine Below.drew ?_) | (with_reducible refine below_dr ?_ _) | (with_reducible refine Below.trans ?_ (Below.mono (by with_reducible assumption) ?_)) | omega | (simp; done) | (simp; omega))⟩
          case measure => simp [intOf]; omega
        · have hfit2 : V < (U : Int) := by omega
          go_wp2_with fail
          refine (szRow_no x0 x1 x2 x3A x3c x3l V _ (by omega) (by omega) (by unfold maxLen at hm_x3; omega) (by have := HONE.out; omega) hs_x0 (hrd.more hzr) HKK.out).mono ?_
          rintro e w2 ⟨rfl, hb2⟩
          go_wp2_with fail
          go_ret
          exact ⟨rfl, by repeat' (first | with_reducible assumption | with_reducible exact Below.refl _ _ | (with_reducible refine Below.setCell ?_ ?_ _) | (with_reducible refine Below.alloc ?_ ?_ _) | (with_reducible refine Below.drew ?_) | (with_reducible refine below_dr ?_ _) | (with_reducible refine Below.trans ?_ (Below.mono (by with_reducible assumption) ?_)) | omega | (simp; done) | (simp; omega))⟩
      · obtain rfl : k = n := by omega
        rw [List.take_of_length_le (by have := HN.out; omega)] at hle
        exfalso; omega
end Go.Proofs.Ytmlhchiinlnfpaa
