/- Walks: they are compared. -/
import Derived.Test.YtonoldjhfhngfaaDoorSy4
import Derived.Deep.RegionHeld3
namespace Go.Proofs.YtonoldjhfhngfaaDoor
open Go.RowKit
set_option linter.unusedVariables false
set_option maxHeartbeats 3200000 in
theorem xeqFrac_any (x0 : Int) (x1 : Int)  (w : World) (ht : totFrac (x0, x1) ≤ 4611686018427387904)   :
    Calls Tryd.prog 85 #[.agg #[.int .i64 x0, .int .i64 x1], .agg #[.int .i64 x0, .int .i64 x1]] w fun e w' => e = .returned (.bool true) ∧ Below w.heap.size w w' := by
  have d_x0 : (x0 != x0) = false := by simp
  have d_x1 : (x1 != x1) = false := by simp
  go_enter Tryd.func85, Tryd.ntmps85
  go_wp2_with fail
  go_ret
  exact ⟨rfl, by repeat' (first | with_reducible assumption | with_reducible exact Below.refl _ _ | (with_reducible refine Below.setCell ?_ ?_ _) | (with_reducible refine Below.alloc ?_ ?_ _) | (with_reducible refine Below.drew ?_) | (with_reducible refine below_dr ?_ _) | (with_reducible refine Below.trans ?_ (Below.mono (by with_reducible assumption) ?_)) | omega | (simp; done) | (simp; omega))⟩
set_option maxHeartbeats 3200000 in
theorem xeqTerm_any (x0 : ByteArray) (x1 : Int) (x2 : Int)  (w : World) (ht : totTerm (x0, x1, x2) ≤ 4611686018427387904)   :
    Calls Tryd.prog 101 #[.agg #[.string x0, .int .i64 x1, .int .i64 x2], .agg #[.string x0, .int .i64 x1, .int .i64 x2]] w fun e w' => e = .returned (.bool true) ∧ Below w.heap.size w w' := by
  have e_x0 : (x0.toList == x0.toList) = true := by simp
  have d_x0 : (x0.toList != x0.toList) = false := by simp
  go_enter Tryd.func101, Tryd.ntmps101
  go_wp2_with fail
  refine (xeqFrac_any x1 x2  _ (show totFrac (x1, x2) ≤ 4611686018427387904 from by first | exact Nat.zero_le _ | (simp only [totFrac]; omega)) ).mono ?_
  rintro e wZ0 ⟨rfl, hbwZ0⟩
  obtain ⟨hcwZ0, hfwZ0⟩ := bcell hbwZ0
  have hzwZ0 := hbwZ0.size
  (try simp only [World.size_setCell] at hcwZ0 hfwZ0 hzwZ0)
  (try simp only [World.size_drew] at hcwZ0 hfwZ0 hzwZ0)
  (try simp only [World.size_alloc] at hcwZ0 hfwZ0 hzwZ0)
  have qwZ00 : w.heap.size < wZ0.heap.size := by omega
  have qwZ01 : w.heap.size + 1 < wZ0.heap.size := by omega
  go_wp2_with fail
  go_ret
  exact ⟨rfl, by repeat' (first | with_reducible assumption | with_reducible exact Below.refl _ _ | (with_reducible refine Below.setCell ?_ ?_ _) | (with_reducible refine Below.alloc ?_ ?_ _) | (with_reducible refine Below.drew ?_) | (with_reducible refine below_dr ?_ _) | (with_reducible refine Below.trans ?_ (Below.mono (by with_reducible assumption) ?_)) | omega | (simp; done) | (simp; omega))⟩
set_option maxHeartbeats 3200000 in
theorem xeqTermS_any (l : List DTerm) (A A' : Option Addr) (c c' : Nat) (w : World) (ht : totRow totTerm l ≤ 4611686018427387904) (r : Row RvTerm 3 w w.heap.size A l) (r' : Row RvTerm 3 w w.heap.size A' l) :
    Calls Tryd.prog 86 #[.slice A l.length c, .slice A' l.length c'] w fun e w' => e = .returned (.bool true) ∧ Below w.heap.size w w' := by
  have HTE := Lib.hid (fun (k : Nat) (d : DTerm) (h : l[k]? = some d) => Nat.le_trans (totRow_at (f := totTerm) h) ht)
  have hl : l.length ≤ 4611686018427387904 := Nat.le_trans (totRow_len totTerm l) ht
  clear ht
  obtain ⟨n, hn⟩ : ∃ n, n = l.length := ⟨_, rfl⟩
  rw [← hn] at hl ⊢
  have HN := Lib.hid hn
  clear hn
  have e0 : ((n : Int) != (n : Int)) = false := by simp
  go_enter Tryd.func86, Tryd.ntmps86
  go_wp2_with fail
  go_loopw [5] (fun i wr => ∃ k : Nat, k ≤ n ∧ i = .int .i64 (k : Int) ∧ Below w.heap.size w wr) (fun i _ => n - (intOf i).toNat)
  case atStart => exact ⟨0, Nat.zero_le _, rfl, by repeat' (first | with_reducible assumption | with_reducible exact Below.refl _ _ | (with_reducible refine Below.setCell ?_ ?_ _) | (with_reducible refine Below.alloc ?_ ?_ _) | (with_reducible refine Below.drew ?_) | (with_reducible refine below_dr ?_ _) | (with_reducible refine Below.trans ?_ (Below.mono (by with_reducible assumption) ?_)) | omega | (simp; done) | (simp; omega))⟩
  case round =>
    obtain ⟨k, hk, rfl, hbl⟩ := hrel
    by_cases hlt : k < n
    case pos =>
      obtain ⟨⟨x0, x1, x2⟩, ha⟩ : ∃ a, l[k]? = some a := ⟨l[k]'(by have := HN.out; omega), List.getElem?_eq_getElem (by have := HN.out; omega)⟩
      obtain ⟨g, o, row, rfl, hg, hR, hcc⟩ := (Row.carry (w' := wr) r hbl (Nat.le_refl _)).elem ha
      obtain rfl := hR
      have c0 : wr.cell? ⟨g, o + k * 3, none⟩ = some (.string x0) := hcc 0 _ rfl
      have c1 : wr.cell? ⟨g, o + k * 3 + 1, none⟩ = some (.int .i64 x1) := hcc 1 _ rfl
      have c2 : wr.cell? ⟨g, o + k * 3 + 2, none⟩ = some (.int .i64 x2) := hcc 2 _ rfl
      clear hcc
      obtain ⟨g2, o2, row', rfl, hg2, hR', hcd⟩ := (Row.carry (w' := wr) r' hbl (Nat.le_refl _)).elem ha
      obtain rfl := hR'
      have d0 : wr.cell? ⟨g2, o2 + k * 3, none⟩ = some (.string x0) := hcd 0 _ rfl
      have d1 : wr.cell? ⟨g2, o2 + k * 3 + 1, none⟩ = some (.int .i64 x1) := hcd 1 _ rfl
      have d2 : wr.cell? ⟨g2, o2 + k * 3 + 2, none⟩ = some (.int .i64 x2) := hcd 2 _ rfl
      clear hcd
      have hte := HTE.out k _ ha
      clear ha r r'
      have hzr := hbl.size
      have hki : (k : Int) < (n : Int) := by omega
      have hgw : g < wr.heap.size := by omega
      have hgw2 : g2 < wr.heap.size := by omega
      go_wp2_with fail
      go_region_held3 (fun w' => w'.cell? ⟨g, o + k * 3, none⟩ = some (.string x0) ∧ w'.cell? ⟨g, o + k * 3 + 1, none⟩ = some (.int .i64 x1) ∧ w'.cell? ⟨g, o + k * 3 + 2, none⟩ = some (.int .i64 x2) ∧ w'.cell? ⟨g2, o2 + k * 3, none⟩ = some (.string x0) ∧ w'.cell? ⟨g2, o2 + k * 3 + 1, none⟩ = some (.int .i64 x1) ∧ w'.cell? ⟨g2, o2 + k * 3 + 2, none⟩ = some (.int .i64 x2) ∧ g < w'.heap.size ∧ g2 < w'.heap.size)
        (first | exact ⟨c0, c1, c2, d0, d1, d2, hgw, hgw2⟩ | assumption | fail)
        (first
          | (go_at_call 101; (with_reducible refine (xeqTerm_any x0 x1 x2  _ hte ).mono ?_); rintro e wA ⟨rfl, hbA⟩; have hzA := hbA.size; (try simp only [World.size_drew] at hzA); have hS :  wA.cell? ⟨g, o + k * 3, none⟩ = some (.string x0) ∧ wA.cell? ⟨g, o + k * 3 + 1, none⟩ = some (.int .i64 x1) ∧ wA.cell? ⟨g, o + k * 3 + 2, none⟩ = some (.int .i64 x2) ∧ wA.cell? ⟨g2, o2 + k * 3, none⟩ = some (.string x0) ∧ wA.cell? ⟨g2, o2 + k * 3 + 1, none⟩ = some (.int .i64 x1) ∧ wA.cell? ⟨g2, o2 + k * 3 + 2, none⟩ = some (.int .i64 x2) ∧ g < wA.heap.size ∧ g2 < wA.heap.size := ⟨(hbA.cell (p := ⟨g, _, none⟩) (by simp only [World.size_drew]; omega)).trans c0, (hbA.cell (p := ⟨g, _, none⟩) (by simp only [World.size_drew]; omega)).trans c1, (hbA.cell (p := ⟨g, _, none⟩) (by simp only [World.size_drew]; omega)).trans c2, (hbA.cell (p := ⟨g2, _, none⟩) (by simp only [World.size_drew]; omega)).trans d0, (hbA.cell (p := ⟨g2, _, none⟩) (by simp only [World.size_drew]; omega)).trans d1, (hbA.cell (p := ⟨g2, _, none⟩) (by simp only [World.size_drew]; omega)).trans d2, by omega, by omega⟩))
      all_goals
        go_wp2_with fail
        go_roundw
        case rel => exact ⟨k + 1, by omega, by go_num, by repeat' (first | with_reducible assumption | with_reducible exact Below.refl _ _ | (with_reducible refine Below.setCell ?_ ?_ _) | (with_reducible refine Below.alloc ?_ ?_ _) | (with_reducible refine Below.drew ?_) | (with_reducible refine below_dr ?_ _) | (with_reducible refine Below.trans ?_ (Below.mono (by with_reducible assumption) ?_)) | omega | (simp; done) | (simp; omega))⟩
        case measure => simp [intOf]; omega
    case neg =>
      go_wp2_with fail
      go_ret
      exact ⟨rfl, hbl⟩
set_option maxHeartbeats 3200000 in
theorem xeqLinear_any (x0 : Int) (x1 : Int) (x2A : Option Addr) (x2c : Nat) (x2l : List DTerm) (x2A' : Option Addr) (x2c' : Nat) (w : World) (ht : totLinear (x0, x1, x2l) ≤ 4611686018427387904) (r_x2 : Row RvTerm 3 w w.heap.size x2A x2l) (r'_x2 : Row RvTerm 3 w w.heap.size x2A' x2l) :
    Calls Tryd.prog 66 #[.agg #[.int .i64 x0, .int .i64 x1, .slice x2A x2l.length x2c], .agg #[.int .i64 x0, .int .i64 x1, .slice x2A' x2l.length x2c']] w fun e w' => e = .returned (.bool true) ∧ Below w.heap.size w w' := by
  replace ht : totRow totTerm x2l ≤ 4611686018427387904 := ht
  go_enter Tryd.func66, Tryd.ntmps66
  go_wp2_with fail
  refine (xeqFrac_any x0 x1  _ (show totFrac (x0, x1) ≤ 4611686018427387904 from by first | exact Nat.zero_le _ | (simp only [totFrac]; omega)) ).mono ?_
  rintro e wZ0 ⟨rfl, hbwZ0⟩
  obtain ⟨hcwZ0, hfwZ0⟩ := bcell hbwZ0
  have hzwZ0 := hbwZ0.size
  (try simp only [World.size_setCell] at hcwZ0 hfwZ0 hzwZ0)
  (try simp only [World.size_drew] at hcwZ0 hfwZ0 hzwZ0)
  (try simp only [World.size_alloc] at hcwZ0 hfwZ0 hzwZ0)
  have qwZ00 : w.heap.size < wZ0.heap.size := by omega
  have qwZ01 : w.heap.size + 1 < wZ0.heap.size := by omega
  go_wp2_with fail
  refine (xeqTermS_any x2l x2A x2A' x2c x2c' _ (by omega) ?_ ?_).mono ?_
  · exact (Row.carry (w' := _) r_x2 (by repeat' (first | with_reducible assumption | with_reducible exact Below.refl _ _ | (with_reducible refine Below.setCell ?_ ?_ _) | (with_reducible refine Below.alloc ?_ ?_ _) | (with_reducible refine Below.drew ?_) | (with_reducible refine below_dr ?_ _) | (with_reducible refine Below.trans ?_ (Below.mono (by with_reducible assumption) ?_)) | omega | (simp; done) | (simp; omega))) (Nat.le_refl _)).more (by (try simp only [World.size_setCell]); (try simp only [World.size_drew]); (try simp only [World.size_alloc]); omega)
  · exact (Row.carry (w' := _) r'_x2 (by repeat' (first | with_reducible assumption | with_reducible exact Below.refl _ _ | (with_reducible refine Below.setCell ?_ ?_ _) | (with_reducible refine Below.alloc ?_ ?_ _) | (with_reducible refine Below.drew ?_) | (with_reducible refine below_dr ?_ _) | (with_reducible refine Below.trans ?_ (Below.mono (by with_reducible assumption) ?_)) | omega | (simp; done) | (simp; omega))) (Nat.le_refl _)).more (by (try simp only [World.size_setCell]); (try simp only [World.size_drew]); (try simp only [World.size_alloc]); omega)
  rintro e wZ1 ⟨rfl, hbwZ1⟩
  obtain ⟨hcwZ1, hfwZ1⟩ := bcell hbwZ1
  have hzwZ1 := hbwZ1.size
  (try simp only [World.size_setCell] at hcwZ1 hfwZ1 hzwZ1)
  (try simp only [World.size_drew] at hcwZ1 hfwZ1 hzwZ1)
  (try simp only [World.size_alloc] at hcwZ1 hfwZ1 hzwZ1)
  have qwZ10 : w.heap.size < wZ1.heap.size := by omega
  have qwZ11 : w.heap.size + 1 < wZ1.heap.size := by omega
  go_wp2_with fail
  go_ret
  exact ⟨rfl, by repeat' (first | with_reducible assumption | with_reducible exact Below.refl _ _ | (with_reducible refine Below.setCell ?_ ?_ _) | (with_reducible refine Below.alloc ?_ ?_ _) | (with_reducible refine Below.drew ?_) | (with_reducible refine below_dr ?_ _) | (with_reducible refine Below.trans ?_ (Below.mono (by with_reducible assumption) ?_)) | omega | (simp; done) | (simp; omega))⟩
set_option maxHeartbeats 3200000 in
theorem xeqSRow_any (x0 : ByteArray) (x1 : Int) (x2 : Int) (x3A : Option Addr) (x3c : Nat) (x3l : List DTerm) (x3A' : Option Addr) (x3c' : Nat) (w : World) (ht : totSRow (x0, x1, x2, x3l) ≤ 4611686018427387904) (r_x3 : Row RvTerm 3 w w.heap.size x3A x3l) (r'_x3 : Row RvTerm 3 w w.heap.size x3A' x3l) :
    Calls Tryd.prog 47 #[.agg #[.string x0, .int .i64 x1, .int .i64 x2, .slice x3A x3l.length x3c], .agg #[.string x0, .int .i64 x1, .int .i64 x2, .slice x3A' x3l.length x3c']] w fun e w' => e = .returned (.bool true) ∧ Below w.heap.size w w' := by
  have e_x0 : (x0.toList == x0.toList) = true := by simp
  have d_x0 : (x0.toList != x0.toList) = false := by simp
  replace ht : x0.size + totRow totTerm x3l ≤ 4611686018427387904 := ht
  go_enter Tryd.func47, Tryd.ntmps47
  go_wp2_with fail
  refine (xeqLinear_any x1 x2 x3A x3c x3l x3A' x3c' _ (by show totRow totTerm x3l ≤ 4611686018427387904; omega) ?_ ?_).mono ?_
  · exact (Row.carry (w' := _) r_x3 (by repeat' (first | with_reducible assumption | with_reducible exact Below.refl _ _ | (with_reducible refine Below.setCell ?_ ?_ _) | (with_reducible refine Below.alloc ?_ ?_ _) | (with_reducible refine Below.drew ?_) | (with_reducible refine below_dr ?_ _) | (with_reducible refine Below.trans ?_ (Below.mono (by with_reducible assumption) ?_)) | omega | (simp; done) | (simp; omega))) (Nat.le_refl _)).more (by (try simp only [World.size_setCell]); (try simp only [World.size_drew]); (try simp only [World.size_alloc]); omega)
  · exact (Row.carry (w' := _) r'_x3 (by repeat' (first | with_reducible assumption | with_reducible exact Below.refl _ _ | (with_reducible refine Below.setCell ?_ ?_ _) | (with_reducible refine Below.alloc ?_ ?_ _) | (with_reducible refine Below.drew ?_) | (with_reducible refine below_dr ?_ _) | (with_reducible refine Below.trans ?_ (Below.mono (by with_reducible assumption) ?_)) | omega | (simp; done) | (simp; omega))) (Nat.le_refl _)).more (by (try simp only [World.size_setCell]); (try simp only [World.size_drew]); (try simp only [World.size_alloc]); omega)
  rintro e wZ0 ⟨rfl, hbwZ0⟩
  obtain ⟨hcwZ0, hfwZ0⟩ := bcell hbwZ0
  have hzwZ0 := hbwZ0.size
  (try simp only [World.size_setCell] at hcwZ0 hfwZ0 hzwZ0)
  (try simp only [World.size_drew] at hcwZ0 hfwZ0 hzwZ0)
  (try simp only [World.size_alloc] at hcwZ0 hfwZ0 hzwZ0)
  have qwZ00 : w.heap.size < wZ0.heap.size := by omega
  have qwZ01 : w.heap.size + 1 < wZ0.heap.size := by omega
  go_wp2_with fail
  go_ret
  exact ⟨rfl, by repeat' (first | with_reducible assumption | with_reducible exact Below.refl _ _ | (with_reducible refine Below.setCell ?_ ?_ _) | (with_reducible refine Below.alloc ?_ ?_ _) | (with_reducible refine Below.drew ?_) | (with_reducible refine below_dr ?_ _) | (with_reducible refine Below.trans ?_ (Below.mono (by with_reducible assumption) ?_)) | omega | (simp; done) | (simp; omega))⟩
set_option maxHeartbeats 3200000 in
theorem xeqSRowS_any (l : List DSRow) (A A' : Option Addr) (c c' : Nat) (w : World) (ht : totRow totSRow l ≤ 4611686018427387904) (r : Row RvSRow 4 w w.heap.size A l) (r' : Row RvSRow 4 w w.heap.size A' l) :
    Calls Tryd.prog 26 #[.slice A l.length c, .slice A' l.length c'] w fun e w' => e = .returned (.bool true) ∧ Below w.heap.size w w' := by
  have HTE := Lib.hid (fun (k : Nat) (d : DSRow) (h : l[k]? = some d) => Nat.le_trans (totRow_at (f := totSRow) h) ht)
  have hl : l.length ≤ 4611686018427387904 := Nat.le_trans (totRow_len totSRow l) ht
  clear ht
  obtain ⟨n, hn⟩ : ∃ n, n = l.length := ⟨_, rfl⟩
  rw [← hn] at hl ⊢
  have HN := Lib.hid hn
  clear hn
  have e0 : ((n : Int) != (n : Int)) = false := by simp
  go_enter Tryd.func26, Tryd.ntmps26
  go_wp2_with fail
  go_loopw [5] (fun i wr => ∃ k : Nat, k ≤ n ∧ i = .int .i64 (k : Int) ∧ Below w.heap.size w wr) (fun i _ => n - (intOf i).toNat)
  case atStart => exact ⟨0, Nat.zero_le _, rfl, by repeat' (first | with_reducible assumption | with_reducible exact Below.refl _ _ | (with_reducible refine Below.setCell ?_ ?_ _) | (with_reducible refine Below.alloc ?_ ?_ _) | (with_reducible refine Below.drew ?_) | (with_reducible refine below_dr ?_ _) | (with_reducible refine Below.trans ?_ (Below.mono (by with_reducible assumption) ?_)) | omega | (simp; done) | (simp; omega))⟩
  case round =>
    obtain ⟨k, hk, rfl, hbl⟩ := hrel
    by_cases hlt : k < n
    case pos =>
      obtain ⟨⟨x0, x1, x2, x3l⟩, ha⟩ : ∃ a, l[k]? = some a := ⟨l[k]'(by have := HN.out; omega), List.getElem?_eq_getElem (by have := HN.out; omega)⟩
      obtain ⟨g, o, row, rfl, hg, hR, hcc⟩ := (Row.carry (w' := wr) r hbl (Nat.le_refl _)).elem ha
      obtain ⟨x3A, x3c, rfl, hr_x3⟩ := hR
      have c0 : wr.cell? ⟨g, o + k * 4, none⟩ = some (.string x0) := hcc 0 _ rfl
      have c1 : wr.cell? ⟨g, o + k * 4 + 1, none⟩ = some (.int .i64 x1) := hcc 1 _ rfl
      have c2 : wr.cell? ⟨g, o + k * 4 + 2, none⟩ = some (.int .i64 x2) := hcc 2 _ rfl
      have c3 : wr.cell? ⟨g, o + k * 4 + 3, none⟩ = some (.slice x3A x3l.length x3c) := hcc 3 _ rfl
      clear hcc
      obtain ⟨g2, o2, row', rfl, hg2, hR', hcd⟩ := (Row.carry (w' := wr) r' hbl (Nat.le_refl _)).elem ha
      obtain ⟨x3A', x3c', rfl, hr'_x3⟩ := hR'
      have d0 : wr.cell? ⟨g2, o2 + k * 4, none⟩ = some (.string x0) := hcd 0 _ rfl
      have d1 : wr.cell? ⟨g2, o2 + k * 4 + 1, none⟩ = some (.int .i64 x1) := hcd 1 _ rfl
      have d2 : wr.cell? ⟨g2, o2 + k * 4 + 2, none⟩ = some (.int .i64 x2) := hcd 2 _ rfl
      have d3 : wr.cell? ⟨g2, o2 + k * 4 + 3, none⟩ = some (.slice x3A' x3l.length x3c') := hcd 3 _ rfl
      clear hcd
      have hte := HTE.out k _ ha
      clear ha r r'
      have hzr := hbl.size
      have hki : (k : Int) < (n : Int) := by omega
      have hgw : g < wr.heap.size := by omega
      have hgw2 : g2 < wr.heap.size := by omega
      replace hr_x3 := Row.more hr_x3 hzr
      replace hr'_x3 := Row.more hr'_x3 hzr
      go_wp2_with fail
      go_region_held3 (fun w' => w'.cell? ⟨g, o + k * 4, none⟩ = some (.string x0) ∧ w'.cell? ⟨g, o + k * 4 + 1, none⟩ = some (.int .i64 x1) ∧ w'.cell? ⟨g, o + k * 4 + 2, none⟩ = some (.int .i64 x2) ∧ w'.cell? ⟨g, o + k * 4 + 3, none⟩ = some (.slice x3A x3l.length x3c) ∧ w'.cell? ⟨g2, o2 + k * 4, none⟩ = some (.string x0) ∧ w'.cell? ⟨g2, o2 + k * 4 + 1, none⟩ = some (.int .i64 x1) ∧ w'.cell? ⟨g2, o2 + k * 4 + 2, none⟩ = some (.int .i64 x2) ∧ w'.cell? ⟨g2, o2 + k * 4 + 3, none⟩ = some (.slice x3A' x3l.length x3c') ∧ g < w'.heap.size ∧ g2 < w'.heap.size)
        (first | exact ⟨c0, c1, c2, c3, d0, d1, d2, d3, hgw, hgw2⟩ | assumption | fail)
        (first
          | (go_at_call 47; (with_reducible refine (xeqSRow_any x0 x1 x2 x3A x3c x3l x3A' x3c' _ hte ?_ ?_).mono ?_); (focus (first | exact hr_x3 | exact hr_x3.drew)); (focus (first | exact hr'_x3 | exact hr'_x3.drew)); rintro e wA ⟨rfl, hbA⟩; have hzA := hbA.size; (try simp only [World.size_drew] at hzA); have hS :  wA.cell? ⟨g, o + k * 4, none⟩ = some (.string x0) ∧ wA.cell? ⟨g, o + k * 4 + 1, none⟩ = some (.int .i64 x1) ∧ wA.cell? ⟨g, o + k * 4 + 2, none⟩ = some (.int .i64 x2) ∧ wA.cell? ⟨g, o + k * 4 + 3, none⟩ = some (.slice x3A x3l.length x3c) ∧ wA.cell? ⟨g2, o2 + k * 4, none⟩ = some (.string x0) ∧ wA.cell? ⟨g2, o2 + k * 4 + 1, none⟩ = some (.int .i64 x1) ∧ wA.cell? ⟨g2, o2 + k * 4 + 2, none⟩ = some (.int .i64 x2) ∧ wA.cell? ⟨g2, o2 + k * 4 + 3, none⟩ = some (.slice x3A' x3l.length x3c') ∧ g < wA.heap.size ∧ g2 < wA.heap.size := ⟨(hbA.cell (p := ⟨g, _, none⟩) (by simp only [World.size_drew]; omega)).trans c0, (hbA.cell (p := ⟨g, _, none⟩) (by simp only [World.size_drew]; omega)).trans c1, (hbA.cell (p := ⟨g, _, none⟩) (by simp only [World.size_drew]; omega)).trans c2, (hbA.cell (p := ⟨g, _, none⟩) (by simp only [World.size_drew]; omega)).trans c3, (hbA.cell (p := ⟨g2, _, none⟩) (by simp only [World.size_drew]; omega)).trans d0, (hbA.cell (p := ⟨g2, _, none⟩) (by simp only [World.size_drew]; omega)).trans d1, (hbA.cell (p := ⟨g2, _, none⟩) (by simp only [World.size_drew]; omega)).trans d2, (hbA.cell (p := ⟨g2, _, none⟩) (by simp only [World.size_drew]; omega)).trans d3, by omega, by omega⟩))
      all_goals
        go_wp2_with fail
        go_roundw
        case rel => exact ⟨k + 1, by omega, by go_num, by repeat' (first | with_reducible assumption | with_reducible exact Below.refl _ _ | (with_reducible refine Below.setCell ?_ ?_ _) | (with_reducible refine Below.alloc ?_ ?_ _) | (with_reducible refine Below.drew ?_) | (with_reducible refine below_dr ?_ _) | (with_reducible refine Below.trans ?_ (Below.mono (by with_reducible assumption) ?_)) | omega | (simp; done) | (simp; omega))⟩
        case measure => simp [intOf]; omega
    case neg =>
      go_wp2_with fail
      go_ret
      exact ⟨rfl, hbl⟩
set_option maxHeartbeats 3200000 in
theorem xeqSystem_any (x0A : Option Addr) (x0c : Nat) (x0l : List DSRow) (x0A' : Option Addr) (x0c' : Nat) (w : World) (ht : totSystem x0l ≤ 4611686018427387904) (r_x0 : Row RvSRow 4 w w.heap.size x0A x0l) (r'_x0 : Row RvSRow 4 w w.heap.size x0A' x0l) :
    Calls Tryd.prog 11 #[.agg #[.slice x0A x0l.length x0c], .agg #[.slice x0A' x0l.length x0c']] w fun e w' => e = .returned (.bool true) ∧ Below w.heap.size w w' := by
  replace ht : totRow totSRow x0l ≤ 4611686018427387904 := ht
  go_enter Tryd.func11, Tryd.ntmps11
  go_wp2_with fail
  refine (xeqSRowS_any x0l x0A x0A' x0c x0c' _ (by omega) ?_ ?_).mono ?_
  · exact (Row.carry (w' := _) r_x0 (by repeat' (first | with_reducible assumption | with_reducible exact Below.refl _ _ | (with_reducible refine Below.setCell ?_ ?_ _) | (with_reducible refine Below.alloc ?_ ?_ _) | (with_reducible refine Below.drew ?_) | (with_reducible refine below_dr ?_ _) | (with_reducible refine Below.trans ?_ (Below.mono (by with_reducible assumption) ?_)) | omega | (simp; done) | (simp; omega))) (Nat.le_refl _)).more (by (try simp only [World.size_setCell]); (try simp only [World.size_drew]); (try simp only [World.size_alloc]); omega)
  · exact (Row.carry (w' := _) r'_x0 (by repeat' (first | with_reducible assumption | with_reducible exact Below.refl _ _ | (with_reducible refine Below.setCell ?_ ?_ _) | (with_reducible refine Below.alloc ?_ ?_ _) | (with_reducible refine Below.drew ?_) | (with_reducible refine below_dr ?_ _) | (with_reducible refine Below.trans ?_ (Below.mono (by with_reducible assumption) ?_)) | omega | (simp; done) | (simp; omega))) (Nat.le_refl _)).more (by (try simp only [World.size_setCell]); (try simp only [World.size_drew]); (try simp only [World.size_alloc]); omega)
  rintro e wZ0 ⟨rfl, hbwZ0⟩
  obtain ⟨hcwZ0, hfwZ0⟩ := bcell hbwZ0
  have hzwZ0 := hbwZ0.size
  (try simp only [World.size_setCell] at hcwZ0 hfwZ0 hzwZ0)
  (try simp only [World.size_drew] at hcwZ0 hfwZ0 hzwZ0)
  (try simp only [World.size_alloc] at hcwZ0 hfwZ0 hzwZ0)
  have qwZ00 : w.heap.size < wZ0.heap.size := by omega
  have qwZ01 : w.heap.size + 1 < wZ0.heap.size := by omega
  go_wp2_with fail
  go_ret
  exact ⟨rfl, by repeat' (first | with_reducible assumption | with_reducible exact Below.refl _ _ | (with_reducible refine Below.setCell ?_ ?_ _) | (with_reducible refine Below.alloc ?_ ?_ _) | (with_reducible refine Below.drew ?_) | (with_reducible refine below_dr ?_ _) | (with_reducible refine Below.trans ?_ (Below.mono (by with_reducible assumption) ?_)) | omega | (simp; done) | (simp; omega))⟩
end Go.Proofs.YtonoldjhfhngfaaDoor
