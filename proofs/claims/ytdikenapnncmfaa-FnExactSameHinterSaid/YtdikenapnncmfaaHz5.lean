/- Walks: they are compared. -/
import Derived.Test.YtdikenapnncmfaaHz4
import Derived.Deep.RegionHeld3
namespace Go.Proofs.Ytdikenapnncmfaa
open Go.RowKit
set_option linter.unusedVariables false
set_option maxHeartbeats 3200000 in
theorem xeqInt64S_any (l : List DInt64) (A A' : Option Addr) (c c' : Nat) (w : World) (ht : totRow totInt64 l ≤ 4611686018427387904) (r : Row RvInt64 1 w w.heap.size A l) (r' : Row RvInt64 1 w w.heap.size A' l) :
    Calls Try.prog 16 #[.slice A l.length c, .slice A' l.length c'] w fun e w' => e = .returned (.bool true) ∧ Below w.heap.size w w' := by
  have HTE := Lib.hid (fun (k : Nat) (d : DInt64) (h : l[k]? = some d) => Nat.le_trans (totRow_at (f := totInt64) h) ht)
  have hl : l.length ≤ 4611686018427387904 := Nat.le_trans (totRow_len totInt64 l) ht
  clear ht
  obtain ⟨n, hn⟩ : ∃ n, n = l.length := ⟨_, rfl⟩
  rw [← hn] at hl ⊢
  have HN := Lib.hid hn
  clear hn
  have e0 : ((n : Int) != (n : Int)) = false := by simp
  go_enter Try.func16, Try.ntmps16
  go_wp2_with fail
  go_loopw [5] (fun i wr => ∃ k : Nat, k ≤ n ∧ i = .int .i64 (k : Int) ∧ Below w.heap.size w wr) (fun i _ => n - (intOf i).toNat)
  case atStart => exact ⟨0, Nat.zero_le _, rfl, by repeat' (first | with_reducible assumption | with_reducible exact Below.refl _ _ | (with_reducible refine Below.setCell ?_ ?_ _) | (with_reducible refine Below.alloc ?_ ?_ _) | (with_reducible refine Below.drew ?_) | (with_reducible refine below_dr ?_ _) | (with_reducible refine Below.trans ?_ (Below.mono (by with_reducible assumption) ?_)) | omega | (simp; done) | (simp; omega))⟩
  case round =>
    obtain ⟨k, hk, rfl, hbl⟩ := hrel
    by_cases hlt : k < n
    case pos =>
      obtain ⟨x0, ha⟩ : ∃ a, l[k]? = some a := ⟨l[k]'(by have := HN.out; omega), List.getElem?_eq_getElem (by have := HN.out; omega)⟩
      obtain ⟨g, o, row, rfl, hg, hR, hcc⟩ := (Row.carry (w' := wr) r hbl (Nat.le_refl _)).elem ha
      obtain rfl := hR
      have c0 : wr.cell? ⟨g, o + k, none⟩ = some (.int .i64 x0) := by have h := hcc 0 _ rfl; rw [Nat.mul_one] at h; exact h
      clear hcc
      obtain ⟨g2, o2, row', rfl, hg2, hR', hcd⟩ := (Row.carry (w' := wr) r' hbl (Nat.le_refl _)).elem ha
      obtain rfl := hR'
      have d0 : wr.cell? ⟨g2, o2 + k, none⟩ = some (.int .i64 x0) := by have h := hcd 0 _ rfl; rw [Nat.mul_one] at h; exact h
      clear hcd
      have hte := HTE.out k _ ha
      clear ha r r'
      have hzr := hbl.size
      have hki : (k : Int) < (n : Int) := by omega
      have hgw : g < wr.heap.size := by omega
      have hgw2 : g2 < wr.heap.size := by omega
      have d_x : (x0 != x0) = false := by simp
      go_wp2_with fail
      go_region_held3 (fun w' => w'.cell? ⟨g, o + k, none⟩ = some (.int .i64 x0) ∧ w'.cell? ⟨g2, o2 + k, none⟩ = some (.int .i64 x0) ∧ g < w'.heap.size ∧ g2 < w'.heap.size)
        (first | exact ⟨c0, d0, hgw, hgw2⟩ | assumption | fail)
        (fail)
      all_goals
        go_wp2_with fail
        go_roundw
        case rel => exact ⟨k + 1, by omega, by go_num, by repeat' (first | with_reducible assumption | with_reducible exact Below.refl _ _ | (with_reducible refine Below.setCell ?_ ?_ _) | (with_reducible refine Below.alloc ?_ ?_ _) | (with_reducible refine Below.drew ?_) | (with_reducible refine below_dr ?_ _) | (with_reducible refine Below.trans ?_ (Below.mono (by with_reducible assumption) ?_)) | omega | (simp; done) | (simp; omega))⟩
        case measure => simp [intOf]; omega
    case neg =>
      go_wp2_with fail
      go_ret
      exact ⟨rfl, hbl⟩
set_option maxHeartbeats 3200000 in
theorem xeqPt_any (x0 : Int) (x1 : Int)  (w : World) (ht : totPt (x0, x1) ≤ 4611686018427387904)   :
    Calls Try.prog 23 #[.agg #[.int .i64 x0, .int .i64 x1], .agg #[.int .i64 x0, .int .i64 x1]] w fun e w' => e = .returned (.bool true) ∧ Below w.heap.size w w' := by
  have d_x0 : (x0 != x0) = false := by simp
  have d_x1 : (x1 != x1) = false := by simp
  go_enter Try.func23, Try.ntmps23
  go_wp2_with fail
  go_ret
  exact ⟨rfl, by repeat' (first | with_reducible assumption | with_reducible exact Below.refl _ _ | (with_reducible refine Below.setCell ?_ ?_ _) | (with_reducible refine Below.alloc ?_ ?_ _) | (with_reducible refine Below.drew ?_) | (with_reducible refine below_dr ?_ _) | (with_reducible refine Below.trans ?_ (Below.mono (by with_reducible assumption) ?_)) | omega | (simp; done) | (simp; omega))⟩
set_option maxHeartbeats 3200000 in
theorem xeqPtS_any (l : List DPt) (A A' : Option Addr) (c c' : Nat) (w : World) (ht : totRow totPt l ≤ 4611686018427387904) (r : Row RvPt 2 w w.heap.size A l) (r' : Row RvPt 2 w w.heap.size A' l) :
    Calls Try.prog 91 #[.slice A l.length c, .slice A' l.length c'] w fun e w' => e = .returned (.bool true) ∧ Below w.heap.size w w' := by
  have HTE := Lib.hid (fun (k : Nat) (d : DPt) (h : l[k]? = some d) => Nat.le_trans (totRow_at (f := totPt) h) ht)
  have hl : l.length ≤ 4611686018427387904 := Nat.le_trans (totRow_len totPt l) ht
  clear ht
  obtain ⟨n, hn⟩ : ∃ n, n = l.length := ⟨_, rfl⟩
  rw [← hn] at hl ⊢
  have HN := Lib.hid hn
  clear hn
  have e0 : ((n : Int) != (n : Int)) = false := by simp
  go_enter Try.func91, Try.ntmps91
  go_wp2_with fail
  go_loopw [5] (fun i wr => ∃ k : Nat, k ≤ n ∧ i = .int .i64 (k : Int) ∧ Below w.heap.size w wr) (fun i _ => n - (intOf i).toNat)
  case atStart => exact ⟨0, Nat.zero_le _, rfl, by repeat' (first | with_reducible assumption | with_reducible exact Below.refl _ _ | (with_reducible refine Below.setCell ?_ ?_ _) | (with_reducible refine Below.alloc ?_ ?_ _) | (with_reducible refine Below.drew ?_) | (with_reducible refine below_dr ?_ _) | (with_reducible refine Below.trans ?_ (Below.mono (by with_reducible assumption) ?_)) | omega | (simp; done) | (simp; omega))⟩
  case round =>
    obtain ⟨k, hk, rfl, hbl⟩ := hrel
    by_cases hlt : k < n
    case pos =>
      obtain ⟨⟨x0, x1⟩, ha⟩ : ∃ a, l[k]? = some a := ⟨l[k]'(by have := HN.out; omega), List.getElem?_eq_getElem (by have := HN.out; omega)⟩
      obtain ⟨g, o, row, rfl, hg, hR, hcc⟩ := (Row.carry (w' := wr) r hbl (Nat.le_refl _)).elem ha
      obtain rfl := hR
      have c0 : wr.cell? ⟨g, o + k * 2, none⟩ = some (.int .i64 x0) := hcc 0 _ rfl
      have c1 : wr.cell? ⟨g, o + k * 2 + 1, none⟩ = some (.int .i64 x1) := hcc 1 _ rfl
      clear hcc
      obtain ⟨g2, o2, row', rfl, hg2, hR', hcd⟩ := (Row.carry (w' := wr) r' hbl (Nat.le_refl _)).elem ha
      obtain rfl := hR'
      have d0 : wr.cell? ⟨g2, o2 + k * 2, none⟩ = some (.int .i64 x0) := hcd 0 _ rfl
      have d1 : wr.cell? ⟨g2, o2 + k * 2 + 1, none⟩ = some (.int .i64 x1) := hcd 1 _ rfl
      clear hcd
      have hte := HTE.out k _ ha
      clear ha r r'
      have hzr := hbl.size
      have hki : (k : Int) < (n : Int) := by omega
      have hgw : g < wr.heap.size := by omega
      have hgw2 : g2 < wr.heap.size := by omega
      go_wp2_with fail
      go_region_held3 (fun w' => w'.cell? ⟨g, o + k * 2, none⟩ = some (.int .i64 x0) ∧ w'.cell? ⟨g, o + k * 2 + 1, none⟩ = some (.int .i64 x1) ∧ w'.cell? ⟨g2, o2 + k * 2, none⟩ = some (.int .i64 x0) ∧ w'.cell? ⟨g2, o2 + k * 2 + 1, none⟩ = some (.int .i64 x1) ∧ g < w'.heap.size ∧ g2 < w'.heap.size)
        (first | exact ⟨c0, c1, d0, d1, hgw, hgw2⟩ | assumption | fail)
        (first
          | (go_at_call 23; (with_reducible refine (xeqPt_any x0 x1  _ hte ).mono ?_); rintro e wA ⟨rfl, hbA⟩; have hzA := hbA.size; (try simp only [World.size_drew] at hzA); have hS :  wA.cell? ⟨g, o + k * 2, none⟩ = some (.int .i64 x0) ∧ wA.cell? ⟨g, o + k * 2 + 1, none⟩ = some (.int .i64 x1) ∧ wA.cell? ⟨g2, o2 + k * 2, none⟩ = some (.int .i64 x0) ∧ wA.cell? ⟨g2, o2 + k * 2 + 1, none⟩ = some (.int .i64 x1) ∧ g < wA.heap.size ∧ g2 < wA.heap.size := ⟨(hbA.cell (p := ⟨g, _, none⟩) (by simp only [World.size_drew]; omega)).trans c0, (hbA.cell (p := ⟨g, _, none⟩) (by simp only [World.size_drew]; omega)).trans c1, (hbA.cell (p := ⟨g2, _, none⟩) (by simp only [World.size_drew]; omega)).trans d0, (hbA.cell (p := ⟨g2, _, none⟩) (by simp only [World.size_drew]; omega)).trans d1, by omega, by omega⟩))
      all_goals
        go_wp2_with fail
        go_roundw
        case rel => exact ⟨k + 1, by omega, by go_num, by repeat' (first | with_reducible assumption | with_reducible exact Below.refl _ _ | (with_reducible refine Below.setCell ?_ ?_ _) | (with_reducible refine Below.alloc ?_ ?_ _) | (with_reducible refine Below.drew ?_) | (with_reducible refine below_dr ?_ _) | (with_reducible refine Below.trans ?_ (Below.mono (by with_reducible assumption) ?_)) | omega | (simp; done) | (simp; omega))⟩
        case measure => simp [intOf]; omega
    case neg =>
      go_wp2_with fail
      go_ret
      exact ⟨rfl, hbl⟩
set_option maxHeartbeats 3200000 in
theorem xeqBoolS_any (l : List DBool) (A A' : Option Addr) (c c' : Nat) (w : World) (ht : totRow totBool l ≤ 4611686018427387904) (r : Row RvBool 1 w w.heap.size A l) (r' : Row RvBool 1 w w.heap.size A' l) :
    Calls Try.prog 92 #[.slice A l.length c, .slice A' l.length c'] w fun e w' => e = .returned (.bool true) ∧ Below w.heap.size w w' := by
  have HTE := Lib.hid (fun (k : Nat) (d : DBool) (h : l[k]? = some d) => Nat.le_trans (totRow_at (f := totBool) h) ht)
  have hl : l.length ≤ 4611686018427387904 := Nat.le_trans (totRow_len totBool l) ht
  clear ht
  obtain ⟨n, hn⟩ : ∃ n, n = l.length := ⟨_, rfl⟩
  rw [← hn] at hl ⊢
  have HN := Lib.hid hn
  clear hn
  have e0 : ((n : Int) != (n : Int)) = false := by simp
  go_enter Try.func92, Try.ntmps92
  go_wp2_with fail
  go_loopw [5] (fun i wr => ∃ k : Nat, k ≤ n ∧ i = .int .i64 (k : Int) ∧ Below w.heap.size w wr) (fun i _ => n - (intOf i).toNat)
  case atStart => exact ⟨0, Nat.zero_le _, rfl, by repeat' (first | with_reducible assumption | with_reducible exact Below.refl _ _ | (with_reducible refine Below.setCell ?_ ?_ _) | (with_reducible refine Below.alloc ?_ ?_ _) | (with_reducible refine Below.drew ?_) | (with_reducible refine below_dr ?_ _) | (with_reducible refine Below.trans ?_ (Below.mono (by with_reducible assumption) ?_)) | omega | (simp; done) | (simp; omega))⟩
  case round =>
    obtain ⟨k, hk, rfl, hbl⟩ := hrel
    by_cases hlt : k < n
    case pos =>
      obtain ⟨x0, ha⟩ : ∃ a, l[k]? = some a := ⟨l[k]'(by have := HN.out; omega), List.getElem?_eq_getElem (by have := HN.out; omega)⟩
      obtain ⟨g, o, row, rfl, hg, hR, hcc⟩ := (Row.carry (w' := wr) r hbl (Nat.le_refl _)).elem ha
      obtain rfl := hR
      have c0 : wr.cell? ⟨g, o + k, none⟩ = some (.bool x0) := by have h := hcc 0 _ rfl; rw [Nat.mul_one] at h; exact h
      clear hcc
      obtain ⟨g2, o2, row', rfl, hg2, hR', hcd⟩ := (Row.carry (w' := wr) r' hbl (Nat.le_refl _)).elem ha
      obtain rfl := hR'
      have d0 : wr.cell? ⟨g2, o2 + k, none⟩ = some (.bool x0) := by have h := hcd 0 _ rfl; rw [Nat.mul_one] at h; exact h
      clear hcd
      have hte := HTE.out k _ ha
      clear ha r r'
      have hzr := hbl.size
      have hki : (k : Int) < (n : Int) := by omega
      have hgw : g < wr.heap.size := by omega
      have hgw2 : g2 < wr.heap.size := by omega
      have d_x : (x0 != x0) = false := by simp
      go_wp2_with fail
      go_region_held3 (fun w' => w'.cell? ⟨g, o + k, none⟩ = some (.bool x0) ∧ w'.cell? ⟨g2, o2 + k, none⟩ = some (.bool x0) ∧ g < w'.heap.size ∧ g2 < w'.heap.size)
        (first | exact ⟨c0, d0, hgw, hgw2⟩ | assumption | fail)
        (fail)
      all_goals
        go_wp2_with fail
        go_roundw
        case rel => exact ⟨k + 1, by omega, by go_num, by repeat' (first | with_reducible assumption | with_reducible exact Below.refl _ _ | (with_reducible refine Below.setCell ?_ ?_ _) | (with_reducible refine Below.alloc ?_ ?_ _) | (with_reducible refine Below.drew ?_) | (with_reducible refine below_dr ?_ _) | (with_reducible refine Below.trans ?_ (Below.mono (by with_reducible assumption) ?_)) | omega | (simp; done) | (simp; omega))⟩
        case measure => simp [intOf]; omega
    case neg =>
      go_wp2_with fail
      go_ret
      exact ⟨rfl, hbl⟩
set_option maxHeartbeats 3200000 in
theorem xeqHinter_any (x0 : Int) (x1A : Option Addr) (x1c : Nat) (x1l : List DPt) (x2A : Option Addr) (x2c : Nat) (x2l : List DPt) (x3A : Option Addr) (x3c : Nat) (x3l : List DBool) (x4A : Option Addr) (x4c : Nat) (x4l : List DBool) (x5A : Option Addr) (x5c : Nat) (x5l : List DInt64) (x6A : Option Addr) (x6c : Nat) (x6l : List DInt64) (x7A : Option Addr) (x7c : Nat) (x7l : List DInt64) (x8 : Bool) (x9 : Int) (x10 : Int) (x11 : Int) (x12 : Int) (x1A' : Option Addr) (x1c' : Nat) (x2A' : Option Addr) (x2c' : Nat) (x3A' : Option Addr) (x3c' : Nat) (x4A' : Option Addr) (x4c' : Nat) (x5A' : Option Addr) (x5c' : Nat) (x6A' : Option Addr) (x6c' : Nat) (x7A' : Option Addr) (x7c' : Nat) (w : World) (ht : totHinter (x0, x1l, x2l, x3l, x4l, x5l, x6l, x7l, x8, x9, x10, x11, x12) ≤ 4611686018427387904) (r_x1 : Row RvPt 2 w w.heap.size x1A x1l) (r_x2 : Row RvPt 2 w w.heap.size x2A x2l) (r_x3 : Row RvBool 1 w w.heap.size x3A x3l) (r_x4 : Row RvBool 1 w w.heap.size x4A x4l) (r_x5 : Row RvInt64 1 w w.heap.size x5A x5l) (r_x6 : Row RvInt64 1 w w.heap.size x6A x6l) (r_x7 : Row RvInt64 1 w w.heap.size x7A x7l) (r'_x1 : Row RvPt 2 w w.heap.size x1A' x1l) (r'_x2 : Row RvPt 2 w w.heap.size x2A' x2l) (r'_x3 : Row RvBool 1 w w.heap.size x3A' x3l) (r'_x4 : Row RvBool 1 w w.heap.size x4A' x4l) (r'_x5 : Row RvInt64 1 w w.heap.size x5A' x5l) (r'_x6 : Row RvInt64 1 w w.heap.size x6A' x6l) (r'_x7 : Row RvInt64 1 w w.heap.size x7A' x7l) :
    Calls Try.prog 41 #[.agg #[.int .i64 x0, .slice x1A x1l.length x1c, .slice x2A x2l.length x2c, .slice x3A x3l.length x3c, .slice x4A x4l.length x4c, .slice x5A x5l.length x5c, .slice x6A x6l.length x6c, .slice x7A x7l.length x7c, .bool x8, .int .i64 x9, .int .i64 x10, .int .i64 x11, .int .i64 x12], .agg #[.int .i64 x0, .slice x1A' x1l.length x1c', .slice x2A' x2l.length x2c', .slice x3A' x3l.length x3c', .slice x4A' x4l.length x4c', .slice x5A' x5l.length x5c', .slice x6A' x6l.length x6c', .slice x7A' x7l.length x7c', .bool x8, .int .i64 x9, .int .i64 x10, .int .i64 x11, .int .i64 x12]] w fun e w' => e = .returned (.bool true) ∧ Below w.heap.size w w' := by
  have d_x0 : (x0 != x0) = false := by simp
  have d_x8 : (x8 != x8) = false := by simp
  have d_x9 : (x9 != x9) = false := by simp
  have d_x10 : (x10 != x10) = false := by simp
  have d_x11 : (x11 != x11) = false := by simp
  have d_x12 : (x12 != x12) = false := by simp
  replace ht : totRow totPt x1l + totRow totPt x2l + totRow totBool x3l + totRow totBool x4l + totRow totInt64 x5l + totRow totInt64 x6l + totRow totInt64 x7l ≤ 4611686018427387904 := ht
  go_enter Try.func41, Try.ntmps41
  go_wp2_with fail
  refine (xeqPtS_any x1l x1A x1A' x1c x1c' _ (by omega) ?_ ?_).mono ?_
  · exact (Row.carry (w' := _) r_x1 (by repeat' (first | with_reducible assumption | with_reducible exact Below.refl _ _ | (with_reducible refine Below.setCell ?_ ?_ _) | (with_reducible refine Below.alloc ?_ ?_ _) | (with_reducible refine Below.drew ?_) | (with_reducible refine below_dr ?_ _) | (with_reducible refine Below.trans ?_ (Below.mono (by with_reducible assumption) ?_)) | omega | (simp; done) | (simp; omega))) (Nat.le_refl _)).more (by (try simp only [World.size_setCell]); (try simp only [World.size_drew]); (try simp only [World.size_alloc]); omega)
  · exact (Row.carry (w' := _) r'_x1 (by repeat' (first | with_reducible assumption | with_reducible exact Below.refl _ _ | (with_reducible refine Below.setCell ?_ ?_ _) | (with_reducible refine Below.alloc ?_ ?_ _) | (with_reducible refine Below.drew ?_) | (with_reducible refine below_dr ?_ _) | (with_reducible refine Below.trans ?_ (Below.mono (by with_reducible assumption) ?_)) | omega | (simp; done) | (simp; omega))) (Nat.le_refl _)).more (by (try simp only [World.size_setCell]); (try simp only [World.size_drew]); (try simp only [World.size_alloc]); omega)
  rintro e wZ0 ⟨rfl, hbwZ0⟩
  obtain ⟨hcwZ0, hfwZ0⟩ := bcell hbwZ0
  have hzwZ0 := hbwZ0.size
  (try simp only [World.size_setCell] at hcwZ0 hfwZ0 hzwZ0)
  (try simp only [World.size_drew] at hcwZ0 hfwZ0 hzwZ0)
  (try simp only [World.size_alloc] at hcwZ0 hfwZ0 hzwZ0)
  have qwZ00 : w.heap.size < wZ0.heap.size := by omega
  have qwZ01 : w.heap.size + 1 < wZ0.heap.size := by omega
  go_wp2_with fail
  refine (xeqPtS_any x2l x2A x2A' x2c x2c' _ (by omega) ?_ ?_).mono ?_
  · exact (Row.carry (w' := _) r_x2 (by repeat' (first | with_reducible assumption | with_reducible exact Below.refl _ _ | (with_reducible refine Below.setCell ?_ ?_ _) | (with_reducible refine Below.alloc ?_ ?_ _) | (with_reducible refine Below.drew ?_) | (with_reducible refine below_dr ?_ _) | (with_reducible refine Below.trans ?_ (Below.mono (by with_reducible assumption) ?_)) | omega | (simp; done) | (simp; omega))) (Nat.le_refl _)).more (by (try simp only [World.size_setCell]); (try simp only [World.size_drew]); (try simp only [World.size_alloc]); omega)
  · exact (Row.carry (w' := _) r'_x2 (by repeat' (first | with_reducible assumption | with_reducible exact Below.refl _ _ | (with_reducible refine Below.setCell ?_ ?_ _) | (with_reducible refine Below.alloc ?_ ?_ _) | (with_reducible refine Below.drew ?_) | (with_reducible refine below_dr ?_ _) | (with_reducible refine Below.trans ?_ (Below.mono (by with_reducible assumption) ?_)) | omega | (simp; done) | (simp; omega))) (Nat.le_refl _)).more (by (try simp only [World.size_setCell]); (try simp only [World.size_drew]); (try simp only [World.size_alloc]); omega)
  rintro e wZ1 ⟨rfl, hbwZ1⟩
  obtain ⟨hcwZ1, hfwZ1⟩ := bcell hbwZ1
  have hzwZ1 := hbwZ1.size
  (try simp only [World.size_setCell] at hcwZ1 hfwZ1 hzwZ1)
  (try simp only [World.size_drew] at hcwZ1 hfwZ1 hzwZ1)
  (try simp only [World.size_alloc] at hcwZ1 hfwZ1 hzwZ1)
  have qwZ10 : w.heap.size < wZ1.heap.size := by omega
  have qwZ11 : w.heap.size + 1 < wZ1.heap.size := by omega
  go_wp2_with fail
  refine (xeqBoolS_any x3l x3A x3A' x3c x3c' _ (by omega) ?_ ?_).mono ?_
  · exact (Row.carry (w' := _) r_x3 (by repeat' (first | with_reducible assumption | with_reducible exact Below.refl _ _ | (with_reducible refine Below.setCell ?_ ?_ _) | (with_reducible refine Below.alloc ?_ ?_ _) | (with_reducible refine Below.drew ?_) | (with_reducible refine below_dr ?_ _) | (with_reducible refine Below.trans ?_ (Below.mono (by with_reducible assumption) ?_)) | omega | (simp; done) | (simp; omega))) (Nat.le_refl _)).more (by (try simp only [World.size_setCell]); (try simp only [World.size_drew]); (try simp only [World.size_alloc]); omega)
  · exact (Row.carry (w' := _) r'_x3 (by repeat' (first | with_reducible assumption | with_reducible exact Below.refl _ _ | (with_reducible refine Below.setCell ?_ ?_ _) | (with_reducible refine Below.alloc ?_ ?_ _) | (with_reducible refine Below.drew ?_) | (with_reducible refine below_dr ?_ _) | (with_reducible refine Below.trans ?_ (Below.mono (by with_reducible assumption) ?_)) | omega | (simp; done) | (simp; omega))) (Nat.le_refl _)).more (by (try simp only [World.size_setCell]); (try simp only [World.size_drew]); (try simp only [World.size_alloc]); omega)
  rintro e wZ2 ⟨rfl, hbwZ2⟩
  obtain ⟨hcwZ2, hfwZ2⟩ := bcell hbwZ2
  have hzwZ2 := hbwZ2.size
  (try simp only [World.size_setCell] at hcwZ2 hfwZ2 hzwZ2)
  (try simp only [World.size_drew] at hcwZ2 hfwZ2 hzwZ2)
  (try simp only [World.size_alloc] at hcwZ2 hfwZ2 hzwZ2)
  have qwZ20 : w.heap.size < wZ2.heap.size := by omega
  have qwZ21 : w.heap.size + 1 < wZ2.heap.size := by omega
  go_wp2_with fail
  refine (xeqBoolS_any x4l x4A x4A' x4c x4c' _ (by omega) ?_ ?_).mono ?_
  · exact (Row.carry (w' := _) r_x4 (by repeat' (first | with_reducible assumption | with_reducible exact Below.refl _ _ | (with_reducible refine Below.setCell ?_ ?_ _) | (with_reducible refine Below.alloc ?_ ?_ _) | (with_reducible refine Below.drew ?_) | (with_reducible refine below_dr ?_ _) | (with_reducible refine Below.trans ?_ (Below.mono (by with_reducible assumption) ?_)) | omega | (simp; done) | (simp; omega))) (Nat.le_refl _)).more (by (try simp only [World.size_setCell]); (try simp only [World.size_drew]); (try simp only [World.size_alloc]); omega)
  · exact (Row.carry (w' := _) r'_x4 (by repeat' (first | with_reducible assumption | with_reducible exact Below.refl _ _ | (with_reducible refine Below.setCell ?_ ?_ _) | (with_reducible refine Below.alloc ?_ ?_ _) | (with_reducible refine Below.drew ?_) | (with_reducible refine below_dr ?_ _) | (with_reducible refine Below.trans ?_ (Below.mono (by with_reducible assumption) ?_)) | omega | (simp; done) | (simp; omega))) (Nat.le_refl _)).more (by (try simp only [World.size_setCell]); (try simp only [World.size_drew]); (try simp only [World.size_alloc]); omega)
  rintro e wZ3 ⟨rfl, hbwZ3⟩
  obtain ⟨hcwZ3, hfwZ3⟩ := bcell hbwZ3
  have hzwZ3 := hbwZ3.size
  (try simp only [World.size_setCell] at hcwZ3 hfwZ3 hzwZ3)
  (try simp only [World.size_drew] at hcwZ3 hfwZ3 hzwZ3)
  (try simp only [World.size_alloc] at hcwZ3 hfwZ3 hzwZ3)
  have qwZ30 : w.heap.size < wZ3.heap.size := by omega
  have qwZ31 : w.heap.size + 1 < wZ3.heap.size := by omega
  go_wp2_with fail
  refine (xeqInt64S_any x5l x5A x5A' x5c x5c' _ (by omega) ?_ ?_).mono ?_
  · exact (Row.carry (w' := _) r_x5 (by repeat' (first | with_reducible assumption | with_reducible exact Below.refl _ _ | (with_reducible refine Below.setCell ?_ ?_ _) | (with_reducible refine Below.alloc ?_ ?_ _) | (with_reducible refine Below.drew ?_) | (with_reducible refine below_dr ?_ _) | (with_reducible refine Below.trans ?_ (Below.mono (by with_reducible assumption) ?_)) | omega | (simp; done) | (simp; omega))) (Nat.le_refl _)).more (by (try simp only [World.size_setCell]); (try simp only [World.size_drew]); (try simp only [World.size_alloc]); omega)
  · exact (Row.carry (w' := _) r'_x5 (by repeat' (first | with_reducible assumption | with_reducible exact Below.refl _ _ | (with_reducible refine Below.setCell ?_ ?_ _) | (with_reducible refine Below.alloc ?_ ?_ _) | (with_reducible refine Below.drew ?_) | (with_reducible refine below_dr ?_ _) | (with_reducible refine Below.trans ?_ (Below.mono (by with_reducible assumption) ?_)) | omega | (simp; done) | (simp; omega))) (Nat.le_refl _)).more (by (try simp only [World.size_setCell]); (try simp only [World.size_drew]); (try simp only [World.size_alloc]); omega)
  rintro e wZ4 ⟨rfl, hbwZ4⟩
  obtain ⟨hcwZ4, hfwZ4⟩ := bcell hbwZ4
  have hzwZ4 := hbwZ4.size
  (try simp only [World.size_setCell] at hcwZ4 hfwZ4 hzwZ4)
  (try simp only [World.size_drew] at hcwZ4 hfwZ4 hzwZ4)
  (try simp only [World.size_alloc] at hcwZ4 hfwZ4 hzwZ4)
  have qwZ40 : w.heap.size < wZ4.heap.size := by omega
  have qwZ41 : w.heap.size + 1 < wZ4.heap.size := by omega
  go_wp2_with fail
  refine (xeqInt64S_any x6l x6A x6A' x6c x6c' _ (by omega) ?_ ?_).mono ?_
  · exact (Row.carry (w' := _) r_x6 (by repeat' (first | with_reducible assumption | with_reducible exact Below.refl _ _ | (with_reducible refine Below.setCell ?_ ?_ _) | (with_reducible refine Below.alloc ?_ ?_ _) | (with_reducible refine Below.drew ?_) | (with_reducible refine below_dr ?_ _) | (with_reducible refine Below.trans ?_ (Below.mono (by with_reducible assumption) ?_)) | omega | (simp; done) | (simp; omega))) (Nat.le_refl _)).more (by (try simp only [World.size_setCell]); (try simp only [World.size_drew]); (try simp only [World.size_alloc]); omega)
  · exact (Row.carry (w' := _) r'_x6 (by repeat' (first | with_reducible assumption | with_reducible exact Below.refl _ _ | (with_reducible refine Below.setCell ?_ ?_ _) | (with_reducible refine Below.alloc ?_ ?_ _) | (with_reducible refine Below.drew ?_) | (with_reducible refine below_dr ?_ _) | (with_reducible refine Below.trans ?_ (Below.mono (by with_reducible assumption) ?_)) | omega | (simp; done) | (simp; omega))) (Nat.le_refl _)).more (by (try simp only [World.size_setCell]); (try simp only [World.size_drew]); (try simp only [World.size_alloc]); omega)
  rintro e wZ5 ⟨rfl, hbwZ5⟩
  obtain ⟨hcwZ5, hfwZ5⟩ := bcell hbwZ5
  have hzwZ5 := hbwZ5.size
  (try simp only [World.size_setCell] at hcwZ5 hfwZ5 hzwZ5)
  (try simp only [World.size_drew] at hcwZ5 hfwZ5 hzwZ5)
  (try simp only [World.size_alloc] at hcwZ5 hfwZ5 hzwZ5)
  have qwZ50 : w.heap.size < wZ5.heap.size := by omega
  have qwZ51 : w.heap.size + 1 < wZ5.heap.size := by omega
  go_wp2_with fail
  refine (xeqInt64S_any x7l x7A x7A' x7c x7c' _ (by omega) ?_ ?_).mono ?_
  · exact (Row.carry (w' := _) r_x7 (by repeat' (first | with_reducible assumption | with_reducible exact Below.refl _ _ | (with_reducible refine Below.setCell ?_ ?_ _) | (with_reducible refine Below.alloc ?_ ?_ _) | (with_reducible refine Below.drew ?_) | (with_reducible refine below_dr ?_ _) | (with_reducible refine Below.trans ?_ (Below.mono (by with_reducible assumption) ?_)) | omega | (simp; done) | (simp; omega))) (Nat.le_refl _)).more (by (try simp only [World.size_setCell]); (try simp only [World.size_drew]); (try simp only [World.size_alloc]); omega)
  · exact (Row.carry (w' := _) r'_x7 (by repeat' (first | with_reducible assumption | with_reducible exact Below.refl _ _ | (with_reducible refine Below.setCell ?_ ?_ _) | (with_reducible refine Below.alloc ?_ ?_ _) | (with_reducible refine Below.drew ?_) | (with_reducible refine below_dr ?_ _) | (with_reducible refine Below.trans ?_ (Below.mono (by with_reducible assumption) ?_)) | omega | (simp; done) | (simp; omega))) (Nat.le_refl _)).more (by (try simp only [World.size_setCell]); (try simp only [World.size_drew]); (try simp only [World.size_alloc]); omega)
  rintro e wZ6 ⟨rfl, hbwZ6⟩
  obtain ⟨hcwZ6, hfwZ6⟩ := bcell hbwZ6
  have hzwZ6 := hbwZ6.size
  (try simp only [World.size_setCell] at hcwZ6 hfwZ6 hzwZ6)
  (try simp only [World.size_drew] at hcwZ6 hfwZ6 hzwZ6)
  (try simp only [World.size_alloc] at hcwZ6 hfwZ6 hzwZ6)
  have qwZ60 : w.heap.size < wZ6.heap.size := by omega
  have qwZ61 : w.heap.size + 1 < wZ6.heap.size := by omega
  go_wp2_with fail
  go_ret
  exact ⟨rfl, by repeat' (first | with_reducible assumption | with_reducible exact Below.refl _ _ | (with_reducible refine Below.setCell ?_ ?_ _) | (with_reducible refine Below.alloc ?_ ?_ _) | (with_reducible refine Below.drew ?_) | (with_reducible refine below_dr ?_ _) | (with_reducible refine Below.trans ?_ (Below.mono (by with_reducible assumption) ?_)) | omega | (simp; done) | (simp; omega))⟩
end Go.Proofs.Ytdikenapnncmfaa
