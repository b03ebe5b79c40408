/- Walks: statements are copied and compared. -/
import Derived.Test.YtjpadamlfhceaaaHx4
import Derived.Deep.RegionHeld3
namespace Go.Proofs.Ytjpadamlfhceaaa
open Go.RowKit
set_option linter.unusedVariables false
def ToStatement (x0 : Int) (x1 : ByteArray) (x2 : ByteArray) (x3 : Int) (x4 : Int) (x5l : List DTerm) (x6 : Int) (x7 : Int) (x8l : List DTerm) (x9l : List DString) (x10l : List DInt64) (x11 : Bool) (x12 : Bool) (w : World) (e : Ending) (w' : World) : Prop := ∃ (x5A' : Option Addr) (x5c' : Nat) (x8A' : Option Addr) (x8c' : Nat) (x9A' : Option Addr) (x9c' : Nat) (x10A' : Option Addr) (x10c' : Nat), e = .returned (.agg #[.int .i64 x0, .string x1, .string x2, .int .i64 x3, .int .i64 x4, .slice x5A' x5l.length x5c', .int .i64 x6, .int .i64 x7, .slice x8A' x8l.length x8c', .slice x9A' x9l.length x9c', .slice x10A' x10l.length x10c', .bool x11, .bool x12]) ∧ RowIn RvTerm 3 w' w.heap.size w'.heap.size x5A' x5l ∧ RowIn RvTerm 3 w' w.heap.size w'.heap.size x8A' x8l ∧ RowIn RvString 1 w' w.heap.size w'.heap.size x9A' x9l ∧ RowIn RvInt64 1 w' w.heap.size w'.heap.size x10A' x10l ∧ Below w.heap.size w w'
set_option maxHeartbeats 3200000 in
theorem xtoStatement_any (x0 : Int) (x1 : ByteArray) (x2 : ByteArray) (x3 : Int) (x4 : Int) (x5A : Option Addr) (x5c : Nat) (x5l : List DTerm) (x6 : Int) (x7 : Int) (x8A : Option Addr) (x8c : Nat) (x8l : List DTerm) (x9A : Option Addr) (x9c : Nat) (x9l : List DString) (x10A : Option Addr) (x10c : Nat) (x10l : List DInt64) (x11 : Bool) (x12 : Bool) (w : World) (ht : totStatement (x0, x1, x2, x3, x4, x5l, x6, x7, x8l, x9l, x10l, x11, x12) ≤ 1048576) (r_x5 : Row RvTerm 3 w w.heap.size x5A x5l) (r_x8 : Row RvTerm 3 w w.heap.size x8A x8l) (r_x9 : Row RvString 1 w w.heap.size x9A x9l) (r_x10 : Row RvInt64 1 w w.heap.size x10A x10l) :
    Calls Try.prog 6 #[.agg #[.int .i64 x0, .string x1, .string x2, .int .i64 x3, .int .i64 x4, .slice x5A x5l.length x5c, .int .i64 x6, .int .i64 x7, .slice x8A x8l.length x8c, .slice x9A x9l.length x9c, .slice x10A x10l.length x10c, .bool x11, .bool x12]] w (ToStatement x0 x1 x2 x3 x4 x5l x6 x7 x8l x9l x10l x11 x12 w) := by
  unfold ToStatement
  replace ht : x1.size + x2.size + totRow totTerm x5l + totRow totTerm x8l + totRow totString x9l + totRow totInt64 x10l ≤ 1048576 := ht
  go_enter Try.func6, Try.ntmps6
  go_wp2_with fail
  refine (xtoLinear_any x3 x4 x5A x5c x5l _ (by show totRow totTerm x5l ≤ 1048576; omega) ?_).mono ?_
  · exact (Row.carry (w' := _) r_x5 (by repeat' (first | with_reducible assumption | with_reducible exact Below.refl _ _ | (with_reducible refine Below.setCell ?_ ?_ _) | (with_reducible refine Below.alloc ?_ ?_ _) | (with_reducible refine Below.drew ?_) | (with_reducible refine below_dr ?_ _) | (with_reducible refine Below.trans ?_ (Below.mono (by with_reducible assumption) ?_)) | omega | (simp; done) | (simp; omega))) (Nat.le_refl _)).more (by (try simp only [World.size_setCell]); (try simp only [World.size_drew]); (try simp only [World.size_alloc]); omega)
  intro e wZ0 hq
  obtain ⟨x5A', x5c', rfl, own_x5, hbwZ0⟩ := hq
  replace own_x5 := own_x5.down (lo' := w.heap.size + 1 + 1 + 1) (by (try simp only [World.size_setCell]); (try simp only [World.size_alloc]); omega)
  obtain ⟨hcwZ0, hfwZ0⟩ := bcell hbwZ0
  have hzwZ0 := hbwZ0.size
  (try simp only [World.size_setCell] at hcwZ0 hfwZ0 hzwZ0)
  (try simp only [World.size_drew] at hcwZ0 hfwZ0 hzwZ0)
  (try simp only [World.size_alloc] at hcwZ0 hfwZ0 hzwZ0)
  have qwZ00 : w.heap.size < wZ0.heap.size := by omega
  have qwZ01 : w.heap.size + 1 < wZ0.heap.size := by omega
  have qwZ02 : w.heap.size + 1 + 1 < wZ0.heap.size := by omega
  go_wp2_with fail
  refine (xtoLinear_any x6 x7 x8A x8c x8l _ (by show totRow totTerm x8l ≤ 1048576; omega) ?_).mono ?_
  · exact (Row.carry (w' := _) r_x8 (by repeat' (first | with_reducible assumption | with_reducible exact Below.refl _ _ | (with_reducible refine Below.setCell ?_ ?_ _) | (with_reducible refine Below.alloc ?_ ?_ _) | (with_reducible refine Below.drew ?_) | (with_reducible refine below_dr ?_ _) | (with_reducible refine Below.trans ?_ (Below.mono (by with_reducible assumption) ?_)) | omega | (simp; done) | (simp; omega))) (Nat.le_refl _)).more (by (try simp only [World.size_setCell]); (try simp only [World.size_drew]); (try simp only [World.size_alloc]); omega)
  intro e wZ1 hq
  obtain ⟨x8A', x8c', rfl, own_x8, hbwZ1⟩ := hq
  replace own_x8 := own_x8.down (lo' := w.heap.size + 1 + 1 + 1) (by (try simp only [World.size_setCell]); (try simp only [World.size_alloc]); omega)
  obtain ⟨hcwZ1, hfwZ1⟩ := bcell hbwZ1
  have hzwZ1 := hbwZ1.size
  (try simp only [World.size_setCell] at hcwZ1 hfwZ1 hzwZ1)
  (try simp only [World.size_drew] at hcwZ1 hfwZ1 hzwZ1)
  (try simp only [World.size_alloc] at hcwZ1 hfwZ1 hzwZ1)
  have qwZ10 : w.heap.size < wZ1.heap.size := by omega
  have qwZ11 : w.heap.size + 1 < wZ1.heap.size := by omega
  have qwZ12 : w.heap.size + 1 + 1 < wZ1.heap.size := by omega
  go_wp2_with fail
  refine (xtoStringS_any x9l x9A x9c _ (by omega) ?_).mono ?_
  · exact (Row.carry (w' := _) r_x9 (by repeat' (first | with_reducible assumption | with_reducible exact Below.refl _ _ | (with_reducible refine Below.setCell ?_ ?_ _) | (with_reducible refine Below.alloc ?_ ?_ _) | (with_reducible refine Below.drew ?_) | (with_reducible refine below_dr ?_ _) | (with_reducible refine Below.trans ?_ (Below.mono (by with_reducible assumption) ?_)) | omega | (simp; done) | (simp; omega))) (Nat.le_refl _)).more (by (try simp only [World.size_setCell]); (try simp only [World.size_drew]); (try simp only [World.size_alloc]); omega)
  intro e wZ2 hq
  obtain ⟨x9A', x9c', rfl, own_x9, hbwZ2⟩ := hq
  replace own_x9 := own_x9.down (lo' := w.heap.size + 1 + 1 + 1) (by (try simp only [World.size_setCell]); (try simp only [World.size_alloc]); omega)
  obtain ⟨hcwZ2, hfwZ2⟩ := bcell hbwZ2
  have hzwZ2 := hbwZ2.size
  (try simp only [World.size_setCell] at hcwZ2 hfwZ2 hzwZ2)
  (try simp only [World.size_drew] at hcwZ2 hfwZ2 hzwZ2)
  (try simp only [World.size_alloc] at hcwZ2 hfwZ2 hzwZ2)
  have qwZ20 : w.heap.size < wZ2.heap.size := by omega
  have qwZ21 : w.heap.size + 1 < wZ2.heap.size := by omega
  have qwZ22 : w.heap.size + 1 + 1 < wZ2.heap.size := by omega
  go_wp2_with fail
  refine (xtoInt64S_any x10l x10A x10c _ (by omega) ?_).mono ?_
  · exact (Row.carry (w' := _) r_x10 (by repeat' (first | with_reducible assumption | with_reducible exact Below.refl _ _ | (with_reducible refine Below.setCell ?_ ?_ _) | (with_reducible refine Below.alloc ?_ ?_ _) | (with_reducible refine Below.drew ?_) | (with_reducible refine below_dr ?_ _) | (with_reducible refine Below.trans ?_ (Below.mono (by with_reducible assumption) ?_)) | omega | (simp; done) | (simp; omega))) (Nat.le_refl _)).more (by (try simp only [World.size_setCell]); (try simp only [World.size_drew]); (try simp only [World.size_alloc]); omega)
  intro e wZ3 hq
  obtain ⟨x10A', x10c', rfl, own_x10, hbwZ3⟩ := hq
  replace own_x10 := own_x10.down (lo' := w.heap.size + 1 + 1 + 1) (by (try simp only [World.size_setCell]); (try simp only [World.size_alloc]); omega)
  obtain ⟨hcwZ3, hfwZ3⟩ := bcell hbwZ3
  have hzwZ3 := hbwZ3.size
  (try simp only [World.size_setCell] at hcwZ3 hfwZ3 hzwZ3)
  (try simp only [World.size_drew] at hcwZ3 hfwZ3 hzwZ3)
  (try simp only [World.size_alloc] at hcwZ3 hfwZ3 hzwZ3)
  have qwZ30 : w.heap.size < wZ3.heap.size := by omega
  have qwZ31 : w.heap.size + 1 < wZ3.heap.size := by omega
  have qwZ32 : w.heap.size + 1 + 1 < wZ3.heap.size := by omega
  go_wp2_with fail
  refine bodyPost_ret (v := .agg #[.int .i64 x0, .string x1, .string x2, .int .i64 x3, .int .i64 x4, .slice x5A' x5l.length x5c', .int .i64 x6, .int .i64 x7, .slice x8A' x8l.length x8c', .slice x9A' x9l.length x9c', .slice x10A' x10l.length x10c', .bool x11, .bool x12]) (by simp [results, Try.results6, go_sem, *]) rfl ⟨_, _, _, _, _, _, _, _, rfl, ?_, ?_, ?_, ?_, ?_⟩
  · refine RowIn.wide (B := wZ0.heap.size) ?_ (by (try simp only [World.size_setCell]); (try simp only [World.size_drew]); (try simp only [World.size_alloc]); omega)
    refine RowIn.down (lo := w.heap.size + 1 + 1 + 1) ?_ (by omega)
    repeat (first | with_reducible exact own_x5 | (with_reducible refine RowIn.far ?_ (by simp only; omega) _) | (with_reducible refine RowIn.drew ?_) | (with_reducible refine RowIn.stays ?_ (by with_reducible assumption) (by (try simp only [World.size_setCell]); (try simp only [World.size_drew]); (try simp only [World.size_alloc]); omega)))
  · refine RowIn.wide (B := wZ1.heap.size) ?_ (by (try simp only [World.size_setCell]); (try simp only [World.size_drew]); (try simp only [World.size_alloc]); omega)
    refine RowIn.down (lo := w.heap.size + 1 + 1 + 1) ?_ (by omega)
    repeat (first | with_reducible exact own_x8 | (with_reducible refine RowIn.far ?_ (by simp only; omega) _) | (with_reducible refine RowIn.drew ?_) | (with_reducible refine RowIn.stays ?_ (by with_reducible assumption) (by (try simp only [World.size_setCell]); (try simp only [World.size_drew]); (try simp only [World.size_alloc]); omega)))
  · refine RowIn.wide (B := wZ2.heap.size) ?_ (by (try simp only [World.size_setCell]); (try simp only [World.size_drew]); (try simp only [World.size_alloc]); omega)
    refine RowIn.down (lo := w.heap.size + 1 + 1 + 1) ?_ (by omega)
    repeat (first | with_reducible exact own_x9 | (with_reducible refine RowIn.far ?_ (by simp only; omega) _) | (with_reducible refine RowIn.drew ?_) | (with_reducible refine RowIn.stays ?_ (by with_reducible assumption) (by (try simp only [World.size_setCell]); (try simp only [World.size_drew]); (try simp only [World.size_alloc]); omega)))
  · refine RowIn.wide (B := wZ3.heap.size) ?_ (by (try simp only [World.size_setCell]); (try simp only [World.size_drew]); (try simp only [World.size_alloc]); omega)
    refine RowIn.down (lo := w.heap.size + 1 + 1 + 1) ?_ (by omega)
    repeat (first | with_reducible exact own_x10 | (with_reducible refine RowIn.far ?_ (by simp only; omega) _) | (with_reducible refine RowIn.drew ?_) | (with_reducible refine RowIn.stays ?_ (by with_reducible assumption) (by (try simp only [World.size_setCell]); (try simp only [World.size_drew]); (try simp only [World.size_alloc]); omega)))
  · repeat' (first | with_reducible assumption | with_reducible exact Below.refl _ _ | (with_reducible refine Below.setCell ?_ ?_ _) | (with_reducible refine Below.alloc ?_ ?_ _) | (with_reducible refine Below.drew ?_) | (with_reducible refine below_dr ?_ _) | (with_reducible refine Below.trans ?_ (Below.mono (by with_reducible assumption) ?_)) | omega | (simp; done) | (simp; omega))
set_option maxHeartbeats 3200000 in
theorem xeqInt64S_any (l : List DInt64) (A A' : Option Addr) (c c' : Nat) (w : World) (ht : totRow totInt64 l ≤ 4611686018427387904) (r : Row RvInt64 1 w w.heap.size A l) (r' : Row RvInt64 1 w w.heap.size A' l) :
    Calls Try.prog 25 #[.slice A l.length c, .slice A' l.length c'] w fun e w' => e = .returned (.bool true) ∧ Below w.heap.size w w' := by
  have HTE := Lib.hid (fun (k : Nat) (d : DInt64) (h : l[k]? = some d) => Nat.le_trans (totRow_at (f := totInt64) h) ht)
  have hl : l.length ≤ 4611686018427387904 := Nat.le_trans (totRow_len totInt64 l) ht
  clear ht
  obtain ⟨n, hn⟩ : ∃ n, n = l.length := ⟨_, rfl⟩
  rw [← hn] at hl ⊢
  have HN := Lib.hid hn
  clear hn
  have e0 : ((n : Int) != (n : Int)) = false := by simp
  go_enter Try.func25, Try.ntmps25
  go_wp2_with fail
  go_loopw [5] (fun i wr => ∃ k : Nat, k ≤ n ∧ i = .int .i64 (k : Int) ∧ Below w.heap.size w wr) (fun i _ => n - (intOf i).toNat)
  case atStart => exact ⟨0, Nat.zero_le _, rfl, by repeat' (first | with_reducible assumption | with_reducible exact Below.refl _ _ | (with_reducible refine Below.setCell ?_ ?_ _) | (with_reducible refine Below.alloc ?_ ?_ _) | (with_reducible refine Below.drew ?_) | (with_reducible refine below_dr ?_ _) | (with_reducible refine Below.trans ?_ (Below.mono (by with_reducible assumption) ?_)) | omega | (simp; done) | (simp; omega))⟩
  case round =>
    obtain ⟨k, hk, rfl, hbl⟩ := hrel
    by_cases hlt : k < n
    case pos =>
      obtain ⟨x0, ha⟩ : ∃ a, l[k]? = some a := ⟨l[k]'(by have := HN.out; omega), List.getElem?_eq_getElem (by have := HN.out; omega)⟩
      obtain ⟨g, o, row, rfl, hg, hR, hcc⟩ := (Row.carry (w' := wr) r hbl (Nat.le_refl _)).elem ha
      obtain rfl := hR
      have c0 : wr.cell? ⟨g, o + k, none⟩ = some (.int .i64 x0) := by have h := hcc 0 _ rfl; rw [Nat.mul_one] at h; exact h
      clear hcc
      obtain ⟨g2, o2, row', rfl, hg2, hR', hcd⟩ := (Row.carry (w' := wr) r' hbl (Nat.le_refl _)).elem ha
      obtain rfl := hR'
      have d0 : wr.cell? ⟨g2, o2 + k, none⟩ = some (.int .i64 x0) := by have h := hcd 0 _ rfl; rw [Nat.mul_one] at h; exact h
      clear hcd
      have hte := HTE.out k _ ha
      clear ha r r'
      have hzr := hbl.size
      have hki : (k : Int) < (n : Int) := by omega
      have hgw : g < wr.heap.size := by omega
      have hgw2 : g2 < wr.heap.size := by omega
      have d_x : (x0 != x0) = false := by simp
      go_wp2_with fail
      go_region_held3 (fun w' => w'.cell? ⟨g, o + k, none⟩ = some (.int .i64 x0) ∧ w'.cell? ⟨g2, o2 + k, none⟩ = some (.int .i64 x0) ∧ g < w'.heap.size ∧ g2 < w'.heap.size)
        (first | exact ⟨c0, d0, hgw, hgw2⟩ | assumption | fail)
        (fail)
      all_goals
        go_wp2_with fail
        go_roundw
        case rel => exact ⟨k + 1, by omega, by go_num, by repeat' (first | with_reducible assumption | with_reducible exact Below.refl _ _ | (with_reducible refine Below.setCell ?_ ?_ _) | (with_reducible refine Below.alloc ?_ ?_ _) | (with_reducible refine Below.drew ?_) | (with_reducible refine below_dr ?_ _) | (with_reducible refine Below.trans ?_ (Below.mono (by with_reducible assumption) ?_)) | omega | (simp; done) | (simp; omega))⟩
        case measure => simp [intOf]; omega
    case neg =>
      go_wp2_with fail
      go_ret
      exact ⟨rfl, hbl⟩
set_option maxHeartbeats 3200000 in
theorem xeqStringS_any (l : List DString) (A A' : Option Addr) (c c' : Nat) (w : World) (ht : totRow totString l ≤ 4611686018427387904) (r : Row RvString 1 w w.heap.size A l) (r' : Row RvString 1 w w.heap.size A' l) :
    Calls Try.prog 24 #[.slice A l.length c, .slice A' l.length c'] w fun e w' => e = .returned (.bool true) ∧ Below w.heap.size w w' := by
  have HTE := Lib.hid (fun (k : Nat) (d : DString) (h : l[k]? = some d) => Nat.le_trans (totRow_at (f := totString) h) ht)
  have hl : l.length ≤ 4611686018427387904 := Nat.le_trans (totRow_len totString l) ht
  clear ht
  obtain ⟨n, hn⟩ : ∃ n, n = l.length := ⟨_, rfl⟩
  rw [← hn] at hl ⊢
  have HN := Lib.hid hn
  clear hn
  have e0 : ((n : Int) != (n : Int)) = false := by simp
  go_enter Try.func24, Try.ntmps24
  go_wp2_with fail
  go_loopw [5] (fun i wr => ∃ k : Nat, k ≤ n ∧ i = .int .i64 (k : Int) ∧ Below w.heap.size w wr) (fun i _ => n - (intOf i).toNat)
  case atStart => exact ⟨0, Nat.zero_le _, rfl, by repeat' (first | with_reducible assumption | with_reducible exact Below.refl _ _ | (with_reducible refine Below.setCell ?_ ?_ _) | (with_reducible refine Below.alloc ?_ ?_ _) | (with_reducible refine Below.drew ?_) | (with_reducible refine below_dr ?_ _) | (with_reducible refine Below.trans ?_ (Below.mono (by with_reducible assumption) ?_)) | omega | (simp; done) | (simp; omega))⟩
  case round =>
    obtain ⟨k, hk, rfl, hbl⟩ := hrel
    by_cases hlt : k < n
    case pos =>
      obtain ⟨x0, ha⟩ : ∃ a, l[k]? = some a := ⟨l[k]'(by have := HN.out; omega), List.getElem?_eq_getElem (by have := HN.out; omega)⟩
      obtain ⟨g, o, row, rfl, hg, hR, hcc⟩ := (Row.carry (w' := wr) r hbl (Nat.le_refl _)).elem ha
      obtain rfl := hR
      have c0 : wr.cell? ⟨g, o + k, none⟩ = some (.string x0) := by have h := hcc 0 _ rfl; rw [Nat.mul_one] at h; exact h
      clear hcc
      obtain ⟨g2, o2, row', rfl, hg2, hR', hcd⟩ := (Row.carry (w' := wr) r' hbl (Nat.le_refl _)).elem ha
      obtain rfl := hR'
      have d0 : wr.cell? ⟨g2, o2 + k, none⟩ = some (.string x0) := by have h := hcd 0 _ rfl; rw [Nat.mul_one] at h; exact h
      clear hcd
      have hte := HTE.out k _ ha
      clear ha r r'
      have hzr := hbl.size
      have hki : (k : Int) < (n : Int) := by omega
      have hgw : g < wr.heap.size := by omega
      have hgw2 : g2 < wr.heap.size := by omega
      have e_x : (x0.toList == x0.toList) = true := by simp
      have d_x : (x0.toList != x0.toList) = false := by simp
      go_wp2_with fail
      go_region_held3 (fun w' => w'.cell? ⟨g, o + k, none⟩ = some (.string x0) ∧ w'.cell? ⟨g2, o2 + k, none⟩ = some (.string x0) ∧ g < w'.heap.size ∧ g2 < w'.heap.size)
        (first | exact ⟨c0, d0, hgw, hgw2⟩ | assumption | fail)
        (fail)
      all_goals
        go_wp2_with fail
        go_roundw
        case rel => exact ⟨k + 1, by omega, by go_num, by repeat' (first | with_reducible assumption | with_reducible exact Below.refl _ _ | (with_reducible refine Below.setCell ?_ ?_ _) | (with_reducible refine Below.alloc ?_ ?_ _) | (with_reducible refine Below.drew ?_) | (with_reducible refine below_dr ?_ _) | (with_reducible refine Below.trans ?_ (Below.mono (by with_reducible assumption) ?_)) | omega | (simp; done) | (simp; omega))⟩
        case measure => simp [intOf]; omega
    case neg =>
      go_wp2_with fail
      go_ret
      exact ⟨rfl, hbl⟩
set_option maxHeartbeats 3200000 in
theorem xeqFrac_any (x0 : Int) (x1 : Int)  (w : World) (ht : totFrac (x0, x1) ≤ 4611686018427387904)   :
    Calls Try.prog 40 #[.agg #[.int .i64 x0, .int .i64 x1], .agg #[.int .i64 x0, .int .i64 x1]] w fun e w' => e = .returned (.bool true) ∧ Below w.heap.size w w' := by
  have d_x0 : (x0 != x0) = false := by simp
  have d_x1 : (x1 != x1) = false := by simp
  go_enter Try.func40, Try.ntmps40
  go_wp2_with fail
  go_ret
  exact ⟨rfl, by repeat' (first | with_reducible assumption | with_reducible exact Below.refl _ _ | (with_reducible refine Below.setCell ?_ ?_ _) | (with_reducible refine Below.alloc ?_ ?_ _) | (with_reducible refine Below.drew ?_) | (with_reducible refine below_dr ?_ _) | (with_reducible refine Below.trans ?_ (Below.mono (by with_reducible assumption) ?_)) | omega | (simp; done) | (simp; omega))⟩
set_option maxHeartbeats 3200000 in
theorem xeqTerm_any (x0 : ByteArray) (x1 : Int) (x2 : Int)  (w : World) (ht : totTerm (x0, x1, x2) ≤ 4611686018427387904)   :
    Calls Try.prog 53 #[.agg #[.string x0, .int .i64 x1, .int .i64 x2], .agg #[.string x0, .int .i64 x1, .int .i64 x2]] w fun e w' => e = .returned (.bool true) ∧ Below w.heap.size w w' := by
  have e_x0 : (x0.toList == x0.toList) = true := by simp
  have d_x0 : (x0.toList != x0.toList) = false := by simp
  go_enter Try.func53, Try.ntmps53
  go_wp2_with fail
  refine (xeqFrac_any x1 x2  _ (show totFrac (x1, x2) ≤ 4611686018427387904 from by first | exact Nat.zero_le _ | (simp only [totFrac]; omega)) ).mono ?_
  rintro e wZ0 ⟨rfl, hbwZ0⟩
  obtain ⟨hcwZ0, hfwZ0⟩ := bcell hbwZ0
  have hzwZ0 := hbwZ0.size
  (try simp only [World.size_setCell] at hcwZ0 hfwZ0 hzwZ0)
  (try simp only [World.size_drew] at hcwZ0 hfwZ0 hzwZ0)
  (try simp only [World.size_alloc] at hcwZ0 hfwZ0 hzwZ0)
  have qwZ00 : w.heap.size < wZ0.heap.size := by omega
  have qwZ01 : w.heap.size + 1 < wZ0.heap.size := by omega
  go_wp2_with fail
  go_ret
  exact ⟨rfl, by repeat' (first | with_reducible assumption | with_reducible exact Below.refl _ _ | (with_reducible refine Below.setCell ?_ ?_ _) | (with_reducible refine Below.alloc ?_ ?_ _) | (with_reducible refine Below.drew ?_) | (with_reducible refine below_dr ?_ _) | (with_reducible refine Below.trans ?_ (Below.mono (by with_reducible assumption) ?_)) | omega | (simp; done) | (simp; omega))⟩
set_option maxHeartbeats 3200000 in
theorem xeqTermS_any (l : List DTerm) (A A' : Option Addr) (c c' : Nat) (w : World) (ht : totRow totTerm l ≤ 4611686018427387904) (r : Row RvTerm 3 w w.heap.size A l) (r' : Row RvTerm 3 w w.heap.size A' l) :
    Calls Try.prog 41 #[.slice A l.length c, .slice A' l.length c'] w fun e w' => e = .returned (.bool true) ∧ Below w.heap.size w w' := by
  have HTE := Lib.hid (fun (k : Nat) (d : DTerm) (h : l[k]? = some d) => Nat.le_trans (totRow_at (f := totTerm) h) ht)
  have hl : l.length ≤ 4611686018427387904 := Nat.le_trans (totRow_len totTerm l) ht
  clear ht
  obtain ⟨n, hn⟩ : ∃ n, n = l.length := ⟨_, rfl⟩
  rw [← hn] at hl ⊢
  have HN := Lib.hid hn
  clear hn
  have e0 : ((n : Int) != (n : Int)) = false := by simp
  go_enter Try.func41, Try.ntmps41
  go_wp2_with fail
  go_loopw [5] (fun i wr => ∃ k : Nat, k ≤ n ∧ i = .int .i64 (k : Int) ∧ Below w.heap.size w wr) (fun i _ => n - (intOf i).toNat)
  case atStart => exact ⟨0, Nat.zero_le _, rfl, by repeat' (first | with_reducible assumption | with_reducible exact Below.refl _ _ | (with_reducible refine Below.setCell ?_ ?_ _) | (with_reducible refine Below.alloc ?_ ?_ _) | (with_reducible refine Below.drew ?_) | (with_reducible refine below_dr ?_ _) | (with_reducible refine Below.trans ?_ (Below.mono (by with_reducible assumption) ?_)) | omega | (simp; done) | (simp; omega))⟩
  case round =>
    obtain ⟨k, hk, rfl, hbl⟩ := hrel
    by_cases hlt : k < n
    case pos =>
      obtain ⟨⟨x0, x1, x2⟩, ha⟩ : ∃ a, l[k]? = some a := ⟨l[k]'(by have := HN.out; omega), List.getElem?_eq_getElem (by have := HN.out; omega)⟩
      obtain ⟨g, o, row, rfl, hg, hR, hcc⟩ := (Row.carry (w' := wr) r hbl (Nat.le_refl _)).elem ha
      obtain rfl := hR
      have c0 : wr.cell? ⟨g, o + k * 3, none⟩ = some (.string x0) := hcc 0 _ rfl
      have c1 : wr.cell? ⟨g, o + k * 3 + 1, none⟩ = some (.int .i64 x1) := hcc 1 _ rfl
      have c2 : wr.cell? ⟨g, o + k * 3 + 2, none⟩ = some (.int .i64 x2) := hcc 2 _ rfl
      clear hcc
      obtain ⟨g2, o2, row', rfl, hg2, hR', hcd⟩ := (Row.carry (w' := wr) r' hbl (Nat.le_refl _)).elem ha
      obtain rfl := hR'
      have d0 : wr.cell? ⟨g2, o2 + k * 3, none⟩ = some (.string x0) := hcd 0 _ rfl
      have d1 : wr.cell? ⟨g2, o2 + k * 3 + 1, none⟩ = some (.int .i64 x1) := hcd 1 _ rfl
      have d2 : wr.cell? ⟨g2, o2 + k * 3 + 2, none⟩ = some (.int .i64 x2) := hcd 2 _ rfl
      clear hcd
      have hte := HTE.out k _ ha
      clear ha r r'
      have hzr := hbl.size
      have hki : (k : Int) < (n : Int) := by omega
      have hgw : g < wr.heap.size := by omega
      have hgw2 : g2 < wr.heap.size := by omega
      go_wp2_with fail
      go_region_held3 (fun w' => w'.cell? ⟨g, o + k * 3, none⟩ = some (.string x0) ∧ w'.cell? ⟨g, o + k * 3 + 1, none⟩ = some (.int .i64 x1) ∧ w'.cell? ⟨g, o + k * 3 + 2, none⟩ = some (.int .i64 x2) ∧ w'.cell? ⟨g2, o2 + k * 3, none⟩ = some (.string x0) ∧ w'.cell? ⟨g2, o2 + k * 3 + 1, none⟩ = some (.int .i64 x1) ∧ w'.cell? ⟨g2, o2 + k * 3 + 2, none⟩ = some (.int .i64 x2) ∧ g < w'.heap.size ∧ g2 < w'.heap.size)
        (first | exact ⟨c0, c1, c2, d0, d1, d2, hgw, hgw2⟩ | assumption | fail)
        (first
          | (go_at_call 53; (with_reducible refine (xeqTerm_any x0 x1 x2  _ hte ).mono ?_); rintro e wA ⟨rfl, hbA⟩; have hzA := hbA.size; (try simp only [World.size_drew] at hzA); have hS :  wA.cell? ⟨g, o + k * 3, none⟩ = some (.string x0) ∧ wA.cell? ⟨g, o + k * 3 + 1, none⟩ = some (.int .i64 x1) ∧ wA.cell? ⟨g, o + k * 3 + 2, none⟩ = some (.int .i64 x2) ∧ wA.cell? ⟨g2, o2 + k * 3, none⟩ = some (.string x0) ∧ wA.cell? ⟨g2, o2 + k * 3 + 1, none⟩ = some (.int .i64 x1) ∧ wA.cell? ⟨g2, o2 + k * 3 + 2, none⟩ = some (.int .i64 x2) ∧ g < wA.heap.size ∧ g2 < wA.heap.size := ⟨(hbA.cell (p := ⟨g, _, none⟩) (by simp only [World.size_drew]; omega)).trans c0, (hbA.cell (p := ⟨g, _, none⟩) (by simp only [World.size_drew]; omega)).trans c1, (hbA.cell (p := ⟨g, _, none⟩) (by simp only [World.size_drew]; omega)).trans c2, (hbA.cell (p := ⟨g2, _, none⟩) (by simp only [World.size_drew]; omega)).trans d0, (hbA.cell (p := ⟨g2, _, none⟩) (by simp only [World.size_drew]; omega)).trans d1, (hbA.cell (p := ⟨g2, _, none⟩) (by simp only [World.size_drew]; omega)).trans d2, by omega, by omega⟩))
      all_goals
        go_wp2_with fail
        go_roundw
        case rel => exact ⟨k + 1, by omega, by go_num, by repeat' (first | with_reducible assumption | with_reducible exact Below.refl _ _ | (with_reducible refine Below.setCell ?_ ?_ _) | (with_reducible refine Below.alloc ?_ ?_ _) | (with_reducible refine Below.drew ?_) | (with_reducible refine below_dr ?_ _) | (with_reducible refine Below.trans ?_ (Below.mono (by with_reducible assumption) ?_)) | omega | (simp; done) | (simp; omega))⟩
        case measure => simp [intOf]; omega
    case neg =>
      go_wp2_with fail
      go_ret
      exact ⟨rfl, hbl⟩
set_option maxHeartbeats 3200000 in
theorem xeqLinear_any (x0 : Int) (x1 : Int) (x2A : Option Addr) (x2c : Nat) (x2l : List DTerm) (x2A' : Option Addr) (x2c' : Nat) (w : World) (ht : totLinear (x0, x1, x2l) ≤ 4611686018427387904) (r_x2 : Row RvTerm 3 w w.heap.size x2A x2l) (r'_x2 : Row RvTerm 3 w w.heap.size x2A' x2l) :
    Calls Try.prog 23 #[.agg #[.int .i64 x0, .int .i64 x1, .slice x2A x2l.length x2c], .agg #[.int .i64 x0, .int .i64 x1, .slice x2A' x2l.length x2c']] w fun e w' => e = .returned (.bool true) ∧ Below w.heap.size w w' := by
  replace ht : totRow totTerm x2l ≤ 4611686018427387904 := ht
  go_enter Try.func23, Try.ntmps23
  go_wp2_with fail
  refine (xeqFrac_any x0 x1  _ (show totFrac (x0, x1) ≤ 4611686018427387904 from by first | exact Nat.zero_le _ | (simp only [totFrac]; omega)) ).mono ?_
  rintro e wZ0 ⟨rfl, hbwZ0⟩
  obtain ⟨hcwZ0, hfwZ0⟩ := bcell hbwZ0
  have hzwZ0 := hbwZ0.size
  (try simp only [World.size_setCell] at hcwZ0 hfwZ0 hzwZ0)
  (try simp only [World.size_drew] at hcwZ0 hfwZ0 hzwZ0)
  (try simp only [World.size_alloc] at hcwZ0 hfwZ0 hzwZ0)
  have qwZ00 : w.heap.size < wZ0.heap.size := by omega
  have qwZ01 : w.heap.size + 1 < wZ0.heap.size := by omega
  go_wp2_with fail
  refine (xeqTermS_any x2l x2A x2A' x2c x2c' _ (by omega) ?_ ?_).mono ?_
  · exact (Row.carry (w' := _) r_x2 (by repeat' (first | with_reducible assumption | with_reducible exact Below.refl _ _ | (with_reducible refine Below.setCell ?_ ?_ _) | (with_reducible refine Below.alloc ?_ ?_ _) | (with_reducible refine Below.drew ?_) | (with_reducible refine below_dr ?_ _) | (with_reducible refine Below.trans ?_ (Below.mono (by with_reducible assumption) ?_)) | omega | (simp; done) | (simp; omega))) (Nat.le_refl _)).more (by (try simp only [World.size_setCell]); (try simp only [World.size_drew]); (try simp only [World.size_alloc]); omega)
  · exact (Row.carry (w' := _) r'_x2 (by repeat' (first | with_reducible assumption | with_reducible exact Below.refl _ _ | (with_reducible refine Below.setCell ?_ ?_ _) | (with_reducible refine Below.alloc ?_ ?_ _) | (with_reducible refine Below.drew ?_) | (with_reducible refine below_dr ?_ _) | (with_reducible refine Below.trans ?_ (Below.mono (by with_reducible assumption) ?_)) | omega | (simp; done) | (simp; omega))) (Nat.le_refl _)).more (by (try simp only [World.size_setCell]); (try simp only [World.size_drew]); (try simp only [World.size_alloc]); omega)
  rintro e wZ1 ⟨rfl, hbwZ1⟩
  obtain ⟨hcwZ1, hfwZ1⟩ := bcell hbwZ1
  have hzwZ1 := hbwZ1.size
  (try simp only [World.size_setCell] at hcwZ1 hfwZ1 hzwZ1)
  (try simp only [World.size_drew] at hcwZ1 hfwZ1 hzwZ1)
  (try simp only [World.size_alloc] at hcwZ1 hfwZ1 hzwZ1)
  have qwZ10 : w.heap.size < wZ1.heap.size := by omega
  have qwZ11 : w.heap.size + 1 < wZ1.heap.size := by omega
  go_wp2_with fail
  go_ret
  exact ⟨rfl, by repeat' (first | with_reducible assumption | with_reducible exact Below.refl _ _ | (with_reducible refine Below.setCell ?_ ?_ _) | (with_reducible refine Below.alloc ?_ ?_ _) | (with_reducible refine Below.drew ?_) | (with_reducible refine below_dr ?_ _) | (with_reducible refine Below.trans ?_ (Below.mono (by with_reducible assumption) ?_)) | omega | (simp; done) | (simp; omega))⟩
set_option maxHeartbeats 3200000 in
theorem xeqStatement_any (x0 : Int) (x1 : ByteArray) (x2 : ByteArray) (x3 : Int) (x4 : Int) (x5A : Option Addr) (x5c : Nat) (x5l : List DTerm) (x6 : Int) (x7 : Int) (x8A : Option Addr) (x8c : Nat) (x8l : List DTerm) (x9A : Option Addr) (x9c : Nat) (x9l : List DString) (x10A : Option Addr) (x10c : Nat) (x10l : List DInt64) (x11 : Bool) (x12 : Bool) (x5A' : Option Addr) (x5c' : Nat) (x8A' : Option Addr) (x8c' : Nat) (x9A' : Option Addr) (x9c' : Nat) (x10A' : Option Addr) (x10c' : Nat) (w : World) (ht : totStatement (x0, x1, x2, x3, x4, x5l, x6, x7, x8l, x9l, x10l, x11, x12) ≤ 4611686018427387904) (r_x5 : Row RvTerm 3 w w.heap.size x5A x5l) (r_x8 : Row RvTerm 3 w w.heap.size x8A x8l) (r_x9 : Row RvString 1 w w.heap.size x9A x9l) (r_x10 : Row RvInt64 1 w w.heap.size x10A x10l) (r'_x5 : Row RvTerm 3 w w.heap.size x5A' x5l) (r'_x8 : Row RvTerm 3 w w.heap.size x8A' x8l) (r'_x9 : Row RvString 1 w w.heap.size x9A' x9l) (r'_x10 : Row RvInt64 1 w w.heap.size x10A' x10l) :
    Calls Try.prog 8 #[.agg #[.int .i64 x0, .string x1, .string x2, .int .i64 x3, .int .i64 x4, .slice x5A x5l.length x5c, .int .i64 x6, .int .i64 x7, .slice x8A x8l.length x8c, .slice x9A x9l.length x9c, .slice x10A x10l.length x10c, .bool x11, .bool x12], .agg #[.int .i64 x0, .string x1, .string x2, .int .i64 x3, .int .i64 x4, .slice x5A' x5l.length x5c', .int .i64 x6, .int .i64 x7, .slice x8A' x8l.length x8c', .slice x9A' x9l.length x9c', .slice x10A' x10l.length x10c', .bool x11, .bool x12]] w fun e w' => e = .returned (.bool true) ∧ Below w.heap.size w w' := by
  have d_x0 : (x0 != x0) = false := by simp
  have e_x1 : (x1.toList == x1.toList) = true := by simp
  have d_x1 : (x1.toList != x1.toList) = false := by simp
  have e_x2 : (x2.toList == x2.toList) = true := by simp
  have d_x2 : (x2.toList != x2.toList) = false := by simp
  have d_x11 : (x11 != x11) = false := by simp
  have d_x12 : (x12 != x12) = false := by simp
  replace ht : x1.size + x2.size + totRow totTerm x5l + totRow totTerm x8l + totRow totString x9l + totRow totInt64 x10l ≤ 4611686018427387904 := ht
  go_enter Try.func8, Try.ntmps8
  go_wp2_with fail
  refine (xeqLinear_any x3 x4 x5A x5c x5l x5A' x5c' _ (by show totRow totTerm x5l ≤ 4611686018427387904; omega) ?_ ?_).mono ?_
  · exact (Row.carry (w' := _) r_x5 (by repeat' (first | with_reducible assumption | with_reducible exact Below.refl _ _ | (with_reducible refine Below.setCell ?_ ?_ _) | (with_reducible refine Below.alloc ?_ ?_ _) | (with_reducible refine Below.drew ?_) | (with_reducible refine below_dr ?_ _) | (with_reducible refine Below.trans ?_ (Below.mono (by with_reducible assumption) ?_)) | omega | (simp; done) | (simp; omega))) (Nat.le_refl _)).more (by (try simp only [World.size_setCell]); (try simp only [World.size_drew]); (try simp only [World.size_alloc]); omega)
  · exact (Row.carry (w' := _) r'_x5 (by repeat' (first | with_reducible assumption | with_reducible exact Below.refl _ _ | (with_reducible refine Below.setCell ?_ ?_ _) | (with_reducible refine Below.alloc ?_ ?_ _) | (with_reducible refine Below.drew ?_) | (with_reducible refine below_dr ?_ _) | (with_reducible refine Below.trans ?_ (Below.mono (by with_reducible assumption) ?_)) | omega | (simp; done) | (simp; omega))) (Nat.le_refl _)).more (by (try simp only [World.size_setCell]); (try simp only [World.size_drew]); (try simp only [World.size_alloc]); omega)
  rintro e wZ0 ⟨rfl, hbwZ0⟩
  obtain ⟨hcwZ0, hfwZ0⟩ := bcell hbwZ0
  have hzwZ0 := hbwZ0.size
  (try simp only [World.size_setCell] at hcwZ0 hfwZ0 hzwZ0)
  (try simp only [World.size_drew] at hcwZ0 hfwZ0 hzwZ0)
  (try simp only [World.size_alloc] at hcwZ0 hfwZ0 hzwZ0)
  have qwZ00 : w.heap.size < wZ0.heap.size := by omega
  have qwZ01 : w.heap.size + 1 < wZ0.heap.size := by omega
  go_wp2_with fail
  refine (xeqLinear_any x6 x7 x8A x8c x8l x8A' x8c' _ (by show totRow totTerm x8l ≤ 4611686018427387904; omega) ?_ ?_).mono ?_
  · exact (Row.carry (w' := _) r_x8 (by repeat' (first | with_reducible assumption | with_reducible exact Below.refl _ _ | (with_reducible refine Below.setCell ?_ ?_ _) | (with_reducible refine Below.alloc ?_ ?_ _) | (with_reducible refine Below.drew ?_) | (with_reducible refine below_dr ?_ _) | (with_reducible refine Below.trans ?_ (Below.mono (by with_reducible assumption) ?_)) | omega | (simp; done) | (simp; omega))) (Nat.le_refl _)).more (by (try simp only [World.size_setCell]); (try simp only [World.size_drew]); (try simp only [World.size_alloc]); omega)
  · exact (Row.carry (w' := _) r'_x8 (by repeat' (first | with_reducible assumption | with_reducible exact Below.refl _ _ | (with_reducible refine Below.setCell ?_ ?_ _) | (with_reducible refine Below.alloc ?_ ?_ _) | (with_reducible refine Below.drew ?_) | (with_reducible refine below_dr ?_ _) | (with_reducible refine Below.trans ?_ (Below.mono (by with_reducible assumption) ?_)) | omega | (simp; done) | (simp; omega))) (Nat.le_refl _)).more (by (try simp only [World.size_setCell]); (try simp only [World.size_drew]); (try simp only [World.size_alloc]); omega)
  rintro e wZ1 ⟨rfl, hbwZ1⟩
  obtain ⟨hcwZ1, hfwZ1⟩ := bcell hbwZ1
  have hzwZ1 := hbwZ1.size
  (try simp only [World.size_setCell] at hcwZ1 hfwZ1 hzwZ1)
  (try simp only [World.size_drew] at hcwZ1 hfwZ1 hzwZ1)
  (try simp only [World.size_alloc] at hcwZ1 hfwZ1 hzwZ1)
  have qwZ10 : w.heap.size < wZ1.heap.size := by omega
  have qwZ11 : w.heap.size + 1 < wZ1.heap.size := by omega
  go_wp2_with fail
  refine (xeqStringS_any x9l x9A x9A' x9c x9c' _ (by omega) ?_ ?_).mono ?_
  · exact (Row.carry (w' := _) r_x9 (by repeat' (first | with_reducible assumption | with_reducible exact Below.refl _ _ | (with_reducible refine Below.setCell ?_ ?_ _) | (with_reducible refine Below.alloc ?_ ?_ _) | (with_reducible refine Below.drew ?_) | (with_reducible refine below_dr ?_ _) | (with_reducible refine Below.trans ?_ (Below.mono (by with_reducible assumption) ?_)) | omega | (simp; done) | (simp; omega))) (Nat.le_refl _)).more (by (try simp only [World.size_setCell]); (try simp only [World.size_drew]); (try simp only [World.size_alloc]); omega)
  · exact (Row.carry (w' := _) r'_x9 (by repeat' (first | with_reducible assumption | with_reducible exact Below.refl _ _ | (with_reducible refine Below.setCell ?_ ?_ _) | (with_reducible refine Below.alloc ?_ ?_ _) | (with_reducible refine Below.drew ?_) | (with_reducible refine below_dr ?_ _) | (with_reducible refine Below.trans ?_ (Below.mono (by with_reducible assumption) ?_)) | omega | (simp; done) | (simp; omega))) (Nat.le_refl _)).more (by (try simp only [World.size_setCell]); (try simp only [World.size_drew]); (try simp only [World.size_alloc]); omega)
  rintro e wZ2 ⟨rfl, hbwZ2⟩
  obtain ⟨hcwZ2, hfwZ2⟩ := bcell hbwZ2
  have hzwZ2 := hbwZ2.size
  (try simp only [World.size_setCell] at hcwZ2 hfwZ2 hzwZ2)
  (try simp only [World.size_drew] at hcwZ2 hfwZ2 hzwZ2)
  (try simp only [World.size_alloc] at hcwZ2 hfwZ2 hzwZ2)
  have qwZ20 : w.heap.size < wZ2.heap.size := by omega
  have qwZ21 : w.heap.size + 1 < wZ2.heap.size := by omega
  go_wp2_with fail
  refine (xeqInt64S_any x10l x10A x10A' x10c x10c' _ (by omega) ?_ ?_).mono ?_
  · exact (Row.carry (w' := _) r_x10 (by repeat' (first | with_reducible assumption | with_reducible exact Below.refl _ _ | (with_reducible refine Below.setCell ?_ ?_ _) | (with_reducible refine Below.alloc ?_ ?_ _) | (with_reducible refine Below.drew ?_) | (with_reducible refine below_dr ?_ _) | (with_reducible refine Below.trans ?_ (Below.mono (by with_reducible assumption) ?_)) | omega | (simp; done) | (simp; omega))) (Nat.le_refl _)).more (by (try simp only [World.size_setCell]); (try simp only [World.size_drew]); (try simp only [World.size_alloc]); omega)
  · exact (Row.carry (w' := _) r'_x10 (by repeat' (first | with_reducible assumption | with_reducible exact Below.refl _ _ | (with_reducible refine Below.setCell ?_ ?_ _) | (with_reducible refine Below.alloc ?_ ?_ _) | (with_reducible refine Below.drew ?_) | (with_reducible refine below_dr ?_ _) | (with_reducible refine Below.trans ?_ (Below.mono (by with_reducible assumption) ?_)) | omega | (simp; done) | (simp; omega))) (Nat.le_refl _)).more (by (try simp only [World.size_setCell]); (try simp only [World.size_drew]); (try simp only [World.size_alloc]); omega)
  rintro e wZ3 ⟨rfl, hbwZ3⟩
  obtain ⟨hcwZ3, hfwZ3⟩ := bcell hbwZ3
  have hzwZ3 := hbwZ3.size
  (try simp only [World.size_setCell] at hcwZ3 hfwZ3 hzwZ3)
  (try simp only [World.size_drew] at hcwZ3 hfwZ3 hzwZ3)
  (try simp only [World.size_alloc] at hcwZ3 hfwZ3 hzwZ3)
  have qwZ30 : w.heap.size < wZ3.heap.size := by omega
  have qwZ31 : w.heap.size + 1 < wZ3.heap.size := by omega
  go_wp2_with fail
  go_ret
  exact ⟨rfl, by repeat' (first | with_reducible assumption | with_reducible exact Below.refl _ _ | (with_reducible refine Below.setCell ?_ ?_ _) | (with_reducible refine Below.alloc ?_ ?_ _) | (with_reducible refine Below.drew ?_) | (with_reducible refine below_dr ?_ _) | (with_reducible refine Below.trans ?_ (Below.mono (by with_reducible assumption) ?_)) | omega | (simp; done) | (simp; omega))⟩
end Go.Proofs.Ytjpadamlfhceaaa
