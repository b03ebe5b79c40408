/- Walks: they are compared. -/
import Derived.Test.YtelefmogmloniaaGl4
import Derived.Deep.RegionHeld3
namespace Go.Proofs.Ytelefmogmloniaa
open Go.RowKit
set_option linter.unusedVariables false
set_option maxHeartbeats 3200000 in
theorem xeqPt_any (x0 : Int) (x1 : Int)  (w : World) (ht : totPt (x0, x1) ≤ 4611686018427387904)   :
    Calls Try.prog 172 #[.agg #[.int .i64 x0, .int .i64 x1], .agg #[.int .i64 x0, .int .i64 x1]] w fun e w' => e = .returned (.bool true) ∧ Below w.heap.size w w' := by
  have d_x0 : (x0 != x0) = false := by simp
  have d_x1 : (x1 != x1) = false := by simp
  go_enter Try.func172, Try.ntmps172
  go_wp2_with fail
  go_ret
  exact ⟨rfl, by repeat' (first | with_reducible assumption | with_reducible exact Below.refl _ _ | (with_reducible refine Below.setCell ?_ ?_ _) | (with_reducible refine Below.alloc ?_ ?_ _) | (with_reducible refine Below.drew ?_) | (with_reducible refine below_dr ?_ _) | (with_reducible refine Below.trans ?_ (Below.mono (by with_reducible assumption) ?_)) | omega | (simp; done) | (simp; omega))⟩
set_option maxHeartbeats 3200000 in
theorem xeqKnot_any (x0 : Int) (x1 : Int) (x2 : Bool)  (w : World) (ht : totKnot (x0, x1, x2) ≤ 4611686018427387904)   :
    Calls Try.prog 188 #[.agg #[.int .i64 x0, .int .i64 x1, .bool x2], .agg #[.int .i64 x0, .int .i64 x1, .bool x2]] w fun e w' => e = .returned (.bool true) ∧ Below w.heap.size w w' := by
  have d_x2 : (x2 != x2) = false := by simp
  go_enter Try.func188, Try.ntmps188
  go_wp2_with fail
  refine (xeqPt_any x0 x1  _ (show totPt (x0, x1) ≤ 4611686018427387904 from by first | exact Nat.zero_le _ | (simp only [totPt]; omega)) ).mono ?_
  rintro e wZ0 ⟨rfl, hbwZ0⟩
  obtain ⟨hcwZ0, hfwZ0⟩ := bcell hbwZ0
  have hzwZ0 := hbwZ0.size
  (try simp only [World.size_setCell] at hcwZ0 hfwZ0 hzwZ0)
  (try simp only [World.size_drew] at hcwZ0 hfwZ0 hzwZ0)
  (try simp only [World.size_alloc] at hcwZ0 hfwZ0 hzwZ0)
  have qwZ00 : w.heap.size < wZ0.heap.size := by omega
  have qwZ01 : w.heap.size + 1 < wZ0.heap.size := by omega
  go_wp2_with fail
  go_ret
  exact ⟨rfl, by repeat' (first | with_reducible assumption | with_reducible exact Below.refl _ _ | (with_reducible refine Below.setCell ?_ ?_ _) | (with_reducible refine Below.alloc ?_ ?_ _) | (with_reducible refine Below.drew ?_) | (with_reducible refine below_dr ?_ _) | (with_reducible refine Below.trans ?_ (Below.mono (by with_reducible assumption) ?_)) | omega | (simp; done) | (simp; omega))⟩
set_option maxHeartbeats 3200000 in
theorem xeqKnotS_any (l : List DKnot) (A A' : Option Addr) (c c' : Nat) (w : World) (ht : totRow totKnot l ≤ 4611686018427387904) (r : Row RvKnot 3 w w.heap.size A l) (r' : Row RvKnot 3 w w.heap.size A' l) :
    Calls Try.prog 184 #[.slice A l.length c, .slice A' l.length c'] w fun e w' => e = .returned (.bool true) ∧ Below w.heap.size w w' := by
  have HTE := Lib.hid (fun (k : Nat) (d : DKnot) (h : l[k]? = some d) => Nat.le_trans (totRow_at (f := totKnot) h) ht)
  have hl : l.length ≤ 4611686018427387904 := Nat.le_trans (totRow_len totKnot l) ht
  clear ht
  obtain ⟨n, hn⟩ : ∃ n, n = l.length := ⟨_, rfl⟩
  rw [← hn] at hl ⊢
  have HN := Lib.hid hn
  clear hn
  have e0 : ((n : Int) != (n : Int)) = false := by simp
  go_enter Try.func184, Try.ntmps184
  go_wp2_with fail
  go_loopw [5] (fun i wr => ∃ k : Nat, k ≤ n ∧ i = .int .i64 (k : Int) ∧ Below w.heap.size w wr) (fun i _ => n - (intOf i).toNat)
  case atStart => exact ⟨0, Nat.zero_le _, rfl, by repeat' (first | with_reducible assumption | with_reducible exact Below.refl _ _ | (with_reducible refine Below.setCell ?_ ?_ _) | (with_reducible refine Below.alloc ?_ ?_ _) | (with_reducible refine Below.drew ?_) | (with_reducible refine below_dr ?_ _) | (with_reducible refine Below.trans ?_ (Below.mono (by with_reducible assumption) ?_)) | omega | (simp; done) | (simp; omega))⟩
  case round =>
    obtain ⟨k, hk, rfl, hbl⟩ := hrel
    by_cases hlt : k < n
    case pos =>
      obtain ⟨⟨x0, x1, x2⟩, ha⟩ : ∃ a, l[k]? = some a := ⟨l[k]'(by have := HN.out; omega), List.getElem?_eq_getElem (by have := HN.out; omega)⟩
      obtain ⟨g, o, row, rfl, hg, hR, hcc⟩ := (Row.carry (w' := wr) r hbl (Nat.le_refl _)).elem ha
      obtain rfl := hR
      have c0 : wr.cell? ⟨g, o + k * 3, none⟩ = some (.int .i64 x0) := hcc 0 _ rfl
      have c1 : wr.cell? ⟨g, o + k * 3 + 1, none⟩ = some (.int .i64 x1) := hcc 1 _ rfl
      have c2 : wr.cell? ⟨g, o + k * 3 + 2, none⟩ = some (.bool x2) := hcc 2 _ rfl
      clear hcc
      obtain ⟨g2, o2, row', rfl, hg2, hR', hcd⟩ := (Row.carry (w' := wr) r' hbl (Nat.le_refl _)).elem ha
      obtain rfl := hR'
      have d0 : wr.cell? ⟨g2, o2 + k * 3, none⟩ = some (.int .i64 x0) := hcd 0 _ rfl
      have d1 : wr.cell? ⟨g2, o2 + k * 3 + 1, none⟩ = some (.int .i64 x1) := hcd 1 _ rfl
      have d2 : wr.cell? ⟨g2, o2 + k * 3 + 2, none⟩ = some (.bool x2) := hcd 2 _ rfl
      clear hcd
      have hte := HTE.out k _ ha
      clear ha r r'
      have hzr := hbl.size
      have hki : (k : Int) < (n : Int) := by omega
      have hgw : g < wr.heap.size := by omega
      have hgw2 : g2 < wr.heap.size := by omega
      go_wp2_with fail
      go_region_held3 (fun w' => w'.cell? ⟨g, o + k * 3, none⟩ = some (.int .i64 x0) ∧ w'.cell? ⟨g, o + k * 3 + 1, none⟩ = some (.int .i64 x1) ∧ w'.cell? ⟨g, o + k * 3 + 2, none⟩ = some (.bool x2) ∧ w'.cell? ⟨g2, o2 + k * 3, none⟩ = some (.int .i64 x0) ∧ w'.cell? ⟨g2, o2 + k * 3 + 1, none⟩ = some (.int .i64 x1) ∧ w'.cell? ⟨g2, o2 + k * 3 + 2, none⟩ = some (.bool x2) ∧ g < w'.heap.size ∧ g2 < w'.heap.size)
        (first | exact ⟨c0, c1, c2, d0, d1, d2, hgw, hgw2⟩ | assumption | fail)
        (first
          | (go_at_call 188; (with_reducible refine (xeqKnot_any x0 x1 x2  _ hte ).mono ?_); rintro e wA ⟨rfl, hbA⟩; have hzA := hbA.size; (try simp only [World.size_drew] at hzA); have hS :  wA.cell? ⟨g, o + k * 3, none⟩ = some (.int .i64 x0) ∧ wA.cell? ⟨g, o + k * 3 + 1, none⟩ = some (.int .i64 x1) ∧ wA.cell? ⟨g, o + k * 3 + 2, none⟩ = some (.bool x2) ∧ wA.cell? ⟨g2, o2 + k * 3, none⟩ = some (.int .i64 x0) ∧ wA.cell? ⟨g2, o2 + k * 3 + 1, none⟩ = some (.int .i64 x1) ∧ wA.cell? ⟨g2, o2 + k * 3 + 2, none⟩ = some (.bool x2) ∧ g < wA.heap.size ∧ g2 < wA.heap.size := ⟨(hbA.cell (p := ⟨g, _, none⟩) (by simp only [World.size_drew]; omega)).trans c0, (hbA.cell (p := ⟨g, _, none⟩) (by simp only [World.size_drew]; omega)).trans c1, (hbA.cell (p := ⟨g, _, none⟩) (by simp only [World.size_drew]; omega)).trans c2, (hbA.cell (p := ⟨g2, _, none⟩) (by simp only [World.size_drew]; omega)).trans d0, (hbA.cell (p := ⟨g2, _, none⟩) (by simp only [World.size_drew]; omega)).trans d1, (hbA.cell (p := ⟨g2, _, none⟩) (by simp only [World.size_drew]; omega)).trans d2, by omega, by omega⟩))
      all_goals
        go_wp2_with fail
        go_roundw
        case rel => exact ⟨k + 1, by omega, by go_num, by repeat' (first | with_reducible assumption | with_reducible exact Below.refl _ _ | (with_reducible refine Below.setCell ?_ ?_ _) | (with_reducible refine Below.alloc ?_ ?_ _) | (with_reducible refine Below.drew ?_) | (with_reducible refine below_dr ?_ _) | (with_reducible refine Below.trans ?_ (Below.mono (by with_reducible assumption) ?_)) | omega | (simp; done) | (simp; omega))⟩
        case measure => simp [intOf]; omega
    case neg =>
      go_wp2_with fail
      go_ret
      exact ⟨rfl, hbl⟩
set_option maxHeartbeats 3200000 in
theorem xeqLoop_any (x0A : Option Addr) (x0c : Nat) (x0l : List DKnot) (x0A' : Option Addr) (x0c' : Nat) (w : World) (ht : totLoop x0l ≤ 4611686018427387904) (r_x0 : Row RvKnot 3 w w.heap.size x0A x0l) (r'_x0 : Row RvKnot 3 w w.heap.size x0A' x0l) :
    Calls Try.prog 171 #[.agg #[.slice x0A x0l.length x0c], .agg #[.slice x0A' x0l.length x0c']] w fun e w' => e = .returned (.bool true) ∧ Below w.heap.size w w' := by
  replace ht : totRow totKnot x0l ≤ 4611686018427387904 := ht
  go_enter Try.func171, Try.ntmps171
  go_wp2_with fail
  refine (xeqKnotS_any x0l x0A x0A' x0c x0c' _ (by omega) ?_ ?_).mono ?_
  · exact (Row.carry (w' := _) r_x0 (by repeat' (first | with_reducible assumption | with_reducible exact Below.refl _ _ | (with_reducible refine Below.setCell ?_ ?_ _) | (with_reducible refine Below.alloc ?_ ?_ _) | (with_reducible refine Below.drew ?_) | (with_reducible refine below_dr ?_ _) | (with_reducible refine Below.trans ?_ (Below.mono (by with_reducible assumption) ?_)) | omega | (simp; done) | (simp; omega))) (Nat.le_refl _)).more (by (try simp only [World.size_setCell]); (try simp only [World.size_drew]); (try simp only [World.size_alloc]); omega)
  · exact (Row.carry (w' := _) r'_x0 (by repeat' (first | with_reducible assumption | with_reducible exact Below.refl _ _ | (with_reducible refine Below.setCell ?_ ?_ _) | (with_reducible refine Below.alloc ?_ ?_ _) | (with_reducible refine Below.drew ?_) | (with_reducible refine below_dr ?_ _) | (with_reducible refine Below.trans ?_ (Below.mono (by with_reducible assumption) ?_)) | omega | (simp; done) | (simp; omega))) (Nat.le_refl _)).more (by (try simp only [World.size_setCell]); (try simp only [World.size_drew]); (try simp only [World.size_alloc]); omega)
  rintro e wZ0 ⟨rfl, hbwZ0⟩
  obtain ⟨hcwZ0, hfwZ0⟩ := bcell hbwZ0
  have hzwZ0 := hbwZ0.size
  (try simp only [World.size_setCell] at hcwZ0 hfwZ0 hzwZ0)
  (try simp only [World.size_drew] at hcwZ0 hfwZ0 hzwZ0)
  (try simp only [World.size_alloc] at hcwZ0 hfwZ0 hzwZ0)
  have qwZ00 : w.heap.size < wZ0.heap.size := by omega
  have qwZ01 : w.heap.size + 1 < wZ0.heap.size := by omega
  go_wp2_with fail
  go_ret
  exact ⟨rfl, by repeat' (first | with_reducible assumption | with_reducible exact Below.refl _ _ | (with_reducible refine Below.setCell ?_ ?_ _) | (with_reducible refine Below.alloc ?_ ?_ _) | (with_reducible refine Below.drew ?_) | (with_reducible refine below_dr ?_ _) | (with_reducible refine Below.trans ?_ (Below.mono (by with_reducible assumption) ?_)) | omega | (simp; done) | (simp; omega))⟩
set_option maxHeartbeats 3200000 in
theorem xeqLoopS_any (l : List DLoop) (A A' : Option Addr) (c c' : Nat) (w : World) (ht : totRow totLoop l ≤ 4611686018427387904) (r : Row RvLoop 1 w w.heap.size A l) (r' : Row RvLoop 1 w w.heap.size A' l) :
    Calls Try.prog 127 #[.slice A l.length c, .slice A' l.length c'] w fun e w' => e = .returned (.bool true) ∧ Below w.heap.size w w' := by
  have HTE := Lib.hid (fun (k : Nat) (d : DLoop) (h : l[k]? = some d) => Nat.le_trans (totRow_at (f := totLoop) h) ht)
  have hl : l.length ≤ 4611686018427387904 := Nat.le_trans (totRow_len totLoop l) ht
  clear ht
  obtain ⟨n, hn⟩ : ∃ n, n = l.length := ⟨_, rfl⟩
  rw [← hn] at hl ⊢
  have HN := Lib.hid hn
  clear hn
  have e0 : ((n : Int) != (n : Int)) = false := by simp
  go_enter Try.func127, Try.ntmps127
  go_wp2_with fail
  go_loopw [5] (fun i wr => ∃ k : Nat, k ≤ n ∧ i = .int .i64 (k : Int) ∧ Below w.heap.size w wr) (fun i _ => n - (intOf i).toNat)
  case atStart => exact ⟨0, Nat.zero_le _, rfl, by repeat' (first | with_reducible assumption | with_reducible exact Below.refl _ _ | (with_reducible refine Below.setCell ?_ ?_ _) | (with_reducible refine Below.alloc ?_ ?_ _) | (with_reducible refine Below.drew ?_) | (with_reducible refine below_dr ?_ _) | (with_reducible refine Below.trans ?_ (Below.mono (by with_reducible assumption) ?_)) | omega | (simp; done) | (simp; omega))⟩
  case round =>
    obtain ⟨k, hk, rfl, hbl⟩ := hrel
    by_cases hlt : k < n
    case pos =>
      obtain ⟨x0l, ha⟩ : ∃ a, l[k]? = some a := ⟨l[k]'(by have := HN.out; omega), List.getElem?_eq_getElem (by have := HN.out; omega)⟩
      obtain ⟨g, o, row, rfl, hg, hR, hcc⟩ := (Row.carry (w' := wr) r hbl (Nat.le_refl _)).elem ha
      obtain ⟨x0A, x0c, rfl, hr_x0⟩ := hR
      have c0 : wr.cell? ⟨g, o + k, none⟩ = some (.slice x0A x0l.length x0c) := by have h := hcc 0 _ rfl; rw [Nat.mul_one] at h; exact h
      clear hcc
      obtain ⟨g2, o2, row', rfl, hg2, hR', hcd⟩ := (Row.carry (w' := wr) r' hbl (Nat.le_refl _)).elem ha
      obtain ⟨x0A', x0c', rfl, hr'_x0⟩ := hR'
      have d0 : wr.cell? ⟨g2, o2 + k, none⟩ = some (.slice x0A' x0l.length x0c') := by have h := hcd 0 _ rfl; rw [Nat.mul_one] at h; exact h
      clear hcd
      have hte := HTE.out k _ ha
      clear ha r r'
      have hzr := hbl.size
      have hki : (k : Int) < (n : Int) := by omega
      have hgw : g < wr.heap.size := by omega
      have hgw2 : g2 < wr.heap.size := by omega
      replace hr_x0 := Row.more hr_x0 hzr
      replace hr'_x0 := Row.more hr'_x0 hzr
      go_wp2_with fail
      go_region_held3 (fun w' => w'.cell? ⟨g, o + k, none⟩ = some (.slice x0A x0l.length x0c) ∧ w'.cell? ⟨g2, o2 + k, none⟩ = some (.slice x0A' x0l.length x0c') ∧ g < w'.heap.size ∧ g2 < w'.heap.size)
        (first | exact ⟨c0, d0, hgw, hgw2⟩ | assumption | fail)
        (first
          | (go_at_call 171; (with_reducible refine (xeqLoop_any x0A x0c x0l x0A' x0c' _ hte ?_ ?_).mono ?_); (focus (first | exact hr_x0 | exact hr_x0.drew)); (focus (first | exact hr'_x0 | exact hr'_x0.drew)); rintro e wA ⟨rfl, hbA⟩; have hzA := hbA.size; (try simp only [World.size_drew] at hzA); have hS :  wA.cell? ⟨g, o + k, none⟩ = some (.slice x0A x0l.length x0c) ∧ wA.cell? ⟨g2, o2 + k, none⟩ = some (.slice x0A' x0l.length x0c') ∧ g < wA.heap.size ∧ g2 < wA.heap.size := ⟨(hbA.cell (p := ⟨g, _, none⟩) (by simp only [World.size_drew]; omega)).trans c0, (hbA.cell (p := ⟨g2, _, none⟩) (by simp only [World.size_drew]; omega)).trans d0, by omega, by omega⟩))
      all_goals
        go_wp2_with fail
        go_roundw
        case rel => exact ⟨k + 1, by omega, by go_num, by repeat' (first | with_reducible assumption | with_reducible exact Below.refl _ _ | (with_reducible refine Below.setCell ?_ ?_ _) | (with_reducible refine Below.alloc ?_ ?_ _) | (with_reducible refine Below.drew ?_) | (with_reducible refine below_dr ?_ _) | (with_reducible refine Below.trans ?_ (Below.mono (by with_reducible assumption) ?_)) | omega | (simp; done) | (simp; omega))⟩
        case measure => simp [intOf]; omega
    case neg =>
      go_wp2_with fail
      go_ret
      exact ⟨rfl, hbl⟩
set_option maxHeartbeats 3200000 in
theorem xeqOutline_any (x0A : Option Addr) (x0c : Nat) (x0l : List DLoop) (x0A' : Option Addr) (x0c' : Nat) (w : World) (ht : totOutline x0l ≤ 4611686018427387904) (r_x0 : Row RvLoop 1 w w.heap.size x0A x0l) (r'_x0 : Row RvLoop 1 w w.heap.size x0A' x0l) :
    Calls Try.prog 60 #[.agg #[.slice x0A x0l.length x0c], .agg #[.slice x0A' x0l.length x0c']] w fun e w' => e = .returned (.bool true) ∧ Below w.heap.size w w' := by
  replace ht : totRow totLoop x0l ≤ 4611686018427387904 := ht
  go_enter Try.func60, Try.ntmps60
  go_wp2_with fail
  refine (xeqLoopS_any x0l x0A x0A' x0c x0c' _ (by omega) ?_ ?_).mono ?_
  · exact (Row.carry (w' := _) r_x0 (by repeat' (first | with_reducible assumption | with_reducible exact Below.refl _ _ | (with_reducible refine Below.setCell ?_ ?_ _) | (with_reducible refine Below.alloc ?_ ?_ _) | (with_reducible refine Below.drew ?_) | (with_reducible refine below_dr ?_ _) | (with_reducible refine Below.trans ?_ (Below.mono (by with_reducible assumption) ?_)) | omega | (simp; done) | (simp; omega))) (Nat.le_refl _)).more (by (try simp only [World.size_setCell]); (try simp only [World.size_drew]); (try simp only [World.size_alloc]); omega)
  · exact (Row.carry (w' := _) r'_x0 (by repeat' (first | with_reducible assumption | with_reducible exact Below.refl _ _ | (with_reducible refine Below.setCell ?_ ?_ _) | (with_reducible refine Below.alloc ?_ ?_ _) | (with_reducible refine Below.drew ?_) | (with_reducible refine below_dr ?_ _) | (with_reducible refine Below.trans ?_ (Below.mono (by with_reducible assumption) ?_)) | omega | (simp; done) | (simp; omega))) (Nat.le_refl _)).more (by (try simp only [World.size_setCell]); (try simp only [World.size_drew]); (try simp only [World.size_alloc]); omega)
  rintro e wZ0 ⟨rfl, hbwZ0⟩
  obtain ⟨hcwZ0, hfwZ0⟩ := bcell hbwZ0
  have hzwZ0 := hbwZ0.size
  (try simp only [World.size_setCell] at hcwZ0 hfwZ0 hzwZ0)
  (try simp only [World.size_drew] at hcwZ0 hfwZ0 hzwZ0)
  (try simp only [World.size_alloc] at hcwZ0 hfwZ0 hzwZ0)
  have qwZ00 : w.heap.size < wZ0.heap.size := by omega
  have qwZ01 : w.heap.size + 1 < wZ0.heap.size := by omega
  go_wp2_with fail
  go_ret
  exact ⟨rfl, by repeat' (first | with_reducible assumption | with_reducible exact Below.refl _ _ | (with_reducible refine Below.setCell ?_ ?_ _) | (with_reducible refine Below.alloc ?_ ?_ _) | (with_reducible refine Below.drew ?_) | (with_reducible refine below_dr ?_ _) | (with_reducible refine Below.trans ?_ (Below.mono (by with_reducible assumption) ?_)) | omega | (simp; done) | (simp; omega))⟩
set_option maxHeartbeats 3200000 in
theorem xeqPart_any (x0 : Int) (x1 : Int) (x2 : Int)  (w : World) (ht : totPart (x0, x1, x2) ≤ 4611686018427387904)   :
    Calls Try.prog 128 #[.agg #[.int .i64 x0, .int .i64 x1, .int .i64 x2], .agg #[.int .i64 x0, .int .i64 x1, .int .i64 x2]] w fun e w' => e = .returned (.bool true) ∧ Below w.heap.size w w' := by
  have d_x0 : (x0 != x0) = false := by simp
  go_enter Try.func128, Try.ntmps128
  go_wp2_with fail
  refine (xeqPt_any x1 x2  _ (show totPt (x1, x2) ≤ 4611686018427387904 from by first | exact Nat.zero_le _ | (simp only [totPt]; omega)) ).mono ?_
  rintro e wZ0 ⟨rfl, hbwZ0⟩
  obtain ⟨hcwZ0, hfwZ0⟩ := bcell hbwZ0
  have hzwZ0 := hbwZ0.size
  (try simp only [World.size_setCell] at hcwZ0 hfwZ0 hzwZ0)
  (try simp only [World.size_drew] at hcwZ0 hfwZ0 hzwZ0)
  (try simp only [World.size_alloc] at hcwZ0 hfwZ0 hzwZ0)
  have qwZ00 : w.heap.size < wZ0.heap.size := by omega
  have qwZ01 : w.heap.size + 1 < wZ0.heap.size := by omega
  go_wp2_with fail
  go_ret
  exact ⟨rfl, by repeat' (first | with_reducible assumption | with_reducible exact Below.refl _ _ | (with_reducible refine Below.setCell ?_ ?_ _) | (with_reducible refine Below.alloc ?_ ?_ _) | (with_reducible refine Below.drew ?_) | (with_reducible refine below_dr ?_ _) | (with_reducible refine Below.trans ?_ (Below.mono (by with_reducible assumption) ?_)) | omega | (simp; done) | (simp; omega))⟩
set_option maxHeartbeats 3200000 in
theorem xeqPartS_any (l : List DPart) (A A' : Option Addr) (c c' : Nat) (w : World) (ht : totRow totPart l ≤ 4611686018427387904) (r : Row RvPart 3 w w.heap.size A l) (r' : Row RvPart 3 w w.heap.size A' l) :
    Calls Try.prog 61 #[.slice A l.length c, .slice A' l.length c'] w fun e w' => e = .returned (.bool true) ∧ Below w.heap.size w w' := by
  have HTE := Lib.hid (fun (k : Nat) (d : DPart) (h : l[k]? = some d) => Nat.le_trans (totRow_at (f := totPart) h) ht)
  have hl : l.length ≤ 4611686018427387904 := Nat.le_trans (totRow_len totPart l) ht
  clear ht
  obtain ⟨n, hn⟩ : ∃ n, n = l.length := ⟨_, rfl⟩
  rw [← hn] at hl ⊢
  have HN := Lib.hid hn
  clear hn
  have e0 : ((n : Int) != (n : Int)) = false := by simp
  go_enter Try.func61, Try.ntmps61
  go_wp2_with fail
  go_loopw [5] (fun i wr => ∃ k : Nat, k ≤ n ∧ i = .int .i64 (k : Int) ∧ Below w.heap.size w wr) (fun i _ => n - (intOf i).toNat)
  case atStart => exact ⟨0, Nat.zero_le _, rfl, by repeat' (first | with_reducible assumption | with_reducible exact Below.refl _ _ | (with_reducible refine Below.setCell ?_ ?_ _) | (with_reducible refine Below.alloc ?_ ?_ _) | (with_reducible refine Below.drew ?_) | (with_reducible refine below_dr ?_ _) | (with_reducible refine Below.trans ?_ (Below.mono (by with_reducible assumption) ?_)) | omega | (simp; done) | (simp; omega))⟩
  case round =>
    obtain ⟨k, hk, rfl, hbl⟩ := hrel
    by_cases hlt : k < n
    case pos =>
      obtain ⟨⟨x0, x1, x2⟩, ha⟩ : ∃ a, l[k]? = some a := ⟨l[k]'(by have := HN.out; omega), List.getElem?_eq_getElem (by have := HN.out; omega)⟩
      obtain ⟨g, o, row, rfl, hg, hR, hcc⟩ := (Row.carry (w' := wr) r hbl (Nat.le_refl _)).elem ha
      obtain rfl := hR
      have c0 : wr.cell? ⟨g, o + k * 3, none⟩ = some (.int .i64 x0) := hcc 0 _ rfl
      have c1 : wr.cell? ⟨g, o + k * 3 + 1, none⟩ = some (.int .i64 x1) := hcc 1 _ rfl
      have c2 : wr.cell? ⟨g, o + k * 3 + 2, none⟩ = some (.int .i64 x2) := hcc 2 _ rfl
      clear hcc
      obtain ⟨g2, o2, row', rfl, hg2, hR', hcd⟩ := (Row.carry (w' := wr) r' hbl (Nat.le_refl _)).elem ha
      obtain rfl := hR'
      have d0 : wr.cell? ⟨g2, o2 + k * 3, none⟩ = some (.int .i64 x0) := hcd 0 _ rfl
      have d1 : wr.cell? ⟨g2, o2 + k * 3 + 1, none⟩ = some (.int .i64 x1) := hcd 1 _ rfl
      have d2 : wr.cell? ⟨g2, o2 + k * 3 + 2, none⟩ = some (.int .i64 x2) := hcd 2 _ rfl
      clear hcd
      have hte := HTE.out k _ ha
      clear ha r r'
      have hzr := hbl.size
      have hki : (k : Int) < (n : Int) := by omega
      have hgw : g < wr.heap.size := by omega
      have hgw2 : g2 < wr.heap.size := by omega
      go_wp2_with fail
      go_region_held3 (fun w' => w'.cell? ⟨g, o + k * 3, none⟩ = some (.int .i64 x0) ∧ w'.cell? ⟨g, o + k * 3 + 1, none⟩ = some (.int .i64 x1) ∧ w'.cell? ⟨g, o + k * 3 + 2, none⟩ = some (.int .i64 x2) ∧ w'.cell? ⟨g2, o2 + k * 3, none⟩ = some (.int .i64 x0) ∧ w'.cell? ⟨g2, o2 + k * 3 + 1, none⟩ = some (.int .i64 x1) ∧ w'.cell? ⟨g2, o2 + k * 3 + 2, none⟩ = some (.int .i64 x2) ∧ g < w'.heap.size ∧ g2 < w'.heap.size)
        (first | exact ⟨c0, c1, c2, d0, d1, d2, hgw, hgw2⟩ | assumption | fail)
        (first
          | (go_at_call 128; (with_reducible refine (xeqPart_any x0 x1 x2  _ hte ).mono ?_); rintro e wA ⟨rfl, hbA⟩; have hzA := hbA.size; (try simp only [World.size_drew] at hzA); have hS :  wA.cell? ⟨g, o + k * 3, none⟩ = some (.int .i64 x0) ∧ wA.cell? ⟨g, o + k * 3 + 1, none⟩ = some (.int .i64 x1) ∧ wA.cell? ⟨g, o + k * 3 + 2, none⟩ = some (.int .i64 x2) ∧ wA.cell? ⟨g2, o2 + k * 3, none⟩ = some (.int .i64 x0) ∧ wA.cell? ⟨g2, o2 + k * 3 + 1, none⟩ = some (.int .i64 x1) ∧ wA.cell? ⟨g2, o2 + k * 3 + 2, none⟩ = some (.int .i64 x2) ∧ g < wA.heap.size ∧ g2 < wA.heap.size := ⟨(hbA.cell (p := ⟨g, _, none⟩) (by simp only [World.size_drew]; omega)).trans c0, (hbA.cell (p := ⟨g, _, none⟩) (by simp only [World.size_drew]; omega)).trans c1, (hbA.cell (p := ⟨g, _, none⟩) (by simp only [World.size_drew]; omega)).trans c2, (hbA.cell (p := ⟨g2, _, none⟩) (by simp only [World.size_drew]; omega)).trans d0, (hbA.cell (p := ⟨g2, _, none⟩) (by simp only [World.size_drew]; omega)).trans d1, (hbA.cell (p := ⟨g2, _, none⟩) (by simp only [World.size_drew]; omega)).trans d2, by omega, by omega⟩))
      all_goals
        go_wp2_with fail
        go_roundw
        case rel => exact ⟨k + 1, by omega, by go_num, by repeat' (first | with_reducible assumption | with_reducible exact Below.refl _ _ | (with_reducible refine Below.setCell ?_ ?_ _) | (with_reducible refine Below.alloc ?_ ?_ _) | (with_reducible refine Below.drew ?_) | (with_reducible refine below_dr ?_ _) | (with_reducible refine Below.trans ?_ (Below.mono (by with_reducible assumption) ?_)) | omega | (simp; done) | (simp; omega))⟩
        case measure => simp [intOf]; omega
    case neg =>
      go_wp2_with fail
      go_ret
      exact ⟨rfl, hbl⟩
set_option maxHeartbeats 3200000 in
theorem xeqAnchor_any (x0 : ByteArray) (x1 : Int) (x2 : Int)  (w : World) (ht : totAnchor (x0, x1, x2) ≤ 4611686018427387904)   :
    Calls Try.prog 129 #[.agg #[.string x0, .int .i64 x1, .int .i64 x2], .agg #[.string x0, .int .i64 x1, .int .i64 x2]] w fun e w' => e = .returned (.bool true) ∧ Below w.heap.size w w' := by
  have e_x0 : (x0.toList == x0.toList) = true := by simp
  have d_x0 : (x0.toList != x0.toList) = false := by simp
  go_enter Try.func129, Try.ntmps129
  go_wp2_with fail
  refine (xeqPt_any x1 x2  _ (show totPt (x1, x2) ≤ 4611686018427387904 from by first | exact Nat.zero_le _ | (simp only [totPt]; omega)) ).mono ?_
  rintro e wZ0 ⟨rfl, hbwZ0⟩
  obtain ⟨hcwZ0, hfwZ0⟩ := bcell hbwZ0
  have hzwZ0 := hbwZ0.size
  (try simp only [World.size_setCell] at hcwZ0 hfwZ0 hzwZ0)
  (try simp only [World.size_drew] at hcwZ0 hfwZ0 hzwZ0)
  (try simp only [World.size_alloc] at hcwZ0 hfwZ0 hzwZ0)
  have qwZ00 : w.heap.size < wZ0.heap.size := by omega
  have qwZ01 : w.heap.size + 1 < wZ0.heap.size := by omega
  go_wp2_with fail
  go_ret
  exact ⟨rfl, by repeat' (first | with_reducible assumption | with_reducible exact Below.refl _ _ | (with_reducible refine Below.setCell ?_ ?_ _) | (with_reducible refine Below.alloc ?_ ?_ _) | (with_reducible refine Below.drew ?_) | (with_reducible refine below_dr ?_ _) | (with_reducible refine Below.trans ?_ (Below.mono (by with_reducible assumption) ?_)) | omega | (simp; done) | (simp; omega))⟩
set_option maxHeartbeats 3200000 in
theorem xeqAnchorS_any (l : List DAnchor) (A A' : Option Addr) (c c' : Nat) (w : World) (ht : totRow totAnchor l ≤ 4611686018427387904) (r : Row RvAnchor 3 w w.heap.size A l) (r' : Row RvAnchor 3 w w.heap.size A' l) :
    Calls Try.prog 62 #[.slice A l.length c, .slice A' l.length c'] w fun e w' => e = .returned (.bool true) ∧ Below w.heap.size w w' := by
  have HTE := Lib.hid (fun (k : Nat) (d : DAnchor) (h : l[k]? = some d) => Nat.le_trans (totRow_at (f := totAnchor) h) ht)
  have hl : l.length ≤ 4611686018427387904 := Nat.le_trans (totRow_len totAnchor l) ht
  clear ht
  obtain ⟨n, hn⟩ : ∃ n, n = l.length := ⟨_, rfl⟩
  rw [← hn] at hl ⊢
  have HN := Lib.hid hn
  clear hn
  have e0 : ((n : Int) != (n : Int)) = false := by simp
  go_enter Try.func62, Try.ntmps62
  go_wp2_with fail
  go_loopw [5] (fun i wr => ∃ k : Nat, k ≤ n ∧ i = .int .i64 (k : Int) ∧ Below w.heap.size w wr) (fun i _ => n - (intOf i).toNat)
  case atStart => exact ⟨0, Nat.zero_le _, rfl, by repeat' (first | with_reducible assumption | with_reducible exact Below.refl _ _ | (with_reducible refine Below.setCell ?_ ?_ _) | (with_reducible refine Below.alloc ?_ ?_ _) | (with_reducible refine Below.drew ?_) | (with_reducible refine below_dr ?_ _) | (with_reducible refine Below.trans ?_ (Below.mono (by with_reducible assumption) ?_)) | omega | (simp; done) | (simp; omega))⟩
  case round =>
    obtain ⟨k, hk, rfl, hbl⟩ := hrel
    by_cases hlt : k < n
    case pos =>
      obtain ⟨⟨x0, x1, x2⟩, ha⟩ : ∃ a, l[k]? = some a := ⟨l[k]'(by have := HN.out; omega), List.getElem?_eq_getElem (by have := HN.out; omega)⟩
      obtain ⟨g, o, row, rfl, hg, hR, hcc⟩ := (Row.carry (w' := wr) r hbl (Nat.le_refl _)).elem ha
      obtain rfl := hR
      have c0 : wr.cell? ⟨g, o + k * 3, none⟩ = some (.string x0) := hcc 0 _ rfl
      have c1 : wr.cell? ⟨g, o + k * 3 + 1, none⟩ = some (.int .i64 x1) := hcc 1 _ rfl
      have c2 : wr.cell? ⟨g, o + k * 3 + 2, none⟩ = some (.int .i64 x2) := hcc 2 _ rfl
      clear hcc
      obtain ⟨g2, o2, row', rfl, hg2, hR', hcd⟩ := (Row.carry (w' := wr) r' hbl (Nat.le_refl _)).elem ha
      obtain rfl := hR'
      have d0 : wr.cell? ⟨g2, o2 + k * 3, none⟩ = some (.string x0) := hcd 0 _ rfl
      have d1 : wr.cell? ⟨g2, o2 + k * 3 + 1, none⟩ = some (.int .i64 x1) := hcd 1 _ rfl
      have d2 : wr.cell? ⟨g2, o2 + k * 3 + 2, none⟩ = some (.int .i64 x2) := hcd 2 _ rfl
      clear hcd
      have hte := HTE.out k _ ha
      clear ha r r'
      have hzr := hbl.size
      have hki : (k : Int) < (n : Int) := by omega
      have hgw : g < wr.heap.size := by omega
      have hgw2 : g2 < wr.heap.size := by omega
      go_wp2_with fail
      go_region_held3 (fun w' => w'.cell? ⟨g, o + k * 3, none⟩ = some (.string x0) ∧ w'.cell? ⟨g, o + k * 3 + 1, none⟩ = some (.int .i64 x1) ∧ w'.cell? ⟨g, o + k * 3 + 2, none⟩ = some (.int .i64 x2) ∧ w'.cell? ⟨g2, o2 + k * 3, none⟩ = some (.string x0) ∧ w'.cell? ⟨g2, o2 + k * 3 + 1, none⟩ = some (.int .i64 x1) ∧ w'.cell? ⟨g2, o2 + k * 3 + 2, none⟩ = some (.int .i64 x2) ∧ g < w'.heap.size ∧ g2 < w'.heap.size)
        (first | exact ⟨c0, c1, c2, d0, d1, d2, hgw, hgw2⟩ | assumption | fail)
        (first
          | (go_at_call 129; (with_reducible refine (xeqAnchor_any x0 x1 x2  _ hte ).mono ?_); rintro e wA ⟨rfl, hbA⟩; have hzA := hbA.size; (try simp only [World.size_drew] at hzA); have hS :  wA.cell? ⟨g, o + k * 3, none⟩ = some (.string x0) ∧ wA.cell? ⟨g, o + k * 3 + 1, none⟩ = some (.int .i64 x1) ∧ wA.cell? ⟨g, o + k * 3 + 2, none⟩ = some (.int .i64 x2) ∧ wA.cell? ⟨g2, o2 + k * 3, none⟩ = some (.string x0) ∧ wA.cell? ⟨g2, o2 + k * 3 + 1, none⟩ = some (.int .i64 x1) ∧ wA.cell? ⟨g2, o2 + k * 3 + 2, none⟩ = some (.int .i64 x2) ∧ g < wA.heap.size ∧ g2 < wA.heap.size := ⟨(hbA.cell (p := ⟨g, _, none⟩) (by simp only [World.size_drew]; omega)).trans c0, (hbA.cell (p := ⟨g, _, none⟩) (by simp only [World.size_drew]; omega)).trans c1, (hbA.cell (p := ⟨g, _, none⟩) (by simp only [World.size_drew]; omega)).trans c2, (hbA.cell (p := ⟨g2, _, none⟩) (by simp only [World.size_drew]; omega)).trans d0, (hbA.cell (p := ⟨g2, _, none⟩) (by simp only [World.size_drew]; omega)).trans d1, (hbA.cell (p := ⟨g2, _, none⟩) (by simp only [World.size_drew]; omega)).trans d2, by omega, by omega⟩))
      all_goals
        go_wp2_with fail
        go_roundw
        case rel => exact ⟨k + 1, by omega, by go_num, by repeat' (first | with_reducible assumption | with_reducible exact Below.refl _ _ | (with_reducible refine Below.setCell ?_ ?_ _) | (with_reducible refine Below.alloc ?_ ?_ _) | (with_reducible refine Below.drew ?_) | (with_reducible refine below_dr ?_ _) | (with_reducible refine Below.trans ?_ (Below.mono (by with_reducible assumption) ?_)) | omega | (simp; done) | (simp; omega))⟩
        case measure => simp [intOf]; omega
    case neg =>
      go_wp2_with fail
      go_ret
      exact ⟨rfl, hbl⟩
set_option maxHeartbeats 3200000 in
theorem xeqGlyph_any (x0 : ByteArray) (x1 : Int) (x2 : Int) (x3A : Option Addr) (x3c : Nat) (x3l : List DLoop) (x4A : Option Addr) (x4c : Nat) (x4l : List DPart) (x5A : Option Addr) (x5c : Nat) (x5l : List DAnchor) (x6 : ByteArray) (x3A' : Option Addr) (x3c' : Nat) (x4A' : Option Addr) (x4c' : Nat) (x5A' : Option Addr) (x5c' : Nat) (w : World) (ht : totGlyph (x0, x1, x2, x3l, x4l, x5l, x6) ≤ 4611686018427387904) (r_x3 : Row RvLoop 1 w w.heap.size x3A x3l) (r_x4 : Row RvPart 3 w w.heap.size x4A x4l) (r_x5 : Row RvAnchor 3 w w.heap.size x5A x5l) (r'_x3 : Row RvLoop 1 w w.heap.size x3A' x3l) (r'_x4 : Row RvPart 3 w w.heap.size x4A' x4l) (r'_x5 : Row RvAnchor 3 w w.heap.size x5A' x5l) :
    Calls Try.prog 17 #[.agg #[.string x0, .int .i64 x1, .int .i64 x2, .slice x3A x3l.length x3c, .slice x4A x4l.length x4c, .slice x5A x5l.length x5c, .string x6], .agg #[.string x0, .int .i64 x1, .int .i64 x2, .slice x3A' x3l.length x3c', .slice x4A' x4l.length x4c', .slice x5A' x5l.length x5c', .string x6]] w fun e w' => e = .returned (.bool true) ∧ Below w.heap.size w w' := by
  have e_x0 : (x0.toList == x0.toList) = true := by simp
  have d_x0 : (x0.toList != x0.toList) = false := by simp
  have d_x1 : (x1 != x1) = false := by simp
  have d_x2 : (x2 != x2) = false := by simp
  have e_x6 : (x6.toList == x6.toList) = true := by simp
  have d_x6 : (x6.toList != x6.toList) = false := by simp
  replace ht : x0.size + totRow totLoop x3l + totRow totPart x4l + totRow totAnchor x5l + x6.size ≤ 4611686018427387904 := ht
  go_enter Try.func17, Try.ntmps17
  go_wp2_with fail
  refine (xeqOutline_any x3A x3c x3l x3A' x3c' _ (by show totRow totLoop x3l ≤ 4611686018427387904; omega) ?_ ?_).mono ?_
  · exact (Row.carry (w' := _) r_x3 (by repeat' (first | with_reducible assumption | with_reducible exact Below.refl _ _ | (with_reducible refine Below.setCell ?_ ?_ _) | (with_reducible refine Below.alloc ?_ ?_ _) | (with_reducible refine Below.drew ?_) | (with_reducible refine below_dr ?_ _) | (with_reducible refine Below.trans ?_ (Below.mono (by with_reducible assumption) ?_)) | omega | (simp; done) | (simp; omega))) (Nat.le_refl _)).more (by (try simp only [World.size_setCell]); (try simp only [World.size_drew]); (try simp only [World.size_alloc]); omega)
  · exact (Row.carry (w' := _) r'_x3 (by repeat' (first | with_reducible assumption | with_reducible exact Below.refl _ _ | (with_reducible refine Below.setCell ?_ ?_ _) | (with_reducible refine Below.alloc ?_ ?_ _) | (with_reducible refine Below.drew ?_) | (with_reducible refine below_dr ?_ _) | (with_reducible refine Below.trans ?_ (Below.mono (by with_reducible assumption) ?_)) | omega | (simp; done) | (simp; omega))) (Nat.le_refl _)).more (by (try simp only [World.size_setCell]); (try simp only [World.size_drew]); (try simp only [World.size_alloc]); omega)
  rintro e wZ0 ⟨rfl, hbwZ0⟩
  obtain ⟨hcwZ0, hfwZ0⟩ := bcell hbwZ0
  have hzwZ0 := hbwZ0.size
  (try simp only [World.size_setCell] at hcwZ0 hfwZ0 hzwZ0)
  (try simp only [World.size_drew] at hcwZ0 hfwZ0 hzwZ0)
  (try simp only [World.size_alloc] at hcwZ0 hfwZ0 hzwZ0)
  have qwZ00 : w.heap.size < wZ0.heap.size := by omega
  have qwZ01 : w.heap.size + 1 < wZ0.heap.size := by omega
  go_wp2_with fail
  refine (xeqPartS_any x4l x4A x4A' x4c x4c' _ (by omega) ?_ ?_).mono ?_
  · exact (Row.carry (w' := _) r_x4 (by repeat' (first | with_reducible assumption | with_reducible exact Below.refl _ _ | (with_reducible refine Below.setCell ?_ ?_ _) | (with_reducible refine Below.alloc ?_ ?_ _) | (with_reducible refine Below.drew ?_) | (with_reducible refine below_dr ?_ _) | (with_reducible refine Below.trans ?_ (Below.mono (by with_reducible assumption) ?_)) | omega | (simp; done) | (simp; omega))) (Nat.le_refl _)).more (by (try simp only [World.size_setCell]); (try simp only [World.size_drew]); (try simp only [World.size_alloc]); omega)
  · exact (Row.carry (w' := _) r'_x4 (by repeat' (first | with_reducible assumption | with_reducible exact Below.refl _ _ | (with_reducible refine Below.setCell ?_ ?_ _) | (with_reducible refine Below.alloc ?_ ?_ _) | (with_reducible refine Below.drew ?_) | (with_reducible refine below_dr ?_ _) | (with_reducible refine Below.trans ?_ (Below.mono (by with_reducible assumption) ?_)) | omega | (simp; done) | (simp; omega))) (Nat.le_refl _)).more (by (try simp only [World.size_setCell]); (try simp only [World.size_drew]); (try simp only [World.size_alloc]); omega)
  rintro e wZ1 ⟨rfl, hbwZ1⟩
  obtain ⟨hcwZ1, hfwZ1⟩ := bcell hbwZ1
  have hzwZ1 := hbwZ1.size
  (try simp only [World.size_setCell] at hcwZ1 hfwZ1 hzwZ1)
  (try simp only [World.size_drew] at hcwZ1 hfwZ1 hzwZ1)
  (try simp only [World.size_alloc] at hcwZ1 hfwZ1 hzwZ1)
  have qwZ10 : w.heap.size < wZ1.heap.size := by omega
  have qwZ11 : w.heap.size + 1 < wZ1.heap.size := by omega
  go_wp2_with fail
  refine (xeqAnchorS_any x5l x5A x5A' x5c x5c' _ (by omega) ?_ ?_).mono ?_
  · exact (Row.carry (w' := _) r_x5 (by repeat' (first | with_reducible assumption | with_reducible exact Below.refl _ _ | (with_reducible refine Below.setCell ?_ ?_ _) | (with_reducible refine Below.alloc ?_ ?_ _) | (with_reducible refine Below.drew ?_) | (with_reducible refine below_dr ?_ _) | (with_reducible refine Below.trans ?_ (Below.mono (by with_reducible assumption) ?_)) | omega | (simp; done) | (simp; omega))) (Nat.le_refl _)).more (by (try simp only [World.size_setCell]); (try simp only [World.size_drew]); (try simp only [World.size_alloc]); omega)
  · exact (Row.carry (w' := _) r'_x5 (by repeat' (first | with_reducible assumption | with_reducible exact Below.refl _ _ | (with_reducible refine Below.setCell ?_ ?_ _) | (with_reducible refine Below.alloc ?_ ?_ _) | (with_reducible refine Below.drew ?_) | (with_reducible refine below_dr ?_ _) | (with_reducible refine Below.trans ?_ (Below.mono (by with_reducible assumption) ?_)) | omega | (simp; done) | (simp; omega))) (Nat.le_refl _)).more (by (try simp only [World.size_setCell]); (try simp only [World.size_drew]); (try simp only [World.size_alloc]); omega)
  rintro e wZ2 ⟨rfl, hbwZ2⟩
  obtain ⟨hcwZ2, hfwZ2⟩ := bcell hbwZ2
  have hzwZ2 := hbwZ2.size
  (try simp only [World.size_setCell] at hcwZ2 hfwZ2 hzwZ2)
  (try simp only [World.size_drew] at hcwZ2 hfwZ2 hzwZ2)
  (try simp only [World.size_alloc] at hcwZ2 hfwZ2 hzwZ2)
  have qwZ20 : w.heap.size < wZ2.heap.size := by omega
  have qwZ21 : w.heap.size + 1 < wZ2.heap.size := by omega
  go_wp2_with fail
  go_ret
  exact ⟨rfl, by repeat' (first | with_reducible assumption | with_reducible exact Below.refl _ _ | (with_reducible refine Below.setCell ?_ ?_ _) | (with_reducible refine Below.alloc ?_ ?_ _) | (with_reducible refine Below.drew ?_) | (with_reducible refine below_dr ?_ _) | (with_reducible refine Below.trans ?_ (Below.mono (by with_reducible assumption) ?_)) | omega | (simp; done) | (simp; omega))⟩
set_option maxHeartbeats 3200000 in
theorem xeqGlyphS_any (l : List DGlyph) (A A' : Option Addr) (c c' : Nat) (w : World) (ht : totRow totGlyph l ≤ 4611686018427387904) (r : Row RvGlyph 7 w w.heap.size A l) (r' : Row RvGlyph 7 w w.heap.size A' l) :
    Calls Try.prog 70 #[.slice A l.length c, .slice A' l.length c'] w fun e w' => e = .returned (.bool true) ∧ Below w.heap.size w w' := by
  have HTE := Lib.hid (fun (k : Nat) (d : DGlyph) (h : l[k]? = some d) => Nat.le_trans (totRow_at (f := totGlyph) h) ht)
  have hl : l.length ≤ 4611686018427387904 := Nat.le_trans (totRow_len totGlyph l) ht
  clear ht
  obtain ⟨n, hn⟩ : ∃ n, n = l.length := ⟨_, rfl⟩
  rw [← hn] at hl ⊢
  have HN := Lib.hid hn
  clear hn
  have e0 : ((n : Int) != (n : Int)) = false := by simp
  go_enter Try.func70, Try.ntmps70
  go_wp2_with fail
  go_loopw [5] (fun i wr => ∃ k : Nat, k ≤ n ∧ i = .int .i64 (k : Int) ∧ Below w.heap.size w wr) (fun i _ => n - (intOf i).toNat)
  case atStart => exact ⟨0, Nat.zero_le _, rfl, by repeat' (first | with_reducible assumption | with_reducible exact Below.refl _ _ | (with_reducible refine Below.setCell ?_ ?_ _) | (with_reducible refine Below.alloc ?_ ?_ _) | (with_reducible refine Below.drew ?_) | (with_reducible refine below_dr ?_ _) | (with_reducible refine Below.trans ?_ (Below.mono (by with_reducible assumption) ?_)) | omega | (simp; done) | (simp; omega))⟩
  case round =>
    obtain ⟨k, hk, rfl, hbl⟩ := hrel
    by_cases hlt : k < n
    case pos =>
      obtain ⟨⟨x0, x1, x2, x3l, x4l, x5l, x6⟩, ha⟩ : ∃ a, l[k]? = some a := ⟨l[k]'(by have := HN.out; omega), List.getElem?_eq_getElem (by have := HN.out; omega)⟩
      obtain ⟨g, o, row, rfl, hg, hR, hcc⟩ := (Row.carry (w' := wr) r hbl (Nat.le_refl _)).elem ha
      obtain ⟨x3A, x3c, x4A, x4c, x5A, x5c, rfl, hr_x3, hr_x4, hr_x5⟩ := hR
      have c0 : wr.cell? ⟨g, o + k * 7, none⟩ = some (.string x0) := hcc 0 _ rfl
      have c1 : wr.cell? ⟨g, o + k * 7 + 1, none⟩ = some (.int .i64 x1) := hcc 1 _ rfl
      have c2 : wr.cell? ⟨g, o + k * 7 + 2, none⟩ = some (.int .i64 x2) := hcc 2 _ rfl
      have c3 : wr.cell? ⟨g, o + k * 7 + 3, none⟩ = some (.slice x3A x3l.length x3c) := hcc 3 _ rfl
      have c4 : wr.cell? ⟨g, o + k * 7 + 4, none⟩ = some (.slice x4A x4l.length x4c) := hcc 4 _ rfl
      have c5 : wr.cell? ⟨g, o + k * 7 + 5, none⟩ = some (.slice x5A x5l.length x5c) := hcc 5 _ rfl
      have c6 : wr.cell? ⟨g, o + k * 7 + 6, none⟩ = some (.string x6) := hcc 6 _ rfl
      clear hcc
      obtain ⟨g2, o2, row', rfl, hg2, hR', hcd⟩ := (Row.carry (w' := wr) r' hbl (Nat.le_refl _)).elem ha
      obtain ⟨x3A', x3c', x4A', x4c', x5A', x5c', rfl, hr'_x3, hr'_x4, hr'_x5⟩ := hR'
      have d0 : wr.cell? ⟨g2, o2 + k * 7, none⟩ = some (.string x0) := hcd 0 _ rfl
      have d1 : wr.cell? ⟨g2, o2 + k * 7 + 1, none⟩ = some (.int .i64 x1) := hcd 1 _ rfl
      have d2 : wr.cell? ⟨g2, o2 + k * 7 + 2, none⟩ = some (.int .i64 x2) := hcd 2 _ rfl
      have d3 : wr.cell? ⟨g2, o2 + k * 7 + 3, none⟩ = some (.slice x3A' x3l.length x3c') := hcd 3 _ rfl
      have d4 : wr.cell? ⟨g2, o2 + k * 7 + 4, none⟩ = some (.slice x4A' x4l.length x4c') := hcd 4 _ rfl
      have d5 : wr.cell? ⟨g2, o2 + k * 7 + 5, none⟩ = some (.slice x5A' x5l.length x5c') := hcd 5 _ rfl
      have d6 : wr.cell? ⟨g2, o2 + k * 7 + 6, none⟩ = some (.string x6) := hcd 6 _ rfl
      clear hcd
      have hte := HTE.out k _ ha
      clear ha r r'
      have hzr := hbl.size
      have hki : (k : Int) < (n : Int) := by omega
      have hgw : g < wr.heap.size := by omega
      have hgw2 : g2 < wr.heap.size := by omega
      replace hr_x3 := Row.more hr_x3 hzr
      replace hr_x4 := Row.more hr_x4 hzr
      replace hr_x5 := Row.more hr_x5 hzr
      replace hr'_x3 := Row.more hr'_x3 hzr
      replace hr'_x4 := Row.more hr'_x4 hzr
      replace hr'_x5 := Row.more hr'_x5 hzr
      go_wp2_with fail
      go_region_held3 (fun w' => w'.cell? ⟨g, o + k * 7, none⟩ = some (.string x0) ∧ w'.cell? ⟨g, o + k * 7 + 1, none⟩ = some (.int .i64 x1) ∧ w'.cell? ⟨g, o + k * 7 + 2, none⟩ = some (.int .i64 x2) ∧ w'.cell? ⟨g, o + k * 7 + 3, none⟩ = some (.slice x3A x3l.length x3c) ∧ w'.cell? ⟨g, o + k * 7 + 4, none⟩ = some (.slice x4A x4l.length x4c) ∧ w'.cell? ⟨g, o + k * 7 + 5, none⟩ = some (.slice x5A x5l.length x5c) ∧ w'.cell? ⟨g, o + k * 7 + 6, none⟩ = some (.string x6) ∧ w'.cell? ⟨g2, o2 + k * 7, none⟩ = some (.string x0) ∧ w'.cell? ⟨g2, o2 + k * 7 + 1, none⟩ = some (.int .i64 x1) ∧ w'.cell? ⟨g2, o2 + k * 7 + 2, none⟩ = some (.int .i64 x2) ∧ w'.cell? ⟨g2, o2 + k * 7 + 3, none⟩ = some (.slice x3A' x3l.length x3c') ∧ w'.cell? ⟨g2, o2 + k * 7 + 4, none⟩ = some (.slice x4A' x4l.length x4c') ∧ w'.cell? ⟨g2, o2 + k * 7 + 5, none⟩ = some (.slice x5A' x5l.length x5c') ∧ w'.cell? ⟨g2, o2 + k * 7 + 6, none⟩ = some (.string x6) ∧ g < w'.heap.size ∧ g2 < w'.heap.size)
        (first | exact ⟨c0, c1, c2, c3, c4, c5, c6, d0, d1, d2, d3, d4, d5, d6, hgw, hgw2⟩ | assumption | fail)
        (first
          | (go_at_call 17; (with_reducible refine (xeqGlyph_any x0 x1 x2 x3A x3c x3l x4A x4c x4l x5A x5c x5l x6 x3A' x3c' x4A' x4c' x5A' x5c' _ hte ?_ ?_ ?_ ?_ ?_ ?_).mono ?_); (focus (first | exact hr_x3 | exact hr_x3.drew)); (focus (first | exact hr_x4 | exact hr_x4.drew)); (focus (first | exact hr_x5 | exact hr_x5.drew)); (focus (first | exact hr'_x3 | exact hr'_x3.drew)); (focus (first | exact hr'_x4 | exact hr'_x4.drew)); (focus (first | exact hr'_x5 | exact hr'_x5.drew)); rintro e wA ⟨rfl, hbA⟩; have hzA := hbA.size; (try simp only [World.size_drew] at hzA); have hS :  wA.cell? ⟨g, o + k * 7, none⟩ = some (.string x0) ∧ wA.cell? ⟨g, o + k * 7 + 1, none⟩ = some (.int .i64 x1) ∧ wA.cell? ⟨g, o + k * 7 + 2, none⟩ = some (.int .i64 x2) ∧ wA.cell? ⟨g, o + k * 7 + 3, none⟩ = some (.slice x3A x3l.length x3c) ∧ wA.cell? ⟨g, o + k * 7 + 4, none⟩ = some (.slice x4A x4l.length x4c) ∧ wA.cell? ⟨g, o + k * 7 + 5, none⟩ = some (.slice x5A x5l.length x5c) ∧ wA.cell? ⟨g, o + k * 7 + 6, none⟩ = some (.string x6) ∧ wA.cell? ⟨g2, o2 + k * 7, none⟩ = some (.string x0) ∧ wA.cell? ⟨g2, o2 + k * 7 + 1, none⟩ = some (.int .i64 x1) ∧ wA.cell? ⟨g2, o2 + k * 7 + 2, none⟩ = some (.int .i64 x2) ∧ wA.cell? ⟨g2, o2 + k * 7 + 3, none⟩ = some (.slice x3A' x3l.length x3c') ∧ wA.cell? ⟨g2, o2 + k * 7 + 4, none⟩ = some (.slice x4A' x4l.length x4c') ∧ wA.cell? ⟨g2, o2 + k * 7 + 5, none⟩ = some (.slice x5A' x5l.length x5c') ∧ wA.cell? ⟨g2, o2 + k * 7 + 6, none⟩ = some (.string x6) ∧ g < wA.heap.size ∧ g2 < wA.heap.size := ⟨(hbA.cell (p := ⟨g, _, none⟩) (by simp only [World.size_drew]; omega)).trans c0, (hbA.cell (p := ⟨g, _, none⟩) (by simp only [World.size_drew]; omega)).trans c1, (hbA.cell (p := ⟨g, _, none⟩) (by simp only [World.size_drew]; omega)).trans c2, (hbA.cell (p := ⟨g, _, none⟩) (by simp only [World.size_drew]; omega)).trans c3, (hbA.cell (p := ⟨g, _, none⟩) (by simp only [World.size_drew]; omega)).trans c4, (hbA.cell (p := ⟨g, _, none⟩) (by simp only [World.size_drew]; omega)).trans c5, (hbA.cell (p := ⟨g, _, none⟩) (by simp only [World.size_drew]; omega)).trans c6, (hbA.cell (p := ⟨g2, _, none⟩) (by simp only [World.size_drew]; omega)).trans d0, (hbA.cell (p := ⟨g2, _, none⟩) (by simp only [World.size_drew]; omega)).trans d1, (hbA.cell (p := ⟨g2, _, none⟩) (by simp only [World.size_drew]; omega)).trans d2, (hbA.cell (p := ⟨g2, _, none⟩) (by simp only [World.size_drew]; omega)).trans d3, (hbA.cell (p := ⟨g2, _, none⟩) (by simp only [World.size_drew]; omega)).trans d4, (hbA.cell (p := ⟨g2, _, none⟩) (by simp only [World.size_drew]; omega)).trans d5, (hbA.cell (p := ⟨g2, _, none⟩) (by simp only [World.size_drew]; omega)).trans d6, by omega, by omega⟩))
      all_goals
        go_wp2_with fail
        go_roundw
        case rel => exact ⟨k + 1, by omega, by go_num, by repeat' (first | with_reducible assumption | with_reducible exact Below.refl _ _ | (with_reducible refine Below.setCell ?_ ?_ _) | (with_reducible refine Below.alloc ?_ ?_ _) | (with_reducible refine Below.drew ?_) | (with_reducible refine below_dr ?_ _) | (with_reducible refine Below.trans ?_ (Below.mono (by with_reducible assumption) ?_)) | omega | (simp; done) | (simp; omega))⟩
        case measure => simp [intOf]; omega
    case neg =>
      go_wp2_with fail
      go_ret
      exact ⟨rfl, hbl⟩
set_option maxHeartbeats 3200000 in
theorem xeqGlyphSet_any (x0 : Int) (x1A : Option Addr) (x1c : Nat) (x1l : List DGlyph) (x1A' : Option Addr) (x1c' : Nat) (w : World) (ht : totGlyphSet (x0, x1l) ≤ 4611686018427387904) (r_x1 : Row RvGlyph 7 w w.heap.size x1A x1l) (r'_x1 : Row RvGlyph 7 w w.heap.size x1A' x1l) :
    Calls Try.prog 24 #[.agg #[.int .i64 x0, .slice x1A x1l.length x1c], .agg #[.int .i64 x0, .slice x1A' x1l.length x1c']] w fun e w' => e = .returned (.bool true) ∧ Below w.heap.size w w' := by
  have d_x0 : (x0 != x0) = false := by simp
  replace ht : totRow totGlyph x1l ≤ 4611686018427387904 := ht
  go_enter Try.func24, Try.ntmps24
  go_wp2_with fail
  refine (xeqGlyphS_any x1l x1A x1A' x1c x1c' _ (by omega) ?_ ?_).mono ?_
  · exact (Row.carry (w' := _) r_x1 (by repeat' (first | with_reducible assumption | with_reducible exact Below.refl _ _ | (with_reducible refine Below.setCell ?_ ?_ _) | (with_reducible refine Below.alloc ?_ ?_ _) | (with_reducible refine Below.drew ?_) | (with_reducible refine below_dr ?_ _) | (with_reducible refine Below.trans ?_ (Below.mono (by with_reducible assumption) ?_)) | omega | (simp; done) | (simp; omega))) (Nat.le_refl _)).more (by (try simp only [World.size_setCell]); (try simp only [World.size_drew]); (try simp only [World.size_alloc]); omega)
  · exact (Row.carry (w' := _) r'_x1 (by repeat' (first | with_reducible assumption | with_reducible exact Below.refl _ _ | (with_reducible refine Below.setCell ?_ ?_ _) | (with_reducible refine Below.alloc ?_ ?_ _) | (with_reducible refine Below.drew ?_) | (with_reducible refine below_dr ?_ _) | (with_reducible refine Below.trans ?_ (Below.mono (by with_reducible assumption) ?_)) | omega | (simp; done) | (simp; omega))) (Nat.le_refl _)).more (by (try simp only [World.size_setCell]); (try simp only [World.size_drew]); (try simp only [World.size_alloc]); omega)
  rintro e wZ0 ⟨rfl, hbwZ0⟩
  obtain ⟨hcwZ0, hfwZ0⟩ := bcell hbwZ0
  have hzwZ0 := hbwZ0.size
  (try simp only [World.size_setCell] at hcwZ0 hfwZ0 hzwZ0)
  (try simp only [World.size_drew] at hcwZ0 hfwZ0 hzwZ0)
  (try simp only [World.size_alloc] at hcwZ0 hfwZ0 hzwZ0)
  have qwZ00 : w.heap.size < wZ0.heap.size := by omega
  have qwZ01 : w.heap.size + 1 < wZ0.heap.size := by omega
  go_wp2_with fail
  go_ret
  exact ⟨rfl, by repeat' (first | with_reducible assumption | with_reducible exact Below.refl _ _ | (with_reducible refine Below.setCell ?_ ?_ _) | (with_reducible refine Below.alloc ?_ ?_ _) | (with_reducible refine Below.drew ?_) | (with_reducible refine below_dr ?_ _) | (with_reducible refine Below.trans ?_ (Below.mono (by with_reducible assumption) ?_)) | omega | (simp; done) | (simp; omega))⟩
end Go.Proofs.Ytelefmogmloniaa
