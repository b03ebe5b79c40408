/- Walks: places on segments, directions around a point, on both sides. -/
import Derived.Test.YtjhboedaaeaomaaPe
namespace Go.Proofs.Ytjhboedaaeaomaa
open Go.RowKit

def mnI (a b : Int) : Int := if a < b then a else b
def mxI (a b : Int) : Int := if a < b then b else a
def btwB (a b c : Int) : Bool := decide (mnI a b ≤ c ∧ c ≤ mxI a b)
def boxB (ax ay bx ey px py : Int) : Bool := btwB ax bx px && btwB ay ey py
def onB (ax ay bx ey px py : Int) : Bool := decide (turnI ax ay bx ey px py = 0) && boxB ax ay bx ey px py
def onV (ax ay bx ey px py : Int) : Bool := okB ax ay && okB bx ey && okB px py && onB ax ay bx ey px py
def sgnI (n : Int) : Int := if n < 0 then -1 else if 0 < n then 1 else 0

set_option maxHeartbeats 400000 in
theorem l00Min_any (a b : Int) (w : World) : Calls Try.prog 168 #[.int .i64 a, .int .i64 b] w fun e w' => e = .returned (.int .i64 (mnI a b)) ∧ w = w' := by
  by_cases h : a < b
  · have H := Lib.hid (show a = mnI a b by unfold mnI; rw [if_pos h])
    go_enter Try.func168, Try.ntmps168
    go_wp2
    go_ret
    exact ⟨ret_i64 H.out, rfl⟩
  · have H := Lib.hid (show b = mnI a b by unfold mnI; rw [if_neg h])
    have h2 : decide (a < b) = false := by simpa using h
    clear h
    go_enter Try.func168, Try.ntmps168
    go_wp2
    go_ret
    exact ⟨ret_i64 H.out, rfl⟩
set_option maxHeartbeats 400000 in
theorem l00Max_any (a b : Int) (w : World) : Calls Try.prog 77 #[.int .i64 a, .int .i64 b] w fun e w' => e = .returned (.int .i64 (mxI a b)) ∧ w = w' := by
  by_cases h : b < a
  · have H := Lib.hid (show a = mxI a b by unfold mxI; rw [if_neg (by omega)])
    go_enter Try.func77, Try.ntmps77
    go_wp2
    go_ret
    exact ⟨ret_i64 H.out, rfl⟩
  · have H := Lib.hid (show b = mxI a b by unfold mxI; split <;> omega)
    have h2 : decide (b < a) = false := by simpa using h
    clear h
    go_enter Try.func77, Try.ntmps77
    go_wp2
    go_ret
    exact ⟨ret_i64 H.out, rfl⟩

theorem btw_yes {a b c : Int} (h1 : mnI a b ≤ c) (h2 : c ≤ mxI a b) : true = btwB a b c := by simp [btwB, *]
theorem btw_no {a b c : Int} (h : c < mnI a b ∨ mxI a b < c) : false = btwB a b c := by simp [btwB]; omega
set_option maxHeartbeats 800000 in
theorem l03Box_any (ax ay bx ey px py : Int) (w : World) :
    Calls Try.prog 142 #[.agg #[.int .i64 ax, .int .i64 ay], .agg #[.int .i64 bx, .int .i64 ey], .agg #[.int .i64 px, .int .i64 py]] w fun e w' => e = .returned (.bool (boxB ax ay bx ey px py)) ∧ Below w.heap.size w w' := by
  have M1 := Lib.hid (fun w => l00Min_any ax bx w)
  have M2 := Lib.hid (fun w => l00Max_any ax bx w)
  have M3 := Lib.hid (fun w => l00Min_any ay ey w)
  have M4 := Lib.hid (fun w => l00Max_any ay ey w)
  have HB := Lib.hid (show boxB ax ay bx ey px py = (decide (mnI ax bx ≤ px) && decide (px ≤ mxI ax bx) && (decide (mnI ay ey ≤ py) && decide (py ≤ mxI ay ey))) by simp [boxB, btwB])
  generalize mnI ax bx = m1 at M1 HB
  generalize mxI ax bx = m2 at M2 HB
  generalize mnI ay ey = m3 at M3 HB
  generalize mxI ay ey = m4 at M4 HB
  by_cases c0 : m1 ≤ px
  rotate_left
  · have d0 : decide (m1 ≤ px) = false := by simpa using c0
    have X := Lib.hid (show false = boxB ax ay bx ey px py by rw [HB.out]; simp [d0])
    clear c0
    go_enter Try.func142, Try.ntmps142
    go_wp2_with fail
    go_quiet (first | (go_at_call 168; first | (with_reducible exact Calls.quiet_of_same ((M1.out _).mono fun _ _ h => ⟨h.1, h.2.symm⟩)) | (with_reducible exact Calls.quiet_of_same ((M3.out _).mono fun _ _ h => ⟨h.1, h.2.symm⟩))) | (go_at_call 77; first | (with_reducible exact Calls.quiet_of_same ((M2.out _).mono fun _ _ h => ⟨h.1, h.2.symm⟩)) | (with_reducible exact Calls.quiet_of_same ((M4.out _).mono fun _ _ h => ⟨h.1, h.2.symm⟩))))
    go_wp2
    go_ret
    exact ⟨ret_bool X.out, by repeat' (first | assumption | exact Below.refl _ _ | (refine Below.setCell ?_ ?_ _) | (refine Below.alloc ?_ ?_ _) | (refine below_dr ?_ _) | exact Nat.le_refl _ | (simp; done) | (simp; omega))⟩
  by_cases c1 : px ≤ m2
  rotate_left
  · have d1 : decide (px ≤ m2) = false := by simpa using c1
    have X := Lib.hid (show false = boxB ax ay bx ey px py by rw [HB.out]; simp [c0, d1])
    clear c1
    go_enter Try.func142, Try.ntmps142
    go_wp2_with fail
    go_quiet (first | (go_at_call 168; first | (with_reducible exact Calls.quiet_of_same ((M1.out _).mono fun _ _ h => ⟨h.1, h.2.symm⟩)) | (with_reducible exact Calls.quiet_of_same ((M3.out _).mono fun _ _ h => ⟨h.1, h.2.symm⟩))) | (go_at_call 77; first | (with_reducible exact Calls.quiet_of_same ((M2.out _).mono fun _ _ h => ⟨h.1, h.2.symm⟩)) | (with_reducible exact Calls.quiet_of_same ((M4.out _).mono fun _ _ h => ⟨h.1, h.2.symm⟩))))
    go_wp2
    go_ret
    exact ⟨ret_bool X.out, by repeat' (first | assumption | exact Below.refl _ _ | (refine Below.setCell ?_ ?_ _) | (refine Below.alloc ?_ ?_ _) | (refine below_dr ?_ _) | exact Nat.le_refl _ | (simp; done) | (simp; omega))⟩
  by_cases c2 : m3 ≤ py
  rotate_left
  · have d2 : decide (m3 ≤ py) = false := by simpa using c2
    have X := Lib.hid (show false = boxB ax ay bx ey px py by rw [HB.out]; simp [c0, c1, d2])
    clear c2
    go_enter Try.func142, Try.ntmps142
    go_wp2_with fail
    go_quiet (first | (go_at_call 168; first | (with_reducible exact Calls.quiet_of_same ((M1.out _).mono fun _ _ h => ⟨h.1, h.2.symm⟩)) | (with_reducible exact Calls.quiet_of_same ((M3.out _).mono fun _ _ h => ⟨h.1, h.2.symm⟩))) | (go_at_call 77; first | (with_reducible exact Calls.quiet_of_same ((M2.out _).mono fun _ _ h => ⟨h.1, h.2.symm⟩)) | (with_reducible exact Calls.quiet_of_same ((M4.out _).mono fun _ _ h => ⟨h.1, h.2.symm⟩))))
    go_wp2
    go_ret
    exact ⟨ret_bool X.out, by repeat' (first | assumption | exact Below.refl _ _ | (refine Below.setCell ?_ ?_ _) | (refine Below.alloc ?_ ?_ _) | (refine below_dr ?_ _) | exact Nat.le_refl _ | (simp; done) | (simp; omega))⟩
  by_cases c3 : py ≤ m4
  rotate_left
  · have d3 : decide (py ≤ m4) = false := by simpa using c3
    have X := Lib.hid (show false = boxB ax ay bx ey px py by rw [HB.out]; simp [c0, c1, c2, d3])
    clear c3
    go_enter Try.func142, Try.ntmps142
    go_wp2_with fail
    go_quiet (first | (go_at_call 168; first | (with_reducible exact Calls.quiet_of_same ((M1.out _).mono fun _ _ h => ⟨h.1, h.2.symm⟩)) | (with_reducible exact Calls.quiet_of_same ((M3.out _).mono fun _ _ h => ⟨h.1, h.2.symm⟩))) | (go_at_call 77; first | (with_reducible exact Calls.quiet_of_same ((M2.out _).mono fun _ _ h => ⟨h.1, h.2.symm⟩)) | (with_reducible exact Calls.quiet_of_same ((M4.out _).mono fun _ _ h => ⟨h.1, h.2.symm⟩))))
    go_wp2
    go_ret
    exact ⟨ret_bool X.out, by repeat' (first | assumption | exact Below.refl _ _ | (refine Below.setCell ?_ ?_ _) | (refine Below.alloc ?_ ?_ _) | (refine below_dr ?_ _) | exact Nat.le_refl _ | (simp; done) | (simp; omega))⟩
  have X := Lib.hid (show true = boxB ax ay bx ey px py by rw [HB.out]; simp [c0, c1, c2, c3])
  go_enter Try.func142, Try.ntmps142
  go_wp2_with fail
  go_quiet (first | (go_at_call 168; first | (with_reducible exact Calls.quiet_of_same ((M1.out _).mono fun _ _ h => ⟨h.1, h.2.symm⟩)) | (with_reducible exact Calls.quiet_of_same ((M3.out _).mono fun _ _ h => ⟨h.1, h.2.symm⟩))) | (go_at_call 77; first | (with_reducible exact Calls.quiet_of_same ((M2.out _).mono fun _ _ h => ⟨h.1, h.2.symm⟩)) | (with_reducible exact Calls.quiet_of_same ((M4.out _).mono fun _ _ h => ⟨h.1, h.2.symm⟩))))
  go_wp2
  go_ret
  exact ⟨ret_bool X.out, by repeat' (first | assumption | exact Below.refl _ _ | (refine Below.setCell ?_ ?_ _) | (refine Below.alloc ?_ ?_ _) | (refine below_dr ?_ _) | exact Nat.le_refl _ | (simp; done) | (simp; omega))⟩

set_option maxHeartbeats 800000 in
theorem isBetween_any (a b c : Int) (w : World) :
    Calls Try.prog 125 #[.int .i64 a, .int .i64 b, .int .i64 c] w fun e w' => e = .returned (.bool (btwB a b c)) ∧ w = w' := by
  rcases Int.lt_trichotomy a b with h | h | h
  · have HB := Lib.hid (show btwB a b c = (decide (a ≤ c) && decide (c ≤ b)) by simp [btwB, mnI, mxI, h])
    by_cases c1 : a ≤ c
    · by_cases c2 : c ≤ b
      · have X := Lib.hid (show true = btwB a b c by rw [HB.out]; simp [c1, c2])
        go_enter Try.func125, Try.ntmps125
        go_wp2
        go_ret
        exact ⟨ret_bool X.out, rfl⟩
      · have d2 : decide (c ≤ b) = false := by simpa using c2
        have X := Lib.hid (show false = btwB a b c by rw [HB.out]; simp [d2])
        clear c2
        go_enter Try.func125, Try.ntmps125
        go_wp2
        go_ret
        exact ⟨ret_bool X.out, rfl⟩
    · have d1 : decide (a ≤ c) = false := by simpa using c1
      have X := Lib.hid (show false = btwB a b c by rw [HB.out]; simp [d1])
      clear c1
      go_enter Try.func125, Try.ntmps125
      go_wp2
      go_ret
      exact ⟨ret_bool X.out, rfl⟩
  · subst h
    have HB := Lib.hid (show btwB a a c = (decide (a ≤ c) && decide (c ≤ a)) by simp [btwB, mnI, mxI])
    by_cases c1 : a ≤ c
    · by_cases c2 : c ≤ a
      · have X := Lib.hid (show true = btwB a a c by rw [HB.out]; simp [c1, c2])
        go_enter Try.func125, Try.ntmps125
        go_wp2
        go_ret
        exact ⟨ret_bool X.out, rfl⟩
      · have d2 : decide (c ≤ a) = false := by simpa using c2
        have X := Lib.hid (show false = btwB a a c by rw [HB.out]; simp [d2])
        clear c2
        go_enter Try.func125, Try.ntmps125
        go_wp2
        go_ret
        exact ⟨ret_bool X.out, rfl⟩
    · have d1 : decide (a ≤ c) = false := by simpa using c1
      have X := Lib.hid (show false = btwB a a c by rw [HB.out]; simp [d1])
      clear c1
      go_enter Try.func125, Try.ntmps125
      go_wp2
      go_ret
      exact ⟨ret_bool X.out, rfl⟩
  · have HB := Lib.hid (show btwB a b c = (decide (b ≤ c) && decide (c ≤ a)) by simp [btwB, mnI, mxI, show ¬ a < b by omega])
    have f1 : ¬ a ≤ b := by omega
    have f2 : decide (a < b) = false := by simp; omega
    have f3 : decide (a ≤ b) = false := by simp; omega
    by_cases c1 : b ≤ c
    · by_cases c2 : c ≤ a
      · have X := Lib.hid (show true = btwB a b c by rw [HB.out]; simp [c1, c2])
        go_enter Try.func125, Try.ntmps125
        go_wp2
        go_ret
        exact ⟨ret_bool X.out, rfl⟩
      · have d2 : decide (c ≤ a) = false := by simpa using c2
        have X := Lib.hid (show false = btwB a b c by rw [HB.out]; simp [d2])
        clear c2
        go_enter Try.func125, Try.ntmps125
        go_wp2
        go_ret
        exact ⟨ret_bool X.out, rfl⟩
    · have d1 : decide (b ≤ c) = false := by simpa using c1
      have X := Lib.hid (show false = btwB a b c by rw [HB.out]; simp [d1])
      clear c1
      go_enter Try.func125, Try.ntmps125
      go_wp2
      go_ret
      exact ⟨ret_bool X.out, rfl⟩

theorem on_t0 {ax ay bx ey px py : Int} (h : turnI ax ay bx ey px py = 0) : boxB ax ay bx ey px py = onB ax ay bx ey px py := by simp [onB, h]
theorem on_t1 {ax ay bx ey px py : Int} (h : ¬ turnI ax ay bx ey px py = 0) : false = onB ax ay bx ey px py := by simp [onB, h]
set_option maxHeartbeats 1600000 in
theorem l03On_any (ax ay bx ey px py : Int) (w : World) (va : okB ax ay = true) (vb : okB bx ey = true) (vp : okB px py = true) :
    Calls Try.prog 121 #[.agg #[.int .i64 ax, .int .i64 ay], .agg #[.int .i64 bx, .int .i64 ey], .agg #[.int .i64 px, .int .i64 py]] w fun e w' => e = .returned (.bool (onB ax ay bx ey px py)) ∧ Below w.heap.size w w' := by
  have C := Lib.hid (fun w => l03Turn_any ax ay bx ey px py w va vb vp)
  have D := Lib.hid (fun w => l03Box_any ax ay bx ey px py w)
  by_cases ht : turnI ax ay bx ey px py = 0
  · have H := Lib.hid (on_t0 ht)
    rw [ht] at C
    clear ht
    go_enter Try.func121, Try.ntmps121
    go_wp2_with fail
    refine (C.out _).mono ?_
    rintro e w1 ⟨rfl, hbw1⟩
    have g1 : Below w.heap.size w w1 := (by repeat' (first | with_reducible assumption | with_reducible exact Below.refl _ _ | (with_reducible refine Below.setCell ?_ ?_ _) | (with_reducible refine Below.alloc ?_ ?_ _) | (with_reducible refine Below.drew ?_) | (with_reducible refine below_dr ?_ _) | (with_reducible refine Below.trans ?_ (Below.mono (by with_reducible assumption) ?_)) | omega | (simp; done) | (simp; omega)))
    obtain ⟨hcw1, hfw1⟩ := bcell hbw1
    have hzw1 := hbw1.size
    (try simp only [World.size_alloc] at hcw1 hfw1 hzw1)
    have s1 : w1.cell? ⟨w.heap.size, 0, none⟩ = some (.int .i64 ax) := (hcw1 _ _ (by omega)).trans (by first | assumption | (refine (cell_alloc_at _ _ ?_).trans ?_; omega; assumption) | (simp [go_sem]; done) | (simp [go_sem, *]; done))
    have s2 : w1.cell? ⟨w.heap.size, 1, none⟩ = some (.int .i64 ay) := (hcw1 _ _ (by omega)).trans (by first | assumption | (refine (cell_alloc_at _ _ ?_).trans ?_; omega; assumption) | (simp [go_sem]; done) | (simp [go_sem, *]; done))
    have s3 : w1.cell? ⟨w.heap.size + 1, 0, none⟩ = some (.int .i64 bx) := (hcw1 _ _ (by omega)).trans (by first | assumption | (refine (cell_alloc_at _ _ ?_).trans ?_; omega; assumption) | (simp [go_sem]; done) | (simp [go_sem, *]; done))
    have s4 : w1.cell? ⟨w.heap.size + 1, 1, none⟩ = some (.int .i64 ey) := (hcw1 _ _ (by omega)).trans (by first | assumption | (refine (cell_alloc_at _ _ ?_).trans ?_; omega; assumption) | (simp [go_sem]; done) | (simp [go_sem, *]; done))
    have s5 : w1.cell? ⟨w.heap.size + 1 + 1, 0, none⟩ = some (.int .i64 px) := (hcw1 _ _ (by omega)).trans (by first | assumption | (refine (cell_alloc_at _ _ ?_).trans ?_; omega; assumption) | (simp [go_sem]; done) | (simp [go_sem, *]; done))
    have s6 : w1.cell? ⟨w.heap.size + 1 + 1, 1, none⟩ = some (.int .i64 py) := (hcw1 _ _ (by omega)).trans (by first | assumption | (refine (cell_alloc_at _ _ ?_).trans ?_; omega; assumption) | (simp [go_sem]; done) | (simp [go_sem, *]; done))
    have szq0 : w.heap.size < w1.heap.size := (by omega)
    have szq1 : w.heap.size + 1 < w1.heap.size := (by omega)
    have sz : w.heap.size + 1 + 1 < w1.heap.size := (by omega)
    clear hcw1 hfw1 hzw1
    go_wp2_with fail
    refine (D.out _).mono ?_
    rintro e w2 ⟨rfl, hbw2⟩
    go_wp2
    go_ret
    exact ⟨ret_bool H.out, by repeat' (first | with_reducible assumption | with_reducible exact Below.refl _ _ | (with_reducible refine Below.setCell ?_ ?_ _) | (with_reducible refine Below.alloc ?_ ?_ _) | (with_reducible refine Below.drew ?_) | (with_reducible refine below_dr ?_ _) | (with_reducible refine Below.trans ?_ (Below.mono (by with_reducible assumption) ?_)) | omega | (simp; done) | (simp; omega))⟩
  · have H := Lib.hid (on_t1 ht)
    generalize turnI ax ay bx ey px py = t at C ht
    have e1 : (t == 0) = false := by simpa using ht
    clear ht
    go_enter Try.func121, Try.ntmps121
    go_wp2_with fail
    refine (C.out _).mono ?_
    rintro e w1 ⟨rfl, hbw1⟩
    go_wp2
    go_ret
    exact ⟨ret_bool H.out, by repeat' (first | with_reducible assumption | with_reducible exact Below.refl _ _ | (with_reducible refine Below.setCell ?_ ?_ _) | (with_reducible refine Below.alloc ?_ ?_ _) | (with_reducible refine Below.drew ?_) | (with_reducible refine below_dr ?_ _) | (with_reducible refine Below.trans ?_ (Below.mono (by with_reducible assumption) ?_)) | omega | (simp; done) | (simp; omega))⟩

theorem onV_f1 {ax ay bx ey px py : Int} (h : okB ax ay = false) : false = onV ax ay bx ey px py := by simp [onV, h]
theorem onV_f2 {ax ay bx ey px py : Int} (h : okB bx ey = false) : false = onV ax ay bx ey px py := by simp [onV, h]
theorem onV_f3 {ax ay bx ey px py : Int} (h : okB px py = false) : false = onV ax ay bx ey px py := by simp [onV, h]
theorem onV_no {ax ay bx ey px py : Int} (h : (okB ax ay && okB bx ey && okB px py) = false) : false = onV ax ay bx ey px py := by simp [onV, h]
theorem onV_is {ax ay bx ey px py : Int} (h1 : okB ax ay = true) (h2 : okB bx ey = true) (h3 : okB px py = true) : onB ax ay bx ey px py = onV ax ay bx ey px py := by simp [onV, *]
theorem on_b1 {ax ay bx ey px py : Int} (h0 : (okB ax ay && okB bx ey && okB px py) = true) (h : turnV ax ay bx ey px py = 0) (hb : btwB ax bx px = true) : btwB ay ey py = onV ax ay bx ey px py := by
  obtain ⟨h1, h2, h3⟩ := and3 h0
  have : turnI ax ay bx ey px py = 0 := by rw [turnV_is h1 h2 h3]; exact h
  simp [onV, onB, boxB, *]
theorem on_b2 {ax ay bx ey px py : Int} (hb : btwB ax bx px = false) : false = onV ax ay bx ey px py := by simp [onV, onB, boxB, hb]
theorem on_b3 {ax ay bx ey px py : Int} (h0 : (okB ax ay && okB bx ey && okB px py) = true) (h : ¬ turnV ax ay bx ey px py = 0) : false = onV ax ay bx ey px py := by
  obtain ⟨h1, h2, h3⟩ := and3 h0
  have : ¬ turnI ax ay bx ey px py = 0 := by rw [turnV_is h1 h2 h3]; exact h
  simp [onV, onB, *]
set_option maxHeartbeats 1600000 in
theorem implOn_any (ax ay bx ey px py : Int) (w : World) :
    Calls Try.prog 93 #[.agg #[.int .i64 ax, .int .i64 ay], .agg #[.int .i64 bx, .int .i64 ey], .agg #[.int .i64 px, .int .i64 py]] w fun e w' => e = .returned (.bool (onV ax ay bx ey px py)) ∧ Below w.heap.size w w' := by
  rcases hv : (okB ax ay && okB bx ey && okB px py) with _ | _
  · have HV := Lib.hid hv
    clear hv
    go_enter Try.func93, Try.ntmps93
    go_wp2_with fail
    refine (valid3 ax ay bx ey px py _ _ (by simp) (by simp [go_sem]) (by simp [go_sem]) (by simp [go_sem]) (by simp [go_sem]) (by simp [go_sem]) (by simp [go_sem])).mono ?_
    rw [HV.out]; rintro e w1 ⟨rfl, hbw1⟩
    go_wp2
    go_ret
    exact ⟨ret_bool (onV_no HV.out), by repeat' (first | with_reducible assumption | with_reducible exact Below.refl _ _ | (with_reducible refine Below.setCell ?_ ?_ _) | (with_reducible refine Below.alloc ?_ ?_ _) | (with_reducible refine Below.drew ?_) | (with_reducible refine below_dr ?_ _) | (with_reducible refine Below.trans ?_ (Below.mono (by with_reducible assumption) ?_)) | omega | (simp; done) | (simp; omega))⟩
  have HV := Lib.hid hv
  have C := Lib.hid (fun w => implTurn_any ax ay bx ey px py w)
  have E1 := Lib.hid (fun w => isBetween_any ax bx px w)
  have E2 := Lib.hid (fun w => isBetween_any ay ey py w)
  by_cases ht : turnV ax ay bx ey px py = 0
  · rw [ht] at C
    rcases hb : btwB ax bx px with _ | _
    · have H := Lib.hid (on_b2 (ay := ay) (ey := ey) (py := py) hb)
      rw [hb] at E1
      clear hv ht hb
      go_enter Try.func93, Try.ntmps93
      go_wp2_with fail
      refine (valid3 ax ay bx ey px py _ _ (by simp) (by simp [go_sem]) (by simp [go_sem]) (by simp [go_sem]) (by simp [go_sem]) (by simp [go_sem]) (by simp [go_sem])).mono ?_
      rw [HV.out]; rintro e w1 ⟨rfl, hbw1⟩
      have g1 : Below w.heap.size w w1 := (by repeat' (first | with_reducible assumption | with_reducible exact Below.refl _ _ | (with_reducible refine Below.setCell ?_ ?_ _) | (with_reducible refine Below.alloc ?_ ?_ _) | (with_reducible refine Below.drew ?_) | (with_reducible refine below_dr ?_ _) | (with_reducible refine Below.trans ?_ (Below.mono (by with_reducible assumption) ?_)) | omega | (simp; done) | (simp; omega)))
      obtain ⟨hcw1, hfw1⟩ := bcell hbw1
      have hzw1 := hbw1.size
      (try simp only [World.size_alloc] at hcw1 hfw1 hzw1)
      have s1 : w1.cell? ⟨w.heap.size, 0, none⟩ = some (.int .i64 ax) := (hcw1 _ _ (by omega)).trans (by first | assumption | (refine (cell_alloc_at _ _ ?_).trans ?_; omega; assumption) | (simp [go_sem]; done) | (simp [go_sem, *]; done))
      have s2 : w1.cell? ⟨w.heap.size, 1, none⟩ = some (.int .i64 ay) := (hcw1 _ _ (by omega)).trans (by first | assumption | (refine (cell_alloc_at _ _ ?_).trans ?_; omega; assumption) | (simp [go_sem]; done) | (simp [go_sem, *]; done))
      have s3 : w1.cell? ⟨w.heap.size + 1, 0, none⟩ = some (.int .i64 bx) := (hcw1 _ _ (by omega)).trans (by first | assumption | (refine (cell_alloc_at _ _ ?_).trans ?_; omega; assumption) | (simp [go_sem]; done) | (simp [go_sem, *]; done))
      have s4 : w1.cell? ⟨w.heap.size + 1, 1, none⟩ = some (.int .i64 ey) := (hcw1 _ _ (by omega)).trans (by first | assumption | (refine (cell_alloc_at _ _ ?_).trans ?_; omega; assumption) | (simp [go_sem]; done) | (simp [go_sem, *]; done))
      have s5 : w1.cell? ⟨w.heap.size + 1 + 1, 0, none⟩ = some (.int .i64 px) := (hcw1 _ _ (by omega)).trans (by first | assumption | (refine (cell_alloc_at _ _ ?_).trans ?_; omega; assumption) | (simp [go_sem]; done) | (simp [go_sem, *]; done))
      have s6 : w1.cell? ⟨w.heap.size + 1 + 1, 1, none⟩ = some (.int .i64 py) := (hcw1 _ _ (by omega)).trans (by first | assumption | (refine (cell_alloc_at _ _ ?_).trans ?_; omega; assumption) | (simp [go_sem]; done) | (simp [go_sem, *]; done))
      have szq0 : w.heap.size < w1.heap.size := (by omega)
      have szq1 : w.heap.size + 1 < w1.heap.size := (by omega)
      have sz : w.heap.size + 1 + 1 < w1.heap.size := (by omega)
      clear hcw1 hfw1 hzw1
      go_wp2_with fail
      refine (C.out _).mono ?_
      rintro e w2 ⟨rfl, hbw2⟩
      have g2 : Below w.heap.size w w2 := (by repeat' (first | with_reducible assumption | with_reducible exact Below.refl _ _ | (with_reducible refine Below.setCell ?_ ?_ _) | (with_reducible refine Below.alloc ?_ ?_ _) | (with_reducible refine Below.drew ?_) | (with_reducible refine below_dr ?_ _) | (with_reducible refine Below.trans ?_ (Below.mono (by with_reducible assumption) ?_)) | omega | (simp; done) | (simp; omega)))
      obtain ⟨hcw2, hfw2⟩ := bcell hbw2
      have hzw2 := hbw2.size
      (try simp only [World.size_alloc] at hcw2 hfw2 hzw2)
      have t1 : w2.cell? ⟨w.heap.size, 0, none⟩ = some (.int .i64 ax) := (hcw2 _ _ (by omega)).trans (by first | assumption | (refine (cell_alloc_at _ _ ?_).trans ?_; omega; assumption) | (simp [go_sem]; done) | (simp [go_sem, *]; done))
      have t2 : w2.cell? ⟨w.heap.size, 1, none⟩ = some (.int .i64 ay) := (hcw2 _ _ (by omega)).trans (by first | assumption | (refine (cell_alloc_at _ _ ?_).trans ?_; omega; assumption) | (simp [go_sem]; done) | (simp [go_sem, *]; done))
      have t3 : w2.cell? ⟨w.heap.size + 1, 0, none⟩ = some (.int .i64 bx) := (hcw2 _ _ (by omega)).trans (by first | assumption | (refine (cell_alloc_at _ _ ?_).trans ?_; omega; assumption) | (simp [go_sem]; done) | (simp [go_sem, *]; done))
      have t4 : w2.cell? ⟨w.heap.size + 1, 1, none⟩ = some (.int .i64 ey) := (hcw2 _ _ (by omega)).trans (by first | assumption | (refine (cell_alloc_at _ _ ?_).trans ?_; omega; assumption) | (simp [go_sem]; done) | (simp [go_sem, *]; done))
      have t5 : w2.cell? ⟨w.heap.size + 1 + 1, 0, none⟩ = some (.int .i64 px) := (hcw2 _ _ (by omega)).trans (by first | assumption | (refine (cell_alloc_at _ _ ?_).trans ?_; omega; assumption) | (simp [go_sem]; done) | (simp [go_sem, *]; done))
      have t6 : w2.cell? ⟨w.heap.size + 1 + 1, 1, none⟩ = some (.int .i64 py) := (hcw2 _ _ (by omega)).trans (by first | assumption | (refine (cell_alloc_at _ _ ?_).trans ?_; omega; assumption) | (simp [go_sem]; done) | (simp [go_sem, *]; done))
      have tzq0 : w.heap.size < w2.heap.size := (by omega)
      have tzq1 : w.heap.size + 1 < w2.heap.size := (by omega)
      have tz : w.heap.size + 1 + 1 < w2.heap.size := (by omega)
      clear hcw2 hfw2 hzw2
      go_wp2_with fail
      refine (E1.out _).mono ?_
      rintro e w3 ⟨rfl, rfl⟩
      go_wp2
      go_ret
      exact ⟨ret_bool H.out, by repeat' (first | with_reducible assumption | with_reducible exact Below.refl _ _ | (with_reducible refine Below.setCell ?_ ?_ _) | (with_reducible refine Below.alloc ?_ ?_ _) | (with_reducible refine Below.drew ?_) | (with_reducible refine below_dr ?_ _) | (with_reducible refine Below.trans ?_ (Below.mono (by with_reducible assumption) ?_)) | omega | (simp; done) | (simp; omega))⟩
    · have H := Lib.hid (on_b1 hv ht hb)
      rw [hb] at E1
      clear hv ht hb
      go_enter Try.func93, Try.ntmps93
      go_wp2_with fail
      refine (valid3 ax ay bx ey px py _ _ (by simp) (by simp [go_sem]) (by simp [go_sem]) (by simp [go_sem]) (by simp [go_sem]) (by simp [go_sem]) (by simp [go_sem])).mono ?_
      rw [HV.out]; rintro e w1 ⟨rfl, hbw1⟩
      have g1 : Below w.heap.size w w1 := (by repeat' (first | with_reducible assumption | with_reducible exact Below.refl _ _ | (with_reducible refine Below.setCell ?_ ?_ _) | (with_reducible refine Below.alloc ?_ ?_ _) | (with_reducible refine Below.drew ?_) | (with_reducible refine below_dr ?_ _) | (with_reducible refine Below.trans ?_ (Below.mono (by with_reducible assumption) ?_)) | omega | (simp; done) | (simp; omega)))
      obtain ⟨hcw1, hfw1⟩ := bcell hbw1
      have hzw1 := hbw1.size
      (try simp only [World.size_alloc] at hcw1 hfw1 hzw1)
      have s1 : w1.cell? ⟨w.heap.size, 0, none⟩ = some (.int .i64 ax) := (hcw1 _ _ (by omega)).trans (by first | assumption | (refine (cell_alloc_at _ _ ?_).trans ?_; omega; assumption) | (simp [go_sem]; done) | (simp [go_sem, *]; done))
      have s2 : w1.cell? ⟨w.heap.size, 1, none⟩ = some (.int .i64 ay) := (hcw1 _ _ (by omega)).trans (by first | assumption | (refine (cell_alloc_at _ _ ?_).trans ?_; omega; assumption) | (simp [go_sem]; done) | (simp [go_sem, *]; done))
      have s3 : w1.cell? ⟨w.heap.size + 1, 0, none⟩ = some (.int .i64 bx) := (hcw1 _ _ (by omega)).trans (by first | assumption | (refine (cell_alloc_at _ _ ?_).trans ?_; omega; assumption) | (simp [go_sem]; done) | (simp [go_sem, *]; done))
      have s4 : w1.cell? ⟨w.heap.size + 1, 1, none⟩ = some (.int .i64 ey) := (hcw1 _ _ (by omega)).trans (by first | assumption | (refine (cell_alloc_at _ _ ?_).trans ?_; omega; assumption) | (simp [go_sem]; done) | (simp [go_sem, *]; done))
      have s5 : w1.cell? ⟨w.heap.size + 1 + 1, 0, none⟩ = some (.int .i64 px) := (hcw1 _ _ (by omega)).trans (by first | assumption | (refine (cell_alloc_at _ _ ?_).trans ?_; omega; assumption) | (simp [go_sem]; done) | (simp [go_sem, *]; done))
      have s6 : w1.cell? ⟨w.heap.size + 1 + 1, 1, none⟩ = some (.int .i64 py) := (hcw1 _ _ (by omega)).trans (by first | assumption | (refine (cell_alloc_at _ _ ?_).trans ?_; omega; assumption) | (simp [go_sem]; done) | (simp [go_sem, *]; done))
      have szq0 : w.heap.size < w1.heap.size := (by omega)
      have szq1 : w.heap.size + 1 < w1.heap.size := (by omega)
      have sz : w.heap.size + 1 + 1 < w1.heap.size := (by omega)
      clear hcw1 hfw1 hzw1
      go_wp2_with fail
      refine (C.out _).mono ?_
      rintro e w2 ⟨rfl, hbw2⟩
      have g2 : Below w.heap.size w w2 := (by repeat' (first | with_reducible assumption | with_reducible exact Below.refl _ _ | (with_reducible refine Below.setCell ?_ ?_ _) | (with_reducible refine Below.alloc ?_ ?_ _) | (with_reducible refine Below.drew ?_) | (with_reducible refine below_dr ?_ _) | (with_reducible refine Below.trans ?_ (Below.mono (by with_reducible assumption) ?_)) | omega | (simp; done) | (simp; omega)))
      obtain ⟨hcw2, hfw2⟩ := bcell hbw2
      have hzw2 := hbw2.size
      (try simp only [World.size_alloc] at hcw2 hfw2 hzw2)
      have t1 : w2.cell? ⟨w.heap.size, 0, none⟩ = some (.int .i64 ax) := (hcw2 _ _ (by omega)).trans (by first | assumption | (refine (cell_alloc_at _ _ ?_).trans ?_; omega; assumption) | (simp [go_sem]; done) | (simp [go_sem, *]; done))
      have t2 : w2.cell? ⟨w.heap.size, 1, none⟩ = some (.int .i64 ay) := (hcw2 _ _ (by omega)).trans (by first | assumption | (refine (cell_alloc_at _ _ ?_).trans ?_; omega; assumption) | (simp [go_sem]; done) | (simp [go_sem, *]; done))
      have t3 : w2.cell? ⟨w.heap.size + 1, 0, none⟩ = some (.int .i64 bx) := (hcw2 _ _ (by omega)).trans (by first | assumption | (refine (cell_alloc_at _ _ ?_).trans ?_; omega; assumption) | (simp [go_sem]; done) | (simp [go_sem, *]; done))
      have t4 : w2.cell? ⟨w.heap.size + 1, 1, none⟩ = some (.int .i64 ey) := (hcw2 _ _ (by omega)).trans (by first | assumption | (refine (cell_alloc_at _ _ ?_).trans ?_; omega; assumption) | (simp [go_sem]; done) | (simp [go_sem, *]; done))
      have t5 : w2.cell? ⟨w.heap.size + 1 + 1, 0, none⟩ = some (.int .i64 px) := (hcw2 _ _ (by omega)).trans (by first | assumption | (refine (cell_alloc_at _ _ ?_).trans ?_; omega; assumption) | (simp [go_sem]; done) | (simp [go_sem, *]; done))
      have t6 : w2.cell? ⟨w.heap.size + 1 + 1, 1, none⟩ = some (.int .i64 py) := (hcw2 _ _ (by omega)).trans (by first | assumption | (refine (cell_alloc_at _ _ ?_).trans ?_; omega; assumption) | (simp [go_sem]; done) | (simp [go_sem, *]; done))
      have tzq0 : w.heap.size < w2.heap.size := (by omega)
      have tzq1 : w.heap.size + 1 < w2.heap.size := (by omega)
      have tz : w.heap.size + 1 + 1 < w2.heap.size := (by omega)
      clear hcw2 hfw2 hzw2
      go_wp2_with fail
      refine (E1.out _).mono ?_
      rintro e w3 ⟨rfl, rfl⟩
      go_wp2_with fail
      refine (E2.out _).mono ?_
      rintro e w3 ⟨rfl, rfl⟩
      go_wp2
      go_ret
      exact ⟨ret_bool H.out, by repeat' (first | with_reducible assumption | with_reducible exact Below.refl _ _ | (with_reducible refine Below.setCell ?_ ?_ _) | (with_reducible refine Below.alloc ?_ ?_ _) | (with_reducible refine Below.drew ?_) | (with_reducible refine below_dr ?_ _) | (with_reducible refine Below.trans ?_ (Below.mono (by with_reducible assumption) ?_)) | omega | (simp; done) | (simp; omega))⟩
  · have H := Lib.hid (on_b3 hv ht)
    generalize turnV ax ay bx ey px py = t at C ht
    have e1 : (t != 0) = true := by simpa using ht
    clear hv ht
    go_enter Try.func93, Try.ntmps93
    go_wp2_with fail
    refine (valid3 ax ay bx ey px py _ _ (by simp) (by simp [go_sem]) (by simp [go_sem]) (by simp [go_sem]) (by simp [go_sem]) (by simp [go_sem]) (by simp [go_sem])).mono ?_
    rw [HV.out]; rintro e w1 ⟨rfl, hbw1⟩
    have g1 : Below w.heap.size w w1 := (by repeat' (first | with_reducible assumption | with_reducible exact Below.refl _ _ | (with_reducible refine Below.setCell ?_ ?_ _) | (with_reducible refine Below.alloc ?_ ?_ _) | (with_reducible refine Below.drew ?_) | (with_reducible refine below_dr ?_ _) | (with_reducible refine Below.trans ?_ (Below.mono (by with_reducible assumption) ?_)) | omega | (simp; done) | (simp; omega)))
    obtain ⟨hcw1, hfw1⟩ := bcell hbw1
    have hzw1 := hbw1.size
    (try simp only [World.size_alloc] at hcw1 hfw1 hzw1)
    have s1 : w1.cell? ⟨w.heap.size, 0, none⟩ = some (.int .i64 ax) := (hcw1 _ _ (by omega)).trans (by first | assumption | (refine (cell_alloc_at _ _ ?_).trans ?_; omega; assumption) | (simp [go_sem]; done) | (simp [go_sem, *]; done))
    have s2 : w1.cell? ⟨w.heap.size, 1, none⟩ = some (.int .i64 ay) := (hcw1 _ _ (by omega)).trans (by first | assumption | (refine (cell_alloc_at _ _ ?_).trans ?_; omega; assumption) | (simp [go_sem]; done) | (simp [go_sem, *]; done))
    have s3 : w1.cell? ⟨w.heap.size + 1, 0, none⟩ = some (.int .i64 bx) := (hcw1 _ _ (by omega)).trans (by first | assumption | (refine (cell_alloc_at _ _ ?_).trans ?_; omega; assumption) | (simp [go_sem]; done) | (simp [go_sem, *]; done))
    have s4 : w1.cell? ⟨w.heap.size + 1, 1, none⟩ = some (.int .i64 ey) := (hcw1 _ _ (by omega)).trans (by first | assumption | (refine (cell_alloc_at _ _ ?_).trans ?_; omega; assumption) | (simp [go_sem]; done) | (simp [go_sem, *]; done))
    have s5 : w1.cell? ⟨w.heap.size + 1 + 1, 0, none⟩ = some (.int .i64 px) := (hcw1 _ _ (by omega)).trans (by first | assumption | (refine (cell_alloc_at _ _ ?_).trans ?_; omega; assumption) | (simp [go_sem]; done) | (simp [go_sem, *]; done))
    have s6 : w1.cell? ⟨w.heap.size + 1 + 1, 1, none⟩ = some (.int .i64 py) := (hcw1 _ _ (by omega)).trans (by first | assumption | (refine (cell_alloc_at _ _ ?_).trans ?_; omega; assumption) | (simp [go_sem]; done) | (simp [go_sem, *]; done))
    have szq0 : w.heap.size < w1.heap.size := (by omega)
    have szq1 : w.heap.size + 1 < w1.heap.size := (by omega)
    have sz : w.heap.size + 1 + 1 < w1.heap.size := (by omega)
    clear hcw1 hfw1 hzw1
    go_wp2_with fail
    refine (C.out _).mono ?_
    rintro e w2 ⟨rfl, hbw2⟩
    go_wp2
    go_ret
    exact ⟨ret_bool H.out, by repeat' (first | with_reducible assumption | with_reducible exact Below.refl _ _ | (with_reducible refine Below.setCell ?_ ?_ _) | (with_reducible refine Below.alloc ?_ ?_ _) | (with_reducible refine Below.drew ?_) | (with_reducible refine below_dr ?_ _) | (with_reducible refine Below.trans ?_ (Below.mono (by with_reducible assumption) ?_)) | omega | (simp; done) | (simp; omega))⟩
end Go.Proofs.Ytjhboedaaeaomaa
