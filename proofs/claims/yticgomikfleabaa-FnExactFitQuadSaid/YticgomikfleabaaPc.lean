/- Walks: turns, distances, middles and places on segments, on both sides. -/
import Derived.Test.YticgomikfleabaaPb
namespace Go.Proofs.Yticgomikfleabaa
open Go.RowKit

theorem l03Ok_t {x y : Int} (h : okB x y = true) (w : World) :
    Calls Try.prog 61 #[.agg #[.int .i64 x, .int .i64 y]] w fun e w' => e = .returned (.bool true) ∧ Below w.heap.size w w' := by
  have := l03Ok_any x y w; rwa [h] at this
theorem l03Ok_f {x y : Int} (h : okB x y = false) (w : World) :
    Calls Try.prog 61 #[.agg #[.int .i64 x, .int .i64 y]] w fun e w' => e = .returned (.bool false) ∧ Below w.heap.size w w' := by
  have := l03Ok_any x y w; rwa [h] at this

def turnV (ax ay bx ey cx cy : Int) : Int := bif okB ax ay && okB bx ey && okB cx cy then turnI ax ay bx ey cx cy else 0
theorem turnV_no {ax ay bx ey cx cy : Int} (h : (okB ax ay && okB bx ey && okB cx cy) = false) : 0 = turnV ax ay bx ey cx cy := by simp [turnV, h]
theorem turnV_yes {ax ay bx ey cx cy : Int} (h : (okB ax ay && okB bx ey && okB cx cy) = true) : (bx - ax) * (cy - ay) - (ey - ay) * (cx - ax) = turnV ax ay bx ey cx cy := by simp [turnV, h, turnI]
theorem turnV_is {ax ay bx ey cx cy : Int} (h1 : okB ax ay = true) (h2 : okB bx ey = true) (h3 : okB cx cy = true) : turnI ax ay bx ey cx cy = turnV ax ay bx ey cx cy := by simp [turnV, *]
theorem and3 {a b c : Bool} (h : (a && b && c) = true) : a = true ∧ b = true ∧ c = true := by revert h; cases a <;> cases b <;> cases c <;> simp
theorem and2 {a b : Bool} (h : (a && b) = true) : a = true ∧ b = true := by revert h; cases a <;> cases b <;> simp
set_option maxHeartbeats 1600000 in
theorem implTurn_any (ax ay bx ey cx cy : Int) (w : World) :
    Calls Try.prog 81 #[.agg #[.int .i64 ax, .int .i64 ay], .agg #[.int .i64 bx, .int .i64 ey], .agg #[.int .i64 cx, .int .i64 cy]] w fun e w' => e = .returned (.int .i64 (turnV ax ay bx ey cx cy)) ∧ Below w.heap.size w w' := by
  rcases hv : (okB ax ay && okB bx ey && okB cx cy) with _ | _
  · have HV := Lib.hid hv
    clear hv
    go_enter Try.func81, Try.ntmps81
    go_wp2_with fail
    refine (valid3 ax ay bx ey cx cy _ _ (by simp) (by simp [go_sem]) (by simp [go_sem]) (by simp [go_sem]) (by simp [go_sem]) (by simp [go_sem]) (by simp [go_sem])).mono ?_
    rw [HV.out]; rintro e w1 ⟨rfl, hbw1⟩
    go_wp2
    go_ret
    exact ⟨ret_i64 (turnV_no HV.out), by repeat' (first | with_reducible assumption | with_reducible exact Below.refl _ _ | (with_reducible refine Below.setCell ?_ ?_ _) | (with_reducible refine Below.alloc ?_ ?_ _) | (with_reducible refine Below.drew ?_) | (with_reducible refine below_dr ?_ _) | (with_reducible refine Below.trans ?_ (Below.mono (by with_reducible assumption) ?_)) | omega | (simp; done) | (simp; omega))⟩
  · have HV := Lib.hid hv
    obtain ⟨va, vb, vc⟩ := and3 hv
    obtain ⟨a1, a2, a3, a4⟩ := okB_bounds va
    obtain ⟨b1, b2, b3, b4⟩ := okB_bounds vb
    obtain ⟨c1, c2, c3, c4⟩ := okB_bounds vc
    clear hv va vb vc
    go_enter Try.func81, Try.ntmps81
    go_wp2_with fail
    refine (valid3 ax ay bx ey cx cy _ _ (by simp) (by simp [go_sem]) (by simp [go_sem]) (by simp [go_sem]) (by simp [go_sem]) (by simp [go_sem]) (by simp [go_sem])).mono ?_
    rw [HV.out]; rintro e w1 ⟨rfl, hbw1⟩
    have g1 : Below w.heap.size w w1 := (by repeat' (first | with_reducible assumption | with_reducible exact Below.refl _ _ | (with_reducible refine Below.setCell ?_ ?_ _) | (with_reducible refine Below.alloc ?_ ?_ _) | (with_reducible refine Below.drew ?_) | (with_reducible refine below_dr ?_ _) | (with_reducible refine Below.trans ?_ (Below.mono (by with_reducible assumption) ?_)) | omega | (simp; done) | (simp; omega)))
    obtain ⟨hcw1, hfw1⟩ := bcell hbw1
    have hzw1 := hbw1.size
    (try simp only [World.size_alloc] at hcw1 hfw1 hzw1)
    have s1 : w1.cell? ⟨w.heap.size, 0, none⟩ = some (.int .i64 ax) := (hcw1 _ _ (by omega)).trans (by first | assumption | (refine (cell_alloc_at _ _ ?_).trans ?_; omega; assumption) | (simp [go_sem]; done) | (simp [go_sem, *]; done))
    have s2 : w1.cell? ⟨w.heap.size, 1, none⟩ = some (.int .i64 ay) := (hcw1 _ _ (by omega)).trans (by first | assumption | (refine (cell_alloc_at _ _ ?_).trans ?_; omega; assumption) | (simp [go_sem]; done) | (simp [go_sem, *]; done))
    have s3 : w1.cell? ⟨w.heap.size + 1, 0, none⟩ = some (.int .i64 bx) := (hcw1 _ _ (by omega)).trans (by first | assumption | (refine (cell_alloc_at _ _ ?_).trans ?_; omega; assumption) | (simp [go_sem]; done) | (simp [go_sem, *]; done))
    have s4 : w1.cell? ⟨w.heap.size + 1, 1, none⟩ = some (.int .i64 ey) := (hcw1 _ _ (by omega)).trans (by first | assumption | (refine (cell_alloc_at _ _ ?_).trans ?_; omega; assumption) | (simp [go_sem]; done) | (simp [go_sem, *]; done))
    have s5 : w1.cell? ⟨w.heap.size + 1 + 1, 0, none⟩ = some (.int .i64 cx) := (hcw1 _ _ (by omega)).trans (by first | assumption | (refine (cell_alloc_at _ _ ?_).trans ?_; omega; assumption) | (simp [go_sem]; done) | (simp [go_sem, *]; done))
    have s6 : w1.cell? ⟨w.heap.size + 1 + 1, 1, none⟩ = some (.int .i64 cy) := (hcw1 _ _ (by omega)).trans (by first | assumption | (refine (cell_alloc_at _ _ ?_).trans ?_; omega; assumption) | (simp [go_sem]; done) | (simp [go_sem, *]; done))
    have szq0 : w.heap.size < w1.heap.size := (by omega)
    have szq1 : w.heap.size + 1 < w1.heap.size := (by omega)
    have sz : w.heap.size + 1 + 1 < w1.heap.size := (by omega)
    clear hcw1 hfw1 hzw1
    go_wp2_with fail
    go_region_held3 (fun w' => w'.cell? ⟨w.heap.size, 0, none⟩ = some (.int .i64 ax) ∧ w'.cell? ⟨w.heap.size, 1, none⟩ = some (.int .i64 ay) ∧ w'.cell? ⟨w.heap.size + 1, 0, none⟩ = some (.int .i64 bx) ∧ w'.cell? ⟨w.heap.size + 1, 1, none⟩ = some (.int .i64 ey) ∧ w'.cell? ⟨w.heap.size + 1 + 1, 0, none⟩ = some (.int .i64 cx) ∧ w'.cell? ⟨w.heap.size + 1 + 1, 1, none⟩ = some (.int .i64 cy) ∧ w.heap.size + 1 + 1 < w'.heap.size)
      (first | ((try dsimp only); (repeat' apply And.intro); all_goals (first | assumption | omega | (simp (disch := omega) [*]; done) | (simp; omega))) | fail)
      (first
        | (go_at_call 66; (with_reducible refine (minus_any _ _ _ _ _ (by omega) (by omega) (by omega) (by omega)).mono ?_); rintro e wA ⟨rfl, hbwA⟩; obtain ⟨hcwA, hfwA⟩ := bcell hbwA; have hzwA := hbwA.size; (try simp only [World.size_drew] at hcwA hfwA hzwA); (try simp only [World.size_alloc] at hcwA hfwA hzwA))
        | (go_at_call 106; (with_reducible refine (cross_any _ _ _ _ _ (by omega) (by omega) (by omega) (by omega)).mono ?_); rintro e wC ⟨rfl, hbwC⟩; obtain ⟨hcwC, hfwC⟩ := bcell hbwC; have hzwC := hbwC.size; (try simp only [World.size_drew] at hcwC hfwC hzwC); (try simp only [World.size_alloc] at hcwC hfwC hzwC)))
    go_wp2
    go_ret
    exact ⟨ret_i64 (turnV_yes HV.out), by repeat' (first | with_reducible assumption | with_reducible exact Below.refl _ _ | (with_reducible refine Below.setCell ?_ ?_ _) | (with_reducible refine Below.alloc ?_ ?_ _) | (with_reducible refine Below.drew ?_) | (with_reducible refine below_dr ?_ _) | (with_reducible refine Below.trans ?_ (Below.mono (by with_reducible assumption) ?_)) | omega | (simp; done) | (simp; omega))⟩

set_option maxHeartbeats 800000 in
theorem l03Turn_any (ax ay bx ey cx cy : Int) (w : World) (va : okB ax ay = true) (vb : okB bx ey = true) (vc : okB cx cy = true) :
    Calls Try.prog 104 #[.agg #[.int .i64 ax, .int .i64 ay], .agg #[.int .i64 bx, .int .i64 ey], .agg #[.int .i64 cx, .int .i64 cy]] w fun e w' => e = .returned (.int .i64 (turnI ax ay bx ey cx cy)) ∧ Below w.heap.size w w' := by
  obtain ⟨a1, a2, a3, a4⟩ := okB_bounds va
  obtain ⟨b1, b2, b3, b4⟩ := okB_bounds vb
  obtain ⟨c1, c2, c3, c4⟩ := okB_bounds vc
  clear va vb vc
  have p1 := prod_bound (a := bx - ax) (b := cy - ay) (by omega) (by omega) (by omega) (by omega)
  have p2 := prod_bound (a := ey - ay) (b := cx - ax) (by omega) (by omega) (by omega) (by omega)
  obtain ⟨p1, q1⟩ := p1
  obtain ⟨p2, q2⟩ := p2
  go_enter Try.func104, Try.ntmps104
  go_wp2
  go_ret
  exact ⟨rfl, by repeat' (first | assumption | exact Below.refl _ _ | (refine Below.setCell ?_ ?_ _) | (refine Below.alloc ?_ ?_ _) | (refine below_dr ?_ _) | exact Nat.le_refl _ | (simp; done) | (simp; omega))⟩
set_option maxHeartbeats 800000 in
theorem l03Sq_any (ax ay bx ey : Int) (w : World) (va : okB ax ay = true) (vb : okB bx ey = true) :
    Calls Try.prog 122 #[.agg #[.int .i64 ax, .int .i64 ay], .agg #[.int .i64 bx, .int .i64 ey]] w fun e w' => e = .returned (.int .i64 (sqI ax ay bx ey)) ∧ Below w.heap.size w w' := by
  obtain ⟨a1, a2, a3, a4⟩ := okB_bounds va
  obtain ⟨b1, b2, b3, b4⟩ := okB_bounds vb
  clear va vb
  have p1 := prod_bound (a := bx - ax) (b := bx - ax) (by omega) (by omega) (by omega) (by omega)
  have p2 := prod_bound (a := ey - ay) (b := ey - ay) (by omega) (by omega) (by omega) (by omega)
  obtain ⟨p1, q1⟩ := p1
  obtain ⟨p2, q2⟩ := p2
  go_enter Try.func122, Try.ntmps122
  go_wp2
  go_ret
  exact ⟨rfl, by repeat' (first | assumption | exact Below.refl _ _ | (refine Below.setCell ?_ ?_ _) | (refine Below.alloc ?_ ?_ _) | (refine below_dr ?_ _) | exact Nat.le_refl _ | (simp; done) | (simp; omega))⟩

theorem turnV_f1 {ax ay bx ey cx cy : Int} (h : okB ax ay = false) : 0 = turnV ax ay bx ey cx cy := by simp [turnV, h]
theorem turnV_f2 {ax ay bx ey cx cy : Int} (h : okB bx ey = false) : 0 = turnV ax ay bx ey cx cy := by simp [turnV, h]
theorem turnV_f3 {ax ay bx ey cx cy : Int} (h : okB cx cy = false) : 0 = turnV ax ay bx ey cx cy := by simp [turnV, h]
end Go.Proofs.Yticgomikfleabaa
