/- Walks: whether a path has a corner at a point, on both sides; the law on IsCorner: it returns true. -/
import Derived.Test.YtjhboedaaeaomaaArW
namespace Go.Proofs.Ytjhboedaaeaomaa
open Go.RowKit
set_option linter.unusedVariables false
def corI (ux uy vx vy : Int) : Bool := decide (2 * mxI (ux * vy - uy * vx) (-(ux * vy - uy * vx)) > ux * vx + uy * vy)
def corV (ax ay px py bx ey : Int) : Bool := okB ax ay && okB px py && okB bx ey && corI (px - ax) (py - ay) (bx - px) (ey - py)
theorem cor_no {ax ay px py bx ey : Int} (h : (okB ax ay && okB px py && okB bx ey) = false) : false = corV ax ay px py bx ey := by unfold corV; rw [h]; simp
theorem cor_f1 {ax ay px py bx ey : Int} (h : okB ax ay = false) : false = corV ax ay px py bx ey := by simp [corV, h]
theorem cor_f2 {ax ay px py bx ey : Int} (h : okB px py = false) : false = corV ax ay px py bx ey := by simp [corV, h]
theorem cor_f3 {ax ay px py bx ey : Int} (h : okB bx ey = false) : false = corV ax ay px py bx ey := by simp [corV, h]
theorem cor_is {ax ay px py bx ey : Int} (h1 : okB ax ay = true) (h2 : okB px py = true) (h3 : okB bx ey = true) : corI (px - ax) (py - ay) (bx - px) (ey - py) = corV ax ay px py bx ey := by simp [corV, *]
theorem run_max2 {P : Program} (w : World) (ts : Array TypeId) (t : TypeId) (x y : Int) :
    (Builtin.max_ ts t #[.int .i64 x, .int .i64 y]).run P w = .ok (.int .i64 (mxI x y)) w := by
  have e : ∀ a b : Int, (if b > a then b else a) = mxI a b := by intro a b; rfl
  simp [Builtin.max_, Builtin.max2, e]
theorem mx_neg {c : Int} (h : -549755813888 ≤ c ∧ c ≤ 549755813888) : 0 ≤ mxI c (-c) ∧ mxI c (-c) ≤ 549755813888 := by unfold mxI; split <;> omega
set_option maxHeartbeats 800000 in
theorem l11Dot_any (a b c d : Int) (w : World) (h1 : -524288 ≤ a ∧ a ≤ 524288) (h2 : -524288 ≤ b ∧ b ≤ 524288) (h3 : -524288 ≤ c ∧ c ≤ 524288) (h4 : -524288 ≤ d ∧ d ≤ 524288) :
    Calls Try.prog 78 #[.agg #[.int .i64 a, .int .i64 b], .agg #[.int .i64 c, .int .i64 d]] w fun e w' => e = .returned (.int .i64 (a * c + b * d)) ∧ Below w.heap.size w w' := by
  have p1 := prod_bound h1.1 h1.2 h3.1 h3.2
  have p2 := prod_bound h2.1 h2.2 h4.1 h4.2
  clear h1 h2 h3 h4
  obtain ⟨p1, q1⟩ := p1
  obtain ⟨p2, q2⟩ := p2
  go_enter Try.func78, Try.ntmps78
  go_wp2
  go_ret
  exact ⟨rfl, by repeat' (first | assumption | exact Below.refl _ _ | (refine Below.setCell ?_ ?_ _) | (refine Below.alloc ?_ ?_ _) | (refine below_dr ?_ _) | exact Nat.le_refl _ | (simp; done) | (simp; omega))⟩
set_option maxHeartbeats 3200000 in
theorem l16Corner_any (ax ay px py bx ey : Int) (w : World) (va : okB ax ay = true) (vp : okB px py = true) (vb : okB bx ey = true) :
    Calls Try.prog 40 #[.agg #[.int .i64 ax, .int .i64 ay], .agg #[.int .i64 px, .int .i64 py], .agg #[.int .i64 bx, .int .i64 ey]] w fun e w' => e = .returned (.bool (corI (px - ax) (py - ay) (bx - px) (ey - py))) ∧ Below w.heap.size w w' := by
  obtain ⟨a1, a2, a3, a4⟩ := okB_bounds va
  obtain ⟨b1, b2, b3, b4⟩ := okB_bounds vb
  obtain ⟨c1, c2, c3, c4⟩ := okB_bounds vp
  clear va vb vp
  obtain ⟨ux, hux⟩ : ∃ ux, ux = px - ax := ⟨_, rfl⟩
  obtain ⟨uy, huy⟩ : ∃ uy, uy = py - ay := ⟨_, rfl⟩
  obtain ⟨vx, hvx⟩ : ∃ vx, vx = bx - px := ⟨_, rfl⟩
  obtain ⟨vy, hvy⟩ : ∃ vy, vy = ey - py := ⟨_, rfl⟩
  have w1 : IntKind.i64.wrap (px - ax) = ux := by rw [← hux]; exact IntWalk.i64_in _ (by omega)
  have w2 : IntKind.i64.wrap (py - ay) = uy := by rw [← huy]; exact IntWalk.i64_in _ (by omega)
  have w3 : IntKind.i64.wrap (bx - px) = vx := by rw [← hvx]; exact IntWalk.i64_in _ (by omega)
  have w4 : IntKind.i64.wrap (ey - py) = vy := by rw [← hvy]; exact IntWalk.i64_in _ (by omega)
  rw [← hux, ← huy, ← hvx, ← hvy]
  have k1 : -524288 ≤ ux ∧ ux ≤ 524288 := by omega
  have k2 : -524288 ≤ uy ∧ uy ≤ 524288 := by omega
  have k3 : -524288 ≤ vx ∧ vx ≤ 524288 := by omega
  have k4 : -524288 ≤ vy ∧ vy ≤ 524288 := by omega
  clear hux huy hvx hvy a1 a2 a3 a4 b1 b2 b3 b4 c1 c2 c3 c4
  have DT := Lib.hid (fun w => l11Dot_any ux uy vx vy w k1 k2 k3 k4)
  obtain ⟨p1, q1⟩ := prod_bound k1.1 k1.2 k4.1 k4.2
  obtain ⟨p2, q2⟩ := prod_bound k2.1 k2.2 k3.1 k3.2
  obtain ⟨p3, q3⟩ := prod_bound k1.1 k1.2 k3.1 k3.2
  obtain ⟨p4, q4⟩ := prod_bound k2.1 k2.2 k4.1 k4.2
  unfold corI
  obtain ⟨m1, m2⟩ := mx_neg (c := ux * vy - uy * vx) (by omega)
  clear k1 k2 k3 k4
  have n1 : IntKind.i64.wrap (ux * vy) = ux * vy := IntWalk.i64_in _ (by omega)
  have n2 : IntKind.i64.wrap (uy * vx) = uy * vx := IntWalk.i64_in _ (by omega)
  have n3 : IntKind.i64.wrap (ux * vy - uy * vx) = ux * vy - uy * vx := IntWalk.i64_in _ (by omega)
  generalize hcr : ux * vy - uy * vx = cr at *
  have n4 : IntKind.i64.wrap (-cr) = -cr := IntWalk.i64_in _ (by omega)
  have n5 : IntKind.i64.wrap (2 * mxI cr (-cr)) = 2 * mxI cr (-cr) := IntWalk.i64_in _ (by omega)
  have MX := Lib.hid (fun w => l00Max_any cr (-cr) w)
  generalize mxI cr (-cr) = mx at *
  generalize ux * vx + uy * vy = dt at *
  go_enter Try.func40, Try.ntmps40
  go_wp2_with fail
  generalize hW : ((((w.alloc (.cells #[.int .i64 ax, .int .i64 ay] 25)).alloc (.cells #[.int .i64 px, .int .i64 py] 25)).alloc (.cells #[.int .i64 bx, .int .i64 ey] 25)).alloc (.cells #[.int .i64 ux, .int .i64 uy] 25)).alloc (.cells #[.int .i64 vx, .int .i64 vy] 25) = W0
  have g0 : Below w.heap.size w W0 := by rw [← hW]; repeat' (first | with_reducible assumption | with_reducible exact Below.refl _ _ | (with_reducible refine Below.setCell ?_ ?_ _) | (with_reducible refine Below.alloc ?_ ?_ _) | (with_reducible refine Below.drew ?_) | (with_reducible refine below_dr ?_ _) | (with_reducible refine Below.trans ?_ (Below.mono (by with_reducible assumption) ?_)) | omega | (simp; done) | (simp; omega))
  have s1 : W0.cell? ⟨w.heap.size + 1 + 1 + 1, 0, none⟩ = some (.int .i64 ux) := by rw [← hW]; simp [go_sem]
  have s2 : W0.cell? ⟨w.heap.size + 1 + 1 + 1, 1, none⟩ = some (.int .i64 uy) := by rw [← hW]; simp [go_sem]
  have s3 : W0.cell? ⟨w.heap.size + 1 + 1 + 1 + 1, 0, none⟩ = some (.int .i64 vx) := by rw [← hW]; simp [go_sem]
  have s4 : W0.cell? ⟨w.heap.size + 1 + 1 + 1 + 1, 1, none⟩ = some (.int .i64 vy) := by rw [← hW]; simp [go_sem]
  have sz : w.heap.size + 1 + 1 + 1 + 1 < W0.heap.size := by rw [← hW]; simp
  clear hW
  go_region_held3 (fun w' => w'.cell? ⟨w.heap.size + 1 + 1 + 1, 0, none⟩ = some (.int .i64 ux) ∧ w'.cell? ⟨w.heap.size + 1 + 1 + 1, 1, none⟩ = some (.int .i64 uy) ∧ w'.cell? ⟨w.heap.size + 1 + 1 + 1 + 1, 0, none⟩ = some (.int .i64 vx) ∧ w'.cell? ⟨w.heap.size + 1 + 1 + 1 + 1, 1, none⟩ = some (.int .i64 vy) ∧ w.heap.size + 1 + 1 + 1 + 1 < w'.heap.size)
    (first | ((try dsimp only); (repeat' apply And.intro); all_goals (first | assumption | omega | (simp (disch := omega) [*]; done) | (simp; omega))) | fail)
    (first
      | (go_at_call 77; (with_reducible refine (MX.out _).mono ?_); rintro e wA ⟨rfl, rfl⟩)
      | (go_at_call 78; (with_reducible refine (DT.out _).mono ?_); rintro e wB ⟨rfl, hbwB⟩; obtain ⟨hcwB, hfwB⟩ := bcell hbwB; have hzwB := hbwB.size; (try simp only [World.size_drew] at hcwB hfwB hzwB); (try simp only [World.size_alloc] at hcwB hfwB hzwB)))
  all_goals
    go_wp2
    go_ret
    exact ⟨rfl, by repeat' (first | with_reducible assumption | with_reducible exact Below.refl _ _ | (with_reducible refine Below.setCell ?_ ?_ _) | (with_reducible refine Below.alloc ?_ ?_ _) | (with_reducible refine Below.drew ?_) | (with_reducible refine below_dr ?_ _) | (with_reducible refine Below.trans ?_ (Below.mono (by with_reducible assumption) ?_)) | omega | (simp; done) | (simp; omega))⟩
set_option maxHeartbeats 3200000 in
theorem specCorner_any (ax ay px py bx ey : Int) (w : World) :
    Calls Try.prog 12 #[.agg #[.int .i64 ax, .int .i64 ay], .agg #[.int .i64 px, .int .i64 py], .agg #[.int .i64 bx, .int .i64 ey]] w fun e w' => e = .returned (.bool (corV ax ay px py bx ey)) ∧ Below w.heap.size w w' := by
  rcases (Bool.eq_false_or_eq_true (okB ax ay)).symm with h1 | h1
  · have H1 := Lib.hid h1
    clear h1
    go_enter Try.func12, Try.ntmps12
    go_wp2_with (first | (go_at_call 39; (with_reducible refine (l03Ok_f H1.out _).mono ?_); rintro e wq0 ⟨rfl, hbwq0⟩; have gq0 : Below w.heap.size w wq0 := (by repeat' (first | with_reducible assumption | with_reducible exact Below.refl _ _ | (with_reducible refine Below.setCell ?_ ?_ _) | (with_reducible refine Below.alloc ?_ ?_ _) | (with_reducible refine Below.drew ?_) | (with_reducible refine below_dr ?_ _) | (with_reducible refine Below.trans ?_ (Below.mono (by with_reducible assumption) ?_)) | omega | (simp; done) | (simp; omega))); obtain ⟨hcwq0, hfwq0⟩ := bcell hbwq0; have hzwq0 := hbwq0.size; (try simp only [World.size_alloc] at hcwq0 hfwq0 hzwq0); have sq01 : wq0.cell? ⟨w.heap.size, 0, none⟩ = some (.int .i64 ax) := (hcwq0 _ _ (by omega)).trans (by first | assumption | (refine (cell_alloc_at _ _ ?_).trans ?_; omega; assumption) | (simp [go_sem]; done) | (simp [go_sem, *]; done)); have sq02 : wq0.cell? ⟨w.heap.size, 1, none⟩ = some (.int .i64 ay) := (hcwq0 _ _ (by omega)).trans (by first | assumption | (refine (cell_alloc_at _ _ ?_).trans ?_; omega; assumption) | (simp [go_sem]; done) | (simp [go_sem, *]; done)); have sq03 : wq0.cell? ⟨w.heap.size + 1, 0, none⟩ = some (.int .i64 px) := (hcwq0 _ _ (by omega)).trans (by first | assumption | (refine (cell_alloc_at _ _ ?_).trans ?_; omega; assumption) | (simp [go_sem]; done) | (simp [go_sem, *]; done)); have sq04 : wq0.cell? ⟨w.heap.size + 1, 1, none⟩ = some (.int .i64 py) := (hcwq0 _ _ (by omega)).trans (by first | assumption | (refine (cell_alloc_at _ _ ?_).trans ?_; omega; assumption) | (simp [go_sem]; done) | (simp [go_sem, *]; done)); have sq05 : wq0.cell? ⟨w.heap.size + 1 + 1, 0, none⟩ = some (.int .i64 bx) := (hcwq0 _ _ (by omega)).trans (by first | assumption | (refine (cell_alloc_at _ _ ?_).trans ?_; omega; assumption) | (simp [go_sem]; done) | (simp [go_sem, *]; done)); have sq06 : wq0.cell? ⟨w.heap.size + 1 + 1, 1, none⟩ = some (.int .i64 ey) := (hcwq0 _ _ (by omega)).trans (by first | assumption | (refine (cell_alloc_at _ _ ?_).trans ?_; omega; assumption) | (simp [go_sem]; done) | (simp [go_sem, *]; done)); have sq0zq0 : w.heap.size < wq0.heap.size := (by omega); have sq0zq1 : w.heap.size + 1 < wq0.heap.size := (by omega); have sq0z : w.heap.size + 1 + 1 < wq0.heap.size := (by omega); clear hcwq0 hfwq0 hzwq0))
    go_ret
    exact ⟨ret_bool (cor_f1 H1.out), by repeat' (first | with_reducible assumption | with_reducible exact Below.refl _ _ | (with_reducible refine Below.setCell ?_ ?_ _) | (with_reducible refine Below.alloc ?_ ?_ _) | (with_reducible refine Below.drew ?_) | (with_reducible refine below_dr ?_ _) | (with_reducible refine Below.trans ?_ (Below.mono (by with_reducible assumption) ?_)) | omega | (simp; done) | (simp; omega))⟩
  have H1 := Lib.hid h1
  clear h1
  rcases (Bool.eq_false_or_eq_true (okB px py)).symm with h2 | h2
  · have H2 := Lib.hid h2
    clear h2
    go_enter Try.func12, Try.ntmps12
    go_wp2_with (first | (go_at_call 39; (with_reducible refine (l03Ok_t H1.out _).mono ?_); rintro e wq0 ⟨rfl, hbwq0⟩; have gq0 : Below w.heap.size w wq0 := (by repeat' (first | with_reducible assumption | with_reducible exact Below.refl _ _ | (with_reducible refine Below.setCell ?_ ?_ _) | (with_reducible refine Below.alloc ?_ ?_ _) | (with_reducible refine Below.drew ?_) | (with_reducible refine below_dr ?_ _) | (with_reducible refine Below.trans ?_ (Below.mono (by with_reducible assumption) ?_)) | omega | (simp; done) | (simp; omega))); obtain ⟨hcwq0, hfwq0⟩ := bcell hbwq0; have hzwq0 := hbwq0.size; (try simp only [World.size_alloc] at hcwq0 hfwq0 hzwq0); have sq01 : wq0.cell? ⟨w.heap.size, 0, none⟩ = some (.int .i64 ax) := (hcwq0 _ _ (by omega)).trans (by first | assumption | (refine (cell_alloc_at _ _ ?_).trans ?_; omega; assumption) | (simp [go_sem]; done) | (simp [go_sem, *]; done)); have sq02 : wq0.cell? ⟨w.heap.size, 1, none⟩ = some (.int .i64 ay) := (hcwq0 _ _ (by omega)).trans (by first | assumption | (refine (cell_alloc_at _ _ ?_).trans ?_; omega; assumption) | (simp [go_sem]; done) | (simp [go_sem, *]; done)); have sq03 : wq0.cell? ⟨w.heap.size + 1, 0, none⟩ = some (.int .i64 px) := (hcwq0 _ _ (by omega)).trans (by first | assumption | (refine (cell_alloc_at _ _ ?_).trans ?_; omega; assumption) | (simp [go_sem]; done) | (simp [go_sem, *]; done)); have sq04 : wq0.cell? ⟨w.heap.size + 1, 1, none⟩ = some (.int .i64 py) := (hcwq0 _ _ (by omega)).trans (by first | assumption | (refine (cell_alloc_at _ _ ?_).trans ?_; omega; assumption) | (simp [go_sem]; done) | (simp [go_sem, *]; done)); have sq05 : wq0.cell? ⟨w.heap.size + 1 + 1, 0, none⟩ = some (.int .i64 bx) := (hcwq0 _ _ (by omega)).trans (by first | assumption | (refine (cell_alloc_at _ _ ?_).trans ?_; omega; assumption) | (simp [go_sem]; done) | (simp [go_sem, *]; done)); have sq06 : wq0.cell? ⟨w.heap.size + 1 + 1, 1, none⟩ = some (.int .i64 ey) := (hcwq0 _ _ (by omega)).trans (by first | assumption | (refine (cell_alloc_at _ _ ?_).trans ?_; omega; assumption) | (simp [go_sem]; done) | (simp [go_sem, *]; done)); have sq0zq0 : w.heap.size < wq0.heap.size := (by omega); have sq0zq1 : w.heap.size + 1 < wq0.heap.size := (by omega); have sq0z : w.heap.size + 1 + 1 < wq0.heap.size := (by omega); clear hcwq0 hfwq0 hzwq0) | (go_at_call 39; (with_reducible refine (l03Ok_f H2.out _).mono ?_); rintro e wq1 ⟨rfl, hbwq1⟩; have gq1 : Below w.heap.size w wq1 := (by repeat' (first | with_reducible assumption | with_reducible exact Below.refl _ _ | (with_reducible refine Below.setCell ?_ ?_ _) | (with_reducible refine Below.alloc ?_ ?_ _) | (with_reducible refine Below.drew ?_) | (with_reducible refine below_dr ?_ _) | (with_reducible refine Below.trans ?_ (Below.mono (by with_reducible assumption) ?_)) | omega | (simp; done) | (simp; omega))); obtain ⟨hcwq1, hfwq1⟩ := bcell hbwq1; have hzwq1 := hbwq1.size; (try simp only [World.size_alloc] at hcwq1 hfwq1 hzwq1); have sq11 : wq1.cell? ⟨w.heap.size, 0, none⟩ = some (.int .i64 ax) := (hcwq1 _ _ (by omega)).trans (by first | assumption | (refine (cell_alloc_at _ _ ?_).trans ?_; omega; assumption) | (simp [go_sem]; done) | (simp [go_sem, *]; done)); have sq12 : wq1.cell? ⟨w.heap.size, 1, none⟩ = some (.int .i64 ay) := (hcwq1 _ _ (by omega)).trans (by first | assumption | (refine (cell_alloc_at _ _ ?_).trans ?_; omega; assumption) | (simp [go_sem]; done) | (simp [go_sem, *]; done)); have sq13 : wq1.cell? ⟨w.heap.size + 1, 0, none⟩ = some (.int .i64 px) := (hcwq1 _ _ (by omega)).trans (by first | assumption | (refine (cell_alloc_at _ _ ?_).trans ?_; omega; assumption) | (simp [go_sem]; done) | (simp [go_sem, *]; done)); have sq14 : wq1.cell? ⟨w.heap.size + 1, 1, none⟩ = some (.int .i64 py) := (hcwq1 _ _ (by omega)).trans (by first | assumption | (refine (cell_alloc_at _ _ ?_).trans ?_; omega; assumption) | (simp [go_sem]; done) | (simp [go_sem, *]; done)); have sq15 : wq1.cell? ⟨w.heap.size + 1 + 1, 0, none⟩ = some (.int .i64 bx) := (hcwq1 _ _ (by omega)).trans (by first | assumption | (refine (cell_alloc_at _ _ ?_).trans ?_; omega; assumption) | (simp [go_sem]; done) | (simp [go_sem, *]; done)); have sq16 : wq1.cell? ⟨w.heap.size + 1 + 1, 1, none⟩ = some (.int .i64 ey) := (hcwq1 _ _ (by omega)).trans (by first | assumption | (refine (cell_alloc_at _ _ ?_).trans ?_; omega; assumption) | (simp [go_sem]; done) | (simp [go_sem, *]; done)); have sq1zq0 : w.heap.size < wq1.heap.size := (by omega); have sq1zq1 : w.heap.size + 1 < wq1.heap.size := (by omega); have sq1z : w.heap.size + 1 + 1 < wq1.heap.size := (by omega); clear hcwq1 hfwq1 hzwq1))
    go_ret
    exact ⟨ret_bool (cor_f2 H2.out), by repeat' (first | with_reducible assumption | with_reducible exact Below.refl _ _ | (with_reducible refine Below.setCell ?_ ?_ _) | (with_reducible refine Below.alloc ?_ ?_ _) | (with_reducible refine Below.drew ?_) | (with_reducible refine below_dr ?_ _) | (with_reducible refine Below.trans ?_ (Below.mono (by with_reducible assumption) ?_)) | omega | (simp; done) | (simp; omega))⟩
  have H2 := Lib.hid h2
  clear h2
  rcases (Bool.eq_false_or_eq_true (okB bx ey)).symm with h3 | h3
  · have H3 := Lib.hid h3
    clear h3
    go_enter Try.func12, Try.ntmps12
    go_wp2_with (first | (go_at_call 39; (with_reducible refine (l03Ok_t H1.out _).mono ?_); rintro e wq0 ⟨rfl, hbwq0⟩; have gq0 : Below w.heap.size w wq0 := (by repeat' (first | with_reducible assumption | with_reducible exact Below.refl _ _ | (with_reducible refine Below.setCell ?_ ?_ _) | (with_reducible refine Below.alloc ?_ ?_ _) | (with_reducible refine Below.drew ?_) | (with_reducible refine below_dr ?_ _) | (with_reducible refine Below.trans ?_ (Below.mono (by with_reducible assumption) ?_)) | omega | (simp; done) | (simp; omega))); obtain ⟨hcwq0, hfwq0⟩ := bcell hbwq0; have hzwq0 := hbwq0.size; (try simp only [World.size_alloc] at hcwq0 hfwq0 hzwq0); have sq01 : wq0.cell? ⟨w.heap.size, 0, none⟩ = some (.int .i64 ax) := (hcwq0 _ _ (by omega)).trans (by first | assumption | (refine (cell_alloc_at _ _ ?_).trans ?_; omega; assumption) | (simp [go_sem]; done) | (simp [go_sem, *]; done)); have sq02 : wq0.cell? ⟨w.heap.size, 1, none⟩ = some (.int .i64 ay) := (hcwq0 _ _ (by omega)).trans (by first | assumption | (refine (cell_alloc_at _ _ ?_).trans ?_; omega; assumption) | (simp [go_sem]; done) | (simp [go_sem, *]; done)); have sq03 : wq0.cell? ⟨w.heap.size + 1, 0, none⟩ = some (.int .i64 px) := (hcwq0 _ _ (by omega)).trans (by first | assumption | (refine (cell_alloc_at _ _ ?_).trans ?_; omega; assumption) | (simp [go_sem]; done) | (simp [go_sem, *]; done)); have sq04 : wq0.cell? ⟨w.heap.size + 1, 1, none⟩ = some (.int .i64 py) := (hcwq0 _ _ (by omega)).trans (by first | assumption | (refine (cell_alloc_at _ _ ?_).trans ?_; omega; assumption) | (simp [go_sem]; done) | (simp [go_sem, *]; done)); have sq05 : wq0.cell? ⟨w.heap.size + 1 + 1, 0, none⟩ = some (.int .i64 bx) := (hcwq0 _ _ (by omega)).trans (by first | assumption | (refine (cell_alloc_at _ _ ?_).trans ?_; omega; assumption) | (simp [go_sem]; done) | (simp [go_sem, *]; done)); have sq06 : wq0.cell? ⟨w.heap.size + 1 + 1, 1, none⟩ = some (.int .i64 ey) := (hcwq0 _ _ (by omega)).trans (by first | assumption | (refine (cell_alloc_at _ _ ?_).trans ?_; omega; assumption) | (simp [go_sem]; done) | (simp [go_sem, *]; done)); have sq0zq0 : w.heap.size < wq0.heap.size := (by omega); have sq0zq1 : w.heap.size + 1 < wq0.heap.size := (by omega); have sq0z : w.heap.size + 1 + 1 < wq0.heap.size := (by omega); clear hcwq0 hfwq0 hzwq0) | (go_at_call 39; (with_reducible refine (l03Ok_t H2.out _).mono ?_); rintro e wq1 ⟨rfl, hbwq1⟩; have gq1 : Below w.heap.size w wq1 := (by repeat' (first | with_reducible assumption | with_reducible exact Below.refl _ _ | (with_reducible refine Below.setCell ?_ ?_ _) | (with_reducible refine Below.alloc ?_ ?_ _) | (with_reducible refine Below.drew ?_) | (with_reducible refine below_dr ?_ _) | (with_reducible refine Below.trans ?_ (Below.mono (by with_reducible assumption) ?_)) | omega | (simp; done) | (simp; omega))); obtain ⟨hcwq1, hfwq1⟩ := bcell hbwq1; have hzwq1 := hbwq1.size; (try simp only [World.size_alloc] at hcwq1 hfwq1 hzwq1); have sq11 : wq1.cell? ⟨w.heap.size, 0, none⟩ = some (.int .i64 ax) := (hcwq1 _ _ (by omega)).trans (by first | assumption | (refine (cell_alloc_at _ _ ?_).trans ?_; omega; assumption) | (simp [go_sem]; done) | (simp [go_sem, *]; done)); have sq12 : wq1.cell? ⟨w.heap.size, 1, none⟩ = some (.int .i64 ay) := (hcwq1 _ _ (by omega)).trans (by first | assumption | (refine (cell_alloc_at _ _ ?_).trans ?_; omega; assumption) | (simp [go_sem]; done) | (simp [go_sem, *]; done)); have sq13 : wq1.cell? ⟨w.heap.size + 1, 0, none⟩ = some (.int .i64 px) := (hcwq1 _ _ (by omega)).trans (by first | assumption | (refine (cell_alloc_at _ _ ?_).trans ?_; omega; assumption) | (simp [go_sem]; done) | (simp [go_sem, *]; done)); have sq14 : wq1.cell? ⟨w.heap.size + 1, 1, none⟩ = some (.int .i64 py) := (hcwq1 _ _ (by omega)).trans (by first | assumption | (refine (cell_alloc_at _ _ ?_).trans ?_; omega; assumption) | (simp [go_sem]; done) | (simp [go_sem, *]; done)); have sq15 : wq1.cell? ⟨w.heap.size + 1 + 1, 0, none⟩ = some (.int .i64 bx) := (hcwq1 _ _ (by omega)).trans (by first | assumption | (refine (cell_alloc_at _ _ ?_).trans ?_; omega; assumption) | (simp [go_sem]; done) | (simp [go_sem, *]; done)); have sq16 : wq1.cell? ⟨w.heap.size + 1 + 1, 1, none⟩ = some (.int .i64 ey) := (hcwq1 _ _ (by omega)).trans (by first | assumption | (refine (cell_alloc_at _ _ ?_).trans ?_; omega; assumption) | (simp [go_sem]; done) | (simp [go_sem, *]; done)); have sq1zq0 : w.heap.size < wq1.heap.size := (by omega); have sq1zq1 : w.heap.size + 1 < wq1.heap.size := (by omega); have sq1z : w.heap.size + 1 + 1 < wq1.heap.size := (by omega); clear hcwq1 hfwq1 hzwq1) | (go_at_call 39; (with_reducible refine (l03Ok_f H3.out _).mono ?_); rintro e wq2 ⟨rfl, hbwq2⟩; have gq2 : Below w.heap.size w wq2 := (by repeat' (first | with_reducible assumption | with_reducible exact Below.refl _ _ | (with_reducible refine Below.setCell ?_ ?_ _) | (with_reducible refine Below.alloc ?_ ?_ _) | (with_reducible refine Below.drew ?_) | (with_reducible refine below_dr ?_ _) | (with_reducible refine Below.trans ?_ (Below.mono (by with_reducible assumption) ?_)) | omega | (simp; done) | (simp; omega))); obtain ⟨hcwq2, hfwq2⟩ := bcell hbwq2; have hzwq2 := hbwq2.size; (try simp only [World.size_alloc] at hcwq2 hfwq2 hzwq2); have sq21 : wq2.cell? ⟨w.heap.size, 0, none⟩ = some (.int .i64 ax) := (hcwq2 _ _ (by omega)).trans (by first | assumption | (refine (cell_alloc_at _ _ ?_).trans ?_; omega; assumption) | (simp [go_sem]; done) | (simp [go_sem, *]; done)); have sq22 : wq2.cell? ⟨w.heap.size, 1, none⟩ = some (.int .i64 ay) := (hcwq2 _ _ (by omega)).trans (by first | assumption | (refine (cell_alloc_at _ _ ?_).trans ?_; omega; assumption) | (simp [go_sem]; done) | (simp [go_sem, *]; done)); have sq23 : wq2.cell? ⟨w.heap.size + 1, 0, none⟩ = some (.int .i64 px) := (hcwq2 _ _ (by omega)).trans (by first | assumption | (refine (cell_alloc_at _ _ ?_).trans ?_; omega; assumption) | (simp [go_sem]; done) | (simp [go_sem, *]; done)); have sq24 : wq2.cell? ⟨w.heap.size + 1, 1, none⟩ = some (.int .i64 py) := (hcwq2 _ _ (by omega)).trans (by first | assumption | (refine (cell_alloc_at _ _ ?_).trans ?_; omega; assumption) | (simp [go_sem]; done) | (simp [go_sem, *]; done)); have sq25 : wq2.cell? ⟨w.heap.size + 1 + 1, 0, none⟩ = some (.int .i64 bx) := (hcwq2 _ _ (by omega)).trans (by first | assumption | (refine (cell_alloc_at _ _ ?_).trans ?_; omega; assumption) | (simp [go_sem]; done) | (simp [go_sem, *]; done)); have sq26 : wq2.cell? ⟨w.heap.size + 1 + 1, 1, none⟩ = some (.int .i64 ey) := (hcwq2 _ _ (by omega)).trans (by first | assumption | (refine (cell_alloc_at _ _ ?_).trans ?_; omega; assumption) | (simp [go_sem]; done) | (simp [go_sem, *]; done)); have sq2zq0 : w.heap.size < wq2.heap.size := (by omega); have sq2zq1 : w.heap.size + 1 < wq2.heap.size := (by omega); have sq2z : w.heap.size + 1 + 1 < wq2.heap.size := (by omega); clear hcwq2 hfwq2 hzwq2))
    go_ret
    exact ⟨ret_bool (cor_f3 H3.out), by repeat' (first | with_reducible assumption | with_reducible exact Below.refl _ _ | (with_reducible refine Below.setCell ?_ ?_ _) | (with_reducible refine Below.alloc ?_ ?_ _) | (with_reducible refine Below.drew ?_) | (with_reducible refine below_dr ?_ _) | (with_reducible refine Below.trans ?_ (Below.mono (by with_reducible assumption) ?_)) | omega | (simp; done) | (simp; omega))⟩
  have H3 := Lib.hid h3
  clear h3
  have X := Lib.hid (cor_is H1.out H2.out H3.out)
  have N := Lib.hid (fun w => l16Corner_any ax ay px py bx ey w H1.out H2.out H3.out)
  rw [X.out] at N
  go_enter Try.func12, Try.ntmps12
  go_wp2_with (first | (go_at_call 39; (with_reducible refine (l03Ok_t H1.out _).mono ?_); rintro e wq0 ⟨rfl, hbwq0⟩; have gq0 : Below w.heap.size w wq0 := (by repeat' (first | with_reducible assumption | with_reducible exact Below.refl _ _ | (with_reducible refine Below.setCell ?_ ?_ _) | (with_reducible refine Below.alloc ?_ ?_ _) | (with_reducible refine Below.drew ?_) | (with_reducible refine below_dr ?_ _) | (with_reducible refine Below.trans ?_ (Below.mono (by with_reducible assumption) ?_)) | omega | (simp; done) | (simp; omega))); obtain ⟨hcwq0, hfwq0⟩ := bcell hbwq0; have hzwq0 := hbwq0.size; (try simp only [World.size_alloc] at hcwq0 hfwq0 hzwq0); have sq01 : wq0.cell? ⟨w.heap.size, 0, none⟩ = some (.int .i64 ax) := (hcwq0 _ _ (by omega)).trans (by first | assumption | (refine (cell_alloc_at _ _ ?_).trans ?_; omega; assumption) | (simp [go_sem]; done) | (simp [go_sem, *]; done)); have sq02 : wq0.cell? ⟨w.heap.size, 1, none⟩ = some (.int .i64 ay) := (hcwq0 _ _ (by omega)).trans (by first | assumption | (refine (cell_alloc_at _ _ ?_).trans ?_; omega; assumption) | (simp [go_sem]; done) | (simp [go_sem, *]; done)); have sq03 : wq0.cell? ⟨w.heap.size + 1, 0, none⟩ = some (.int .i64 px) := (hcwq0 _ _ (by omega)).trans (by first | assumption | (refine (cell_alloc_at _ _ ?_).trans ?_; omega; assumption) | (simp [go_sem]; done) | (simp [go_sem, *]; done)); have sq04 : wq0.cell? ⟨w.heap.size + 1, 1, none⟩ = some (.int .i64 py) := (hcwq0 _ _ (by omega)).trans (by first | assumption | (refine (cell_alloc_at _ _ ?_).trans ?_; omega; assumption) | (simp [go_sem]; done) | (simp [go_sem, *]; done)); have sq05 : wq0.cell? ⟨w.heap.size + 1 + 1, 0, none⟩ = some (.int .i64 bx) := (hcwq0 _ _ (by omega)).trans (by first | assumption | (refine (cell_alloc_at _ _ ?_).trans ?_; omega; assumption) | (simp [go_sem]; done) | (simp [go_sem, *]; done)); have sq06 : wq0.cell? ⟨w.heap.size + 1 + 1, 1, none⟩ = some (.int .i64 ey) := (hcwq0 _ _ (by omega)).trans (by first | assumption | (refine (cell_alloc_at _ _ ?_).trans ?_; omega; assumption) | (simp [go_sem]; done) | (simp [go_sem, *]; done)); have sq0zq0 : w.heap.size < wq0.heap.size := (by omega); have sq0zq1 : w.heap.size + 1 < wq0.heap.size := (by omega); have sq0z : w.heap.size + 1 + 1 < wq0.heap.size := (by omega); clear hcwq0 hfwq0 hzwq0) | (go_at_call 39; (with_reducible refine (l03Ok_t H2.out _).mono ?_); rintro e wq1 ⟨rfl, hbwq1⟩; have gq1 : Below w.heap.size w wq1 := (by repeat' (first | with_reducible assumption | with_reducible exact Below.refl _ _ | (with_reducible refine Below.setCell ?_ ?_ _) | (with_reducible refine Below.alloc ?_ ?_ _) | (with_reducible refine Below.drew ?_) | (with_reducible refine below_dr ?_ _) | (with_reducible refine Below.trans ?_ (Below.mono (by with_reducible assumption) ?_)) | omega | (simp; done) | (simp; omega))); obtain ⟨hcwq1, hfwq1⟩ := bcell hbwq1; have hzwq1 := hbwq1.size; (try simp only [World.size_alloc] at hcwq1 hfwq1 hzwq1); have sq11 : wq1.cell? ⟨w.heap.size, 0, none⟩ = some (.int .i64 ax) := (hcwq1 _ _ (by omega)).trans (by first | assumption | (refine (cell_alloc_at _ _ ?_).trans ?_; omega; assumption) | (simp [go_sem]; done) | (simp [go_sem, *]; done)); have sq12 : wq1.cell? ⟨w.heap.size, 1, none⟩ = some (.int .i64 ay) := (hcwq1 _ _ (by omega)).trans (by first | assumption | (refine (cell_alloc_at _ _ ?_).trans ?_; omega; assumption) | (simp [go_sem]; done) | (simp [go_sem, *]; done)); have sq13 : wq1.cell? ⟨w.heap.size + 1, 0, none⟩ = some (.int .i64 px) := (hcwq1 _ _ (by omega)).trans (by first | assumption | (refine (cell_alloc_at _ _ ?_).trans ?_; omega; assumption) | (simp [go_sem]; done) | (simp [go_sem, *]; done)); have sq14 : wq1.cell? ⟨w.heap.size + 1, 1, none⟩ = some (.int .i64 py) := (hcwq1 _ _ (by omega)).trans (by first | assumption | (refine (cell_alloc_at _ _ ?_).trans ?_; omega; assumption) | (simp [go_sem]; done) | (simp [go_sem, *]; done)); have sq15 : wq1.cell? ⟨w.heap.size + 1 + 1, 0, none⟩ = some (.int .i64 bx) := (hcwq1 _ _ (by omega)).trans (by first | assumption | (refine (cell_alloc_at _ _ ?_).trans ?_; omega; assumption) | (simp [go_sem]; done) | (simp [go_sem, *]; done)); have sq16 : wq1.cell? ⟨w.heap.size + 1 + 1, 1, none⟩ = some (.int .i64 ey) := (hcwq1 _ _ (by omega)).trans (by first | assumption | (refine (cell_alloc_at _ _ ?_).trans ?_; omega; assumption) | (simp [go_sem]; done) | (simp [go_sem, *]; done)); have sq1zq0 : w.heap.size < wq1.heap.size := (by omega); have sq1zq1 : w.heap.size + 1 < wq1.heap.size := (by omega); have sq1z : w.heap.size + 1 + 1 < wq1.heap.size := (by omega); clear hcwq1 hfwq1 hzwq1) | (go_at_call 39; (with_reducible refine (l03Ok_t H3.out _).mono ?_); rintro e wq2 ⟨rfl, hbwq2⟩; have gq2 : Below w.heap.size w wq2 := (by repeat' (first | with_reducible assumption | with_reducible exact Below.refl _ _ | (with_reducible refine Below.setCell ?_ ?_ _) | (with_reducible refine Below.alloc ?_ ?_ _) | (with_reducible refine Below.drew ?_) | (with_reducible refine below_dr ?_ _) | (with_reducible refine Below.trans ?_ (Below.mono (by with_reducible assumption) ?_)) | omega | (simp; done) | (simp; omega))); obtain ⟨hcwq2, hfwq2⟩ := bcell hbwq2; have hzwq2 := hbwq2.size; (try simp only [World.size_alloc] at hcwq2 hfwq2 hzwq2); have sq21 : wq2.cell? ⟨w.heap.size, 0, none⟩ = some (.int .i64 ax) := (hcwq2 _ _ (by omega)).trans (by first | assumption | (refine (cell_alloc_at _ _ ?_).trans ?_; omega; assumption) | (simp [go_sem]; done) | (simp [go_sem, *]; done)); have sq22 : wq2.cell? ⟨w.heap.size, 1, none⟩ = some (.int .i64 ay) := (hcwq2 _ _ (by omega)).trans (by first | assumption | (refine (cell_alloc_at _ _ ?_).trans ?_; omega; assumption) | (simp [go_sem]; done) | (simp [go_sem, *]; done)); have sq23 : wq2.cell? ⟨w.heap.size + 1, 0, none⟩ = some (.int .i64 px) := (hcwq2 _ _ (by omega)).trans (by first | assumption | (refine (cell_alloc_at _ _ ?_).trans ?_; omega; assumption) | (simp [go_sem]; done) | (simp [go_sem, *]; done)); have sq24 : wq2.cell? ⟨w.heap.size + 1, 1, none⟩ = some (.int .i64 py) := (hcwq2 _ _ (by omega)).trans (by first | assumption | (refine (cell_alloc_at _ _ ?_).trans ?_; omega; assumption) | (simp [go_sem]; done) | (simp [go_sem, *]; done)); have sq25 : wq2.cell? ⟨w.heap.size + 1 + 1, 0, none⟩ = some (.int .i64 bx) := (hcwq2 _ _ (by omega)).trans (by first | assumption | (refine (cell_alloc_at _ _ ?_).trans ?_; omega; assumption) | (simp [go_sem]; done) | (simp [go_sem, *]; done)); have sq26 : wq2.cell? ⟨w.heap.size + 1 + 1, 1, none⟩ = some (.int .i64 ey) := (hcwq2 _ _ (by omega)).trans (by first | assumption | (refine (cell_alloc_at _ _ ?_).trans ?_; omega; assumption) | (simp [go_sem]; done) | (simp [go_sem, *]; done)); have sq2zq0 : w.heap.size < wq2.heap.size := (by omega); have sq2zq1 : w.heap.size + 1 < wq2.heap.size := (by omega); have sq2z : w.heap.size + 1 + 1 < wq2.heap.size := (by omega); clear hcwq2 hfwq2 hzwq2))
  refine (N.out _).mono ?_
  rintro e wz ⟨rfl, hbz⟩
  go_wp2
  go_ret
  exact ⟨rfl, by repeat' (first | with_reducible assumption | with_reducible exact Below.refl _ _ | (with_reducible refine Below.setCell ?_ ?_ _) | (with_reducible refine Below.alloc ?_ ?_ _) | (with_reducible refine Below.drew ?_) | (with_reducible refine below_dr ?_ _) | (with_reducible refine Below.trans ?_ (Below.mono (by with_reducible assumption) ?_)) | omega | (simp; done) | (simp; omega))⟩
set_option maxHeartbeats 12800000 in
theorem implCorner_any (ax ay px py bx ey : Int) (w : World) :
    Calls Try.prog 14 #[.agg #[.int .i64 ax, .int .i64 ay], .agg #[.int .i64 px, .int .i64 py], .agg #[.int .i64 bx, .int .i64 ey]] w fun e w' => e = .returned (.bool (corV ax ay px py bx ey)) ∧ Below w.heap.size w w' := by
  rcases hv : (okB ax ay && okB px py && okB bx ey) with _ | _
  · have HV := Lib.hid hv
    clear hv
    go_enter Try.func14, Try.ntmps14
    go_wp2_with fail
    refine (valid3 ax ay px py bx ey _ _ (by simp) (by simp [go_sem]) (by simp [go_sem]) (by simp [go_sem]) (by simp [go_sem]) (by simp [go_sem]) (by simp [go_sem])).mono ?_
    rw [HV.out]; rintro e w1 ⟨rfl, hbw1⟩
    go_wp2
    go_ret
    exact ⟨ret_bool (cor_no HV.out), by repeat' (first | with_reducible assumption | with_reducible exact Below.refl _ _ | (with_reducible refine Below.setCell ?_ ?_ _) | (with_reducible refine Below.alloc ?_ ?_ _) | (with_reducible refine Below.drew ?_) | (with_reducible refine below_dr ?_ _) | (with_reducible refine Below.trans ?_ (Below.mono (by with_reducible assumption) ?_)) | omega | (simp; done) | (simp; omega))⟩
  have HV := Lib.hid hv
  obtain ⟨va, vp, vb⟩ := and3 hv
  clear hv
  have X := Lib.hid (cor_is va vp vb)
  obtain ⟨a1, a2, a3, a4⟩ := okB_bounds va
  obtain ⟨b1, b2, b3, b4⟩ := okB_bounds vb
  obtain ⟨c1, c2, c3, c4⟩ := okB_bounds vp
  have M1 := Lib.hid (fun w => minus_x px py ax ay w (by omega) (by omega) (by omega) (by omega))
  have M2 := Lib.hid (fun w => minus_x bx ey px py w (by omega) (by omega) (by omega) (by omega))
  rw [← X.out]
  clear va vb vp X
  obtain ⟨ux, hux⟩ : ∃ ux, ux = px - ax := ⟨_, rfl⟩
  obtain ⟨uy, huy⟩ : ∃ uy, uy = py - ay := ⟨_, rfl⟩
  obtain ⟨vx, hvx⟩ : ∃ vx, vx = bx - px := ⟨_, rfl⟩
  obtain ⟨vy, hvy⟩ : ∃ vy, vy = ey - py := ⟨_, rfl⟩
  rw [← hux, ← huy, ← hvx, ← hvy]
  rw [← hux, ← huy] at M1
  rw [← hvx, ← hvy] at M2
  have k1 : -524288 ≤ ux ∧ ux ≤ 524288 := by omega
  have k2 : -524288 ≤ uy ∧ uy ≤ 524288 := by omega
  have k3 : -524288 ≤ vx ∧ vx ≤ 524288 := by omega
  have k4 : -524288 ≤ vy ∧ vy ≤ 524288 := by omega
  clear hux huy hvx hvy a1 a2 a3 a4 b1 b2 b3 b4 c1 c2 c3 c4
  have CR := Lib.hid (fun w => cross_any ux uy vx vy w k1 k2 k3 k4)
  have DT := Lib.hid (fun w => dot_any ux uy vx vy w k1 k2 k3 k4)
  obtain ⟨p1, q1⟩ := prod_bound k1.1 k1.2 k4.1 k4.2
  obtain ⟨p2, q2⟩ := prod_bound k2.1 k2.2 k3.1 k3.2
  unfold corI
  obtain ⟨m1, m2⟩ := mx_neg (c := ux * vy - uy * vx) (by omega)
  have cb : -549755813888 ≤ ux * vy - uy * vx ∧ ux * vy - uy * vx ≤ 549755813888 := by omega
  clear k1 k2 k3 k4 p1 q1 p2 q2
  generalize ux * vy - uy * vx = cr at *
  have n4 : IntKind.i64.wrap (-cr) = -cr := IntWalk.i64_in _ (by omega)
  have n5 : IntKind.i64.wrap (2 * mxI cr (-cr)) = 2 * mxI cr (-cr) := IntWalk.i64_in _ (by omega)
  have mx2 := fun w ts t x y => @run_max2 Try.prog w ts t x y
  generalize ux * vx + uy * vy = dt at *
  go_enter Try.func14, Try.ntmps14
  go_wp2_with fail
  refine (valid3 ax ay px py bx ey _ _ (by simp) (by simp [go_sem]) (by simp [go_sem]) (by simp [go_sem]) (by simp [go_sem]) (by simp [go_sem]) (by simp [go_sem])).mono ?_
  rw [HV.out]; rintro e W0 ⟨rfl, hbW0⟩
  have g0 : Below w.heap.size w W0 := (by repeat' (first | with_reducible assumption | with_reducible exact Below.refl _ _ | (with_reducible refine Below.setCell ?_ ?_ _) | (with_reducible refine Below.alloc ?_ ?_ _) | (with_reducible refine Below.drew ?_) | (with_reducible refine below_dr ?_ _) | (with_reducible refine Below.trans ?_ (Below.mono (by with_reducible assumption) ?_)) | omega | (simp; done) | (simp; omega)))
  obtain ⟨hcW0, hfW0⟩ := bcell hbW0
  have hzW0 := hbW0.size
  (try simp only [World.size_alloc] at hcW0 hfW0 hzW0)
  have s1 : W0.cell? ⟨w.heap.size, 0, none⟩ = some (.int .i64 ax) := (hcW0 _ _ (by omega)).trans (by first | assumption | (refine (cell_alloc_at _ _ ?_).trans ?_; omega; assumption) | (simp [go_sem]; done) | (simp [go_sem, *]; done))
  have s2 : W0.cell? ⟨w.heap.size, 1, none⟩ = some (.int .i64 ay) := (hcW0 _ _ (by omega)).trans (by first | assumption | (refine (cell_alloc_at _ _ ?_).trans ?_; omega; assumption) | (simp [go_sem]; done) | (simp [go_sem, *]; done))
  have s3 : W0.cell? ⟨w.heap.size + 1, 0, none⟩ = some (.int .i64 px) := (hcW0 _ _ (by omega)).trans (by first | assumption | (refine (cell_alloc_at _ _ ?_).trans ?_; omega; assumption) | (simp [go_sem]; done) | (simp [go_sem, *]; done))
  have s4 : W0.cell? ⟨w.heap.size + 1, 1, none⟩ = some (.int .i64 py) := (hcW0 _ _ (by omega)).trans (by first | assumption | (refine (cell_alloc_at _ _ ?_).trans ?_; omega; assumption) | (simp [go_sem]; done) | (simp [go_sem, *]; done))
  have s5 : W0.cell? ⟨w.heap.size + 1 + 1, 0, none⟩ = some (.int .i64 bx) := (hcW0 _ _ (by omega)).trans (by first | assumption | (refine (cell_alloc_at _ _ ?_).trans ?_; omega; assumption) | (simp [go_sem]; done) | (simp [go_sem, *]; done))
  have s6 : W0.cell? ⟨w.heap.size + 1 + 1, 1, none⟩ = some (.int .i64 ey) := (hcW0 _ _ (by omega)).trans (by first | assumption | (refine (cell_alloc_at _ _ ?_).trans ?_; omega; assumption) | (simp [go_sem]; done) | (simp [go_sem, *]; done))
  have szq0 : w.heap.size < W0.heap.size := (by omega)
  have szq1 : w.heap.size + 1 < W0.heap.size := (by omega)
  have sz : w.heap.size + 1 + 1 < W0.heap.size := (by omega)
  clear hcW0 hfW0 hzW0
  clear hbW0
  have zz0 : w.heap.size < W0.heap.size := by omega
  have zz1 : w.heap.size + 1 < W0.heap.size := by omega
  go_upto_region 3 with fail
  go_cut [7, 8] (fun sA sB wx => LeftP [.int .i64 ux, .int .i64 uy] sA wx ∧ LeftP [.int .i64 vx, .int .i64 vy] sB wx ∧ Below w.heap.size w wx)
  case first =>
    clear CR DT mx2
    go_wp2_with fail
    go_region_held3 (fun w' => (∀ b o, b < W0.heap.size → w'.cell? ⟨b, o, none⟩ = W0.cell? ⟨b, o, none⟩) ∧ W0.heap.size ≤ w'.heap.size)
      (first | ((try dsimp only); exact ⟨fun b o h => (by (repeat (first | with_reducible exact rfl | (with_reducible refine (cell_drew_at _ _).trans ?_) | (with_reducible refine (cell_alloc_at _ _ (by first | omega | (simp; done) | (simp; omega))).trans ?_)))), (by first | omega | (simp; done) | (simp; omega))⟩) | fail)
      (first
        | (go_at_call 42; (with_reducible refine (M1.out _).mono ?_); rintro e wA ⟨rfl, rfl⟩)
        | (go_at_call 42; (with_reducible refine (M2.out _).mono ?_); rintro e wB ⟨rfl, rfl⟩))
    all_goals
      go_wp2_with fail
      go_meet
    all_goals exact ⟨⟨_, rfl, by repeat' (first | ((with_reducible refine AtL.newAt ?_); (first | rfl | (simp; done))) | with_reducible assumption | with_reducible exact AtL.new _ _ _ | (with_reducible refine AtL.drew ?_) | (with_reducible apply AtL.store2) | (with_reducible refine AtL.alloc ?_ _) | (with_reducible refine AtL.far ?_ ?_ _ _) | (with_reducible refine AtL.below ?_ (by with_reducible assumption)) | omega | (simp; done) | (simp; omega))⟩, ⟨_, rfl, by repeat' (first | ((with_reducible refine AtL.newAt ?_); (first | rfl | (simp; done))) | with_reducible assumption | with_reducible exact AtL.new _ _ _ | (with_reducible refine AtL.drew ?_) | (with_reducible apply AtL.store2) | (with_reducible refine AtL.alloc ?_ _) | (with_reducible refine AtL.far ?_ ?_ _ _) | (with_reducible refine AtL.below ?_ (by with_reducible assumption)) | omega | (simp; done) | (simp; omega))⟩, by repeat' (first | with_reducible assumption | with_reducible exact Below.refl _ _ | (with_reducible refine Below.setCell ?_ ?_ _) | (with_reducible refine Below.alloc ?_ ?_ _) | (with_reducible refine Below.drew ?_) | (with_reducible refine below_dr ?_ _) | (with_reducible refine Below.trans ?_ (Below.mono (by with_reducible assumption) ?_)) | omega | (simp; done) | (simp; omega))⟩
  case rest =>
    clear M1 M2 s1 s2 s3 s4 s5 s6 sz zz0 zz1 g0
    obtain ⟨⟨g1, rfl, at1⟩, ⟨g2, rfl, at2⟩, bel⟩ := hcut
    obtain ⟨W1, rfl⟩ : ∃ W : World, W = wc := ⟨_, rfl⟩
    have k1 := at1.cell 0 rfl
    have k2 := at1.cell 1 rfl
    have k3 := at2.cell 0 rfl
    have k4 := at2.cell 1 rfl
    have z1 := at1.lt
    have z2 := at2.lt
    have zb := bel.size
    go_wp2_with fail
    go_region_held3 (fun w' => w'.cell? ⟨g1, 0, none⟩ = some (.int .i64 ux) ∧ w'.cell? ⟨g1, 1, none⟩ = some (.int .i64 uy) ∧ w'.cell? ⟨g2, 0, none⟩ = some (.int .i64 vx) ∧ w'.cell? ⟨g2, 1, none⟩ = some (.int .i64 vy) ∧ g1 < w'.heap.size ∧ g2 < w'.heap.size)
      (first | ((try dsimp only); (repeat' apply And.intro); all_goals (first | assumption | omega | (simp (disch := omega) [*]; done) | (simp; omega))) | fail)
      (first
        | (go_at_call 43; (with_reducible refine (CR.out _).mono ?_); rintro e wA ⟨rfl, hbwA⟩; obtain ⟨hcwA, hfwA⟩ := bcell hbwA; have hzwA := hbwA.size; (try simp only [World.size_drew] at hcwA hfwA hzwA); (try simp only [World.size_alloc] at hcwA hfwA hzwA))
        | (go_at_call 44; (with_reducible refine (DT.out _).mono ?_); rintro e wB ⟨rfl, hbwB⟩; obtain ⟨hcwB, hfwB⟩ := bcell hbwB; have hzwB := hbwB.size; (try simp only [World.size_drew] at hcwB hfwB hzwB); (try simp only [World.size_alloc] at hcwB hfwB hzwB)))
    all_goals
      go_wp2
      go_ret
      exact ⟨rfl, by repeat' (first | with_reducible assumption | with_reducible exact Below.refl _ _ | (with_reducible refine Below.setCell ?_ ?_ _) | (with_reducible refine Below.alloc ?_ ?_ _) | (with_reducible refine Below.drew ?_) | (with_reducible refine below_dr ?_ _) | (with_reducible refine Below.trans ?_ (Below.mono (by with_reducible assumption) ?_)) | omega | (simp; done) | (simp; omega))⟩
set_option maxHeartbeats 4000000 in
theorem walk_IsCorner (ax ay px py bx ey : Int) (w_ax : (Lit.int .i64 ax).wf = true) (w_ay : (Lit.int .i64 ay).wf = true) (w_px : (Lit.int .i64 px).wf = true) (w_py : (Lit.int .i64 py).wf = true) (w_bx : (Lit.int .i64 bx).wf = true) (w_ey : (Lit.int .i64 ey).wf = true) (w : World) :
    Calls Try.prog 3 #[.agg #[.int .i64 ax, .int .i64 ay], .agg #[.int .i64 px, .int .i64 py], .agg #[.int .i64 bx, .int .i64 ey]] w fun e w' => e = .returned (.bool true) ∧ Below w.heap.size w w' := by
  have i_ax := i64_bounds w_ax
  have i_ay := i64_bounds w_ay
  have i_px := i64_bounds w_px
  have i_py := i64_bounds w_py
  have i_bx := i64_bounds w_bx
  have i_ey := i64_bounds w_ey
  have C1 := Lib.hid (fun w => specCorner_any ax ay px py bx ey w)
  have C2 := Lib.hid (fun w => implCorner_any ax ay px py bx ey w)
  generalize corV ax ay px py bx ey = v at C1 C2
  clear i_ax w_ax i_ay w_ay i_px w_px i_py w_py i_bx w_bx i_ey w_ey
  have e_v : (v != v) = false := by simp
  go_enter Try.func3, Try.ntmps3
  go_wp2_with fail
  generalize hW : (((w.alloc (.cells #[.int .i64 ax, .int .i64 ay] 23)).alloc (.cells #[.int .i64 px, .int .i64 py] 23)).alloc (.cells #[.int .i64 bx, .int .i64 ey] 23)) = W0
  have g0 : Below w.heap.size w W0 := by rw [← hW]; repeat' (first | assumption | exact Below.refl _ _ | (refine Below.setCell ?_ ?_ _) | (refine Below.alloc ?_ ?_ _) | (refine below_dr ?_ _) | exact Nat.le_refl _ | (simp; done) | (simp; omega))
  have s1 : W0.cell? ⟨w.heap.size, 0, none⟩ = some (.int .i64 ax) := by rw [← hW]; simp [go_sem]
  have s2 : W0.cell? ⟨w.heap.size, 1, none⟩ = some (.int .i64 ay) := by rw [← hW]; simp [go_sem]
  have s3 : W0.cell? ⟨w.heap.size + 1, 0, none⟩ = some (.int .i64 px) := by rw [← hW]; simp [go_sem]
  have s4 : W0.cell? ⟨w.heap.size + 1, 1, none⟩ = some (.int .i64 py) := by rw [← hW]; simp [go_sem]
  have s5 : W0.cell? ⟨w.heap.size + 1 + 1, 0, none⟩ = some (.int .i64 bx) := by rw [← hW]; simp [go_sem]
  have s6 : W0.cell? ⟨w.heap.size + 1 + 1, 1, none⟩ = some (.int .i64 ey) := by rw [← hW]; simp [go_sem]
  have sz : w.heap.size + 1 + 1 < W0.heap.size := by rw [← hW]; simp
  clear hW
  go_region_held3 (fun w' => w'.cell? ⟨w.heap.size, 0, none⟩ = some (.int .i64 ax) ∧ w'.cell? ⟨w.heap.size, 1, none⟩ = some (.int .i64 ay) ∧ w'.cell? ⟨w.heap.size + 1, 0, none⟩ = some (.int .i64 px) ∧ w'.cell? ⟨w.heap.size + 1, 1, none⟩ = some (.int .i64 py) ∧ w'.cell? ⟨w.heap.size + 1 + 1, 0, none⟩ = some (.int .i64 bx) ∧ w'.cell? ⟨w.heap.size + 1 + 1, 1, none⟩ = some (.int .i64 ey) ∧ w.heap.size + 1 + 1 < w'.heap.size)
    (first | ((try dsimp only); (repeat' apply And.intro); all_goals (first | assumption | omega | (simp (disch := omega) [*]; done) | (simp; omega))) | fail)
    (first
      | (go_at_call 13; (with_reducible refine (toPt_any ax ay _).mono ?_); rintro e wA0 ⟨rfl, hbwA0⟩; obtain ⟨hcwA0, hfwA0⟩ := bcell hbwA0; have hzwA0 := hbwA0.size; (try simp only [World.size_drew] at hcwA0 hfwA0 hzwA0); (try simp only [World.size_alloc] at hcwA0 hfwA0 hzwA0))
      | (go_at_call 13; (with_reducible refine (toPt_any px py _).mono ?_); rintro e wA1 ⟨rfl, hbwA1⟩; obtain ⟨hcwA1, hfwA1⟩ := bcell hbwA1; have hzwA1 := hbwA1.size; (try simp only [World.size_drew] at hcwA1 hfwA1 hzwA1); (try simp only [World.size_alloc] at hcwA1 hfwA1 hzwA1))
      | (go_at_call 13; (with_reducible refine (toPt_any bx ey _).mono ?_); rintro e wA2 ⟨rfl, hbwA2⟩; obtain ⟨hcwA2, hfwA2⟩ := bcell hbwA2; have hzwA2 := hbwA2.size; (try simp only [World.size_drew] at hcwA2 hfwA2 hzwA2); (try simp only [World.size_alloc] at hcwA2 hfwA2 hzwA2))
      | (go_at_call 12; ((with_reducible refine (C1.out _).mono ?_); rintro e wC ⟨rfl, hbwC⟩; obtain ⟨hcwC, hfwC⟩ := bcell hbwC; have hzwC := hbwC.size; (try simp only [World.size_drew] at hcwC hfwC hzwC); (try simp only [World.size_alloc] at hcwC hfwC hzwC))))
  have hBwC : Below W0.heap.size W0 wC := by repeat' (first | with_reducible assumption | with_reducible exact Below.refl _ _ | (with_reducible refine Below.setCell ?_ ?_ _) | (with_reducible refine Below.alloc ?_ ?_ _) | (with_reducible refine Below.drew ?_) | (with_reducible refine below_dr ?_ _) | (with_reducible refine Below.trans ?_ (Below.mono (by with_reducible assumption) ?_)) | omega | (simp; done) | (simp; omega))
  obtain ⟨hcwC', hfwC'⟩ := bcell hBwC
  have hzwC' := hBwC.size
  have t1 : wC.cell? ⟨w.heap.size, 0, none⟩ = some (.int .i64 ax) := (hcwC' _ _ (by omega)).trans s1
  have t2 : wC.cell? ⟨w.heap.size, 1, none⟩ = some (.int .i64 ay) := (hcwC' _ _ (by omega)).trans s2
  have t3 : wC.cell? ⟨w.heap.size + 1, 0, none⟩ = some (.int .i64 px) := (hcwC' _ _ (by omega)).trans s3
  have t4 : wC.cell? ⟨w.heap.size + 1, 1, none⟩ = some (.int .i64 py) := (hcwC' _ _ (by omega)).trans s4
  have t5 : wC.cell? ⟨w.heap.size + 1 + 1, 0, none⟩ = some (.int .i64 bx) := (hcwC' _ _ (by omega)).trans s5
  have t6 : wC.cell? ⟨w.heap.size + 1 + 1, 1, none⟩ = some (.int .i64 ey) := (hcwC' _ _ (by omega)).trans s6
  have tz : w.heap.size + 1 + 1 < wC.heap.size := by omega
  clear hcwC hfwC hcwA0 hfwA0 hcwA1 hfwA1 hcwA2 hfwA2
  go_wp2_with fail
  go_region_held3 (fun w' => w'.cell? ⟨w.heap.size, 0, none⟩ = some (.int .i64 ax) ∧ w'.cell? ⟨w.heap.size, 1, none⟩ = some (.int .i64 ay) ∧ w'.cell? ⟨w.heap.size + 1, 0, none⟩ = some (.int .i64 px) ∧ w'.cell? ⟨w.heap.size + 1, 1, none⟩ = some (.int .i64 py) ∧ w'.cell? ⟨w.heap.size + 1 + 1, 0, none⟩ = some (.int .i64 bx) ∧ w'.cell? ⟨w.heap.size + 1 + 1, 1, none⟩ = some (.int .i64 ey) ∧ w.heap.size + 1 + 1 < w'.heap.size)
    (first | ((try dsimp only); (repeat' apply And.intro); all_goals (first | assumption | omega | (simp (disch := omega) [*]; done) | (simp; omega))) | fail)
    (first
      | (go_at_call 13; (with_reducible refine (toPt_any ax ay _).mono ?_); rintro e wD0 ⟨rfl, hbwD0⟩; obtain ⟨hcwD0, hfwD0⟩ := bcell hbwD0; have hzwD0 := hbwD0.size; (try simp only [World.size_drew] at hcwD0 hfwD0 hzwD0); (try simp only [World.size_alloc] at hcwD0 hfwD0 hzwD0))
      | (go_at_call 13; (with_reducible refine (toPt_any px py _).mono ?_); rintro e wD1 ⟨rfl, hbwD1⟩; obtain ⟨hcwD1, hfwD1⟩ := bcell hbwD1; have hzwD1 := hbwD1.size; (try simp only [World.size_drew] at hcwD1 hfwD1 hzwD1); (try simp only [World.size_alloc] at hcwD1 hfwD1 hzwD1))
      | (go_at_call 13; (with_reducible refine (toPt_any bx ey _).mono ?_); rintro e wD2 ⟨rfl, hbwD2⟩; obtain ⟨hcwD2, hfwD2⟩ := bcell hbwD2; have hzwD2 := hbwD2.size; (try simp only [World.size_drew] at hcwD2 hfwD2 hzwD2); (try simp only [World.size_alloc] at hcwD2 hfwD2 hzwD2))
      | (go_at_call 14; ((with_reducible refine (C2.out _).mono ?_); rintro e wF ⟨rfl, hbwF⟩; obtain ⟨hcwF, hfwF⟩ := bcell hbwF; have hzwF := hbwF.size; (try simp only [World.size_drew] at hcwF hfwF hzwF); (try simp only [World.size_alloc] at hcwF hfwF hzwF))))
  go_wp2
  go_ret
  exact ⟨rfl, by repeat' (first | with_reducible assumption | with_reducible exact Below.refl _ _ | (with_reducible refine Below.setCell ?_ ?_ _) | (with_reducible refine Below.alloc ?_ ?_ _) | (with_reducible refine Below.drew ?_) | (with_reducible refine below_dr ?_ _) | (with_reducible refine Below.trans ?_ (Below.mono (by with_reducible assumption) ?_)) | omega | (simp; done) | (simp; omega))⟩
end Go.Proofs.Ytjhboedaaeaomaa
