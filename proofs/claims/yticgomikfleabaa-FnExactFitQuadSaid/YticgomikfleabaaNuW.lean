/- Walks: which points are near a segment, on both sides; the law on NearSegment: it returns true. -/
import Derived.Test.YticgomikfleabaaNtW
namespace Go.Proofs.Yticgomikfleabaa
open Go.RowKit
def nearV (ax ay bx ey px py r : Int) : Bool := okB ax ay && okB bx ey && okB px py && decide (0 ≤ r) && decide (r ≤ 262144) && nearQ ax ay bx ey px py (r * r)
theorem nv_f1 {ax ay bx ey px py r : Int} (h : okB ax ay = false) : false = nearV ax ay bx ey px py r := by simp [nearV, h]
theorem nv_f2 {ax ay bx ey px py r : Int} (h : okB bx ey = false) : false = nearV ax ay bx ey px py r := by simp [nearV, h]
theorem nv_f3 {ax ay bx ey px py r : Int} (h : okB px py = false) : false = nearV ax ay bx ey px py r := by simp [nearV, h]
theorem nv_r {ax ay bx ey px py r : Int} (h : r < 0 ∨ 262144 < r) : false = nearV ax ay bx ey px py r := by
  unfold nearV
  rcases h with h | h
  · rw [show decide (0 ≤ r) = false by simp; omega]; simp
  · rw [show decide (r ≤ 262144) = false by simp; omega]; simp
theorem nv_no {ax ay bx ey px py r : Int} (h : (okB ax ay && okB bx ey && okB px py) = false) : false = nearV ax ay bx ey px py r := by unfold nearV; rw [h]; simp
theorem nv_is {ax ay bx ey px py r : Int} (h1 : okB ax ay = true) (h2 : okB bx ey = true) (h3 : okB px py = true) (h4 : 0 ≤ r) (h5 : r ≤ 262144) : nearQ ax ay bx ey px py (r * r) = nearV ax ay bx ey px py r := by simp [nearV, *]
set_option maxHeartbeats 20000000 in
theorem implNear_yes (ax ay bx ey px py r : Int) (w : World) (va : okB ax ay = true) (vb : okB bx ey = true) (vp : okB px py = true) (r0 : 0 ≤ r) (r1 : r ≤ 262144) :
    Calls Try.prog 112 #[.agg #[.int .i64 ax, .int .i64 ay], .agg #[.int .i64 bx, .int .i64 ey], .agg #[.int .i64 px, .int .i64 py], .int .i64 r] w fun e w' => e = .returned (.bool (nearV ax ay bx ey px py r)) ∧ Below w.heap.size w w' := by
  have HV := Lib.hid (show (okB ax ay && okB bx ey && okB px py) = true by simp [*])
  have NV := nv_is va vb vp r0 r1
  have D1 := Lib.hid (fun w => implDistSq_any ax ay px py w)
  have D2 := Lib.hid (fun w => implDistSq_any bx ey px py w)
  rw [← sqV_is va vp] at D1
  rw [← sqV_is vb vp] at D2
  have QB := sq_bound va vb
  have TB := turn_bound va vb vp
  obtain ⟨q0, q1⟩ := sq_r r0 r1
  obtain ⟨a1, a2, a3, a4⟩ := okB_bounds va
  obtain ⟨b1, b2, b3, b4⟩ := okB_bounds vb
  obtain ⟨c1, c2, c3, c4⟩ := okB_bounds vp
  have M1 := Lib.hid (fun w => minus_x bx ey ax ay w (by omega) (by omega) (by omega) (by omega))
  have M2 := Lib.hid (fun w => minus_x px py ax ay w (by omega) (by omega) (by omega) (by omega))
  have CR := Lib.hid (fun w => cross_any (bx - ax) (ey - ay) (px - ax) (py - ay) w (by omega) (by omega) (by omega) (by omega))
  have DA := Lib.hid (fun w => dot_any (px - ax) (py - ay) (bx - ax) (ey - ay) w (by omega) (by omega) (by omega) (by omega))
  have DS := Lib.hid (fun w => dot_any (bx - ax) (ey - ay) (bx - ax) (ey - ay) w (by omega) (by omega) (by omega) (by omega))
  clear va vb vp a1 a2 a3 a4 b1 b2 b3 b4 c1 c2 c3 c4
  have N1 := fun h => near_1 (ax := ax) (ay := ay) (bx := bx) (ey := ey) (px := px) (py := py) (q := r * r) h
  have N2 := fun h1 h2 => near_2 (ax := ax) (ay := ay) (bx := bx) (ey := ey) (px := px) (py := py) (q := r * r) h1 h2
  have N3 := fun h1 h2 => near_3 (ax := ax) (ay := ay) (bx := bx) (ey := ey) (px := px) (py := py) (q := r * r) h1 h2
  rw [NV] at N1 N2 N3
  rw [show (bx - ax) * (py - ay) - (ey - ay) * (px - ax) = turnI ax ay bx ey px py from rfl] at CR
  rw [show (px - ax) * (bx - ax) + (py - ay) * (ey - ay) = alongI ax ay bx ey px py from rfl] at DA
  rw [show (bx - ax) * (bx - ax) + (ey - ay) * (ey - ay) = sqI ax ay bx ey from rfl] at DS
  clear NV
  generalize nearV ax ay bx ey px py r = v at *
  generalize sqI ax ay px py = d1 at *
  generalize sqI bx ey px py = d2 at *
  generalize sqI ax ay bx ey = d3 at *
  generalize turnI ax ay bx ey px py = t at *
  generalize alongI ax ay bx ey px py = al at *
  have HN1 := Lib.hid N1
  have HN2 := Lib.hid N2
  have HN3 := Lib.hid N3
  clear N1 N2 N3
  go_enter Try.func112, Try.ntmps112
  go_wp2_with fail
  refine (valid3 ax ay bx ey px py _ _ (by simp) (by simp [go_sem]) (by simp [go_sem]) (by simp [go_sem]) (by simp [go_sem]) (by simp [go_sem]) (by simp [go_sem])).mono ?_
  rw [HV.out]; rintro e W0 ⟨rfl, hbW0⟩
  have g0 : Below w.heap.size w W0 := (by repeat' (first | with_reducible assumption | with_reducible exact Below.refl _ _ | (with_reducible refine Below.setCell ?_ ?_ _) | (with_reducible refine Below.alloc ?_ ?_ _) | (with_reducible refine Below.drew ?_) | (with_reducible refine below_dr ?_ _) | (with_reducible refine Below.trans ?_ (Below.mono (by with_reducible assumption) ?_)) | omega | (simp; done) | (simp; omega)))
  obtain ⟨hcW0, hfW0⟩ := bcell hbW0
  have hzW0 := hbW0.size
  (try simp only [World.size_alloc] at hcW0 hfW0 hzW0)
  have s1 : W0.cell? ⟨w.heap.size, 0, none⟩ = some (.int .i64 ax) := (hcW0 _ _ (by omega)).trans (by first | assumption | (refine (cell_alloc_at _ _ ?_).trans ?_; omega; assumption) | (simp [go_sem]; done) | (simp [go_sem, *]; done))
  have s2 : W0.cell? ⟨w.heap.size, 1, none⟩ = some (.int .i64 ay) := (hcW0 _ _ (by omega)).trans (by first | assumption | (refine (cell_alloc_at _ _ ?_).trans ?_; omega; assumption) | (simp [go_sem]; done) | (simp [go_sem, *]; done))
  have s3 : W0.cell? ⟨w.heap.size + 1, 0, none⟩ = some (.int .i64 bx) := (hcW0 _ _ (by omega)).trans (by first | assumption | (refine (cell_alloc_at _ _ ?_).trans ?_; omega; assumption) | (simp [go_sem]; done) | (simp [go_sem, *]; done))
  have s4 : W0.cell? ⟨w.heap.size + 1, 1, none⟩ = some (.int .i64 ey) := (hcW0 _ _ (by omega)).trans (by first | assumption | (refine (cell_alloc_at _ _ ?_).trans ?_; omega; assumption) | (simp [go_sem]; done) | (simp [go_sem, *]; done))
  have s5 : W0.cell? ⟨w.heap.size + 1 + 1, 0, none⟩ = some (.int .i64 px) := (hcW0 _ _ (by omega)).trans (by first | assumption | (refine (cell_alloc_at _ _ ?_).trans ?_; omega; assumption) | (simp [go_sem]; done) | (simp [go_sem, *]; done))
  have s6 : W0.cell? ⟨w.heap.size + 1 + 1, 1, none⟩ = some (.int .i64 py) := (hcW0 _ _ (by omega)).trans (by first | assumption | (refine (cell_alloc_at _ _ ?_).trans ?_; omega; assumption) | (simp [go_sem]; done) | (simp [go_sem, *]; done))
  have szq0 : w.heap.size < W0.heap.size := (by omega)
  have szq1 : w.heap.size + 1 < W0.heap.size := (by omega)
  have sz : w.heap.size + 1 + 1 < W0.heap.size := (by omega)
  clear hcW0 hfW0 hzW0
  clear hbW0
  have zz0 : w.heap.size < W0.heap.size := by omega
  have zz1 : w.heap.size + 1 < W0.heap.size := by omega
  have bx0 : AtL (w.heap.size) [.int .i64 ax, .int .i64 ay] W0 := AtL.of2 s1 s2 zz0
  have bx1 : AtL (w.heap.size + 1) [.int .i64 bx, .int .i64 ey] W0 := AtL.of2 s3 s4 zz1
  have bx2 : AtL (w.heap.size + 1 + 1) [.int .i64 px, .int .i64 py] W0 := AtL.of2 s5 s6 sz
  go_upto_region 3 with fail
  go_cut [9, 10] (fun sA sB wx => LeftP [.int .i64 (bx - ax), .int .i64 (ey - ay)] sA wx ∧ LeftP [.int .i64 (px - ax), .int .i64 (py - ay)] sB wx ∧ Below w.heap.size w wx ∧ AtL (w.heap.size) [.int .i64 ax, .int .i64 ay] wx ∧ AtL (w.heap.size + 1) [.int .i64 bx, .int .i64 ey] wx ∧ AtL (w.heap.size + 1 + 1) [.int .i64 px, .int .i64 py] wx)
  case first =>
    clear HN1 HN2 HN3 D1 D2 CR DA DS
    go_wp2_with fail
    go_region_held3 (fun w' => (∀ b o, b < W0.heap.size → w'.cell? ⟨b, o, none⟩ = W0.cell? ⟨b, o, none⟩) ∧ W0.heap.size ≤ w'.heap.size)
      (first | ((try dsimp only); exact ⟨fun b o h => (by (repeat (first | with_reducible exact rfl | (with_reducible refine (cell_drew_at _ _).trans ?_) | (with_reducible refine (cell_alloc_at _ _ (by first | omega | (simp; done) | (simp; omega))).trans ?_)))), (by first | omega | (simp; done) | (simp; omega))⟩) | fail)
      (first
        | (go_at_call 66; (with_reducible refine (M1.out _).mono ?_); rintro e wA ⟨rfl, rfl⟩)
        | (go_at_call 66; (with_reducible refine (M2.out _).mono ?_); rintro e wB ⟨rfl, rfl⟩))
    all_goals
      go_wp2_with fail
      go_meet
    all_goals exact ⟨⟨_, rfl, by repeat' (first | ((with_reducible refine AtL.newAt ?_); (first | rfl | (simp; done))) | with_reducible assumption | with_reducible exact AtL.new _ _ _ | (with_reducible refine AtL.drew ?_) | (with_reducible apply AtL.store2) | (with_reducible refine AtL.alloc ?_ _) | (with_reducible refine AtL.far ?_ ?_ _ _) | (with_reducible refine AtL.below ?_ (by with_reducible assumption)) | omega | (simp; done) | (simp; omega))⟩, ⟨_, rfl, by repeat' (first | ((with_reducible refine AtL.newAt ?_); (first | rfl | (simp; done))) | with_reducible assumption | with_reducible exact AtL.new _ _ _ | (with_reducible refine AtL.drew ?_) | (with_reducible apply AtL.store2) | (with_reducible refine AtL.alloc ?_ _) | (with_reducible refine AtL.far ?_ ?_ _ _) | (with_reducible refine AtL.below ?_ (by with_reducible assumption)) | omega | (simp; done) | (simp; omega))⟩, by repeat' (first | with_reducible assumption | with_reducible exact Below.refl _ _ | (with_reducible refine Below.setCell ?_ ?_ _) | (with_reducible refine Below.alloc ?_ ?_ _) | (with_reducible refine Below.drew ?_) | (with_reducible refine below_dr ?_ _) | (with_reducible refine Below.trans ?_ (Below.mono (by with_reducible assumption) ?_)) | omega | (simp; done) | (simp; omega)), by repeat' (first | ((with_reducible refine AtL.newAt ?_); (first | rfl | (simp; done))) | with_reducible assumption | with_reducible exact AtL.new _ _ _ | (with_reducible refine AtL.drew ?_) | (with_reducible apply AtL.store2) | (with_reducible refine AtL.alloc ?_ _) | (with_reducible refine AtL.far ?_ ?_ _ _) | (with_reducible refine AtL.below ?_ (by with_reducible assumption)) | omega | (simp; done) | (simp; omega)), by repeat' (first | ((with_reducible refine AtL.newAt ?_); (first | rfl | (simp; done))) | with_reducible assumption | with_reducible exact AtL.new _ _ _ | (with_reducible refine AtL.drew ?_) | (with_reducible apply AtL.store2) | (with_reducible refine AtL.alloc ?_ _) | (with_reducible refine AtL.far ?_ ?_ _ _) | (with_reducible refine AtL.below ?_ (by with_reducible assumption)) | omega | (simp; done) | (simp; omega)), by repeat' (first | ((with_reducible refine AtL.newAt ?_); (first | rfl | (simp; done))) | with_reducible assumption | with_reducible exact AtL.new _ _ _ | (with_reducible refine AtL.drew ?_) | (with_reducible apply AtL.store2) | (with_reducible refine AtL.alloc ?_ _) | (with_reducible refine AtL.far ?_ ?_ _ _) | (with_reducible refine AtL.below ?_ (by with_reducible assumption)) | omega | (simp; done) | (simp; omega))⟩
  case rest =>
    clear M1 M2 s1 s2 s3 s4 s5 s6 sz zz0 zz1 bx0 bx1 bx2 g0
    obtain ⟨⟨g1, rfl, at1⟩, ⟨g2, rfl, at2⟩, bel, bx0, bx1, bx2⟩ := hcut
    obtain ⟨W1, rfl⟩ : ∃ W : World, W = wc := ⟨_, rfl⟩
    have k1 := at1.cell 0 rfl
    have k2 := at1.cell 1 rfl
    have k3 := at2.cell 0 rfl
    have k4 := at2.cell 1 rfl
    have z1 := at1.lt
    have z2 := at2.lt
    have zb := bel.size
    go_wp2_with fail
    go_region_held3 (fun w' => w'.cell? ⟨g1, 0, none⟩ = some (.int .i64 (bx - ax)) ∧ w'.cell? ⟨g1, 1, none⟩ = some (.int .i64 (ey - ay)) ∧ w'.cell? ⟨g2, 0, none⟩ = some (.int .i64 (px - ax)) ∧ w'.cell? ⟨g2, 1, none⟩ = some (.int .i64 (py - ay)) ∧ g1 < w'.heap.size ∧ g2 < w'.heap.size)
      (first | ((try dsimp only); (repeat' apply And.intro); all_goals (first | assumption | omega | (simp (disch := omega) [*]; done) | (simp; omega))) | fail)
      (first
        | (go_at_call 114; (with_reducible refine (DA.out _).mono ?_); rintro e wA ⟨rfl, hbwA⟩; obtain ⟨hcwA, hfwA⟩ := bcell hbwA; have hzwA := hbwA.size; (try simp only [World.size_drew] at hcwA hfwA hzwA); (try simp only [World.size_alloc] at hcwA hfwA hzwA))
        | (go_at_call 114; (with_reducible refine (DS.out _).mono ?_); rintro e wB ⟨rfl, hbwB⟩; obtain ⟨hcwB, hfwB⟩ := bcell hbwB; have hzwB := hbwB.size; (try simp only [World.size_drew] at hcwB hfwB hzwB); (try simp only [World.size_alloc] at hcwB hfwB hzwB)))
    have bB : Below W1.heap.size W1 wB := by repeat' (first | with_reducible assumption | with_reducible exact Below.refl _ _ | (with_reducible refine Below.setCell ?_ ?_ _) | (with_reducible refine Below.alloc ?_ ?_ _) | (with_reducible refine Below.drew ?_) | (with_reducible refine below_dr ?_ _) | (with_reducible refine Below.trans ?_ (Below.mono (by with_reducible assumption) ?_)) | omega | (simp; done) | (simp; omega))
    obtain ⟨hcB, hfB⟩ := bcell bB
    have zB := bB.size
    have y0 := bx0.lt
    have l00 := (hcB _ _ y0).trans (bx0.cell 0 rfl)
    have l01 := (hcB _ _ y0).trans (bx0.cell 1 rfl)
    have y1 := bx1.lt
    have l10 := (hcB _ _ y1).trans (bx1.cell 0 rfl)
    have l11 := (hcB _ _ y1).trans (bx1.cell 1 rfl)
    have y2 := bx2.lt
    have l20 := (hcB _ _ y2).trans (bx2.cell 0 rfl)
    have l21 := (hcB _ _ y2).trans (bx2.cell 1 rfl)
    replace k1 := (hcB _ _ z1).trans k1
    replace k2 := (hcB _ _ z1).trans k2
    replace k3 := (hcB _ _ z2).trans k3
    replace k4 := (hcB _ _ z2).trans k4
    have gB : Below w.heap.size w wB := bel.trans (bB.mono zb)
    have zg := gB.size
    clear hcB hfB bx0 bx1 bx2 at1 at2 hcwA hfwA hcwB hfwB
    by_cases h1 : al ≤ 0
    · have X := Lib.hid (HN1.out h1)
      clear HN1 HN2 HN3
      go_wp2_with fail
      refine (D1.out _).mono ?_
      rintro e wE ⟨rfl, hbwE⟩
      go_wp2
      go_ret
      exact ⟨ret_bool X.out, by repeat' (first | with_reducible assumption | with_reducible exact Below.refl _ _ | (with_reducible refine Below.setCell ?_ ?_ _) | (with_reducible refine Below.alloc ?_ ?_ _) | (with_reducible refine Below.drew ?_) | (with_reducible refine below_dr ?_ _) | (with_reducible refine Below.trans ?_ (Below.mono (by with_reducible assumption) ?_)) | omega | (simp; done) | (simp; omega))⟩
    have e1 : decide (al ≤ 0) = false := by simpa using h1
    by_cases h2 : d3 ≤ al
    · have X := Lib.hid (HN2.out (by omega) h2)
      clear HN1 HN2 HN3 h1
      go_wp2_with fail
      refine (D2.out _).mono ?_
      rintro e wE ⟨rfl, hbwE⟩
      go_wp2
      go_ret
      exact ⟨ret_bool X.out, by repeat' (first | with_reducible assumption | with_reducible exact Below.refl _ _ | (with_reducible refine Below.setCell ?_ ?_ _) | (with_reducible refine Below.alloc ?_ ?_ _) | (with_reducible refine Below.drew ?_) | (with_reducible refine below_dr ?_ _) | (with_reducible refine Below.trans ?_ (Below.mono (by with_reducible assumption) ?_)) | omega | (simp; done) | (simp; omega))⟩
    have e2 : decide (d3 ≤ al) = false := by simpa using h2
    have X := HN3.out (by omega) (by omega)
    clear HN1 HN2 HN3 h1 h2 D1 D2
    obtain ⟨t1, t2⟩ := TB
    obtain ⟨d0, d4⟩ := QB
    have T1 : (t.natAbs : Int) ≤ 549755813888 := by omega
    obtain ⟨rr, hrr⟩ := Int.eq_ofNat_of_zero_le q0
    obtain ⟨dd, rfl⟩ := Int.eq_ofNat_of_zero_le d0
    rw [hrr] at X q1
    have RR := Lib.hid hrr
    have MG := Lib.hid (fun w => magnitude_any t w (by omega) (by omega))
    have TS : t * t = ((t.natAbs * t.natAbs : Nat) : Int) := by rw [Int.natCast_mul]; exact Int.natAbs_mul_self.symm ▸ rfl
    rw [TS, ← Int.natCast_mul] at X
    clear TS
    generalize hm : t.natAbs = m at MG X T1
    clear hm
    have WP := Lib.hid (fun w => wideProduct_any m m w (by omega) (by omega))
    have WQ := Lib.hid (fun w => wideProduct_any rr dd w (by omega) (by omega))
    have L1 := lex_lt (B := 18446744073709551616) (p := ((m * m : Nat) : Int)) (q := ((rr * dd : Nat) : Int)) (by decide)
    have L2 := lex_gt (B := 18446744073709551616) (p := ((m * m : Nat) : Int)) (q := ((rr * dd : Nat) : Int)) (by decide)
    have L3 := lex_eq (B := 18446744073709551616) (p := ((m * m : Nat) : Int)) (q := ((rr * dd : Nat) : Int)) (by decide)
    rw [X] at L1 L2 L3
    have AM := Lib.hid (fun w => atMost_any ((m * m / 18446744073709551616 : Nat) : Int) ((m * m % 18446744073709551616 : Nat) : Int) ((rr * dd / 18446744073709551616 : Nat) : Int) ((rr * dd % 18446744073709551616 : Nat) : Int) v w (by simpa using L1) (by simpa using L2) (by simpa using L3))
    clear L1 L2 L3 X
    generalize ((m * m / 18446744073709551616 : Nat) : Int) = x1 at WP AM
    generalize ((m * m % 18446744073709551616 : Nat) : Int) = x2 at WP AM
    generalize ((rr * dd / 18446744073709551616 : Nat) : Int) = x3 at WQ AM
    generalize ((rr * dd % 18446744073709551616 : Nat) : Int) = x4 at WQ AM
    go_wp2_with fail
    refine (CR.out _).mono ?_
    rintro e wE ⟨rfl, hbwE⟩
    have zE := hbwE.size
    go_wp2_with fail
    refine (MG.out _).mono ?_
    rintro e wG ⟨rfl, rfl⟩
    go_wp2_with fail
    refine (WP.out _).mono ?_
    rintro e wH ⟨rfl, hbwH⟩
    have zH := hbwH.size
    go_wp2_with fail
    refine (WQ.out _).mono ?_
    rintro e wI ⟨rfl, hbwI⟩
    have zI := hbwI.size
    go_wp2_with fail
    refine (AM.out _).mono ?_
    rintro e wJ ⟨rfl, hbwJ⟩
    go_wp2
    go_ret
    exact ⟨rfl, by repeat' (first | with_reducible assumption | with_reducible exact Below.refl _ _ | (with_reducible refine Below.setCell ?_ ?_ _) | (with_reducible refine Below.alloc ?_ ?_ _) | (with_reducible refine Below.drew ?_) | (with_reducible refine below_dr ?_ _) | (with_reducible refine Below.trans ?_ (Below.mono (by with_reducible assumption) ?_)) | omega | (simp; done) | (simp; omega))⟩
set_option maxHeartbeats 3200000 in
theorem implNear_any (ax ay bx ey px py r : Int) (w : World) :
    Calls Try.prog 112 #[.agg #[.int .i64 ax, .int .i64 ay], .agg #[.int .i64 bx, .int .i64 ey], .agg #[.int .i64 px, .int .i64 py], .int .i64 r] w fun e w' => e = .returned (.bool (nearV ax ay bx ey px py r)) ∧ Below w.heap.size w w' := by
  rcases hv : (okB ax ay && okB bx ey && okB px py) with _ | _
  · have HV := Lib.hid hv
    clear hv
    go_enter Try.func112, Try.ntmps112
    go_wp2_with fail
    refine (valid3 ax ay bx ey px py _ _ (by simp) (by simp [go_sem]) (by simp [go_sem]) (by simp [go_sem]) (by simp [go_sem]) (by simp [go_sem]) (by simp [go_sem])).mono ?_
    rw [HV.out]; rintro e w1 ⟨rfl, hbw1⟩
    go_wp2
    go_ret
    exact ⟨ret_bool (nv_no HV.out), by repeat' (first | with_reducible assumption | with_reducible exact Below.refl _ _ | (with_reducible refine Below.setCell ?_ ?_ _) | (with_reducible refine Below.alloc ?_ ?_ _) | (with_reducible refine Below.drew ?_) | (with_reducible refine below_dr ?_ _) | (with_reducible refine Below.trans ?_ (Below.mono (by with_reducible assumption) ?_)) | omega | (simp; done) | (simp; omega))⟩
  obtain ⟨va, vb, vp⟩ := and3 hv
  by_cases h0 : r < 0
  · have HV := Lib.hid hv
    have X := Lib.hid (nv_r (ax := ax) (ay := ay) (bx := bx) (ey := ey) (px := px) (py := py) (Or.inl h0))
    clear hv va vb vp
    go_enter Try.func112, Try.ntmps112
    go_wp2_with fail
    refine (valid3 ax ay bx ey px py _ _ (by simp) (by simp [go_sem]) (by simp [go_sem]) (by simp [go_sem]) (by simp [go_sem]) (by simp [go_sem]) (by simp [go_sem])).mono ?_
    rw [HV.out]; rintro e w1 ⟨rfl, hbw1⟩
    go_wp2
    go_ret
    exact ⟨ret_bool X.out, by repeat' (first | with_reducible assumption | with_reducible exact Below.refl _ _ | (with_reducible refine Below.setCell ?_ ?_ _) | (with_reducible refine Below.alloc ?_ ?_ _) | (with_reducible refine Below.drew ?_) | (with_reducible refine below_dr ?_ _) | (with_reducible refine Below.trans ?_ (Below.mono (by with_reducible assumption) ?_)) | omega | (simp; done) | (simp; omega))⟩
  by_cases h1 : 262144 < r
  · have HV := Lib.hid hv
    have X := Lib.hid (nv_r (ax := ax) (ay := ay) (bx := bx) (ey := ey) (px := px) (py := py) (Or.inr h1))
    have h2 : 0 ≤ r := by omega
    clear hv va vb vp h0
    go_enter Try.func112, Try.ntmps112
    go_wp2_with fail
    refine (valid3 ax ay bx ey px py _ _ (by simp) (by simp [go_sem]) (by simp [go_sem]) (by simp [go_sem]) (by simp [go_sem]) (by simp [go_sem]) (by simp [go_sem])).mono ?_
    rw [HV.out]; rintro e w1 ⟨rfl, hbw1⟩
    go_wp2
    go_ret
    exact ⟨ret_bool X.out, by repeat' (first | with_reducible assumption | with_reducible exact Below.refl _ _ | (with_reducible refine Below.setCell ?_ ?_ _) | (with_reducible refine Below.alloc ?_ ?_ _) | (with_reducible refine Below.drew ?_) | (with_reducible refine below_dr ?_ _) | (with_reducible refine Below.trans ?_ (Below.mono (by with_reducible assumption) ?_)) | omega | (simp; done) | (simp; omega))⟩
  exact implNear_yes ax ay bx ey px py r w va vb vp (by omega) (by omega)
end Go.Proofs.Yticgomikfleabaa
