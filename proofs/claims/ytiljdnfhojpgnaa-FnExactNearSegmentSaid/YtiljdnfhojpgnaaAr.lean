/- Walks: directions around a point, the program's side; the law on CompareAround: it returns true. -/
import Derived.Test.YtiljdnfhojpgnaaPi
import Derived.Test.YtiljdnfhojpgnaaAt
namespace Go.Proofs.Ytiljdnfhojpgnaa
open Go.RowKit
theorem cell_drew_at (w : World) (a : Addr) : w.drew.cell? a = w.cell? a := rfl
theorem AtL.newAt {g : Nat} {vs : List Value} {wx : World} {t : TypeId} (hg : g = wx.heap.size) : AtL g vs (wx.alloc (.cells vs.toArray t)) := by
  subst hg; exact AtL.new _ _ _
theorem eq_pt_no {a b c d : Int} (h : ¬ (a = c ∧ b = d)) : ∀ w, (Go.binOp BinOp.eql 25 (.agg #[.int .i64 a, .int .i64 b]) (.agg #[.int .i64 c, .int .i64 d])).run Try.prog w = Result.ok (.bool false) w := by
  intro w
  by_cases h1 : a = c
  · have h2 : ¬ b = d := fun e => h ⟨h1, e⟩
    subst h1
    simp [go_sem, h2]
  · simp [go_sem, h1]
set_option maxHeartbeats 800000 in
theorem minus_x (a b c d : Int) (w : World) (h1 : -262144 ≤ a ∧ a ≤ 262144) (h2 : -262144 ≤ b ∧ b ≤ 262144) (h3 : -262144 ≤ c ∧ c ≤ 262144) (h4 : -262144 ≤ d ∧ d ≤ 262144) :
    Calls Try.prog 43 #[.agg #[.int .i64 a, .int .i64 b], .agg #[.int .i64 c, .int .i64 d]] w fun e w' => e = .returned (.agg #[.int .i64 (a - c), .int .i64 (b - d)]) ∧ w' = ((w.alloc (.cells #[.int .i64 a, .int .i64 b] 25)).alloc (.cells #[.int .i64 c, .int .i64 d] 25)).alloc (.cells #[.int .i64 (a - c), .int .i64 (b - d)] 25) := by
  obtain ⟨h1, k1⟩ := h1
  obtain ⟨h2, k2⟩ := h2
  obtain ⟨h3, k3⟩ := h3
  obtain ⟨h4, k4⟩ := h4
  go_enter Try.func43, Try.ntmps43
  go_wp2
  exact bodyPost_ret (v := .agg #[.int .i64 (a - c), .int .i64 (b - d)]) (by simp [results, Try.results43, go_sem]) rfl ⟨rfl, rfl⟩

theorem low_half {ox oy ax ay : Int} (h : ¬ (ax = ox ∧ ay = oy)) : lowB (ax - ox) (ay - oy) = decide (halfI ox oy ax ay = 1) := by
  unfold lowB halfI
  rcases Int.lt_trichotomy ay oy with g | g | g
  · rw [if_neg (by omega)]; simp; omega
  · by_cases k : ox < ax
    · rw [if_pos (by omega)]; simp; omega
    · rw [if_neg (by omega)]; simp; omega
  · rw [if_pos (by omega)]; simp; omega
theorem half_t {ox oy ax ay : Int} (h : ¬ (ax = ox ∧ ay = oy)) (hl : lowB (ax - ox) (ay - oy) = true) : halfI ox oy ax ay = 1 := by
  rw [low_half h] at hl; simpa using hl
theorem half_f {ox oy ax ay : Int} (h : ¬ (ax = ox ∧ ay = oy)) (hl : lowB (ax - ox) (ay - oy) = false) : halfI ox oy ax ay = 0 := by
  rw [low_half h] at hl
  have := half_bound ox oy ax ay
  have : ¬ halfI ox oy ax ay = 1 := by simpa using hl
  omega
theorem ar_val {ox oy ax ay bx ey v : Int} (h : (okB ox oy && okB ax ay && okB bx ey) = true) (x1 : ¬ (ax = ox ∧ ay = oy)) (x2 : ¬ (bx = ox ∧ ey = oy)) (hv : v = arI ox oy ax ay bx ey) : v = arV ox oy ax ay bx ey := by
  rw [hv]; exact ar_is h (by rintro (⟨a, b⟩ | ⟨a, b⟩); exact x1 ⟨a.symm, b.symm⟩; exact x2 ⟨a.symm, b.symm⟩)
theorem ar_one {ox oy ax ay bx ey : Int} (h1 : halfI ox oy ax ay = 1) (h2 : halfI ox oy bx ey = 0) : 1 = arI ox oy ax ay bx ey := by
  unfold arI; rw [h1, h2, if_neg (by decide)]; decide
theorem ar_neg {ox oy ax ay bx ey : Int} (h1 : halfI ox oy ax ay = 0) (h2 : halfI ox oy bx ey = 1) : -1 = arI ox oy ax ay bx ey := by
  unfold arI; rw [h1, h2, if_neg (by decide)]; decide
theorem ar_same {ox oy ax ay bx ey : Int} (h : halfI ox oy ax ay = halfI ox oy bx ey) : -(sgnI ((ax - ox) * (ey - oy) - (ay - oy) * (bx - ox))) = arI ox oy ax ay bx ey := by
  unfold arI; rw [if_pos h]; rfl

set_option maxHeartbeats 20000000 in
theorem implAr_ne (ox oy ax ay bx ey : Int) (w : World) (vo : okB ox oy = true) (va : okB ax ay = true) (vb : okB bx ey = true) (x1 : ¬ (ax = ox ∧ ay = oy)) (x2 : ¬ (bx = ox ∧ ey = oy)) :
    Calls Try.prog 35 #[.agg #[.int .i64 ox, .int .i64 oy], .agg #[.int .i64 ax, .int .i64 ay], .agg #[.int .i64 bx, .int .i64 ey]] w fun e w' => e = .returned (.int .i64 (arV ox oy ax ay bx ey)) ∧ Below w.heap.size w w' := by
  have HV := Lib.hid (show (okB ox oy && okB ax ay && okB bx ey) = true by simp [*])
  obtain ⟨a1, a2, a3, a4⟩ := okB_bounds vo
  obtain ⟨b1, b2, b3, b4⟩ := okB_bounds va
  obtain ⟨c1, c2, c3, c4⟩ := okB_bounds vb
  have M1 := Lib.hid (fun w => minus_x ax ay ox oy w (by omega) (by omega) (by omega) (by omega))
  have M2 := Lib.hid (fun w => minus_x bx ey ox oy w (by omega) (by omega) (by omega) (by omega))
  have CR := Lib.hid (fun w => cross_any (ax - ox) (ay - oy) (bx - ox) (ey - oy) w (by omega) (by omega) (by omega) (by omega))
  have E1 := eq_pt_no x1
  have E2 := eq_pt_no x2
  have X1 := Lib.hid x1
  have X2 := Lib.hid x2
  have L1 := Lib.hid (fun w => low_any (ax - ox) (ay - oy) w)
  have L2 := Lib.hid (fun w => low_any (bx - ox) (ey - oy) w)
  clear vo va vb x1 x2 a1 a2 a3 a4 b1 b2 b3 b4 c1 c2 c3 c4
  go_enter Try.func35, Try.ntmps35
  go_wp2_with fail
  refine (valid3 ox oy ax ay bx ey _ _ (by simp) (by simp [go_sem]) (by simp [go_sem]) (by simp [go_sem]) (by simp [go_sem]) (by simp [go_sem]) (by simp [go_sem])).mono ?_
  rw [HV.out]; rintro e W0 ⟨rfl, hbW0⟩
  have g0 : Below w.heap.size w W0 := (by repeat' (first | with_reducible assumption | with_reducible exact Below.refl _ _ | (with_reducible refine Below.setCell ?_ ?_ _) | (with_reducible refine Below.alloc ?_ ?_ _) | (with_reducible refine Below.drew ?_) | (with_reducible refine below_dr ?_ _) | (with_reducible refine Below.trans ?_ (Below.mono (by with_reducible assumption) ?_)) | omega | (simp; done) | (simp; omega)))
  obtain ⟨hcW0, hfW0⟩ := bcell hbW0
  have hzW0 := hbW0.size
  (try simp only [World.size_alloc] at hcW0 hfW0 hzW0)
  have s1 : W0.cell? ⟨w.heap.size, 0, none⟩ = some (.int .i64 ox) := (hcW0 _ _ (by omega)).trans (by first | assumption | (simp [go_sem]; done) | (simp [go_sem, *]; done))
  have s2 : W0.cell? ⟨w.heap.size, 1, none⟩ = some (.int .i64 oy) := (hcW0 _ _ (by omega)).trans (by first | assumption | (simp [go_sem]; done) | (simp [go_sem, *]; done))
  have s3 : W0.cell? ⟨w.heap.size + 1, 0, none⟩ = some (.int .i64 ax) := (hcW0 _ _ (by omega)).trans (by first | assumption | (simp [go_sem]; done) | (simp [go_sem, *]; done))
  have s4 : W0.cell? ⟨w.heap.size + 1, 1, none⟩ = some (.int .i64 ay) := (hcW0 _ _ (by omega)).trans (by first | assumption | (simp [go_sem]; done) | (simp [go_sem, *]; done))
  have s5 : W0.cell? ⟨w.heap.size + 1 + 1, 0, none⟩ = some (.int .i64 bx) := (hcW0 _ _ (by omega)).trans (by first | assumption | (simp [go_sem]; done) | (simp [go_sem, *]; done))
  have s6 : W0.cell? ⟨w.heap.size + 1 + 1, 1, none⟩ = some (.int .i64 ey) := (hcW0 _ _ (by omega)).trans (by first | assumption | (simp [go_sem]; done) | (simp [go_sem, *]; done))
  have szq0 : w.heap.size < W0.heap.size := (by omega)
  have szq1 : w.heap.size + 1 < W0.heap.size := (by omega)
  have sz : w.heap.size + 1 + 1 < W0.heap.size := (by omega)
  clear hcW0 hfW0 hzW0
  clear hbW0
  go_upto_region 3 with fail
  go_cut [7, 8] (fun sA sB wx => LeftP [.int .i64 (ax - ox), .int .i64 (ay - oy)] sA wx ∧ LeftP [.int .i64 (bx - ox), .int .i64 (ey - oy)] sB wx ∧ Below w.heap.size w wx)
  case first =>
    clear E1 E2 L1 L2 CR X1 X2
    go_wp2_with fail
    go_region_held3 (fun w' => (∀ b o, b < W0.heap.size → w'.cell? ⟨b, o, none⟩ = W0.cell? ⟨b, o, none⟩) ∧ W0.heap.size ≤ w'.heap.size)
      (first | ((try dsimp only); exact ⟨fun b o h => (by (repeat (first | with_reducible exact rfl | (with_reducible refine (cell_drew_at _ _).trans ?_) | (with_reducible refine (cell_alloc_at _ _ (by first | omega | (simp; done) | (simp; omega))).trans ?_)))), (by first | omega | (simp; done) | (simp; omega))⟩) | fail)
      (first
        | (go_at_call 43; (with_reducible refine (M1.out _).mono ?_); rintro e wA ⟨rfl, rfl⟩)
        | (go_at_call 43; (with_reducible refine (M2.out _).mono ?_); rintro e wB ⟨rfl, rfl⟩))
    all_goals
      go_wp2_with fail
      go_meet
    all_goals exact ⟨⟨_, rfl, by repeat' (first | ((with_reducible refine AtL.newAt ?_); (first | rfl | (simp; done))) | with_reducible assumption | with_reducible exact AtL.new _ _ _ | (with_reducible refine AtL.drew ?_) | (with_reducible apply AtL.store2) | (with_reducible refine AtL.alloc ?_ _) | (with_reducible refine AtL.far ?_ ?_ _ _) | (with_reducible refine AtL.below ?_ (by with_reducible assumption)) | omega | (simp; done) | (simp; omega))⟩, ⟨_, rfl, by repeat' (first | ((with_reducible refine AtL.newAt ?_); (first | rfl | (simp; done))) | with_reducible assumption | with_reducible exact AtL.new _ _ _ | (with_reducible refine AtL.drew ?_) | (with_reducible apply AtL.store2) | (with_reducible refine AtL.alloc ?_ _) | (with_reducible refine AtL.far ?_ ?_ _ _) | (with_reducible refine AtL.below ?_ (by with_reducible assumption)) | omega | (simp; done) | (simp; omega))⟩, by repeat' (first | with_reducible assumption | with_reducible exact Below.refl _ _ | (with_reducible refine Below.setCell ?_ ?_ _) | (with_reducible refine Below.alloc ?_ ?_ _) | (with_reducible refine Below.drew ?_) | (with_reducible refine below_dr ?_ _) | (with_reducible refine Below.trans ?_ (Below.mono (by with_reducible assumption) ?_)) | omega | (simp; done) | (simp; omega))⟩
  case rest =>
    obtain ⟨⟨g1, rfl, at1⟩, ⟨g2, rfl, at2⟩, bel⟩ := hcut
    obtain ⟨W1, rfl⟩ : ∃ W : World, W = wc := ⟨_, rfl⟩
    have k1 := at1.cell 0 rfl
    have k2 := at1.cell 1 rfl
    have k3 := at2.cell 0 rfl
    have k4 := at2.cell 1 rfl
    have z1 := at1.lt
    have z2 := at2.lt
    have zb := bel.size
    clear E1 E2 s1 s2 s3 s4 s5 s6
    rcases (Bool.eq_false_or_eq_true (lowB (ax - ox) (ay - oy))) with hu | hu
    · rcases (Bool.eq_false_or_eq_true (lowB (bx - ox) (ey - oy))) with hv | hv
      · have RV := Lib.hid (show -(sgnI ((ax - ox) * (ey - oy) - (ay - oy) * (bx - ox))) = arV ox oy ax ay bx ey from ar_val HV.out X1.out X2.out (ar_same ((half_t X1.out hu).trans (half_t X2.out hv).symm)))
        rw [hu] at L1
        rw [hv] at L2
        clear hu hv
        go_wp2_with fail
        refine (L1.out _).mono ?_
        rintro e v0 ⟨rfl, hbv0⟩
        obtain ⟨hcv0, hfv0⟩ := bcell hbv0
        have zv0 := hbv0.size
        replace k1 := (hcv0 _ _ (by omega)).trans k1
        replace k2 := (hcv0 _ _ (by omega)).trans k2
        replace k3 := (hcv0 _ _ (by omega)).trans k3
        replace k4 := (hcv0 _ _ (by omega)).trans k4
        replace z1 : g1 < v0.heap.size := by omega
        replace z2 : g2 < v0.heap.size := by omega
        clear hcv0 hfv0
        go_wp2_with fail
        refine (L1.out _).mono ?_
        rintro e v1 ⟨rfl, hbv1⟩
        obtain ⟨hcv1, hfv1⟩ := bcell hbv1
        have zv1 := hbv1.size
        replace k1 := (hcv1 _ _ (by omega)).trans k1
        replace k2 := (hcv1 _ _ (by omega)).trans k2
        replace k3 := (hcv1 _ _ (by omega)).trans k3
        replace k4 := (hcv1 _ _ (by omega)).trans k4
        replace z1 : g1 < v1.heap.size := by omega
        replace z2 : g2 < v1.heap.size := by omega
        clear hcv1 hfv1
        go_wp2_with fail
        refine (L2.out _).mono ?_
        rintro e v2 ⟨rfl, hbv2⟩
        obtain ⟨hcv2, hfv2⟩ := bcell hbv2
        have zv2 := hbv2.size
        replace k1 := (hcv2 _ _ (by omega)).trans k1
        replace k2 := (hcv2 _ _ (by omega)).trans k2
        replace k3 := (hcv2 _ _ (by omega)).trans k3
        replace k4 := (hcv2 _ _ (by omega)).trans k4
        replace z1 : g1 < v2.heap.size := by omega
        replace z2 : g2 < v2.heap.size := by omega
        clear hcv2 hfv2
        obtain ⟨t1, t2⟩ := sgn_bound ((ax - ox) * (ey - oy) - (ay - oy) * (bx - ox))
        generalize (ax - ox) * (ey - oy) - (ay - oy) * (bx - ox) = t at CR RV t1 t2
        have SG := Lib.hid (fun w => sign_any t w)
        generalize sgnI t = sg at SG RV t1 t2
        go_wp2_with fail
        refine (CR.out _).mono ?_
        rintro e vc ⟨rfl, hbvc⟩
        go_wp2_with fail
        refine (SG.out _).mono ?_
        rintro e vd ⟨rfl, rfl⟩
        go_wp2
        go_ret
        exact ⟨ret_i64 RV.out, by repeat' (first | with_reducible assumption | with_reducible exact Below.refl _ _ | (with_reducible refine Below.setCell ?_ ?_ _) | (with_reducible refine Below.alloc ?_ ?_ _) | (with_reducible refine Below.drew ?_) | (with_reducible refine below_dr ?_ _) | (with_reducible refine Below.trans ?_ (Below.mono (by with_reducible assumption) ?_)) | omega | (simp; done) | (simp; omega))⟩
      · have RV := Lib.hid (show 1 = arV ox oy ax ay bx ey from ar_val HV.out X1.out X2.out (ar_one (half_t X1.out hu) (half_f X2.out hv)))
        rw [hu] at L1
        rw [hv] at L2
        clear hu hv
        go_wp2_with fail
        refine (L1.out _).mono ?_
        rintro e v0 ⟨rfl, hbv0⟩
        obtain ⟨hcv0, hfv0⟩ := bcell hbv0
        have zv0 := hbv0.size
        replace k1 := (hcv0 _ _ (by omega)).trans k1
        replace k2 := (hcv0 _ _ (by omega)).trans k2
        replace k3 := (hcv0 _ _ (by omega)).trans k3
        replace k4 := (hcv0 _ _ (by omega)).trans k4
        replace z1 : g1 < v0.heap.size := by omega
        replace z2 : g2 < v0.heap.size := by omega
        clear hcv0 hfv0
        go_wp2_with fail
        refine (L1.out _).mono ?_
        rintro e v1 ⟨rfl, hbv1⟩
        obtain ⟨hcv1, hfv1⟩ := bcell hbv1
        have zv1 := hbv1.size
        replace k1 := (hcv1 _ _ (by omega)).trans k1
        replace k2 := (hcv1 _ _ (by omega)).trans k2
        replace k3 := (hcv1 _ _ (by omega)).trans k3
        replace k4 := (hcv1 _ _ (by omega)).trans k4
        replace z1 : g1 < v1.heap.size := by omega
        replace z2 : g2 < v1.heap.size := by omega
        clear hcv1 hfv1
        go_wp2_with fail
        refine (L2.out _).mono ?_
        rintro e v2 ⟨rfl, hbv2⟩
        obtain ⟨hcv2, hfv2⟩ := bcell hbv2
        have zv2 := hbv2.size
        replace k1 := (hcv2 _ _ (by omega)).trans k1
        replace k2 := (hcv2 _ _ (by omega)).trans k2
        replace k3 := (hcv2 _ _ (by omega)).trans k3
        replace k4 := (hcv2 _ _ (by omega)).trans k4
        replace z1 : g1 < v2.heap.size := by omega
        replace z2 : g2 < v2.heap.size := by omega
        clear hcv2 hfv2
        go_wp2
        go_ret
        exact ⟨ret_i64 RV.out, by repeat' (first | with_reducible assumption | with_reducible exact Below.refl _ _ | (with_reducible refine Below.setCell ?_ ?_ _) | (with_reducible refine Below.alloc ?_ ?_ _) | (with_reducible refine Below.drew ?_) | (with_reducible refine below_dr ?_ _) | (with_reducible refine Below.trans ?_ (Below.mono (by with_reducible assumption) ?_)) | omega | (simp; done) | (simp; omega))⟩
    · rcases (Bool.eq_false_or_eq_true (lowB (bx - ox) (ey - oy))) with hv | hv
      · have RV := Lib.hid (show -1 = arV ox oy ax ay bx ey from ar_val HV.out X1.out X2.out (ar_neg (half_f X1.out hu) (half_t X2.out hv)))
        rw [hu] at L1
        rw [hv] at L2
        clear hu hv
        go_wp2_with fail
        refine (L1.out _).mono ?_
        rintro e v0 ⟨rfl, hbv0⟩
        obtain ⟨hcv0, hfv0⟩ := bcell hbv0
        have zv0 := hbv0.size
        replace k1 := (hcv0 _ _ (by omega)).trans k1
        replace k2 := (hcv0 _ _ (by omega)).trans k2
        replace k3 := (hcv0 _ _ (by omega)).trans k3
        replace k4 := (hcv0 _ _ (by omega)).trans k4
        replace z1 : g1 < v0.heap.size := by omega
        replace z2 : g2 < v0.heap.size := by omega
        clear hcv0 hfv0
        go_wp2_with fail
        refine (L2.out _).mono ?_
        rintro e v1 ⟨rfl, hbv1⟩
        obtain ⟨hcv1, hfv1⟩ := bcell hbv1
        have zv1 := hbv1.size
        replace k1 := (hcv1 _ _ (by omega)).trans k1
        replace k2 := (hcv1 _ _ (by omega)).trans k2
        replace k3 := (hcv1 _ _ (by omega)).trans k3
        replace k4 := (hcv1 _ _ (by omega)).trans k4
        replace z1 : g1 < v1.heap.size := by omega
        replace z2 : g2 < v1.heap.size := by omega
        clear hcv1 hfv1
        go_wp2
        go_ret
        exact ⟨ret_i64 RV.out, by repeat' (first | with_reducible assumption | with_reducible exact Below.refl _ _ | (with_reducible refine Below.setCell ?_ ?_ _) | (with_reducible refine Below.alloc ?_ ?_ _) | (with_reducible refine Below.drew ?_) | (with_reducible refine below_dr ?_ _) | (with_reducible refine Below.trans ?_ (Below.mono (by with_reducible assumption) ?_)) | omega | (simp; done) | (simp; omega))⟩
      · have RV := Lib.hid (show -(sgnI ((ax - ox) * (ey - oy) - (ay - oy) * (bx - ox))) = arV ox oy ax ay bx ey from ar_val HV.out X1.out X2.out (ar_same ((half_f X1.out hu).trans (half_f X2.out hv).symm)))
        rw [hu] at L1
        rw [hv] at L2
        clear hu hv
        go_wp2_with fail
        refine (L1.out _).mono ?_
        rintro e v0 ⟨rfl, hbv0⟩
        obtain ⟨hcv0, hfv0⟩ := bcell hbv0
        have zv0 := hbv0.size
        replace k1 := (hcv0 _ _ (by omega)).trans k1
        replace k2 := (hcv0 _ _ (by omega)).trans k2
        replace k3 := (hcv0 _ _ (by omega)).trans k3
        replace k4 := (hcv0 _ _ (by omega)).trans k4
        replace z1 : g1 < v0.heap.size := by omega
        replace z2 : g2 < v0.heap.size := by omega
        clear hcv0 hfv0
        go_wp2_with fail
        refine (L2.out _).mono ?_
        rintro e v1 ⟨rfl, hbv1⟩
        obtain ⟨hcv1, hfv1⟩ := bcell hbv1
        have zv1 := hbv1.size
        replace k1 := (hcv1 _ _ (by omega)).trans k1
        replace k2 := (hcv1 _ _ (by omega)).trans k2
        replace k3 := (hcv1 _ _ (by omega)).trans k3
        replace k4 := (hcv1 _ _ (by omega)).trans k4
        replace z1 : g1 < v1.heap.size := by omega
        replace z2 : g2 < v1.heap.size := by omega
        clear hcv1 hfv1
        go_wp2_with fail
        refine (L1.out _).mono ?_
        rintro e v2 ⟨rfl, hbv2⟩
        obtain ⟨hcv2, hfv2⟩ := bcell hbv2
        have zv2 := hbv2.size
        replace k1 := (hcv2 _ _ (by omega)).trans k1
        replace k2 := (hcv2 _ _ (by omega)).trans k2
        replace k3 := (hcv2 _ _ (by omega)).trans k3
        replace k4 := (hcv2 _ _ (by omega)).trans k4
        replace z1 : g1 < v2.heap.size := by omega
        replace z2 : g2 < v2.heap.size := by omega
        clear hcv2 hfv2
        obtain ⟨t1, t2⟩ := sgn_bound ((ax - ox) * (ey - oy) - (ay - oy) * (bx - ox))
        generalize (ax - ox) * (ey - oy) - (ay - oy) * (bx - ox) = t at CR RV t1 t2
        have SG := Lib.hid (fun w => sign_any t w)
        generalize sgnI t = sg at SG RV t1 t2
        go_wp2_with fail
        refine (CR.out _).mono ?_
        rintro e vc ⟨rfl, hbvc⟩
        go_wp2_with fail
        refine (SG.out _).mono ?_
        rintro e vd ⟨rfl, rfl⟩
        go_wp2
        go_ret
        exact ⟨ret_i64 RV.out, by repeat' (first | with_reducible assumption | with_reducible exact Below.refl _ _ | (with_reducible refine Below.setCell ?_ ?_ _) | (with_reducible refine Below.alloc ?_ ?_ _) | (with_reducible refine Below.drew ?_) | (with_reducible refine below_dr ?_ _) | (with_reducible refine Below.trans ?_ (Below.mono (by with_reducible assumption) ?_)) | omega | (simp; done) | (simp; omega))⟩
set_option maxHeartbeats 3200000 in
theorem implAr_any (ox oy ax ay bx ey : Int) (w : World) :
    Calls Try.prog 35 #[.agg #[.int .i64 ox, .int .i64 oy], .agg #[.int .i64 ax, .int .i64 ay], .agg #[.int .i64 bx, .int .i64 ey]] w fun e w' => e = .returned (.int .i64 (arV ox oy ax ay bx ey)) ∧ Below w.heap.size w w' := by
  rcases hv : (okB ox oy && okB ax ay && okB bx ey) with _ | _
  · have HV := Lib.hid hv
    clear hv
    go_enter Try.func35, Try.ntmps35
    go_wp2_with fail
    refine (valid3 ox oy ax ay bx ey _ _ (by simp) (by simp [go_sem]) (by simp [go_sem]) (by simp [go_sem]) (by simp [go_sem]) (by simp [go_sem]) (by simp [go_sem])).mono ?_
    rw [HV.out]; rintro e w1 ⟨rfl, hbw1⟩
    go_wp2
    go_ret
    exact ⟨ret_i64 (ar_no HV.out), by repeat' (first | with_reducible assumption | with_reducible exact Below.refl _ _ | (with_reducible refine Below.setCell ?_ ?_ _) | (with_reducible refine Below.alloc ?_ ?_ _) | (with_reducible refine Below.drew ?_) | (with_reducible refine below_dr ?_ _) | (with_reducible refine Below.trans ?_ (Below.mono (by with_reducible assumption) ?_)) | omega | (simp; done) | (simp; omega))⟩
  obtain ⟨vo, va, vb⟩ := and3 hv
  by_cases x1 : ax = ox ∧ ay = oy
  · obtain ⟨rfl, rfl⟩ := x1
    have X := Lib.hid (ar_e (ox := ax) (oy := ay) (ax := ax) (ay := ay) (bx := bx) (ey := ey) (by simp))
    have HV := Lib.hid hv
    clear hv vo va vb
    go_enter Try.func35, Try.ntmps35
    go_wp2_with fail
    refine (valid3 ax ay ax ay bx ey _ _ (by simp) (by simp [go_sem]) (by simp [go_sem]) (by simp [go_sem]) (by simp [go_sem]) (by simp [go_sem]) (by simp [go_sem])).mono ?_
    rw [HV.out]; rintro e w1 ⟨rfl, hbw1⟩
    have g1 : Below w.heap.size w w1 := (by repeat' (first | with_reducible assumption | with_reducible exact Below.refl _ _ | (with_reducible refine Below.setCell ?_ ?_ _) | (with_reducible refine Below.alloc ?_ ?_ _) | (with_reducible refine Below.drew ?_) | (with_reducible refine below_dr ?_ _) | (with_reducible refine Below.trans ?_ (Below.mono (by with_reducible assumption) ?_)) | omega | (simp; done) | (simp; omega)))
    obtain ⟨hcw1, hfw1⟩ := bcell hbw1
    have hzw1 := hbw1.size
    (try simp only [World.size_alloc] at hcw1 hfw1 hzw1)
    have s1 : w1.cell? ⟨w.heap.size, 0, none⟩ = some (.int .i64 ax) := (hcw1 _ _ (by omega)).trans (by first | assumption | (simp [go_sem]; done) | (simp [go_sem, *]; done))
    have s2 : w1.cell? ⟨w.heap.size, 1, none⟩ = some (.int .i64 ay) := (hcw1 _ _ (by omega)).trans (by first | assumption | (simp [go_sem]; done) | (simp [go_sem, *]; done))
    have s3 : w1.cell? ⟨w.heap.size + 1, 0, none⟩ = some (.int .i64 ax) := (hcw1 _ _ (by omega)).trans (by first | assumption | (simp [go_sem]; done) | (simp [go_sem, *]; done))
    have s4 : w1.cell? ⟨w.heap.size + 1, 1, none⟩ = some (.int .i64 ay) := (hcw1 _ _ (by omega)).trans (by first | assumption | (simp [go_sem]; done) | (simp [go_sem, *]; done))
    have s5 : w1.cell? ⟨w.heap.size + 1 + 1, 0, none⟩ = some (.int .i64 bx) := (hcw1 _ _ (by omega)).trans (by first | assumption | (simp [go_sem]; done) | (simp [go_sem, *]; done))
    have s6 : w1.cell? ⟨w.heap.size + 1 + 1, 1, none⟩ = some (.int .i64 ey) := (hcw1 _ _ (by omega)).trans (by first | assumption | (simp [go_sem]; done) | (simp [go_sem, *]; done))
    have szq0 : w.heap.size < w1.heap.size := (by omega)
    have szq1 : w.heap.size + 1 < w1.heap.size := (by omega)
    have sz : w.heap.size + 1 + 1 < w1.heap.size := (by omega)
    clear hcw1 hfw1 hzw1
    go_wp2
    go_ret
    exact ⟨ret_i64 X.out, by repeat' (first | with_reducible assumption | with_reducible exact Below.refl _ _ | (with_reducible refine Below.setCell ?_ ?_ _) | (with_reducible refine Below.alloc ?_ ?_ _) | (with_reducible refine Below.drew ?_) | (with_reducible refine below_dr ?_ _) | (with_reducible refine Below.trans ?_ (Below.mono (by with_reducible assumption) ?_)) | omega | (simp; done) | (simp; omega))⟩
  by_cases x2 : bx = ox ∧ ey = oy
  · obtain ⟨rfl, rfl⟩ := x2
    have X := Lib.hid (ar_e (ox := bx) (oy := ey) (ax := ax) (ay := ay) (bx := bx) (ey := ey) (by simp))
    have HV := Lib.hid hv
    have E1 := eq_pt_no x1
    clear hv vo va vb x1
    go_enter Try.func35, Try.ntmps35
    go_wp2_with fail
    refine (valid3 bx ey ax ay bx ey _ _ (by simp) (by simp [go_sem]) (by simp [go_sem]) (by simp [go_sem]) (by simp [go_sem]) (by simp [go_sem]) (by simp [go_sem])).mono ?_
    rw [HV.out]; rintro e w1 ⟨rfl, hbw1⟩
    have g1 : Below w.heap.size w w1 := (by repeat' (first | with_reducible assumption | with_reducible exact Below.refl _ _ | (with_reducible refine Below.setCell ?_ ?_ _) | (with_reducible refine Below.alloc ?_ ?_ _) | (with_reducible refine Below.drew ?_) | (with_reducible refine below_dr ?_ _) | (with_reducible refine Below.trans ?_ (Below.mono (by with_reducible assumption) ?_)) | omega | (simp; done) | (simp; omega)))
    obtain ⟨hcw1, hfw1⟩ := bcell hbw1
    have hzw1 := hbw1.size
    (try simp only [World.size_alloc] at hcw1 hfw1 hzw1)
    have s1 : w1.cell? ⟨w.heap.size, 0, none⟩ = some (.int .i64 bx) := (hcw1 _ _ (by omega)).trans (by first | assumption | (simp [go_sem]; done) | (simp [go_sem, *]; done))
    have s2 : w1.cell? ⟨w.heap.size, 1, none⟩ = some (.int .i64 ey) := (hcw1 _ _ (by omega)).trans (by first | assumption | (simp [go_sem]; done) | (simp [go_sem, *]; done))
    have s3 : w1.cell? ⟨w.heap.size + 1, 0, none⟩ = some (.int .i64 ax) := (hcw1 _ _ (by omega)).trans (by first | assumption | (simp [go_sem]; done) | (simp [go_sem, *]; done))
    have s4 : w1.cell? ⟨w.heap.size + 1, 1, none⟩ = some (.int .i64 ay) := (hcw1 _ _ (by omega)).trans (by first | assumption | (simp [go_sem]; done) | (simp [go_sem, *]; done))
    have s5 : w1.cell? ⟨w.heap.size + 1 + 1, 0, none⟩ = some (.int .i64 bx) := (hcw1 _ _ (by omega)).trans (by first | assumption | (simp [go_sem]; done) | (simp [go_sem, *]; done))
    have s6 : w1.cell? ⟨w.heap.size + 1 + 1, 1, none⟩ = some (.int .i64 ey) := (hcw1 _ _ (by omega)).trans (by first | assumption | (simp [go_sem]; done) | (simp [go_sem, *]; done))
    have szq0 : w.heap.size < w1.heap.size := (by omega)
    have szq1 : w.heap.size + 1 < w1.heap.size := (by omega)
    have sz : w.heap.size + 1 + 1 < w1.heap.size := (by omega)
    clear hcw1 hfw1 hzw1
    go_wp2
    go_ret
    exact ⟨ret_i64 X.out, by repeat' (first | with_reducible assumption | with_reducible exact Below.refl _ _ | (with_reducible refine Below.setCell ?_ ?_ _) | (with_reducible refine Below.alloc ?_ ?_ _) | (with_reducible refine Below.drew ?_) | (with_reducible refine below_dr ?_ _) | (with_reducible refine Below.trans ?_ (Below.mono (by with_reducible assumption) ?_)) | omega | (simp; done) | (simp; omega))⟩
  exact implAr_ne ox oy ax ay bx ey w vo va vb x1 x2
set_option maxHeartbeats 4000000 in
theorem walk_CompareAround (ox oy ax ay bx ey : Int) (w_ox : (Lit.int .i64 ox).wf = true) (w_oy : (Lit.int .i64 oy).wf = true) (w_ax : (Lit.int .i64 ax).wf = true) (w_ay : (Lit.int .i64 ay).wf = true) (w_bx : (Lit.int .i64 bx).wf = true) (w_ey : (Lit.int .i64 ey).wf = true) (w : World) :
    Calls Try.prog 12 #[.agg #[.int .i64 ox, .int .i64 oy], .agg #[.int .i64 ax, .int .i64 ay], .agg #[.int .i64 bx, .int .i64 ey]] w fun e w' => e = .returned (.bool true) ∧ Below w.heap.size w w' := by
  have i_ox := i64_bounds w_ox
  have i_oy := i64_bounds w_oy
  have i_ax := i64_bounds w_ax
  have i_ay := i64_bounds w_ay
  have i_bx := i64_bounds w_bx
  have i_ey := i64_bounds w_ey
  have C1 := Lib.hid (fun w => specAr_any ox oy ax ay bx ey w)
  have C2 := Lib.hid (fun w => implAr_any ox oy ax ay bx ey w)
  generalize arV ox oy ax ay bx ey = v at C1 C2
  clear i_ox w_ox i_oy w_oy i_ax w_ax i_ay w_ay i_bx w_bx i_ey w_ey
  have e_v : (v != v) = false := by simp
  go_enter Try.func12, Try.ntmps12
  go_wp2_with fail
  generalize hW : (((w.alloc (.cells #[.int .i64 ox, .int .i64 oy] 23)).alloc (.cells #[.int .i64 ax, .int .i64 ay] 23)).alloc (.cells #[.int .i64 bx, .int .i64 ey] 23)) = W0
  have g0 : Below w.heap.size w W0 := by rw [← hW]; repeat' (first | assumption | exact Below.refl _ _ | (refine Below.setCell ?_ ?_ _) | (refine Below.alloc ?_ ?_ _) | (refine below_dr ?_ _) | exact Nat.le_refl _ | (simp; done) | (simp; omega))
  have s1 : W0.cell? ⟨w.heap.size, 0, none⟩ = some (.int .i64 ox) := by rw [← hW]; simp [go_sem]
  have s2 : W0.cell? ⟨w.heap.size, 1, none⟩ = some (.int .i64 oy) := by rw [← hW]; simp [go_sem]
  have s3 : W0.cell? ⟨w.heap.size + 1, 0, none⟩ = some (.int .i64 ax) := by rw [← hW]; simp [go_sem]
  have s4 : W0.cell? ⟨w.heap.size + 1, 1, none⟩ = some (.int .i64 ay) := by rw [← hW]; simp [go_sem]
  have s5 : W0.cell? ⟨w.heap.size + 1 + 1, 0, none⟩ = some (.int .i64 bx) := by rw [← hW]; simp [go_sem]
  have s6 : W0.cell? ⟨w.heap.size + 1 + 1, 1, none⟩ = some (.int .i64 ey) := by rw [← hW]; simp [go_sem]
  have sz : w.heap.size + 1 + 1 < W0.heap.size := by rw [← hW]; simp
  clear hW
  go_region_held3 (fun w' => w'.cell? ⟨w.heap.size, 0, none⟩ = some (.int .i64 ox) ∧ w'.cell? ⟨w.heap.size, 1, none⟩ = some (.int .i64 oy) ∧ w'.cell? ⟨w.heap.size + 1, 0, none⟩ = some (.int .i64 ax) ∧ w'.cell? ⟨w.heap.size + 1, 1, none⟩ = some (.int .i64 ay) ∧ w'.cell? ⟨w.heap.size + 1 + 1, 0, none⟩ = some (.int .i64 bx) ∧ w'.cell? ⟨w.heap.size + 1 + 1, 1, none⟩ = some (.int .i64 ey) ∧ w.heap.size + 1 + 1 < w'.heap.size)
    (first | ((try dsimp only); (repeat' apply And.intro); all_goals (first | assumption | omega | (simp (disch := omega) [*]; done) | (simp; omega))) | fail)
    (first
      | (go_at_call 15; (with_reducible refine (toPt_any ox oy _).mono ?_); rintro e wA0 ⟨rfl, hbwA0⟩; obtain ⟨hcwA0, hfwA0⟩ := bcell hbwA0; have hzwA0 := hbwA0.size; (try simp only [World.size_drew] at hcwA0 hfwA0 hzwA0); (try simp only [World.size_alloc] at hcwA0 hfwA0 hzwA0))
      | (go_at_call 15; (with_reducible refine (toPt_any ax ay _).mono ?_); rintro e wA1 ⟨rfl, hbwA1⟩; obtain ⟨hcwA1, hfwA1⟩ := bcell hbwA1; have hzwA1 := hbwA1.size; (try simp only [World.size_drew] at hcwA1 hfwA1 hzwA1); (try simp only [World.size_alloc] at hcwA1 hfwA1 hzwA1))
      | (go_at_call 15; (with_reducible refine (toPt_any bx ey _).mono ?_); rintro e wA2 ⟨rfl, hbwA2⟩; obtain ⟨hcwA2, hfwA2⟩ := bcell hbwA2; have hzwA2 := hbwA2.size; (try simp only [World.size_drew] at hcwA2 hfwA2 hzwA2); (try simp only [World.size_alloc] at hcwA2 hfwA2 hzwA2))
      | (go_at_call 34; ((with_reducible refine (C1.out _).mono ?_); rintro e wC ⟨rfl, hbwC⟩; obtain ⟨hcwC, hfwC⟩ := bcell hbwC; have hzwC := hbwC.size; (try simp only [World.size_drew] at hcwC hfwC hzwC); (try simp only [World.size_alloc] at hcwC hfwC hzwC))))
  have hBwC : Below W0.heap.size W0 wC := by repeat' (first | with_reducible assumption | with_reducible exact Below.refl _ _ | (with_reducible refine Below.setCell ?_ ?_ _) | (with_reducible refine Below.alloc ?_ ?_ _) | (with_reducible refine Below.drew ?_) | (with_reducible refine below_dr ?_ _) | (with_reducible refine Below.trans ?_ (Below.mono (by with_reducible assumption) ?_)) | omega | (simp; done) | (simp; omega))
  obtain ⟨hcwC', hfwC'⟩ := bcell hBwC
  have hzwC' := hBwC.size
  have t1 : wC.cell? ⟨w.heap.size, 0, none⟩ = some (.int .i64 ox) := (hcwC' _ _ (by omega)).trans s1
  have t2 : wC.cell? ⟨w.heap.size, 1, none⟩ = some (.int .i64 oy) := (hcwC' _ _ (by omega)).trans s2
  have t3 : wC.cell? ⟨w.heap.size + 1, 0, none⟩ = some (.int .i64 ax) := (hcwC' _ _ (by omega)).trans s3
  have t4 : wC.cell? ⟨w.heap.size + 1, 1, none⟩ = some (.int .i64 ay) := (hcwC' _ _ (by omega)).trans s4
  have t5 : wC.cell? ⟨w.heap.size + 1 + 1, 0, none⟩ = some (.int .i64 bx) := (hcwC' _ _ (by omega)).trans s5
  have t6 : wC.cell? ⟨w.heap.size + 1 + 1, 1, none⟩ = some (.int .i64 ey) := (hcwC' _ _ (by omega)).trans s6
  have tz : w.heap.size + 1 + 1 < wC.heap.size := by omega
  clear hcwC hfwC hcwA0 hfwA0 hcwA1 hfwA1 hcwA2 hfwA2
  go_wp2_with fail
  go_region_held3 (fun w' => w'.cell? ⟨w.heap.size, 0, none⟩ = some (.int .i64 ox) ∧ w'.cell? ⟨w.heap.size, 1, none⟩ = some (.int .i64 oy) ∧ w'.cell? ⟨w.heap.size + 1, 0, none⟩ = some (.int .i64 ax) ∧ w'.cell? ⟨w.heap.size + 1, 1, none⟩ = some (.int .i64 ay) ∧ w'.cell? ⟨w.heap.size + 1 + 1, 0, none⟩ = some (.int .i64 bx) ∧ w'.cell? ⟨w.heap.size + 1 + 1, 1, none⟩ = some (.int .i64 ey) ∧ w.heap.size + 1 + 1 < w'.heap.size)
    (first | ((try dsimp only); (repeat' apply And.intro); all_goals (first | assumption | omega | (simp (disch := omega) [*]; done) | (simp; omega))) | fail)
    (first
      | (go_at_call 15; (with_reducible refine (toPt_any ox oy _).mono ?_); rintro e wD0 ⟨rfl, hbwD0⟩; obtain ⟨hcwD0, hfwD0⟩ := bcell hbwD0; have hzwD0 := hbwD0.size; (try simp only [World.size_drew] at hcwD0 hfwD0 hzwD0); (try simp only [World.size_alloc] at hcwD0 hfwD0 hzwD0))
      | (go_at_call 15; (with_reducible refine (toPt_any ax ay _).mono ?_); rintro e wD1 ⟨rfl, hbwD1⟩; obtain ⟨hcwD1, hfwD1⟩ := bcell hbwD1; have hzwD1 := hbwD1.size; (try simp only [World.size_drew] at hcwD1 hfwD1 hzwD1); (try simp only [World.size_alloc] at hcwD1 hfwD1 hzwD1))
      | (go_at_call 15; (with_reducible refine (toPt_any bx ey _).mono ?_); rintro e wD2 ⟨rfl, hbwD2⟩; obtain ⟨hcwD2, hfwD2⟩ := bcell hbwD2; have hzwD2 := hbwD2.size; (try simp only [World.size_drew] at hcwD2 hfwD2 hzwD2); (try simp only [World.size_alloc] at hcwD2 hfwD2 hzwD2))
      | (go_at_call 35; ((with_reducible refine (C2.out _).mono ?_); rintro e wF ⟨rfl, hbwF⟩; obtain ⟨hcwF, hfwF⟩ := bcell hbwF; have hzwF := hbwF.size; (try simp only [World.size_drew] at hcwF hfwF hzwF); (try simp only [World.size_alloc] at hcwF hfwF hzwF))))
  go_wp2
  go_ret
  exact ⟨rfl, by repeat' (first | with_reducible assumption | with_reducible exact Below.refl _ _ | (with_reducible refine Below.setCell ?_ ?_ _) | (with_reducible refine Below.alloc ?_ ?_ _) | (with_reducible refine Below.drew ?_) | (with_reducible refine below_dr ?_ _) | (with_reducible refine Below.trans ?_ (Below.mono (by with_reducible assumption) ?_)) | omega | (simp; done) | (simp; omega))⟩
end Go.Proofs.Ytiljdnfhojpgnaa
