/- Walks: whether a set of glyphs is valid, on the reference's side. -/
import Derived.Test.YtelefmogmloniaaGpc
namespace Go.Proofs.Ytelefmogmloniaa
open Go.RowKit
set_option linter.unusedVariables false
theorem vG_code {d : DGlyph} (h : vG d = true) : -1 ≤ d.2.1 := by
  obtain ⟨a0, a1, a2, a3, a4, a5, a6⟩ := d
  rw [vG_eq] at h
  simp only [Bool.and_eq_true, decide_eq_true_eq] at h
  exact h.1.1.1.1.2.1
theorem vG_name {d : DGlyph} (h : vG d = true) : nameB d.1.data.toList = true := by
  obtain ⟨a0, a1, a2, a3, a4, a5, a6⟩ := d
  rw [vG_eq] at h
  simp only [Bool.and_eq_true, decide_eq_true_eq] at h
  exact h.1.1.1.1.1
section
variable {l : List DGlyph} {k j : Nat} {a b : DGlyph}
theorem vSl_no1 (ha : l[k]? = some a) (h : vG a = false) : vSl l = false := by unfold vSl; rw [all_no ha h]; rfl
theorem vSl_no2 (ha : l[k]? = some a) (h : nmHas gN l k (gN a).data.toList = true) : vSl l = false := by unfold vSl; rw [← nmOk_no2 (nm := gN) ha h]; simp
theorem vSl_no3 (ha : l[k]? = some a) (h : cdHas l k a.2.1 = true) : vSl l = false := by unfold vSl; rw [cd_no ha h]; simp
theorem vSl_yes (h1 : alU vG l l.length) (h2 : nmUp gN l l.length = true) (h3 : cdUp l l.length = true) : vSl l = true := by
  unfold vSl nmOk
  rw [all_yes h1, h2, h3]; rfl
/-- Glyph j ahead of glyph k: no clash keeps both words. -/
theorem clash_no1 (hj : l[j]? = some b) (h : nmHas gN l j (gN a).data.toList = false) (hc : (decide (b.1.data.toList = a.1.data.toList) || (decide (0 ≤ b.2.1) && decide (b.2.1 = a.2.1))) = false) : nmHas gN l (j + 1) (gN a).data.toList = false := by
  rw [nmHas_succ (nm := gN) hj]
  simp only [Bool.or_eq_false_iff, decide_eq_false_iff_not] at hc
  simp only
  rw [if_neg (fun e => hc.1 e.symm)]
  exact h
theorem clash_no2 (hj : l[j]? = some b) (hv : vG b = true) (h : cdHas l j a.2.1 = false) (hc : (decide (b.1.data.toList = a.1.data.toList) || (decide (0 ≤ b.2.1) && decide (b.2.1 = a.2.1))) = false) : cdHas l (j + 1) a.2.1 = false := by
  rw [cdHas_succ hj]
  simp only
  split
  · rename_i e
    have := vG_code hv
    simp only [Bool.or_eq_false_iff, Bool.and_eq_false_iff, decide_eq_false_iff_not] at hc
    rw [decide_eq_false_iff_not]
    rcases hc.2 with h1 | h1
    · omega
    · exact absurd e.symm h1
  · exact h
theorem clash_yes (ha : l[k]? = some a) (hjk : j < k) (hj : l[j]? = some b) (hc : (decide (b.1.data.toList = a.1.data.toList) || (decide (0 ≤ b.2.1) && decide (b.2.1 = a.2.1))) = true) : vSl l = false := by
  simp only [Bool.or_eq_true, Bool.and_eq_true, decide_eq_true_eq] at hc
  rcases hc with h | ⟨h1, h2⟩
  · refine vSl_no2 ha ?_
    show nmHas gN l k a.1.data.toList = true
    rw [← h]
    exact nmHas_mono (nm := gN) hjk hj
  · refine vSl_no3 ha ?_
    rw [← h2]
    exact cdHas_mono hjk hj (by omega)
end
theorem len_eq_dec (a b : Nat) : ((a : Int) == (b : Int)) = decide (a = b) := by
  by_cases h : a = b
  · subst h; simp
  · rw [decide_eq_false h, beq_eq_false_iff_ne]; omega
set_option maxRecDepth 100000 in
set_option maxHeartbeats 12800000 in
theorem l17Ok_any (u : Int) (l : List DGlyph) (A : Option Addr) (c b p : Nat) (w : World) (ht : totRow totGlyph l ≤ 1048576) (hb : b < w.heap.size) (s0 : w.cell? ⟨b, p, none⟩ = some (.int .i64 u)) (s1 : w.cell? ⟨b, p + 1, none⟩ = some (.slice A l.length c)) (r : Row RvGlyph 7 w w.heap.size A l) :
    Calls Try.prog 89 #[.pointer (some ⟨b, p, none⟩)] w fun e w' => e = .returned (.bool (vS (u, l))) ∧ Below w.heap.size w w' := by
  have hll := Nat.le_trans (totRow_len totGlyph l) ht
  have hv : vS (u, l) = ((decide (16 ≤ u ∧ u ≤ 16384) && decide (l.length ≤ 40)) && vSl l && decide ((ordL (psOf l)).length = l.length)) := rfl
  rw [hv]
  clear hv
  obtain ⟨vs, hvs⟩ : ∃ v, v = vSl l := ⟨_, rfl⟩
  rw [← hvs]
  have HVS := Lib.hid hvs
  clear hvs
  have HI := Lib.hid (glyphs_le ht)
  by_cases hu : 16 ≤ u ∧ u ≤ 16384
  case neg =>
    rw [decide_eq_false hu]
    go_enter Try.func89, Try.ntmps89
    go_wp2_with fail
    refine (l00In_no _ _ _ _ (by omega)).mono ?_
    rintro e wI ⟨rfl, rfl⟩
    go_wp2_with fail
    go_ret
    exact ⟨ret_bool (by simp), by repeat' (first | with_reducible assumption | with_reducible exact Below.refl _ _ | (with_reducible refine Below.setCell ?_ ?_ _) | (with_reducible refine Below.alloc ?_ ?_ _) | (with_reducible refine Below.drew ?_) | (with_reducible refine below_dr ?_ _) | (with_reducible refine Below.trans ?_ (Below.mono (by with_reducible assumption) ?_)) | omega | (simp; done) | (simp; omega))⟩
  case pos =>
    rw [decide_eq_true hu]
    obtain ⟨hu1, hu2⟩ := hu
    by_cases h40 : l.length ≤ 40
    case neg =>
      have q40 : (40 : Int) < l.length := by omega
      rw [decide_eq_false h40]
      go_enter Try.func89, Try.ntmps89
      go_wp2_with fail
      refine (l00In_yes _ _ _ _ hu1 hu2).mono ?_
      rintro e wI ⟨rfl, rfl⟩
      go_wp2_with fail
      go_ret
      exact ⟨ret_bool (by simp), by repeat' (first | with_reducible assumption | with_reducible exact Below.refl _ _ | (with_reducible refine Below.setCell ?_ ?_ _) | (with_reducible refine Below.alloc ?_ ?_ _) | (with_reducible refine Below.drew ?_) | (with_reducible refine below_dr ?_ _) | (with_reducible refine Below.trans ?_ (Below.mono (by with_reducible assumption) ?_)) | omega | (simp; done) | (simp; omega))⟩
    case pos =>
      rw [decide_eq_true h40]
      have CO := Lib.hid (fun w1 hb1 s1 r => l17Order_any l A c b p w1 h40 ht hb1 s1 r)
      obtain ⟨N, hN⟩ : ∃ N, N = (ordL (psOf l)).length := ⟨_, rfl⟩
      rw [← hN] at CO ⊢
      clear hN
      obtain ⟨n, hn⟩ : ∃ n, n = l.length := ⟨_, rfl⟩
      rw [← hn] at h40 hll s1 CO ⊢
      have HN := Lib.hid hn
      clear hn ht
      have q40 : ¬ (40 : Int) < n := by omega
      have F := len_eq_dec N n
      generalize decide (N = n) = vn at F ⊢
      go_enter Try.func89, Try.ntmps89
      go_wp2_with fail
      refine (l00In_yes _ _ _ _ hu1 hu2).mono ?_
      rintro e wI ⟨rfl, rfl⟩
      clear hu1 hu2
      go_wp2_with fail
      go_loopw [3, 4] (fun i _ wr => ∃ k : Nat, k ≤ n ∧ i = .int .i64 k ∧ alU vG l k ∧ nmUp gN l k = true ∧ cdUp l k = true ∧ Below w.heap.size w wr) (fun i _ _ => n - (intOf i).toNat)
      case atStart => exact ⟨0, Nat.zero_le _, rfl, alU_zero, nmUp_zero, cdUp_zero, by repeat' (first | with_reducible assumption | with_reducible exact Below.refl _ _ | (with_reducible refine Below.setCell ?_ ?_ _) | (with_reducible refine Below.alloc ?_ ?_ _) | (with_reducible refine Below.drew ?_) | (with_reducible refine below_dr ?_ _) | (with_reducible refine Below.trans ?_ (Below.mono (by with_reducible assumption) ?_)) | omega | (simp; done) | (simp; omega))⟩
      case round =>
        obtain ⟨k, hk, rfl, hal, hup, hcd, hbl⟩ := hrel
        have HAL := Lib.hid hal
        have HUP := Lib.hid hup
        have HCD := Lib.hid hcd
        clear hal hup hcd
        have zr := hbl.size
        have s1z : wr.cell? ⟨b, p + 1, none⟩ = some (.slice A n c) := (hbl.cell (p := ⟨b, p + 1, none⟩) hb).trans s1
        by_cases hlt : k < n
        case neg =>
          obtain rfl : n = k := by omega
          obtain rfl : vs = true := HVS.out.trans (vSl_yes (by have := HAL.out; rw [HN.out] at this; exact this) (by have := HUP.out; rw [HN.out] at this; exact this) (by have := HCD.out; rw [HN.out] at this; exact this))
          have hbw : b < wr.heap.size := by omega
          have rr := (Row.carry (w' := wr) r hbl (Nat.le_refl _)).more (B' := wr.heap.size) (by omega)
          go_wp2_with fail
          go_region_held3 (fun w' => (∀ b o, b < wr.heap.size → w'.cell? ⟨b, o, none⟩ = wr.cell? ⟨b, o, none⟩) ∧ wr.heap.size ≤ w'.heap.size)
            (first | ((try dsimp only); exact ⟨fun b o h => (by (repeat (first | with_reducible exact rfl | (with_reducible refine (cell_drew_at _ _).trans ?_) | (with_reducible refine (cell_set_at _ _ (by first | omega | (simp; done) | (simp; omega))).trans ?_) | (with_reducible refine (cell_alloc_at _ _ (by first | omega | (simp; done) | (simp; omega))).trans ?_) | (with_reducible refine (hcwO b o (by first | omega | (simp; done) | (simp; omega))).trans ?_)))), (by first | omega | (simp; done) | (simp; omega))⟩) | fail)
            (first | (go_at_call 106; (refine (CO.out _ ?_ ?_ ?_).mono ?_); (focus (first | omega | (simp; omega))); (focus (first | assumption | exact s1z)); (focus (first | exact rr | exact rr.drew)); intro e wO hq; obtain ⟨A', c', rfl, -, hbwO⟩ := hq; obtain ⟨hcwO, hfwO⟩ := bcell hbwO; have hzwO := hbwO.size; (try simp only [World.size_drew] at hcwO hfwO hzwO)))
          all_goals
            go_wp2_with fail
            go_ret
            exact ⟨ret_bool (by cases vn <;> rfl), by repeat' (first | with_reducible assumption | with_reducible exact Below.refl _ _ | (with_reducible refine Below.setCell ?_ ?_ _) | (with_reducible refine Below.alloc ?_ ?_ _) | (with_reducible refine Below.drew ?_) | (with_reducible refine below_dr ?_ _) | (with_reducible refine Below.trans ?_ (Below.mono (by with_reducible assumption) ?_)) | omega | (simp; done) | (simp; omega))⟩
        case pos =>
          obtain ⟨⟨x0, x1, x2, x3l, x4l, x5l, x6⟩, ha⟩ : ∃ a, l[k]? = some a := ⟨l[k]'(by have := HN.out; omega), List.getElem?_eq_getElem (by have := HN.out; omega)⟩
          obtain ⟨g, o, rowc, hAd, hg, hRc, hcc⟩ := (Row.carry (w' := wr) r hbl (Nat.le_refl _)).elem ha
          obtain ⟨x3A, x3c, x4A, x4c, x5A, x5c, rfl, u_x3, u_x4, u_x5⟩ := hRc
          have c0 : wr.cell? ⟨g, o + k * 7, none⟩ = some (.string x0) := hcc 0 _ rfl
          have c1 : wr.cell? ⟨g, o + k * 7 + 1, none⟩ = some (.int .i64 x1) := hcc 1 _ rfl
          have c2 : wr.cell? ⟨g, o + k * 7 + 2, none⟩ = some (.int .i64 x2) := hcc 2 _ rfl
          have c3 : wr.cell? ⟨g, o + k * 7 + 3, none⟩ = some (.slice x3A x3l.length x3c) := hcc 3 _ rfl
          have c4 : wr.cell? ⟨g, o + k * 7 + 4, none⟩ = some (.slice x4A x4l.length x4c) := hcc 4 _ rfl
          have c5 : wr.cell? ⟨g, o + k * 7 + 5, none⟩ = some (.slice x5A x5l.length x5c) := hcc 5 _ rfl
          have c6 : wr.cell? ⟨g, o + k * 7 + 6, none⟩ = some (.string x6) := hcc 6 _ rfl
          clear hcc
          have HAD := Lib.hid hAd
          clear hAd
          have HA := Lib.hid ha
          have hti := HI.out k _ ha
          have hgw : g < wr.heap.size := by omega
          have hki : (k : Int) < (n : Int) := by omega
          rw [HAD.out] at s1z
          have CG := l17Glyph_any x0 x1 x2 x3A x3c x3l x4A x4c x4l x5A x5c x5l x6 g (o + k * 7) wr hti hgw c0 c1 c2 c3 c4 c5 c6 (u_x3.more (by omega)) (u_x4.more (by omega)) (u_x5.more (by omega))
          rcases hv : vG (x0, x1, x2, x3l, x4l, x5l, x6) with _ | _
          case false =>
            rw [hv] at CG
            have CGH := Lib.hid CG
            obtain rfl : vs = false := HVS.out.trans (vSl_no1 ha hv)
            clear CG hv ha
            go_wp2_with fail
            refine CGH.out.mono ?_
            rintro e wG ⟨rfl, hbG⟩
            go_wp2_with fail
            go_ret
            exact ⟨ret_bool (by simp), by repeat' (first | with_reducible assumption | with_reducible exact Below.refl _ _ | (with_reducible refine Below.setCell ?_ ?_ _) | (with_reducible refine Below.alloc ?_ ?_ _) | (with_reducible refine Below.drew ?_) | (with_reducible refine below_dr ?_ _) | (with_reducible refine Below.trans ?_ (Below.mono (by with_reducible assumption) ?_)) | omega | (simp; done) | (simp; omega))⟩
          case true =>
            rw [hv] at CG
            have CGH := Lib.hid CG
            have HV := Lib.hid hv
            clear CG hv ha
            go_wp2_with fail
            refine CGH.out.mono ?_
            rintro e wG ⟨rfl, hbG⟩
            have hbg : Below w.heap.size w wG := by repeat' (first | with_reducible assumption | with_reducible exact Below.refl _ _ | (with_reducible refine Below.setCell ?_ ?_ _) | (with_reducible refine Below.alloc ?_ ?_ _) | (with_reducible refine Below.drew ?_) | (with_reducible refine below_dr ?_ _) | (with_reducible refine Below.trans ?_ (Below.mono (by with_reducible assumption) ?_)) | omega | (simp; done) | (simp; omega))
            have zg := hbg.size
            clear c0 c1 c2 c3 c4 c5 c6 u_x3 u_x4 u_x5 s1z
            go_wp2_with fail
            go_loopw [4] (fun i wr => ∃ j : Nat, j ≤ k ∧ i = .int .i64 j ∧ nmHas gN l j x0.data.toList = false ∧ cdHas l j x1 = false ∧ Below w.heap.size w wr) (fun i _ => k - (intOf i).toNat)
            case atStart => exact ⟨0, Nat.zero_le _, rfl, by simp [nmHas], by simp [cdHas, cds], hbg⟩
            case round =>
              obtain ⟨j, hj, rfl, hnh, hch, hb2⟩ := hrel
              have HNH := Lib.hid hnh
              have HCH := Lib.hid hch
              clear hnh hch
              have z2 := hb2.size
              by_cases hlj : j < k
              case neg =>
                obtain rfl : k = j := by omega
                go_wp2_with fail
                go_roundw
                case rel => exact ⟨k + 1, by omega, by go_num, alU_succ HAL.out HA.out HV.out, nmUp_succ HUP.out HA.out (vG_name HV.out) HNH.out, cdUp_succ HCD.out HA.out HCH.out, hb2⟩
                case measure => simp [intOf]; omega
              case pos =>
                obtain ⟨⟨y0, y1, y2, y3l, y4l, y5l, y6⟩, hd⟩ : ∃ a, l[j]? = some a := ⟨l[j]'(by have := HN.out; omega), List.getElem?_eq_getElem (by have := HN.out; omega)⟩
                obtain ⟨gd, od, rowd, hAd2, hgd, hRd, hcd⟩ := (Row.carry (w' := wr) r hb2 (Nat.le_refl _)).elem hd
                obtain ⟨y3A, y3c, y4A, y4c, y5A, y5c, rfl, q_y3, q_y4, q_y5⟩ := hRd
                have d0 : wr.cell? ⟨gd, od + j * 7, none⟩ = some (.string y0) := hcd 0 _ rfl
                have d1 : wr.cell? ⟨gd, od + j * 7 + 1, none⟩ = some (.int .i64 y1) := hcd 1 _ rfl
                have d2 : wr.cell? ⟨gd, od + j * 7 + 2, none⟩ = some (.int .i64 y2) := hcd 2 _ rfl
                have d3 : wr.cell? ⟨gd, od + j * 7 + 3, none⟩ = some (.slice y3A y3l.length y3c) := hcd 3 _ rfl
                have d4 : wr.cell? ⟨gd, od + j * 7 + 4, none⟩ = some (.slice y4A y4l.length y4c) := hcd 4 _ rfl
                have d5 : wr.cell? ⟨gd, od + j * 7 + 5, none⟩ = some (.slice y5A y5l.length y5c) := hcd 5 _ rfl
                have d6 : wr.cell? ⟨gd, od + j * 7 + 6, none⟩ = some (.string y6) := hcd 6 _ rfl
                clear hcd
                have HD := Lib.hid hd
                obtain ⟨rfl, rfl⟩ : g = gd ∧ o = od := by
                  have h := HAD.out.symm.trans hAd2
                  injection h with h
                  injection h with h1 h2
                  exact ⟨h1, h2⟩
                clear hAd2 hd
                obtain ⟨g2, o2, row2, hA2, -, hR2, hc2⟩ := (Row.carry (w' := wr) r hb2 (Nat.le_refl _)).elem HA.out
                have hA3 := HAD.out.symm.trans hA2
                injection hA3 with hA3
                injection hA3 with h1 h2
                subst h1 h2
                obtain ⟨v3A, v3c, v4A, v4c, v5A, v5c, rfl, -, -, -⟩ := hR2
                have e0 : wr.cell? ⟨g, o + k * 7, none⟩ = some (.string x0) := hc2 0 _ rfl
                have e1 : wr.cell? ⟨g, o + k * 7 + 1, none⟩ = some (.int .i64 x1) := hc2 1 _ rfl
                clear hc2 hA2
                have hgw2 : g < wr.heap.size := by omega
                have hjk : (j : Int) < (n : Int) := by omega
                have hjk2 : (j : Int) < (k : Int) := by omega
                have s1q : wr.cell? ⟨b, p + 1, none⟩ = some (.slice (some ⟨g, o, none⟩) n c) := by rw [← HAD.out]; exact (hb2.cell (p := ⟨b, p + 1, none⟩) hb).trans s1
                have hbq : b < wr.heap.size := by omega
                have CC := Lib.hid (fun w1 z1 z2 e0 e1 f0 f1 => l17Clash_any y0 x0 y1 x1 g (o + j * 7) g (o + k * 7) w1 z1 z2 e0 e1 f0 f1)
                rcases hc : (decide (y0.data.toList = x0.data.toList) || (decide (0 ≤ y1) && decide (y1 = x1))) with _ | _
                case true =>
                  simp only [hc] at CC
                  have HCC := Lib.hid hc
                  clear hc
                  go_wp2_with fail
                  go_region_held3 (fun w' => (∀ b o, b < wr.heap.size → w'.cell? ⟨b, o, none⟩ = wr.cell? ⟨b, o, none⟩) ∧ wr.heap.size ≤ w'.heap.size)
                    (first | ((try dsimp only); exact ⟨fun b o h => (by (repeat (first | with_reducible exact rfl | (with_reducible refine (cell_drew_at _ _).trans ?_) | (with_reducible refine (cell_set_at _ _ (by first | omega | (simp; done) | (simp; omega))).trans ?_) | (with_reducible refine (cell_alloc_at _ _ (by first | omega | (simp; done) | (simp; omega))).trans ?_) | (with_reducible refine (hcw9 b o (by first | omega | (simp; done) | (simp; omega))).trans ?_)))), (by first | omega | (simp; done) | (simp; omega))⟩) | fail)
                    (first | (go_at_call 151; (refine (CC.out _ (by first | omega | (simp; omega)) (by first | omega | (simp; omega)) (by first | exact d0 | (simp [*]; done)) (by first | exact d1 | (simp [*]; done)) (by first | exact e0 | (simp [*]; done)) (by first | exact e1 | (simp [*]; done))).mono ?_); rintro e w9 ⟨rfl, hb9⟩; obtain ⟨hcw9, hfw9⟩ := bcell hb9; have hzw9 := hb9.size; (try simp only [World.size_drew] at hcw9 hfw9 hzw9)))
                  all_goals
                    obtain rfl : vs = false := HVS.out.trans (clash_yes HA.out hlj HD.out HCC.out)
                    go_wp2_with fail
                    go_ret
                    exact ⟨ret_bool (by simp), by repeat' (first | with_reducible assumption | with_reducible exact Below.refl _ _ | (with_reducible refine Below.setCell ?_ ?_ _) | (with_reducible refine Below.alloc ?_ ?_ _) | (with_reducible refine Below.drew ?_) | (with_reducible refine below_dr ?_ _) | (with_reducible refine Below.trans ?_ (Below.mono (by with_reducible assumption) ?_)) | omega | (simp; done) | (simp; omega))⟩
                case false =>
                  simp only [hc] at CC
                  have HCC := Lib.hid hc
                  clear hc
                  go_wp2_with fail
                  go_region_held3 (fun w' => (∀ b o, b < wr.heap.size → w'.cell? ⟨b, o, none⟩ = wr.cell? ⟨b, o, none⟩) ∧ wr.heap.size ≤ w'.heap.size)
                    (first | ((try dsimp only); exact ⟨fun b o h => (by (repeat (first | with_reducible exact rfl | (with_reducible refine (cell_drew_at _ _).trans ?_) | (with_reducible refine (cell_set_at _ _ (by first | omega | (simp; done) | (simp; omega))).trans ?_) | (with_reducible refine (cell_alloc_at _ _ (by first | omega | (simp; done) | (simp; omega))).trans ?_) | (with_reducible refine (hcw9 b o (by first | omega | (simp; done) | (simp; omega))).trans ?_)))), (by first | omega | (simp; done) | (simp; omega))⟩) | fail)
                    (first | (go_at_call 151; (refine (CC.out _ (by first | omega | (simp; omega)) (by first | omega | (simp; omega)) (by first | exact d0 | (simp [*]; done)) (by first | exact d1 | (simp [*]; done)) (by first | exact e0 | (simp [*]; done)) (by first | exact e1 | (simp [*]; done))).mono ?_); rintro e w9 ⟨rfl, hb9⟩; obtain ⟨hcw9, hfw9⟩ := bcell hb9; have hzw9 := hb9.size; (try simp only [World.size_drew] at hcw9 hfw9 hzw9)))
                  all_goals
                    go_wp2_with fail
                    go_roundw
                    case rel => exact ⟨j + 1, by omega, by go_num, clash_no1 (a := (x0, x1, x2, x3l, x4l, x5l, x6)) HD.out HNH.out HCC.out, clash_no2 (a := (x0, x1, x2, x3l, x4l, x5l, x6)) HD.out (HAL.out j _ hlj HD.out) HCH.out HCC.out, by repeat' (first | with_reducible assumption | with_reducible exact Below.refl _ _ | (with_reducible refine Below.setCell ?_ ?_ _) | (with_reducible refine Below.alloc ?_ ?_ _) | (with_reducible refine Below.drew ?_) | (with_reducible refine below_dr ?_ _) | (with_reducible refine Below.trans ?_ (Below.mono (by with_reducible assumption) ?_)) | omega | (simp; done) | (simp; omega))⟩
                    case measure => simp [intOf]; omega
set_option maxHeartbeats 3200000 in
theorem specValidGlyphSet_any (u : Int) (l : List DGlyph) (A : Option Addr) (c : Nat) (w : World) (ht : totGlyphSet (u, l) ≤ 1048576) (r : Row RvGlyph 7 w w.heap.size A l) :
    Calls Try.prog 30 #[.agg #[.int .i64 u, .slice A l.length c]] w fun e w' => e = .returned (.bool (vS (u, l))) ∧ Below w.heap.size w w' := by
  have C := Lib.hid (fun w1 z1 s0 s1 q => l17Ok_any u l A c w.heap.size 0 w1 ht z1 s0 s1 q)
  generalize vS (u, l) = v at C ⊢
  go_enter Try.func30, Try.ntmps30
  go_wp2_with fail
  refine (C.out _ (by first | (simp; done) | (simp; omega)) (by simp [go_sem]) (by simp [go_sem]) ?_).mono ?_
  · exact (Row.alloc r (Nat.le_refl _) _).more (by simp)
  rintro e w1 ⟨rfl, hb⟩
  go_wp2_with fail
  go_ret
  exact ⟨rfl, by repeat' (first | with_reducible assumption | with_reducible exact Below.refl _ _ | (with_reducible refine Below.setCell ?_ ?_ _) | (with_reducible refine Below.alloc ?_ ?_ _) | (with_reducible refine Below.drew ?_) | (with_reducible refine below_dr ?_ _) | (with_reducible refine Below.trans ?_ (Below.mono (by with_reducible assumption) ?_)) | omega | (simp; done) | (simp; omega))⟩
end Go.Proofs.Ytelefmogmloniaa
