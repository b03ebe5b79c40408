/- Walks: the edges of a region only meet at ends, the reference's side. -/
import Derived.Test.YtkhpmmclknonbaaEd
import Derived.Deep.RegionHeld3
namespace Go.Proofs.Ytkhpmmclknonbaa
open Go.RowKit
set_option linter.unusedVariables false
theorem ap_sep {x0 x1 x2 x3 y0 y1 y2 y3 : Int} (h : sepB x0 x1 x2 x3 y0 y1 y2 y3 = true) : apI x0 x1 x2 x3 y0 y1 y2 y3 = true := by unfold apI; rw [if_pos (sep_meet h)]
theorem ap_2 {x0 x1 x2 x3 y0 y1 y2 y3 : Int} (h : meetI x0 x1 x2 x3 y0 y1 y2 y3 = 2) : apI x0 x1 x2 x3 y0 y1 y2 y3 = false := by unfold apI; rw [h]; rfl
theorem ap_0 {x0 x1 x2 x3 y0 y1 y2 y3 : Int} (h : meetI x0 x1 x2 x3 y0 y1 y2 y3 = 0) : apI x0 x1 x2 x3 y0 y1 y2 y3 = true := by unfold apI; rw [h]; rfl
theorem ap_1 {x0 x1 x2 x3 y0 y1 y2 y3 : Int} {v : Bool} (h : meetI x0 x1 x2 x3 y0 y1 y2 y3 = 1) (hv : v = decide ((x0 = y0 ∧ x1 = y1) ∨ (x0 = y2 ∧ x1 = y3) ∨ (x2 = y0 ∧ x3 = y1) ∨ (x2 = y2 ∧ x3 = y3))) : apI x0 x1 x2 x3 y0 y1 y2 y3 = v := by
  unfold apI; rw [h, hv, if_neg (by omega), if_pos rfl]
  unfold endE
  rw [Bool.eq_iff_iff]
  simp only [Bool.or_eq_true, decide_eq_true_eq]
  omega
theorem ap_3 {x0 x1 x2 x3 y0 y1 y2 y3 : Int} {v : Bool} (h : meetI x0 x1 x2 x3 y0 y1 y2 y3 = 3) (hx : ¬ (x0 = x2 ∧ x1 = x3)) (hy : ¬ (y0 = y2 ∧ y1 = y3)) (hv : v = decide (((x0 = y0 ∧ x1 = y1) ∧ (x2 = y2 ∧ x3 = y3)) ∨ ((x0 = y2 ∧ x1 = y3) ∧ (x2 = y0 ∧ x3 = y1)))) : apI x0 x1 x2 x3 y0 y1 y2 y3 = v := by
  unfold apI; rw [h, hv, if_neg (by omega), if_neg (by omega), if_pos rfl]
  unfold endE
  rw [Bool.eq_iff_iff]
  simp only [Bool.or_eq_true, Bool.and_eq_true, decide_eq_true_eq]
  omega
theorem meet_val (x0 x1 x2 x3 y0 y1 y2 y3 : Int) : meetI x0 x1 x2 x3 y0 y1 y2 y3 = 0 ∨ meetI x0 x1 x2 x3 y0 y1 y2 y3 = 1 ∨ meetI x0 x1 x2 x3 y0 y1 y2 y3 = 2 ∨ meetI x0 x1 x2 x3 y0 y1 y2 y3 = 3 := by
  unfold meetI
  simp only
  split
  · split <;> omega
  · split <;> omega
set_option maxRecDepth 100000 in
set_option maxHeartbeats 12800000 in
theorem specIsSnapped_any (ds : List DRing) (A : Option Addr) (c : Nat) (w : World) (hl : ds.length ≤ 1048576) (hin : ∀ (i : Nat) (d : DRing), ds[i]? = some d → d.length ≤ 1048576) (r : RdRing w w.heap.size A ds) :
    Calls Try.prog 20 #[.agg #[.slice A ds.length c]] w fun e w' => e = .returned (.bool (isSn ds)) ∧ Below w.heap.size w w' := by
  have CV := Lib.hid (fun w1 h1 h2 r1 => l13Ok_any ds A c w.heap.size w1 h1 h2 hl hin r1)
  rcases hv : vRn ds with _ | _
  case false =>
    have H := Lib.hid (isSn_no hv)
    simp only [hv] at CV
    clear hv hin
    go_enter Try.func20, Try.ntmps20
    go_wp2_with fail
    refine (CV.out _ (by simp) (by simp [go_sem]) ((r.alloc (Nat.le_refl _) _).more (by simp))).mono ?_
    rintro e w1 ⟨rfl, hb1⟩
    go_wp2_with fail
    go_ret
    exact ⟨ret_bool H.out, by repeat' (first | with_reducible assumption | with_reducible exact Below.refl _ _ | (with_reducible refine Below.setCell ?_ ?_ _) | (with_reducible refine Below.alloc ?_ ?_ _) | (with_reducible refine Below.drew ?_) | (with_reducible refine below_dr ?_ _) | (with_reducible refine Below.trans ?_ (Below.mono (by with_reducible assumption) ?_)) | omega | (simp; done) | (simp; omega))⟩
  case true =>
    have H := Lib.hid (isSn_is hv)
    simp only [hv] at CV
    have HOK := Lib.hid (allE_ok hv)
    obtain ⟨h40, hup, h400⟩ := vRn_parts hv
    have C := Lib.hid (fun w1 h1 h2 r1 => l13All_any ds A c w.heap.size w1 h1 h2 h40 (rUp_in hup) r1)
    clear hv hin hup
    go_enter Try.func20, Try.ntmps20
    go_wp2_with fail
    refine (CV.out _ (by simp) (by simp [go_sem]) ((r.alloc (Nat.le_refl _) _).more (by simp))).mono ?_
    rintro e w1 ⟨rfl, hb1⟩
    have at1 : AtL w.heap.size [.slice A ds.length c] w1 := (AtL.new w _ 38).below hb1
    have k0 := at1.cell 0 rfl
    have lw := at1.lt
    have g1 : Below w.heap.size w w1 := by repeat' (first | with_reducible assumption | with_reducible exact Below.refl _ _ | (with_reducible refine Below.setCell ?_ ?_ _) | (with_reducible refine Below.alloc ?_ ?_ _) | (with_reducible refine Below.drew ?_) | (with_reducible refine below_dr ?_ _) | (with_reducible refine Below.trans ?_ (Below.mono (by with_reducible assumption) ?_)) | omega | (simp; done) | (simp; omega))
    have r1 : RdRing w1 w1.heap.size A ds := (r.carry g1 (Nat.le_refl _)).more g1.size
    clear hb1
    go_wp2_with fail
    refine (C.out _ lw k0 r1).mono ?_
    intro e w2 hq2
    obtain ⟨A3, c3, rfl, ow3, hb2⟩ := hq2
    have g2 : Below w.heap.size w w2 := by repeat' (first | with_reducible assumption | with_reducible exact Below.refl _ _ | (with_reducible refine Below.setCell ?_ ?_ _) | (with_reducible refine Below.alloc ?_ ?_ _) | (with_reducible refine Below.drew ?_) | (with_reducible refine below_dr ?_ _) | (with_reducible refine Below.trans ?_ (Below.mono (by with_reducible assumption) ?_)) | omega | (simp; done) | (simp; omega))
    have re := ow3.rd (Nat.le_refl _)
    clear ow3 hb2 r1 r k0 lw at1 g1 C CV
    generalize allE ds = es at *
    obtain ⟨n, hn⟩ : ∃ n, n = es.length := ⟨_, rfl⟩
    have HN := Lib.hid hn
    rw [← hn] at h400 ⊢
    clear hn
    go_wp2_with fail
    go_loopw [4] (fun i wr => ∃ k : Nat, k ≤ n ∧ i = .int .i64 k ∧ snUp es k = true ∧ Below w2.heap.size w2 wr) (fun i _ => n - (intOf i).toNat)
    case atStart => exact ⟨0, Nat.zero_le _, rfl, snUp_zero _, Below.refl _ _⟩
    case round =>
      obtain ⟨k, hk, rfl, hup, hbl⟩ := hrel
      have HUP := Lib.hid hup
      clear hup
      have zr := hbl.size
      by_cases hlt : k < n
      case pos =>
        obtain ⟨⟨x0, x1, x2, x3⟩, ha⟩ : ∃ a, es[k]? = some a := ⟨es[k]'(by have := HN.out; omega), List.getElem?_eq_getElem (by have := HN.out; omega)⟩
        have HOKX := Lib.hid (HOK.out k _ ha)
        have HA := Lib.hid ha
        clear ha
        have hki : (k : Int) < (n : Int) := by omega
        go_wp2_with fail
        clear zr
        go_loopw [5] (fun i wr2 => ∃ j : Nat, j ≤ k ∧ i = .int .i64 j ∧ rowA es (x0, x1, x2, x3) j = true ∧ Below w2.heap.size w2 wr2) (fun i _ => k - (intOf i).toNat)
        case atStart => exact ⟨0, Nat.zero_le _, rfl, rowA_zero _ _, hbl⟩
        case round =>
          clear hbl
          obtain ⟨j, hj, rfl, hup, g0⟩ := hrel
          have HUR := Lib.hid hup
          clear hup
          have zr := g0.size
          by_cases hlj : j < k
          case pos =>
            obtain ⟨⟨y0, y1, y2, y3⟩, hb⟩ : ∃ a, es[j]? = some a := ⟨es[j]'(by have := HN.out; omega), List.getElem?_eq_getElem (by have := HN.out; omega)⟩
            obtain ⟨g, o, rfl, hg, hc⟩ := (re.below g0).elem HA.out
            obtain ⟨g', o', hA', hg', hd⟩ := (re.below g0).elem hb
            obtain ⟨rfl, rfl⟩ : g = g' ∧ o = o' := by injection hA' with h; injection h with h1 h2; exact ⟨h1, h2⟩
            have p0 : wr.cell? ⟨g, o + k * 4, none⟩ = some (.int .i64 x0) := hc 0 _ rfl
            have p1 : wr.cell? ⟨g, o + k * 4 + 1, none⟩ = some (.int .i64 x1) := hc 1 _ rfl
            have p2 : wr.cell? ⟨g, o + k * 4 + 2, none⟩ = some (.int .i64 x2) := hc 2 _ rfl
            have p3 : wr.cell? ⟨g, o + k * 4 + 3, none⟩ = some (.int .i64 x3) := hc 3 _ rfl
            have q0 : wr.cell? ⟨g, o + j * 4, none⟩ = some (.int .i64 y0) := hd 0 _ rfl
            have q1 : wr.cell? ⟨g, o + j * 4 + 1, none⟩ = some (.int .i64 y1) := hd 1 _ rfl
            have q2 : wr.cell? ⟨g, o + j * 4 + 2, none⟩ = some (.int .i64 y2) := hd 2 _ rfl
            have q3 : wr.cell? ⟨g, o + j * 4 + 3, none⟩ = some (.int .i64 y3) := hd 3 _ rfl
            have hoy := HOK.out j _ hb
            have HOKY := Lib.hid hoy
            have HB := Lib.hid hb
            have HE : apE (x0, x1, x2, x3) (y0, y1, y2, y3) = apI x0 x1 x2 x3 y0 y1 y2 y3 := rfl
            have HAE := Lib.hid HE
            clear hc hd hb hA' hoy HE hg'
            have hji : (j : Int) < (k : Int) := by omega
            have hjn : (j : Int) < (n : Int) := by omega
            have hgw : g < wr.heap.size := by omega
            have CA := Lib.hid (l13Apart_any x0 x1 x2 x3 y0 y1 y2 y3 g (o + k * 4) g (o + j * 4) wr p0 p1 p2 p3 q0 q1 q2 q3)
            go_wp2_with fail
            refine CA.out.mono ?_
            rintro e w3 ⟨rfl, m3, rfl⟩
            have gq : Below wr.heap.size wr (wr.drewN m3) := Joins.below_draws _ _ _
            have g3 : Below w2.heap.size w2 (wr.drewN m3) := g0.trans (gq.mono zr)
            replace p0 : (wr.drewN m3).cell? ⟨g, o + k * 4, none⟩ = some (.int .i64 x0) := p0
            replace p1 : (wr.drewN m3).cell? ⟨g, o + k * 4 + 1, none⟩ = some (.int .i64 x1) := p1
            replace p2 : (wr.drewN m3).cell? ⟨g, o + k * 4 + 2, none⟩ = some (.int .i64 x2) := p2
            replace p3 : (wr.drewN m3).cell? ⟨g, o + k * 4 + 3, none⟩ = some (.int .i64 x3) := p3
            replace q0 : (wr.drewN m3).cell? ⟨g, o + j * 4, none⟩ = some (.int .i64 y0) := q0
            replace q1 : (wr.drewN m3).cell? ⟨g, o + j * 4 + 1, none⟩ = some (.int .i64 y1) := q1
            replace q2 : (wr.drewN m3).cell? ⟨g, o + j * 4 + 2, none⟩ = some (.int .i64 y2) := q2
            replace q3 : (wr.drewN m3).cell? ⟨g, o + j * 4 + 3, none⟩ = some (.int .i64 y3) := q3
            have hgw3 : g < (wr.drewN m3).heap.size := hgw
            generalize wr.drewN m3 = w3 at *
            clear gq g0 zr hgw CA
            rcases hs : sepB x0 x1 x2 x3 y0 y1 y2 y3 with _ | _
            case true =>
              have HS := Lib.hid hs
              clear hs hgw3 p0 p1 p2 p3 q0 q1 q2 q3
              have HR := Lib.hid (rowA_succ HUR.out HB.out (HAE.out.trans (ap_sep HS.out)))
              go_wp2_with fail
              go_roundw
              case rel => exact ⟨j + 1, by omega, by go_num, HR.out, g3⟩
              case measure => simp [intOf]; omega
            case false =>
              clear hs
              have CM := Lib.hid (fun w => l03Meeting_any x0 x1 x2 x3 y0 y1 y2 y3 w HOKX.out.1 HOKX.out.2.1 HOKY.out.1 HOKY.out.2.1)
              have HMV := meet_val x0 x1 x2 x3 y0 y1 y2 y3
              obtain ⟨mv, hmv⟩ : ∃ v, v = meetI x0 x1 x2 x3 y0 y1 y2 y3 := ⟨_, rfl⟩
              rw [← hmv] at CM HMV
              have HM := Lib.hid hmv.symm
              clear hmv
              go_upto_region 13 with fail
              go_region_held3 (fun w' => (∀ b o, b < w3.heap.size → w'.cell? ⟨b, o, none⟩ = w3.cell? ⟨b, o, none⟩) ∧ w3.heap.size ≤ w'.heap.size)
                (first | ((try dsimp only); exact ⟨fun b o h => (by (repeat (first | with_reducible exact rfl | (with_reducible refine (cell_drew_at _ _).trans ?_) | (with_reducible refine (cell_set_at _ _ (by first | omega | (simp; done) | (simp; omega))).trans ?_) | (with_reducible refine (cell_alloc_at _ _ (by first | omega | (simp; done) | (simp; omega))).trans ?_) | (with_reducible refine (hcwM b o (by first | omega | (simp; done) | (simp; omega))).trans ?_)))), (by first | omega | (simp; done) | (simp; omega))⟩) | fail)
                (first
                  | (go_at_call 43; (with_reducible refine (CM.out _).mono ?_); rintro e wM ⟨rfl, hbwM⟩; obtain ⟨hcwM, hfwM⟩ := bcell hbwM; have hzwM := hbwM.size; (try simp only [World.size_drew] at hcwM hfwM hzwM)))
              have gM : Below w2.heap.size w2 wM := by first | exact g3.trans (hbwM.mono g3.size) | exact (Below.drew g3).trans (hbwM.mono g3.size)
              have zM := hbwM.size
              replace p0 : wM.cell? ⟨g, o + k * 4, none⟩ = some (.int .i64 x0) := (hcwM _ _ hgw3).trans p0
              replace p1 : wM.cell? ⟨g, o + k * 4 + 1, none⟩ = some (.int .i64 x1) := (hcwM _ _ hgw3).trans p1
              replace p2 : wM.cell? ⟨g, o + k * 4 + 2, none⟩ = some (.int .i64 x2) := (hcwM _ _ hgw3).trans p2
              replace p3 : wM.cell? ⟨g, o + k * 4 + 3, none⟩ = some (.int .i64 x3) := (hcwM _ _ hgw3).trans p3
              replace q0 : wM.cell? ⟨g, o + j * 4, none⟩ = some (.int .i64 y0) := (hcwM _ _ hgw3).trans q0
              replace q1 : wM.cell? ⟨g, o + j * 4 + 1, none⟩ = some (.int .i64 y1) := (hcwM _ _ hgw3).trans q1
              replace q2 : wM.cell? ⟨g, o + j * 4 + 2, none⟩ = some (.int .i64 y2) := (hcwM _ _ hgw3).trans q2
              replace q3 : wM.cell? ⟨g, o + j * 4 + 3, none⟩ = some (.int .i64 y3) := (hcwM _ _ hgw3).trans q3
              have hgM : g < wM.heap.size := Nat.lt_of_lt_of_le hgw3 hzwM
              clear hbwM hcwM hfwM hzwM g3 CM zM hgw3
              rcases HMV with rfl | rfl | rfl | rfl
              · clear hgM p0 p1 p2 p3 q0 q1 q2 q3
                have HR := Lib.hid (rowA_succ HUR.out HB.out (HAE.out.trans (ap_0 HM.out)))
                go_wp2_with fail
                go_roundw
                case rel => exact ⟨j + 1, by omega, by go_num, HR.out, gM⟩
                case measure => simp [intOf]; omega
              · by_cases haa : x0 = y0 ∧ x1 = y1
                case pos =>
                  have eaa := fun w => neq_pt (a := x0) (b := x1) (c := y0) (d := y1) w
                  rw [decide_eq_true haa] at eaa
                  simp only [Bool.not_true] at eaa
                  have HV := Lib.hid (ap_1 (v := true) HM.out (by symm; first | (rw [decide_eq_true_eq]; omega) | (rw [decide_eq_false_iff_not]; omega)))
                  clear haa
                  go_upto_region 17 with fail
                  go_quiet (fail)
                  clear eaa
                  clear hgM p0 p1 p2 p3 q0 q1 q2 q3
                  have HR := Lib.hid (rowA_succ HUR.out HB.out (HAE.out.trans (HV.out)))
                  go_wp2_with fail
                  go_roundw
                  case rel => exact ⟨j + 1, by omega, by go_num, HR.out, (gM.trans ((Joins.below_draws _ _ _).mono gM.size))⟩
                  case measure => simp [intOf]; omega
                case neg =>
                  by_cases hab : x0 = y2 ∧ x1 = y3
                  case pos =>
                    have eaa := fun w => neq_pt (a := x0) (b := x1) (c := y0) (d := y1) w
                    rw [decide_eq_false haa] at eaa
                    simp only [Bool.not_false] at eaa
                    have eab := fun w => neq_pt (a := x0) (b := x1) (c := y2) (d := y3) w
                    rw [decide_eq_true hab] at eab
                    simp only [Bool.not_true] at eab
                    have HV := Lib.hid (ap_1 (v := true) HM.out (by symm; first | (rw [decide_eq_true_eq]; omega) | (rw [decide_eq_false_iff_not]; omega)))
                    clear haa hab
                    go_upto_region 17 with fail
                    go_quiet (fail)
                    clear eaa eab
                    clear hgM p0 p1 p2 p3 q0 q1 q2 q3
                    have HR := Lib.hid (rowA_succ HUR.out HB.out (HAE.out.trans (HV.out)))
                    go_wp2_with fail
                    go_roundw
                    case rel => exact ⟨j + 1, by omega, by go_num, HR.out, (gM.trans ((Joins.below_draws _ _ _).mono gM.size))⟩
                    case measure => simp [intOf]; omega
                  case neg =>
                    by_cases hba : x2 = y0 ∧ x3 = y1
                    case pos =>
                      have eaa := fun w => neq_pt (a := x0) (b := x1) (c := y0) (d := y1) w
                      rw [decide_eq_false haa] at eaa
                      simp only [Bool.not_false] at eaa
                      have eab := fun w => neq_pt (a := x0) (b := x1) (c := y2) (d := y3) w
                      rw [decide_eq_false hab] at eab
                      simp only [Bool.not_false] at eab
                      have eba := fun w => neq_pt (a := x2) (b := x3) (c := y0) (d := y1) w
                      rw [decide_eq_true hba] at eba
                      simp only [Bool.not_true] at eba
                      have HV := Lib.hid (ap_1 (v := true) HM.out (by symm; first | (rw [decide_eq_true_eq]; omega) | (rw [decide_eq_false_iff_not]; omega)))
                      clear haa hab hba
                      go_upto_region 17 with fail
                      go_quiet (fail)
                      clear eaa eab eba
                      clear hgM p0 p1 p2 p3 q0 q1 q2 q3
                      have HR := Lib.hid (rowA_succ HUR.out HB.out (HAE.out.trans (HV.out)))
                      go_wp2_with fail
                      go_roundw
                      case rel => exact ⟨j + 1, by omega, by go_num, HR.out, (gM.trans ((Joins.below_draws _ _ _).mono gM.size))⟩
                      case measure => simp [intOf]; omega
                    case neg =>
                      by_cases hbb : x2 = y2 ∧ x3 = y3
                      case pos =>
                        have eaa := fun w => neq_pt (a := x0) (b := x1) (c := y0) (d := y1) w
                        rw [decide_eq_false haa] at eaa
                        simp only [Bool.not_false] at eaa
                        have eab := fun w => neq_pt (a := x0) (b := x1) (c := y2) (d := y3) w
                        rw [decide_eq_false hab] at eab
                        simp only [Bool.not_false] at eab
                        have eba := fun w => neq_pt (a := x2) (b := x3) (c := y0) (d := y1) w
                        rw [decide_eq_false hba] at eba
                        simp only [Bool.not_false] at eba
                        have ebb := fun w => neq_pt (a := x2) (b := x3) (c := y2) (d := y3) w
                        rw [decide_eq_true hbb] at ebb
                        simp only [Bool.not_true] at ebb
                        have HV := Lib.hid (ap_1 (v := true) HM.out (by symm; first | (rw [decide_eq_true_eq]; omega) | (rw [decide_eq_false_iff_not]; omega)))
                        clear haa hab hba hbb
                        go_upto_region 17 with fail
                        go_quiet (fail)
                        clear eaa eab eba ebb
                        clear hgM p0 p1 p2 p3 q0 q1 q2 q3
                        have HR := Lib.hid (rowA_succ HUR.out HB.out (HAE.out.trans (HV.out)))
                        go_wp2_with fail
                        go_roundw
                        case rel => exact ⟨j + 1, by omega, by go_num, HR.out, (gM.trans ((Joins.below_draws _ _ _).mono gM.size))⟩
                        case measure => simp [intOf]; omega
                      case neg =>
                        have eaa := fun w => neq_pt (a := x0) (b := x1) (c := y0) (d := y1) w
                        rw [decide_eq_false haa] at eaa
                        simp only [Bool.not_false] at eaa
                        have eab := fun w => neq_pt (a := x0) (b := x1) (c := y2) (d := y3) w
                        rw [decide_eq_false hab] at eab
                        simp only [Bool.not_false] at eab
                        have eba := fun w => neq_pt (a := x2) (b := x3) (c := y0) (d := y1) w
                        rw [decide_eq_false hba] at eba
                        simp only [Bool.not_false] at eba
                        have ebb := fun w => neq_pt (a := x2) (b := x3) (c := y2) (d := y3) w
                        rw [decide_eq_false hbb] at ebb
                        simp only [Bool.not_false] at ebb
                        have HV := Lib.hid (ap_1 (v := false) HM.out (by symm; first | (rw [decide_eq_true_eq]; omega) | (rw [decide_eq_false_iff_not]; omega)))
                        clear haa hab hba hbb
                        go_upto_region 17 with fail
                        go_quiet (fail)
                        clear eaa eab eba ebb
                        clear hgM p0 p1 p2 p3 q0 q1 q2 q3
                        have HB2 := Lib.hid (snUp_bad HA.out hlj HB.out (HAE.out.trans (HV.out)))
                        go_wp2_with fail
                        go_ret
                        exact ⟨ret_bool (by rw [← H.out]; exact HB2.out.symm), g2.trans ((gM.trans ((Joins.below_draws _ _ _).mono gM.size)).mono g2.size)⟩
              · clear hgM p0 p1 p2 p3 q0 q1 q2 q3
                have HB2 := Lib.hid (snUp_bad HA.out hlj HB.out (HAE.out.trans (ap_2 HM.out)))
                go_wp2_with fail
                go_ret
                exact ⟨ret_bool (by rw [← H.out]; exact HB2.out.symm), g2.trans (gM.mono g2.size)⟩
              · by_cases haa : x0 = y0 ∧ x1 = y1
                case pos =>
                  by_cases hbb : x2 = y2 ∧ x3 = y3
                  case pos =>
                    have eaa := fun w => eql_ptE (a := x0) (b := x1) (c := y0) (d := y1) w
                    rw [decide_eq_true haa] at eaa
                    have ebb := fun w => eql_ptE (a := x2) (b := x3) (c := y2) (d := y3) w
                    rw [decide_eq_true hbb] at ebb
                    have HV := Lib.hid (ap_3 (v := true) HM.out HOKX.out.2.2 HOKY.out.2.2 (by symm; first | (rw [decide_eq_true_eq]; omega) | (rw [decide_eq_false_iff_not]; omega)))
                    clear haa hbb
                    go_upto_region 20 with fail
                    go_quiet (fail)
                    clear eaa ebb
                    clear hgM p0 p1 p2 p3 q0 q1 q2 q3
                    have HR := Lib.hid (rowA_succ HUR.out HB.out (HAE.out.trans (HV.out)))
                    go_wp2_with fail
                    go_roundw
                    case rel => exact ⟨j + 1, by omega, by go_num, HR.out, (gM.trans ((Joins.below_draws _ _ _).mono gM.size))⟩
                    case measure => simp [intOf]; omega
                  case neg =>
                    by_cases hab : x0 = y2 ∧ x1 = y3
                    case pos =>
                      by_cases hba : x2 = y0 ∧ x3 = y1
                      case pos =>
                        have eaa := fun w => eql_ptE (a := x0) (b := x1) (c := y0) (d := y1) w
                        rw [decide_eq_true haa] at eaa
                        have ebb := fun w => eql_ptE (a := x2) (b := x3) (c := y2) (d := y3) w
                        rw [decide_eq_false hbb] at ebb
                        have eab := fun w => eql_ptE (a := x0) (b := x1) (c := y2) (d := y3) w
                        rw [decide_eq_true hab] at eab
                        have eba := fun w => eql_ptE (a := x2) (b := x3) (c := y0) (d := y1) w
                        rw [decide_eq_true hba] at eba
                        have HV := Lib.hid (ap_3 (v := true) HM.out HOKX.out.2.2 HOKY.out.2.2 (by symm; first | (rw [decide_eq_true_eq]; omega) | (rw [decide_eq_false_iff_not]; omega)))
                        clear haa hbb hab hba
                        go_upto_region 20 with fail
                        go_quiet (fail)
                        clear eaa ebb eab eba
                        clear hgM p0 p1 p2 p3 q0 q1 q2 q3
                        have HR := Lib.hid (rowA_succ HUR.out HB.out (HAE.out.trans (HV.out)))
                        go_wp2_with fail
                        go_roundw
                        case rel => exact ⟨j + 1, by omega, by go_num, HR.out, (gM.trans ((Joins.below_draws _ _ _).mono gM.size))⟩
                        case measure => simp [intOf]; omega
                      case neg =>
                        have eaa := fun w => eql_ptE (a := x0) (b := x1) (c := y0) (d := y1) w
                        rw [decide_eq_true haa] at eaa
                        have ebb := fun w => eql_ptE (a := x2) (b := x3) (c := y2) (d := y3) w
                        rw [decide_eq_false hbb] at ebb
                        have eab := fun w => eql_ptE (a := x0) (b := x1) (c := y2) (d := y3) w
                        rw [decide_eq_true hab] at eab
                        have eba := fun w => eql_ptE (a := x2) (b := x3) (c := y0) (d := y1) w
                        rw [decide_eq_false hba] at eba
                        have HV := Lib.hid (ap_3 (v := false) HM.out HOKX.out.2.2 HOKY.out.2.2 (by symm; first | (rw [decide_eq_true_eq]; omega) | (rw [decide_eq_false_iff_not]; omega)))
                        clear haa hbb hab hba
                        go_upto_region 20 with fail
                        go_quiet (fail)
                        clear eaa ebb eab eba
                        clear hgM p0 p1 p2 p3 q0 q1 q2 q3
                        have HB2 := Lib.hid (snUp_bad HA.out hlj HB.out (HAE.out.trans (HV.out)))
                        go_wp2_with fail
                        go_ret
                        exact ⟨ret_bool (by rw [← H.out]; exact HB2.out.symm), g2.trans ((gM.trans ((Joins.below_draws _ _ _).mono gM.size)).mono g2.size)⟩
                    case neg =>
                      have eaa := fun w => eql_ptE (a := x0) (b := x1) (c := y0) (d := y1) w
                      rw [decide_eq_true haa] at eaa
                      have ebb := fun w => eql_ptE (a := x2) (b := x3) (c := y2) (d := y3) w
                      rw [decide_eq_false hbb] at ebb
                      have eab := fun w => eql_ptE (a := x0) (b := x1) (c := y2) (d := y3) w
                      rw [decide_eq_false hab] at eab
                      have HV := Lib.hid (ap_3 (v := false) HM.out HOKX.out.2.2 HOKY.out.2.2 (by symm; first | (rw [decide_eq_true_eq]; omega) | (rw [decide_eq_false_iff_not]; omega)))
                      clear haa hbb hab
                      go_upto_region 20 with fail
                      go_quiet (fail)
                      clear eaa ebb eab
                      clear hgM p0 p1 p2 p3 q0 q1 q2 q3
                      have HB2 := Lib.hid (snUp_bad HA.out hlj HB.out (HAE.out.trans (HV.out)))
                      go_wp2_with fail
                      go_ret
                      exact ⟨ret_bool (by rw [← H.out]; exact HB2.out.symm), g2.trans ((gM.trans ((Joins.below_draws _ _ _).mono gM.size)).mono g2.size)⟩
                case neg =>
                  by_cases hab : x0 = y2 ∧ x1 = y3
                  case pos =>
                    by_cases hba : x2 = y0 ∧ x3 = y1
                    case pos =>
                      have eaa := fun w => eql_ptE (a := x0) (b := x1) (c := y0) (d := y1) w
                      rw [decide_eq_false haa] at eaa
                      have eab := fun w => eql_ptE (a := x0) (b := x1) (c := y2) (d := y3) w
                      rw [decide_eq_true hab] at eab
                      have eba := fun w => eql_ptE (a := x2) (b := x3) (c := y0) (d := y1) w
                      rw [decide_eq_true hba] at eba
                      have HV := Lib.hid (ap_3 (v := true) HM.out HOKX.out.2.2 HOKY.out.2.2 (by symm; first | (rw [decide_eq_true_eq]; omega) | (rw [decide_eq_false_iff_not]; omega)))
                      clear haa hab hba
                      go_upto_region 20 with fail
                      go_quiet (fail)
                      clear eaa eab eba
                      clear hgM p0 p1 p2 p3 q0 q1 q2 q3
                      have HR := Lib.hid (rowA_succ HUR.out HB.out (HAE.out.trans (HV.out)))
                      go_wp2_with fail
                      go_roundw
                      case rel => exact ⟨j + 1, by omega, by go_num, HR.out, (gM.trans ((Joins.below_draws _ _ _).mono gM.size))⟩
                      case measure => simp [intOf]; omega
                    case neg =>
                      have eaa := fun w => eql_ptE (a := x0) (b := x1) (c := y0) (d := y1) w
                      rw [decide_eq_false haa] at eaa
                      have eab := fun w => eql_ptE (a := x0) (b := x1) (c := y2) (d := y3) w
                      rw [decide_eq_true hab] at eab
                      have eba := fun w => eql_ptE (a := x2) (b := x3) (c := y0) (d := y1) w
                      rw [decide_eq_false hba] at eba
                      have HV := Lib.hid (ap_3 (v := false) HM.out HOKX.out.2.2 HOKY.out.2.2 (by symm; first | (rw [decide_eq_true_eq]; omega) | (rw [decide_eq_false_iff_not]; omega)))
                      clear haa hab hba
                      go_upto_region 20 with fail
                      go_quiet (fail)
                      clear eaa eab eba
                      clear hgM p0 p1 p2 p3 q0 q1 q2 q3
                      have HB2 := Lib.hid (snUp_bad HA.out hlj HB.out (HAE.out.trans (HV.out)))
                      go_wp2_with fail
                      go_ret
                      exact ⟨ret_bool (by rw [← H.out]; exact HB2.out.symm), g2.trans ((gM.trans ((Joins.below_draws _ _ _).mono gM.size)).mono g2.size)⟩
                  case neg =>
                    have eaa := fun w => eql_ptE (a := x0) (b := x1) (c := y0) (d := y1) w
                    rw [decide_eq_false haa] at eaa
                    have eab := fun w => eql_ptE (a := x0) (b := x1) (c := y2) (d := y3) w
                    rw [decide_eq_false hab] at eab
                    have HV := Lib.hid (ap_3 (v := false) HM.out HOKX.out.2.2 HOKY.out.2.2 (by symm; first | (rw [decide_eq_true_eq]; omega) | (rw [decide_eq_false_iff_not]; omega)))
                    clear haa hab
                    go_upto_region 20 with fail
                    go_quiet (fail)
                    clear eaa eab
                    clear hgM p0 p1 p2 p3 q0 q1 q2 q3
                    have HB2 := Lib.hid (snUp_bad HA.out hlj HB.out (HAE.out.trans (HV.out)))
                    go_wp2_with fail
                    go_ret
                    exact ⟨ret_bool (by rw [← H.out]; exact HB2.out.symm), g2.trans ((gM.trans ((Joins.below_draws _ _ _).mono gM.size)).mono g2.size)⟩
          case neg =>
            obtain rfl : j = k := by omega
            have HS := Lib.hid (snUp_succ HUP.out HA.out HUR.out)
            have hji : ¬ ((j : Int) < (j : Int)) := by omega
            go_wp2_with fail
            go_roundw
            case rel => exact ⟨j + 1, by omega, by go_num, HS.out, g0⟩
            case measure => simp [intOf]; omega
      case neg =>
        obtain rfl : k = n := by omega
        go_wp2_with fail
        go_ret
        exact ⟨ret_bool (by rw [← H.out, ← HN.out]; exact HUP.out.symm), g2.trans (hbl.mono g2.size)⟩
end Go.Proofs.Ytkhpmmclknonbaa
