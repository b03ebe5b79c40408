/- Walks: winding numbers and where points are, the program's side. -/
import Derived.Test.YtdeemhfhmgnbgaaZh
import Derived.Test.YtdeemhfhmgnbgaaZd
namespace Go.Proofs.Ytdeemhfhmgnbgaa
open Go.RowKit
set_option linter.unusedVariables false
set_option maxRecDepth 100000 in
set_option maxHeartbeats 6400000 in
theorem implWindingOf_any (ds : List DRing) (A : Option Addr) (c : Nat) (px py : Int) (w : World) (hl : ds.length ≤ 1048576) (hin : ∀ (i : Nat) (d : DRing), ds[i]? = some d → d.length ≤ 1048576) (htot : totRing ds ≤ 1048576) (r : RdRing w w.heap.size A ds) :
    Calls Try.prog 84 #[.agg #[.slice A ds.length c], .agg #[.int .i64 px, .int .i64 py]] w fun e w' => e = .returned (.tuple #[.int .i64 (wdV ds px py), .bool (wdB ds px py)]) ∧ Below w.heap.size w w' := by
  have CV := Lib.hid (fun w1 r1 => implValidRegion_any ds A c w1 hl hin r1)
  have CP := Lib.hid (fun w => implValidPt_any px py w)
  have H1 := Lib.hid (fun h => wd_1 (ds := ds) (px := px) (py := py) h)
  have H2 := Lib.hid (fun h h2 => wd_2 (ds := ds) (px := px) (py := py) h h2)
  have H3 := Lib.hid (fun h h2 h3 => wd_3 (ds := ds) (px := px) (py := py) h h2 h3)
  have H4 := Lib.hid (fun h h2 h3 => wd_4 (ds := ds) (px := px) (py := py) h h2 h3)
  obtain ⟨v1, hv1⟩ : ∃ v, v = wdV ds px py := ⟨_, rfl⟩
  obtain ⟨v2, hv2⟩ : ∃ v, v = wdB ds px py := ⟨_, rfl⟩
  rw [← hv1, ← hv2] at H1 H2 H3 H4 ⊢
  clear hv1 hv2
  obtain ⟨n, hn⟩ : ∃ n, n = ds.length := ⟨_, rfl⟩
  have HN := Lib.hid hn
  rcases hv : vRn ds with _ | _
  case false =>
    have H := Lib.hid (H1.out hv)
    rw [hv] at CV
    clear hv H1 H2 H3 H4
    rw [← hn] at CV ⊢
    clear hn hl hin htot
    go_enter Try.func84, Try.ntmps84
    go_wp2_with fail
    refine (CV.out _ (((r.alloc (Nat.le_refl _) _).alloc (by simp) _).more (by simp; omega))).mono ?_
    rintro e w1 ⟨rfl, hb1⟩
    go_wp2_with fail
    refine bodyPost_ret (v := .tuple #[.int .i64 v1, .bool v2]) (by rw [← H.out.1, ← H.out.2]; simp [results, Try.results84, go_sem]) rfl ⟨rfl, by repeat' (first | with_reducible assumption | with_reducible exact Below.refl _ _ | (with_reducible refine Below.setCell ?_ ?_ _) | (with_reducible refine Below.alloc ?_ ?_ _) | (with_reducible refine Below.drew ?_) | (with_reducible refine below_dr ?_ _) | (with_reducible refine Below.trans ?_ (Below.mono (by with_reducible assumption) ?_)) | omega | (simp; done) | (simp; omega))⟩
  case true =>
    rw [hv] at CV
    obtain ⟨h40, hup, hl4⟩ := vRn_parts hv
    have CA := Lib.hid (fun w1 r1 => regionEdges_any ds A c w1 h40 (rUp_in hup) r1)
    have HES := Lib.hid (fun (e : AEdge) (he : e ∈ allE ds) => allE_okx hv he)
    clear h40 hup
    rw [← hn] at CA
    rw [← hn] at CV ⊢
    clear hn hl hin htot
    go_enter Try.func84, Try.ntmps84
    go_wp2_with fail
    refine (CV.out _ (((r.alloc (Nat.le_refl _) _).alloc (by simp) _).more (by simp; omega))).mono ?_
    rintro e w1 ⟨rfl, hb1⟩
    have at1 : AtL w.heap.size [.slice A n c] w1 := (AtL.alloc (AtL.new w _ 40) _).below hb1
    have at2 : AtL (w.heap.size + 1) [.int .i64 px, .int .i64 py] w1 := (AtL.newAt (by simp)).below hb1
    have k0 := at1.cell 0 rfl
    have k1 := at2.cell 0 rfl
    have k2 := at2.cell 1 rfl
    have lk := at1.lt
    have lk2 := at2.lt
    have g1 : Below w.heap.size w w1 := by repeat' (first | with_reducible assumption | with_reducible exact Below.refl _ _ | (with_reducible refine Below.setCell ?_ ?_ _) | (with_reducible refine Below.alloc ?_ ?_ _) | (with_reducible refine Below.drew ?_) | (with_reducible refine below_dr ?_ _) | (with_reducible refine Below.trans ?_ (Below.mono (by with_reducible assumption) ?_)) | omega | (simp; done) | (simp; omega))
    have r1 : RdRing w1 w1.heap.size A ds := (r.carry g1 (Nat.le_refl _)).more g1.size
    clear hb1 r CV
    generalize allE ds = es at *
    go_wp2_with fail
    rcases hp : okB px py with _ | _
    case false =>
      have H := Lib.hid (H2.out hv hp)
      rw [hp] at CP
      clear hv hp H1 H2 H3 H4
      refine (CP.out _).mono ?_
      rintro e w3 ⟨rfl, hb3⟩
      go_wp2_with fail
      refine bodyPost_ret (v := .tuple #[.int .i64 v1, .bool v2]) (by rw [← H.out.1, ← H.out.2]; simp [results, Try.results84, go_sem]) rfl ⟨rfl, by repeat' (first | with_reducible assumption | with_reducible exact Below.refl _ _ | (with_reducible refine Below.setCell ?_ ?_ _) | (with_reducible refine Below.alloc ?_ ?_ _) | (with_reducible refine Below.drew ?_) | (with_reducible refine below_dr ?_ _) | (with_reducible refine Below.trans ?_ (Below.mono (by with_reducible assumption) ?_)) | omega | (simp; done) | (simp; omega))⟩
    case true =>
      have hv0 := hv
      rw [hp] at CP
      have HP := Lib.hid hp
      have bp := okB_bounds hp
      have CF := Lib.hid (fun A3 c3 w1 r1 => flowOf_any es A3 c3 w1 HES.out hl4 r1)
      unfold FlowRet at CF
      have CT := Lib.hid (fun w => timesZ_any px py 2 w (IntWalk.i64_in _ (by omega)) (IntWalk.i64_in _ (by omega)))
      have CR := Lib.hid (fun D B w own hfl => around_any es D B es.length (2 * px) (2 * py) w HES.out hl4 (by omega) (by omega) own hfl)
      rw [around_wind] at CR
      clear bp
      obtain ⟨a0, ha0⟩ : ∃ a, a = 2 * px := ⟨_, rfl⟩
      obtain ⟨a1, ha1⟩ : ∃ a, a = 2 * py := ⟨_, rfl⟩
      rw [← ha0, ← ha1] at CT CR
      clear ha0 ha1
      obtain ⟨m, hm⟩ : ∃ m, m = es.length := ⟨_, rfl⟩
      rw [← hm] at CA CF CR hl4
      have HM := Lib.hid hm
      clear hm
      refine (CP.out _).mono ?_
      rintro e w3 ⟨rfl, hbw3⟩
      have gw3 : Below w.heap.size w w3 := by repeat' (first | with_reducible assumption | with_reducible exact Below.refl _ _ | (with_reducible refine Below.setCell ?_ ?_ _) | (with_reducible refine Below.alloc ?_ ?_ _) | (with_reducible refine Below.drew ?_) | (with_reducible refine below_dr ?_ _) | (with_reducible refine Below.trans ?_ (Below.mono (by with_reducible assumption) ?_)) | omega | (simp; done) | (simp; omega))
      replace at1 := at1.below hbw3
      replace at2 := at2.below hbw3
      clear k0 k1 k2 lk lk2
      have k0 := at1.cell 0 rfl
      have k1 := at2.cell 0 rfl
      have k2 := at2.cell 1 rfl
      have lk := at1.lt
      have lk2 := at2.lt
      have hb3x := hbw3
      go_wp2_with fail
      refine (CA.out _ ((r1.carry hb3x (Nat.le_refl _)).more hb3x.size)).mono ?_
      intro e w4 hq1
      obtain ⟨A3, c3, rfl, ow3, hb4⟩ := hq1
      have g4 : Below w.heap.size w w4 := by repeat' (first | with_reducible assumption | with_reducible exact Below.refl _ _ | (with_reducible refine Below.setCell ?_ ?_ _) | (with_reducible refine Below.alloc ?_ ?_ _) | (with_reducible refine Below.drew ?_) | (with_reducible refine below_dr ?_ _) | (with_reducible refine Below.trans ?_ (Below.mono (by with_reducible assumption) ?_)) | omega | (simp; done) | (simp; omega))
      have re := ow3.rd (Nat.le_refl _)
      replace at2 := at2.below hb4
      clear at1 k0 k1 k2 lk lk2 hb4 ow3 r1 hb3x g1 gw3 hbw3
      go_wp2_with fail
      go_loopw [21] (fun i wr => ∃ k : Nat, k ≤ m ∧ i = .int .i64 (k : Int) ∧ onUp es px py k = false ∧ AtL (w.heap.size + 1) [.int .i64 px, .int .i64 py] wr ∧ Below w4.heap.size w4 wr) (fun i _ => m - (intOf i).toNat)
      case atStart => exact ⟨0, Nat.zero_le _, rfl, rfl, at2, Below.refl _ _⟩
      case round =>
        clear at2
        obtain ⟨k, hk, rfl, hup, at2, hbl⟩ := hrel
        have HUP := Lib.hid hup
        clear hup
        have zr := hbl.size
        have z4 := g4.size
        have k1 := at2.cell 0 rfl
        have k2 := at2.cell 1 rfl
        have lk2 := at2.lt
        by_cases hlt : k < m
        case pos =>
          obtain ⟨⟨x0, x1, x2, x3⟩, ha⟩ : ∃ a, es[k]? = some a := ⟨es[k]'(by have := HM.out; omega), List.getElem?_eq_getElem (by have := HM.out; omega)⟩
          obtain ⟨g, o, rfl, hg, hc⟩ := (re.below hbl).elem ha
          have p0 : wr.cell? ⟨g, o + k * 4, none⟩ = some (.int .i64 x0) := hc 0 _ rfl
          have p1 : wr.cell? ⟨g, o + k * 4 + 1, none⟩ = some (.int .i64 x1) := hc 1 _ rfl
          have p2 : wr.cell? ⟨g, o + k * 4 + 2, none⟩ = some (.int .i64 x2) := hc 2 _ rfl
          have p3 : wr.cell? ⟨g, o + k * 4 + 3, none⟩ = some (.int .i64 x3) := hc 3 _ rfl
          have hgw : g < wr.heap.size := by omega
          have hok := HES.out _ (List.mem_of_getElem? ha)
          have hki : (k : Int) < (m : Int) := by omega
          have k1g : ∀ o1, (wr.alloc o1).cell? ⟨w.heap.size + 1, 0, none⟩ = some (.int .i64 px) := fun o1 => (cell_alloc_at _ _ lk2).trans k1
          have k2g : ∀ o1, (wr.alloc o1).cell? ⟨w.heap.size + 1, 1, none⟩ = some (.int .i64 py) := fun o1 => (cell_alloc_at _ _ lk2).trans k2
          have CO := Lib.hid (fun w => implOn_any x0 x1 x2 x3 px py w)
          rw [← onV_is hok.1 hok.2 HP.out] at CO
          have HA := Lib.hid ha
          clear hc ha hok
          rcases hv : onB x0 x1 x2 x3 px py with _ | _
          case false =>
            have HV := Lib.hid (show onE px py (x0, x1, x2, x3) = false from hv)
            simp only at CO
            rw [hv] at CO
            clear hv
            go_wp2_with fail
            refine (CO.out _).mono ?_
            rintro e w5 ⟨rfl, hb5⟩
            have at5 := (at2.alloc _).below hb5
            have g5 : Below w4.heap.size w4 w5 := by repeat' (first | with_reducible assumption | with_reducible exact Below.refl _ _ | (with_reducible refine Below.setCell ?_ ?_ _) | (with_reducible refine Below.alloc ?_ ?_ _) | (with_reducible refine Below.drew ?_) | (with_reducible refine below_dr ?_ _) | (with_reducible refine Below.trans ?_ (Below.mono (by with_reducible assumption) ?_)) | omega | (simp; done) | (simp; omega))
            clear hb5
            go_wp2_with fail
            go_roundw
            case rel => exact ⟨k + 1, by omega, by go_num, onUp_succ HUP.out HA.out HV.out, at5, g5⟩
            case measure => simp [intOf]; omega
          case true =>
            have HV := Lib.hid (show onE px py (x0, x1, x2, x3) = true from hv)
            simp only at CO
            rw [hv] at CO
            clear hv
            have H := Lib.hid (H3.out hv0 HP.out (onA_yes HA.out HV.out).symm)
            go_wp2_with fail
            refine (CO.out _).mono ?_
            rintro e w5 ⟨rfl, hb5⟩
            have at5 := (at2.alloc _).below hb5
            have g5 : Below w4.heap.size w4 w5 := by repeat' (first | with_reducible assumption | with_reducible exact Below.refl _ _ | (with_reducible refine Below.setCell ?_ ?_ _) | (with_reducible refine Below.alloc ?_ ?_ _) | (with_reducible refine Below.drew ?_) | (with_reducible refine below_dr ?_ _) | (with_reducible refine Below.trans ?_ (Below.mono (by with_reducible assumption) ?_)) | omega | (simp; done) | (simp; omega))
            clear hb5
            go_wp2_with fail
            have gz : Below w.heap.size w w5 := g4.trans (g5.mono g4.size)
            refine bodyPost_ret (v := .tuple #[.int .i64 v1, .bool v2]) (by rw [← H.out.1, ← H.out.2]; simp [results, Try.results84, go_sem]) rfl ⟨rfl, by repeat' (first | with_reducible assumption | with_reducible exact Below.refl _ _ | (with_reducible refine Below.setCell ?_ ?_ _) | (with_reducible refine Below.alloc ?_ ?_ _) | (with_reducible refine Below.drew ?_) | (with_reducible refine below_dr ?_ _) | (with_reducible refine Below.trans ?_ (Below.mono (by with_reducible assumption) ?_)) | omega | (simp; done) | (simp; omega))⟩
        case neg =>
          obtain rfl : k = m := by omega
          have ho : onA es px py = false := by (unfold onA; rw [← HM.out]; exact HUP.out)
          have H := Lib.hid (H4.out hv0 HP.out ho)
          clear ho
          generalize windI es px py = v at CR H
          go_upto_region 10 with fail
          go_region_held3 (fun w' => (∀ b o, b < wr.heap.size → w'.cell? ⟨b, o, none⟩ = wr.cell? ⟨b, o, none⟩) ∧ wr.heap.size ≤ w'.heap.size)
            (first | ((try dsimp only); exact ⟨fun b o h => (by (repeat (first | with_reducible exact rfl | (with_reducible refine (cell_drew_at _ _).trans ?_) | (with_reducible refine (cell_set_at _ _ (by first | omega | (simp; done) | (simp; omega))).trans ?_) | (with_reducible refine (cell_alloc_at _ _ (by first | omega | (simp; done) | (simp; omega))).trans ?_) | (with_reducible refine (hcwF b o (by first | omega | (simp; done) | (simp; omega))).trans ?_) | (with_reducible refine (hcwT b o (by first | omega | (simp; done) | (simp; omega))).trans ?_) | (with_reducible refine (hcwZ b o (by first | omega | (simp; done) | (simp; omega))).trans ?_)))), (by first | omega | (simp; done) | (simp; omega))⟩) | fail)
            (first
              | (go_at_call 95; (with_reducible refine (CF.out _ _ _ ?_).mono ?_); (focus (exact ((Rd.drew (re.below hbl)).more (by simp only [World.size_drew]; omega)))); intro e wF hq; obtain ⟨D, rfl, ownF, hflF, hbwF⟩ := hq; (try simp only [World.size_drew] at ownF); obtain ⟨hcwF, hfwF⟩ := bcell hbwF; have hzwF := hbwF.size; (try simp only [World.size_drew] at hcwF hfwF hzwF))
              | (go_at_call 97; (with_reducible refine (CT.out _).mono ?_); rintro e wT ⟨rfl, hbwT⟩; obtain ⟨hcwT, hfwT⟩ := bcell hbwT; have hzwT := hbwT.size; (try simp only [World.size_drew] at hcwT hfwT hzwT))
              | (go_at_call 96; (with_reducible refine (CR.out D _ _ (ownF.kept (grown_below hbwT (Nat.le_refl _)) (by simp)) hflF).mono ?_); rintro e wZ ⟨rfl, hbwZ⟩; obtain ⟨hcwZ, hfwZ⟩ := bcell hbwZ; have hzwZ := hbwZ.size; (try simp only [World.size_drew] at hcwZ hfwZ hzwZ)))
          all_goals
            have gb : Below wr.heap.size wr wZ := by repeat' (first | with_reducible assumption | with_reducible exact Below.refl _ _ | (with_reducible refine Below.setCell ?_ ?_ _) | (with_reducible refine Below.alloc ?_ ?_ _) | (with_reducible refine Below.drew ?_) | (with_reducible refine below_dr ?_ _) | (with_reducible refine Below.trans ?_ (Below.mono (by with_reducible assumption) ?_)) | omega | (simp; done) | (simp; omega))
            have gz : Below w.heap.size w wZ := g4.trans ((hbl.trans (gb.mono hbl.size)).mono g4.size)
            clear hbwF hbwT hbwZ hcwF hcwT hcwZ hfwF hfwT hfwZ
            go_wp2_with fail
            refine bodyPost_ret (v := .tuple #[.int .i64 v1, .bool v2]) (by rw [← H.out.1, ← H.out.2]; simp [results, Try.results84, go_sem]) rfl ⟨rfl, by repeat' (first | with_reducible assumption | with_reducible exact Below.refl _ _ | (with_reducible refine Below.setCell ?_ ?_ _) | (with_reducible refine Below.alloc ?_ ?_ _) | (with_reducible refine Below.drew ?_) | (with_reducible refine below_dr ?_ _) | (with_reducible refine Below.trans ?_ (Below.mono (by with_reducible assumption) ?_)) | omega | (simp; done) | (simp; omega))⟩
end Go.Proofs.Ytdeemhfhmgnbgaa
