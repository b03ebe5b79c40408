/- Walks: where a point is, the reference's side. -/
import Derived.Test.YtdeemhfhmgnbgaaZg
namespace Go.Proofs.Ytdeemhfhmgnbgaa
open Go.RowKit
set_option linter.unusedVariables false
set_option maxRecDepth 100000 in
set_option maxHeartbeats 6400000 in
theorem specPointIn_any (ds : List DRing) (A : Option Addr) (c : Nat) (px py : Int) (w : World) (hl : ds.length ≤ 1048576) (hin : ∀ (i : Nat) (d : DRing), ds[i]? = some d → d.length ≤ 1048576) (htot : totRing ds ≤ 1048576) (r : RdRing w w.heap.size A ds) :
    Calls Try.prog 60 #[.agg #[.slice A ds.length c], .agg #[.int .i64 px, .int .i64 py]] w fun e w' => e = .returned (.tuple #[.int .i64 (piV ds px py), .int .i64 (piC ds px py)]) ∧ Below w.heap.size w w' := by
  have CV := Lib.hid (fun w1 h1 h2 r1 => l13Ok_any ds A c w.heap.size w1 h1 h2 hl hin r1)
  have CP := Lib.hid (fun w => l03Ok_any px py w)
  have H1 := Lib.hid (fun h => pi_1 (ds := ds) (px := px) (py := py) h)
  have H2 := Lib.hid (fun h h2 => pi_2 (ds := ds) (px := px) (py := py) h h2)
  have H3 := Lib.hid (fun h h2 h3 => pi_3 (ds := ds) (px := px) (py := py) h h2 h3)
  have H4 := Lib.hid (fun h h2 h3 h4 => pi_4 (ds := ds) (px := px) (py := py) h h2 h3 h4)
  have H5 := Lib.hid (fun h h2 h3 h4 => pi_5 (ds := ds) (px := px) (py := py) h h2 h3 h4)
  obtain ⟨v1, hv1⟩ : ∃ v, v = piV ds px py := ⟨_, rfl⟩
  obtain ⟨v2, hv2⟩ : ∃ v, v = piC ds px py := ⟨_, rfl⟩
  rw [← hv1, ← hv2] at H1 H2 H3 H4 H5 ⊢
  clear hv1 hv2
  obtain ⟨n, hn⟩ : ∃ n, n = ds.length := ⟨_, rfl⟩
  have HN := Lib.hid hn
  rcases hv : vRn ds with _ | _
  case false =>
    have H := Lib.hid (H1.out hv)
    rw [hv] at CV
    clear hv H1 H2 H3 H4 H5
    rw [← hn] at CV ⊢
    clear hn hl hin htot
    go_enter Try.func60, Try.ntmps60
    go_wp2_with fail
    refine (CV.out _ (by simp; omega) (by simp [go_sem]) (((r.alloc (Nat.le_refl _) _).alloc (by simp) _).more (by simp; omega))).mono ?_
    rintro e w1 ⟨rfl, hb1⟩
    go_wp2_with fail
    refine bodyPost_ret (v := .tuple #[.int .i64 v1, .int .i64 v2]) (by rw [← H.out.1, ← H.out.2]; simp [results, Try.results60, go_sem]) rfl ⟨rfl, by repeat' (first | with_reducible assumption | with_reducible exact Below.refl _ _ | (with_reducible refine Below.setCell ?_ ?_ _) | (with_reducible refine Below.alloc ?_ ?_ _) | (with_reducible refine Below.drew ?_) | (with_reducible refine below_dr ?_ _) | (with_reducible refine Below.trans ?_ (Below.mono (by with_reducible assumption) ?_)) | omega | (simp; done) | (simp; omega))⟩
  case true =>
    rw [hv] at CV
    obtain ⟨h40, hup, hl4⟩ := vRn_parts hv
    have CA := Lib.hid (fun w1 h1 h2 r1 => l13All_any ds A c w.heap.size w1 h1 h2 h40 (rUp_in hup) r1)
    have HES := Lib.hid (fun (e : AEdge) (he : e ∈ allE ds) => allE_okx hv he)
    clear h40 hup
    rw [← hn] at CA
    rw [← hn] at CV ⊢
    clear hn hl hin htot
    go_enter Try.func60, Try.ntmps60
    go_wp2_with fail
    refine (CV.out _ (by simp; omega) (by simp [go_sem]) (((r.alloc (Nat.le_refl _) _).alloc (by simp) _).more (by simp; omega))).mono ?_
    rintro e w1 ⟨rfl, hb1⟩
    have at1 : AtL w.heap.size [.slice A n c] w1 := (AtL.alloc (AtL.new w _ 40) _).below hb1
    have at2 : AtL (w.heap.size + 1) [.int .i64 px, .int .i64 py] w1 := (AtL.newAt (by simp)).below hb1
    have k0 := at1.cell 0 rfl
    have k1 := at2.cell 0 rfl
    have k2 := at2.cell 1 rfl
    have lk := at1.lt
    have lk2 := at2.lt
    have g1 : Below w.heap.size w w1 := by repeat' (first | with_reducible assumption | with_reducible exact Below.refl _ _ | (with_reducible refine Below.setCell ?_ ?_ _) | (with_reducible refine Below.alloc ?_ ?_ _) | (with_reducible refine Below.drew ?_) | (with_reducible refine below_dr ?_ _) | (with_reducible refine Below.trans ?_ (Below.mono (by with_reducible assumption) ?_)) | omega | (simp; done) | (simp; omega))
    have r1 : RdRing w1 w1.heap.size A ds := (r.carry g1 (Nat.le_refl _)).more g1.size
    clear hb1 r CV
    generalize allE ds = es at *
    go_wp2_with fail
    rcases hp : okB px py with _ | _
    case false =>
      have H := Lib.hid (H2.out hv hp)
      rw [hp] at CP
      clear hv hp H1 H2 H3 H4 H5
      refine (CP.out _).mono ?_
      rintro e w3 ⟨rfl, hb3⟩
      go_wp2_with fail
      refine bodyPost_ret (v := .tuple #[.int .i64 v1, .int .i64 v2]) (by rw [← H.out.1, ← H.out.2]; simp [results, Try.results60, go_sem]) rfl ⟨rfl, by repeat' (first | with_reducible assumption | with_reducible exact Below.refl _ _ | (with_reducible refine Below.setCell ?_ ?_ _) | (with_reducible refine Below.alloc ?_ ?_ _) | (with_reducible refine Below.drew ?_) | (with_reducible refine below_dr ?_ _) | (with_reducible refine Below.trans ?_ (Below.mono (by with_reducible assumption) ?_)) | omega | (simp; done) | (simp; omega))⟩
    case true =>
      rw [hp] at CP
      have CO := Lib.hid (fun A3 c3 w1 r1 => l14OnAny_any es A3 c3 px py w1 HES.out hp hl4 r1)
      have CW := Lib.hid (fun A3 c3 w1 r1 => l14Winding_any es A3 c3 px py w1 HES.out hp hl4 r1)
      obtain ⟨m, hm⟩ : ∃ m, m = es.length := ⟨_, rfl⟩
      rw [← hm] at CO CW CA hl4
      have HM := Lib.hid hm
      clear hm
      refine (CP.out _).mono ?_
      rintro e w3 ⟨rfl, hbw3⟩
      have gw3 : Below w.heap.size w w3 := by repeat' (first | with_reducible assumption | with_reducible exact Below.refl _ _ | (with_reducible refine Below.setCell ?_ ?_ _) | (with_reducible refine Below.alloc ?_ ?_ _) | (with_reducible refine Below.drew ?_) | (with_reducible refine below_dr ?_ _) | (with_reducible refine Below.trans ?_ (Below.mono (by with_reducible assumption) ?_)) | omega | (simp; done) | (simp; omega))
      replace at1 := at1.below hbw3
      replace at2 := at2.below hbw3
      clear k0 k1 k2 lk lk2
      have k0 := at1.cell 0 rfl
      have k1 := at2.cell 0 rfl
      have k2 := at2.cell 1 rfl
      have lk := at1.lt
      have lk2 := at2.lt
      have hb3x := hbw3
      go_wp2_with fail
      refine (CA.out _ lk k0 ((r1.carry hb3x (Nat.le_refl _)).more hb3x.size)).mono ?_
      intro e w4 hq1
      obtain ⟨A3, c3, rfl, ow3, hb4⟩ := hq1
      have g4 : Below w.heap.size w w4 := by repeat' (first | with_reducible assumption | with_reducible exact Below.refl _ _ | (with_reducible refine Below.setCell ?_ ?_ _) | (with_reducible refine Below.alloc ?_ ?_ _) | (with_reducible refine Below.drew ?_) | (with_reducible refine below_dr ?_ _) | (with_reducible refine Below.trans ?_ (Below.mono (by with_reducible assumption) ?_)) | omega | (simp; done) | (simp; omega))
      have re := ow3.rd (Nat.le_refl _)
      replace at1 := at1.below hb4
      replace at2 := at2.below hb4
      clear k0 k1 k2 lk lk2 hb4 ow3 r1 hb3x
      have k0 := at1.cell 0 rfl
      have k1 := at2.cell 0 rfl
      have k2 := at2.cell 1 rfl
      have lk := at1.lt
      have lk2 := at2.lt
      go_wp2_with fail
      rcases ho : onA es px py with _ | _
      case true =>
        have H := Lib.hid (H3.out hv hp ho)
        rw [ho] at CO
        clear hv hp ho H1 H2 H3 H4 H5
        refine (CO.out A3 c3 _ re).mono ?_
        rintro e w5 ⟨rfl, hb5⟩
        have g5 : Below w.heap.size w w5 := by repeat' (first | with_reducible assumption | with_reducible exact Below.refl _ _ | (with_reducible refine Below.setCell ?_ ?_ _) | (with_reducible refine Below.alloc ?_ ?_ _) | (with_reducible refine Below.drew ?_) | (with_reducible refine below_dr ?_ _) | (with_reducible refine Below.trans ?_ (Below.mono (by with_reducible assumption) ?_)) | omega | (simp; done) | (simp; omega))
        go_wp2_with fail
        refine bodyPost_ret (v := .tuple #[.int .i64 v1, .int .i64 v2]) (by rw [← H.out.1, ← H.out.2]; simp [results, Try.results60, go_sem]) rfl ⟨rfl, by repeat' (first | with_reducible assumption | with_reducible exact Below.refl _ _ | (with_reducible refine Below.setCell ?_ ?_ _) | (with_reducible refine Below.alloc ?_ ?_ _) | (with_reducible refine Below.drew ?_) | (with_reducible refine below_dr ?_ _) | (with_reducible refine Below.trans ?_ (Below.mono (by with_reducible assumption) ?_)) | omega | (simp; done) | (simp; omega))⟩
      case false =>
        rw [ho] at CO
        refine (CO.out A3 c3 _ re).mono ?_
        rintro e w5 ⟨rfl, hb5⟩
        have g5 : Below w.heap.size w w5 := by repeat' (first | with_reducible assumption | with_reducible exact Below.refl _ _ | (with_reducible refine Below.setCell ?_ ?_ _) | (with_reducible refine Below.alloc ?_ ?_ _) | (with_reducible refine Below.drew ?_) | (with_reducible refine below_dr ?_ _) | (with_reducible refine Below.trans ?_ (Below.mono (by with_reducible assumption) ?_)) | omega | (simp; done) | (simp; omega))
        have z5 := hb5.size
        replace re := re.below hb5
        replace at1 := at1.below hb5
        replace at2 := at2.below hb5
        clear k0 k1 k2 lk lk2 hb5
        have k0 := at1.cell 0 rfl
        have k1 := at2.cell 0 rfl
        have k2 := at2.cell 1 rfl
        have lk := at1.lt
        have lk2 := at2.lt
        go_wp2_with fail
        rcases hw : (windI es px py != 0) with _ | _
        case false =>
          have H := Lib.hid (H5.out hv hp ho hw)
          clear hv hp ho H1 H2 H3 H4 H5
          generalize windI es px py = v at CW hw
          refine (CW.out A3 c3 _ (re.more z5)).mono ?_
          rintro e w6 ⟨rfl, hb6⟩
          have g6 : Below w.heap.size w w6 := by repeat' (first | with_reducible assumption | with_reducible exact Below.refl _ _ | (with_reducible refine Below.setCell ?_ ?_ _) | (with_reducible refine Below.alloc ?_ ?_ _) | (with_reducible refine Below.drew ?_) | (with_reducible refine below_dr ?_ _) | (with_reducible refine Below.trans ?_ (Below.mono (by with_reducible assumption) ?_)) | omega | (simp; done) | (simp; omega))
          go_wp2_with fail
          refine bodyPost_ret (v := .tuple #[.int .i64 v1, .int .i64 v2]) (by rw [← H.out.1, ← H.out.2]; simp [results, Try.results60, go_sem]) rfl ⟨rfl, by repeat' (first | with_reducible assumption | with_reducible exact Below.refl _ _ | (with_reducible refine Below.setCell ?_ ?_ _) | (with_reducible refine Below.alloc ?_ ?_ _) | (with_reducible refine Below.drew ?_) | (with_reducible refine below_dr ?_ _) | (with_reducible refine Below.trans ?_ (Below.mono (by with_reducible assumption) ?_)) | omega | (simp; done) | (simp; omega))⟩
        case true =>
          have H := Lib.hid (H4.out hv hp ho hw)
          clear hv hp ho H1 H2 H3 H4 H5
          generalize windI es px py = v at CW hw
          refine (CW.out A3 c3 _ (re.more z5)).mono ?_
          rintro e w6 ⟨rfl, hb6⟩
          have g6 : Below w.heap.size w w6 := by repeat' (first | with_reducible assumption | with_reducible exact Below.refl _ _ | (with_reducible refine Below.setCell ?_ ?_ _) | (with_reducible refine Below.alloc ?_ ?_ _) | (with_reducible refine Below.drew ?_) | (with_reducible refine below_dr ?_ _) | (with_reducible refine Below.trans ?_ (Below.mono (by with_reducible assumption) ?_)) | omega | (simp; done) | (simp; omega))
          go_wp2_with fail
          refine bodyPost_ret (v := .tuple #[.int .i64 v1, .int .i64 v2]) (by rw [← H.out.1, ← H.out.2]; simp [results, Try.results60, go_sem]) rfl ⟨rfl, by repeat' (first | with_reducible assumption | with_reducible exact Below.refl _ _ | (with_reducible refine Below.setCell ?_ ?_ _) | (with_reducible refine Below.alloc ?_ ?_ _) | (with_reducible refine Below.drew ?_) | (with_reducible refine below_dr ?_ _) | (with_reducible refine Below.trans ?_ (Below.mono (by with_reducible assumption) ?_)) | omega | (simp; done) | (simp; omega))⟩
end Go.Proofs.Ytdeemhfhmgnbgaa
