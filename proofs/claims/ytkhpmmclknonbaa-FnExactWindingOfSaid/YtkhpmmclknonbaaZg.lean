/- Walks: winding numbers and where points are, the reference's side. -/
import Derived.Test.YtkhpmmclknonbaaZf
namespace Go.Proofs.Ytkhpmmclknonbaa
open Go.RowKit
set_option linter.unusedVariables false
def wdB (ds : List DRing) (px py : Int) : Bool := vRn ds && (okB px py && !onA (allE ds) px py)
def wdV (ds : List DRing) (px py : Int) : Int := bif wdB ds px py then windI (allE ds) px py else 0
section
variable {ds : List DRing} {px py : Int}
theorem wd_1 (h : vRn ds = false) : 0 = wdV ds px py ∧ false = wdB ds px py := by unfold wdV wdB; rw [h]; exact ⟨rfl, rfl⟩
theorem wd_2 (h : vRn ds = true) (h2 : okB px py = false) : 0 = wdV ds px py ∧ false = wdB ds px py := by unfold wdV wdB; rw [h, h2]; exact ⟨rfl, rfl⟩
theorem wd_3 (h : vRn ds = true) (h2 : okB px py = true) (h3 : onA (allE ds) px py = true) : 0 = wdV ds px py ∧ false = wdB ds px py := by unfold wdV wdB; rw [h, h2, h3]; exact ⟨rfl, rfl⟩
theorem wd_4 (h : vRn ds = true) (h2 : okB px py = true) (h3 : onA (allE ds) px py = false) : windI (allE ds) px py = wdV ds px py ∧ true = wdB ds px py := by unfold wdV wdB; rw [h, h2, h3]; exact ⟨rfl, rfl⟩
end
def piC (ds : List DRing) (px py : Int) : Int := bif vRn ds && okB px py then 0 else 1
def piV (ds : List DRing) (px py : Int) : Int := bif vRn ds && okB px py then (bif onA (allE ds) px py then 2 else (bif windI (allE ds) px py != 0 then 1 else 0)) else 0
section
variable {ds : List DRing} {px py : Int}
theorem pi_1 (h : vRn ds = false) : 0 = piV ds px py ∧ 1 = piC ds px py := by unfold piV piC; rw [h]; exact ⟨rfl, rfl⟩
theorem pi_2 (h : vRn ds = true) (h2 : okB px py = false) : 0 = piV ds px py ∧ 1 = piC ds px py := by unfold piV piC; rw [h, h2]; exact ⟨rfl, rfl⟩
theorem pi_3 (h : vRn ds = true) (h2 : okB px py = true) (h3 : onA (allE ds) px py = true) : 2 = piV ds px py ∧ 0 = piC ds px py := by unfold piV piC; rw [h, h2, h3]; exact ⟨rfl, rfl⟩
theorem pi_4 (h : vRn ds = true) (h2 : okB px py = true) (h3 : onA (allE ds) px py = false) (h4 : (windI (allE ds) px py != 0) = true) : 1 = piV ds px py ∧ 0 = piC ds px py := by unfold piV piC; rw [h, h2, h3, h4]; exact ⟨rfl, rfl⟩
theorem pi_5 (h : vRn ds = true) (h2 : okB px py = true) (h3 : onA (allE ds) px py = false) (h4 : (windI (allE ds) px py != 0) = false) : 0 = piV ds px py ∧ 0 = piC ds px py := by unfold piV piC; rw [h, h2, h3, h4]; exact ⟨rfl, rfl⟩
end
set_option maxRecDepth 100000 in
set_option maxHeartbeats 6400000 in
theorem specWindingOf_any (ds : List DRing) (A : Option Addr) (c : Nat) (px py : Int) (w : World) (hl : ds.length ≤ 1048576) (hin : ∀ (i : Nat) (d : DRing), ds[i]? = some d → d.length ≤ 1048576) (htot : totRing ds ≤ 1048576) (r : RdRing w w.heap.size A ds) :
    Calls Try.prog 30 #[.agg #[.slice A ds.length c], .agg #[.int .i64 px, .int .i64 py]] w fun e w' => e = .returned (.tuple #[.int .i64 (wdV ds px py), .bool (wdB ds px py)]) ∧ Below w.heap.size w w' := by
  have C0 := Lib.hid (fun w1 h1 h2 r1 => l13AllBig_any ds A c w.heap.size w1 h1 h2 hl hin htot r1)
  have CV := Lib.hid (fun w1 h1 h2 r1 => l13Ok_any ds A c w.heap.size w1 h1 h2 hl hin r1)
  have CP := Lib.hid (fun w => l03Ok_any px py w)
  have HOK := Lib.hid (fun (hv : vRn ds = true) (e : AEdge) (he : e ∈ allE ds) => allE_okx hv he)
  have H400 := Lib.hid (fun (hv : vRn ds = true) => (vRn_parts hv).2.2)
  have H1 := Lib.hid (fun h => wd_1 (ds := ds) (px := px) (py := py) h)
  have H2 := Lib.hid (fun h h2 => wd_2 (ds := ds) (px := px) (py := py) h h2)
  have H3 := Lib.hid (fun h h2 h3 => wd_3 (ds := ds) (px := px) (py := py) h h2 h3)
  have H4 := Lib.hid (fun h h2 h3 => wd_4 (ds := ds) (px := px) (py := py) h h2 h3)
  obtain ⟨v1, hv1⟩ : ∃ v, v = wdV ds px py := ⟨_, rfl⟩
  obtain ⟨v2, hv2⟩ : ∃ v, v = wdB ds px py := ⟨_, rfl⟩
  rw [← hv1, ← hv2] at H1 H2 H3 H4 ⊢
  clear hv1 hv2 hl hin htot
  obtain ⟨n, hn⟩ : ∃ n, n = ds.length := ⟨_, rfl⟩
  rw [← hn] at C0 CV ⊢
  clear hn
  go_enter Try.func30, Try.ntmps30
  go_wp2_with fail
  refine (C0.out _ (by simp; omega) (by simp [go_sem]) (((r.alloc (Nat.le_refl _) _).alloc (by simp) _).more (by simp; omega))).mono ?_
  intro e w1 hq1
  obtain ⟨A3, c3, rfl, ow3, hb1⟩ := hq1
  have at1 : AtL w.heap.size [.slice A n c] w1 := (AtL.alloc (AtL.new w _ 38) _).below hb1
  have at2 : AtL (w.heap.size + 1) [.int .i64 px, .int .i64 py] w1 := (AtL.newAt (by simp)).below hb1
  have k0 := at1.cell 0 rfl
  have k1 := at2.cell 0 rfl
  have k2 := at2.cell 1 rfl
  have lk := at1.lt
  have lk2 := at2.lt
  have g1 : Below w.heap.size w w1 := by repeat' (first | with_reducible assumption | with_reducible exact Below.refl _ _ | (with_reducible refine Below.setCell ?_ ?_ _) | (with_reducible refine Below.alloc ?_ ?_ _) | (with_reducible refine Below.drew ?_) | (with_reducible refine below_dr ?_ _) | (with_reducible refine Below.trans ?_ (Below.mono (by with_reducible assumption) ?_)) | omega | (simp; done) | (simp; omega))
  have r1 : RdRing w1 w1.heap.size A ds := (r.carry g1 (Nat.le_refl _)).more g1.size
  have re := ow3.rd (Nat.le_refl _)
  clear hb1 ow3 C0
  generalize allE ds = es at *
  rcases hv : vRn ds with _ | _
  case false =>
    have H := Lib.hid (H1.out hv)
    rw [hv] at CV
    clear hv H1 H2 H3 H4 HOK H400
    go_wp2_with fail
    refine (CV.out _ lk k0 r1).mono ?_
    rintro e w2 ⟨rfl, hb2⟩
    go_wp2_with fail
    refine bodyPost_ret (v := .tuple #[.int .i64 v1, .bool v2]) (by rw [← H.out.1, ← H.out.2]; simp [results, Try.results30, go_sem]) rfl ⟨rfl, by repeat' (first | with_reducible assumption | with_reducible exact Below.refl _ _ | (with_reducible refine Below.setCell ?_ ?_ _) | (with_reducible refine Below.alloc ?_ ?_ _) | (with_reducible refine Below.drew ?_) | (with_reducible refine below_dr ?_ _) | (with_reducible refine Below.trans ?_ (Below.mono (by with_reducible assumption) ?_)) | omega | (simp; done) | (simp; omega))⟩
  case true =>
    rw [hv] at CV
    have HES := Lib.hid (HOK.out hv)
    have hl4 := H400.out hv
    go_wp2_with fail
    refine (CV.out _ lk k0 r1).mono ?_
    rintro e w2 ⟨rfl, hbw2⟩
    have gw2 : Below w.heap.size w w2 := by repeat' (first | with_reducible assumption | with_reducible exact Below.refl _ _ | (with_reducible refine Below.setCell ?_ ?_ _) | (with_reducible refine Below.alloc ?_ ?_ _) | (with_reducible refine Below.drew ?_) | (with_reducible refine below_dr ?_ _) | (with_reducible refine Below.trans ?_ (Below.mono (by with_reducible assumption) ?_)) | omega | (simp; done) | (simp; omega))
    replace at1 := at1.below hbw2
    replace at2 := at2.below hbw2
    clear k0 k1 k2 lk lk2
    have k0 := at1.cell 0 rfl
    have k1 := at2.cell 0 rfl
    have k2 := at2.cell 1 rfl
    have lk := at1.lt
    have lk2 := at2.lt
    have zw2 := hbw2.size
    replace re := re.below (hbw2.mono (by omega))
    clear hbw2
    clear g1 r1
    rcases hp : okB px py with _ | _
    case false =>
      have H := Lib.hid (H2.out hv hp)
      rw [hp] at CP
      clear hv hp H1 H2 H3 H4 HOK H400
      go_wp2_with fail
      refine (CP.out _).mono ?_
      rintro e w3 ⟨rfl, hb3⟩
      go_wp2_with fail
      refine bodyPost_ret (v := .tuple #[.int .i64 v1, .bool v2]) (by rw [← H.out.1, ← H.out.2]; simp [results, Try.results30, go_sem]) rfl ⟨rfl, by repeat' (first | with_reducible assumption | with_reducible exact Below.refl _ _ | (with_reducible refine Below.setCell ?_ ?_ _) | (with_reducible refine Below.alloc ?_ ?_ _) | (with_reducible refine Below.drew ?_) | (with_reducible refine below_dr ?_ _) | (with_reducible refine Below.trans ?_ (Below.mono (by with_reducible assumption) ?_)) | omega | (simp; done) | (simp; omega))⟩
    case true =>
      rw [hp] at CP
      have CO := Lib.hid (fun w1 r1 => l14OnAny_any es A3 c3 px py w1 HES.out hp hl4 r1)
      have CW := Lib.hid (fun w1 r1 => l14Winding_any es A3 c3 px py w1 HES.out hp hl4 r1)
      obtain ⟨m, hm⟩ : ∃ m, m = es.length := ⟨_, rfl⟩
      rw [← hm] at CO CW hl4 ⊢
      have HM := Lib.hid hm
      clear hm
      go_wp2_with fail
      refine (CP.out _).mono ?_
      rintro e w3 ⟨rfl, hbw3⟩
      have gw3 : Below w.heap.size w w3 := by repeat' (first | with_reducible assumption | with_reducible exact Below.refl _ _ | (with_reducible refine Below.setCell ?_ ?_ _) | (with_reducible refine Below.alloc ?_ ?_ _) | (with_reducible refine Below.drew ?_) | (with_reducible refine below_dr ?_ _) | (with_reducible refine Below.trans ?_ (Below.mono (by with_reducible assumption) ?_)) | omega | (simp; done) | (simp; omega))
      replace at1 := at1.below hbw3
      replace at2 := at2.below hbw3
      clear k0 k1 k2 lk lk2
      have k0 := at1.cell 0 rfl
      have k1 := at2.cell 0 rfl
      have k2 := at2.cell 1 rfl
      have lk := at1.lt
      have lk2 := at2.lt
      have zw3 := hbw3.size
      replace re := re.below (hbw3.mono (by omega))
      clear hbw3
      have zz := gw3.size
      rcases ho : onA es px py with _ | _
      case true =>
        have H := Lib.hid (H3.out hv hp ho)
        rw [ho] at CO
        clear hv hp ho H1 H2 H3 H4 HOK H400
        go_wp2_with fail
        refine (CO.out _ (re.more (by omega))).mono ?_
        rintro e w4 ⟨rfl, hb4⟩
        have z4 := hb4.size
        have g4 : Below w.heap.size w w4 := by repeat' (first | with_reducible assumption | with_reducible exact Below.refl _ _ | (with_reducible refine Below.setCell ?_ ?_ _) | (with_reducible refine Below.alloc ?_ ?_ _) | (with_reducible refine Below.drew ?_) | (with_reducible refine below_dr ?_ _) | (with_reducible refine Below.trans ?_ (Below.mono (by with_reducible assumption) ?_)) | omega | (simp; done) | (simp; omega))
        go_wp2_with fail
        refine bodyPost_ret (v := .tuple #[.int .i64 v1, .bool v2]) (by rw [← H.out.1, ← H.out.2]; simp [results, Try.results30, go_sem]) rfl ⟨rfl, by repeat' (first | with_reducible assumption | with_reducible exact Below.refl _ _ | (with_reducible refine Below.setCell ?_ ?_ _) | (with_reducible refine Below.alloc ?_ ?_ _) | (with_reducible refine Below.drew ?_) | (with_reducible refine below_dr ?_ _) | (with_reducible refine Below.trans ?_ (Below.mono (by with_reducible assumption) ?_)) | omega | (simp; done) | (simp; omega))⟩
      case false =>
        have H := Lib.hid (H4.out hv hp ho)
        rw [ho] at CO
        clear hv hp ho H1 H2 H3 H4 HOK H400
        go_wp2_with fail
        refine (CO.out _ (re.more (by omega))).mono ?_
        rintro e w4 ⟨rfl, hb4⟩
        have z4 := hb4.size
        have g4 : Below w.heap.size w w4 := by repeat' (first | with_reducible assumption | with_reducible exact Below.refl _ _ | (with_reducible refine Below.setCell ?_ ?_ _) | (with_reducible refine Below.alloc ?_ ?_ _) | (with_reducible refine Below.drew ?_) | (with_reducible refine below_dr ?_ _) | (with_reducible refine Below.trans ?_ (Below.mono (by with_reducible assumption) ?_)) | omega | (simp; done) | (simp; omega))
        replace re := re.below (hb4.mono (by omega))
        replace at1 := at1.below hb4
        replace at2 := at2.below hb4
        clear k0 k1 k2 lk lk2 hb4
        have k0 := at1.cell 0 rfl
        have k1 := at2.cell 0 rfl
        have k2 := at2.cell 1 rfl
        have lk := at1.lt
        have lk2 := at2.lt
        generalize windI es px py = v at CW H
        go_wp2_with fail
        refine (CW.out _ (re.more (by omega))).mono ?_
        rintro e w5 ⟨rfl, hb5⟩
        have g5 : Below w.heap.size w w5 := by repeat' (first | with_reducible assumption | with_reducible exact Below.refl _ _ | (with_reducible refine Below.setCell ?_ ?_ _) | (with_reducible refine Below.alloc ?_ ?_ _) | (with_reducible refine Below.drew ?_) | (with_reducible refine below_dr ?_ _) | (with_reducible refine Below.trans ?_ (Below.mono (by with_reducible assumption) ?_)) | omega | (simp; done) | (simp; omega))
        go_wp2_with fail
        refine bodyPost_ret (v := .tuple #[.int .i64 v1, .bool v2]) (by rw [← H.out.1, ← H.out.2]; simp [results, Try.results30, go_sem]) rfl ⟨rfl, by repeat' (first | with_reducible assumption | with_reducible exact Below.refl _ _ | (with_reducible refine Below.setCell ?_ ?_ _) | (with_reducible refine Below.alloc ?_ ?_ _) | (with_reducible refine Below.drew ?_) | (with_reducible refine below_dr ?_ _) | (with_reducible refine Below.trans ?_ (Below.mono (by with_reducible assumption) ?_)) | omega | (simp; done) | (simp; omega))⟩
end Go.Proofs.Ytkhpmmclknonbaa
