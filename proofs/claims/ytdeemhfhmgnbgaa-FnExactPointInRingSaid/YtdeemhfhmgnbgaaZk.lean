/- Walks: where a point is, the program's side; the law on PointIn: it returns true. -/
import Derived.Test.YtdeemhfhmgnbgaaZi
namespace Go.Proofs.Ytdeemhfhmgnbgaa
open Go.RowKit
set_option linter.unusedVariables false
theorem wdB_ok {ds : List DRing} {px py : Int} (h : vRn ds = true) (h2 : okB px py = true) : wdB ds px py = !onA (allE ds) px py := by unfold wdB; rw [h, h2]; rfl
theorem wdV_ok {ds : List DRing} {px py : Int} (h : vRn ds = true) (h2 : okB px py = true) (h3 : onA (allE ds) px py = false) : wdV ds px py = windI (allE ds) px py := by unfold wdV; rw [wdB_ok h h2, h3]; rfl
set_option maxRecDepth 100000 in
set_option maxHeartbeats 6400000 in
theorem implPointIn_any (ds : List DRing) (A : Option Addr) (c : Nat) (px py : Int) (w : World) (hl : ds.length ≤ 1048576) (hin : ∀ (i : Nat) (d : DRing), ds[i]? = some d → d.length ≤ 1048576) (htot : totRing ds ≤ 1048576) (r : RdRing w w.heap.size A ds) :
    Calls Try.prog 61 #[.agg #[.slice A ds.length c], .agg #[.int .i64 px, .int .i64 py]] w fun e w' => e = .returned (.tuple #[.int .i64 (piV ds px py), .int .i64 (piC ds px py)]) ∧ Below w.heap.size w w' := by
  have CV := Lib.hid (fun w1 r1 => implValidRegion_any ds A c w1 hl hin r1)
  have CP := Lib.hid (fun w => implValidPt_any px py w)
  have CW := Lib.hid (fun w r => implWindingOf_any ds A c px py w hl hin htot r)
  have H1 := Lib.hid (fun h => pi_1 (ds := ds) (px := px) (py := py) h)
  have H2 := Lib.hid (fun h h2 => pi_2 (ds := ds) (px := px) (py := py) h h2)
  have H3 := Lib.hid (fun h h2 h3 => pi_3 (ds := ds) (px := px) (py := py) h h2 h3)
  have H4 := Lib.hid (fun h h2 h3 h4 => pi_4 (ds := ds) (px := px) (py := py) h h2 h3 h4)
  have H5 := Lib.hid (fun h h2 h3 h4 => pi_5 (ds := ds) (px := px) (py := py) h h2 h3 h4)
  obtain ⟨v1, hv1⟩ : ∃ v, v = piV ds px py := ⟨_, rfl⟩
  obtain ⟨v2, hv2⟩ : ∃ v, v = piC ds px py := ⟨_, rfl⟩
  rw [← hv1, ← hv2] at H1 H2 H3 H4 H5 ⊢
  clear hv1 hv2
  obtain ⟨n, hn⟩ : ∃ n, n = ds.length := ⟨_, rfl⟩
  rcases hv : vRn ds with _ | _
  case false =>
    have H := Lib.hid (H1.out hv)
    rw [hv] at CV
    clear hv H1 H2 H3 H4 H5
    rw [← hn] at CV CW ⊢
    clear hn hl hin htot
    go_enter Try.func61, Try.ntmps61
    go_wp2_with fail
    refine (CV.out _ (((r.alloc (Nat.le_refl _) _).alloc (by simp) _).more (by simp; omega))).mono ?_
    rintro e w1 ⟨rfl, hb1⟩
    go_wp2_with fail
    refine bodyPost_ret (v := .tuple #[.int .i64 v1, .int .i64 v2]) (by rw [← H.out.1, ← H.out.2]; simp [results, Try.results61, go_sem]) rfl ⟨rfl, by repeat' (first | with_reducible assumption | with_reducible exact Below.refl _ _ | (with_reducible refine Below.setCell ?_ ?_ _) | (with_reducible refine Below.alloc ?_ ?_ _) | (with_reducible refine Below.drew ?_) | (with_reducible refine below_dr ?_ _) | (with_reducible refine Below.trans ?_ (Below.mono (by with_reducible assumption) ?_)) | omega | (simp; done) | (simp; omega))⟩
  case true =>
    rw [hv] at CV
    rw [← hn] at CV CW ⊢
    clear hn hl hin htot
    go_enter Try.func61, Try.ntmps61
    go_wp2_with fail
    refine (CV.out _ (((r.alloc (Nat.le_refl _) _).alloc (by simp) _).more (by simp; omega))).mono ?_
    rintro e w1 ⟨rfl, hb1⟩
    have at1 : AtL w.heap.size [.slice A n c] w1 := (AtL.alloc (AtL.new w _ 40) _).below hb1
    have at2 : AtL (w.heap.size + 1) [.int .i64 px, .int .i64 py] w1 := (AtL.newAt (by simp)).below hb1
    have k0 := at1.cell 0 rfl
    have k1 := at2.cell 0 rfl
    have k2 := at2.cell 1 rfl
    have lk := at1.lt
    have lk2 := at2.lt
    have g1 : Below w.heap.size w w1 := by repeat' (first | with_reducible assumption | with_reducible exact Below.refl _ _ | (with_reducible refine Below.setCell ?_ ?_ _) | (with_reducible refine Below.alloc ?_ ?_ _) | (with_reducible refine Below.drew ?_) | (with_reducible refine below_dr ?_ _) | (with_reducible refine Below.trans ?_ (Below.mono (by with_reducible assumption) ?_)) | omega | (simp; done) | (simp; omega))
    have r1 : RdRing w1 w1.heap.size A ds := (r.carry g1 (Nat.le_refl _)).more g1.size
    clear hb1 r CV
    go_wp2_with fail
    rcases hp : okB px py with _ | _
    case false =>
      have H := Lib.hid (H2.out hv hp)
      rw [hp] at CP
      clear hv hp H1 H2 H3 H4 H5
      refine (CP.out _).mono ?_
      rintro e w3 ⟨rfl, hb3⟩
      go_wp2_with fail
      refine bodyPost_ret (v := .tuple #[.int .i64 v1, .int .i64 v2]) (by rw [← H.out.1, ← H.out.2]; simp [results, Try.results61, go_sem]) rfl ⟨rfl, by repeat' (first | with_reducible assumption | with_reducible exact Below.refl _ _ | (with_reducible refine Below.setCell ?_ ?_ _) | (with_reducible refine Below.alloc ?_ ?_ _) | (with_reducible refine Below.drew ?_) | (with_reducible refine below_dr ?_ _) | (with_reducible refine Below.trans ?_ (Below.mono (by with_reducible assumption) ?_)) | omega | (simp; done) | (simp; omega))⟩
    case true =>
      rw [hp] at CP
      refine (CP.out _).mono ?_
      rintro e w3 ⟨rfl, hbw3⟩
      have gw3 : Below w.heap.size w w3 := by repeat' (first | with_reducible assumption | with_reducible exact Below.refl _ _ | (with_reducible refine Below.setCell ?_ ?_ _) | (with_reducible refine Below.alloc ?_ ?_ _) | (with_reducible refine Below.drew ?_) | (with_reducible refine below_dr ?_ _) | (with_reducible refine Below.trans ?_ (Below.mono (by with_reducible assumption) ?_)) | omega | (simp; done) | (simp; omega))
      replace at1 := at1.below hbw3
      replace at2 := at2.below hbw3
      clear k0 k1 k2 lk lk2
      have k0 := at1.cell 0 rfl
      have k1 := at2.cell 0 rfl
      have k2 := at2.cell 1 rfl
      have lk := at1.lt
      have lk2 := at2.lt
      have hb3x := hbw3
      have hon := wdB_ok hv hp
      have hwv := fun h => wdV_ok (ds := ds) hv hp h
      rcases ho : onA (allE ds) px py with _ | _
      case false =>
        rw [ho] at hon
        rw [hon, hwv ho] at CW
        clear hon hwv
        rcases hw : (windI (allE ds) px py != 0) with _ | _
        case false =>
          have H := Lib.hid (H5.out hv hp ho hw)
          generalize windI (allE ds) px py = vv at CW hw
          clear hv hp ho H1 H2 H3 H4 H5
          go_wp2_with fail
          refine (CW.out _ ((r1.carry hb3x (Nat.le_refl _)).more hb3x.size)).mono ?_
          rintro e w4 ⟨rfl, hb4⟩
          have g4 : Below w.heap.size w w4 := by repeat' (first | with_reducible assumption | with_reducible exact Below.refl _ _ | (with_reducible refine Below.setCell ?_ ?_ _) | (with_reducible refine Below.alloc ?_ ?_ _) | (with_reducible refine Below.drew ?_) | (with_reducible refine below_dr ?_ _) | (with_reducible refine Below.trans ?_ (Below.mono (by with_reducible assumption) ?_)) | omega | (simp; done) | (simp; omega))
          clear hb4
          go_wp2_with fail
          refine bodyPost_ret (v := .tuple #[.int .i64 v1, .int .i64 v2]) (by rw [← H.out.1, ← H.out.2]; simp [results, Try.results61, go_sem]) rfl ⟨rfl, by repeat' (first | with_reducible assumption | with_reducible exact Below.refl _ _ | (with_reducible refine Below.setCell ?_ ?_ _) | (with_reducible refine Below.alloc ?_ ?_ _) | (with_reducible refine Below.drew ?_) | (with_reducible refine below_dr ?_ _) | (with_reducible refine Below.trans ?_ (Below.mono (by with_reducible assumption) ?_)) | omega | (simp; done) | (simp; omega))⟩
        case true =>
          have H := Lib.hid (H4.out hv hp ho hw)
          generalize windI (allE ds) px py = vv at CW hw
          clear hv hp ho H1 H2 H3 H4 H5
          go_wp2_with fail
          refine (CW.out _ ((r1.carry hb3x (Nat.le_refl _)).more hb3x.size)).mono ?_
          rintro e w4 ⟨rfl, hb4⟩
          have g4 : Below w.heap.size w w4 := by repeat' (first | with_reducible assumption | with_reducible exact Below.refl _ _ | (with_reducible refine Below.setCell ?_ ?_ _) | (with_reducible refine Below.alloc ?_ ?_ _) | (with_reducible refine Below.drew ?_) | (with_reducible refine below_dr ?_ _) | (with_reducible refine Below.trans ?_ (Below.mono (by with_reducible assumption) ?_)) | omega | (simp; done) | (simp; omega))
          clear hb4
          go_wp2_with fail
          refine bodyPost_ret (v := .tuple #[.int .i64 v1, .int .i64 v2]) (by rw [← H.out.1, ← H.out.2]; simp [results, Try.results61, go_sem]) rfl ⟨rfl, by repeat' (first | with_reducible assumption | with_reducible exact Below.refl _ _ | (with_reducible refine Below.setCell ?_ ?_ _) | (with_reducible refine Below.alloc ?_ ?_ _) | (with_reducible refine Below.drew ?_) | (with_reducible refine below_dr ?_ _) | (with_reducible refine Below.trans ?_ (Below.mono (by with_reducible assumption) ?_)) | omega | (simp; done) | (simp; omega))⟩
      case true =>
        rw [ho] at hon
        rw [hon] at CW
        have H := Lib.hid (H3.out hv hp ho)
        generalize wdV ds px py = vv at CW
        clear hon hwv
        clear hv hp ho H1 H2 H3 H4 H5
        go_wp2_with fail
        refine (CW.out _ ((r1.carry hb3x (Nat.le_refl _)).more hb3x.size)).mono ?_
        rintro e w4 ⟨rfl, hb4⟩
        have g4 : Below w.heap.size w w4 := by repeat' (first | with_reducible assumption | with_reducible exact Below.refl _ _ | (with_reducible refine Below.setCell ?_ ?_ _) | (with_reducible refine Below.alloc ?_ ?_ _) | (with_reducible refine Below.drew ?_) | (with_reducible refine below_dr ?_ _) | (with_reducible refine Below.trans ?_ (Below.mono (by with_reducible assumption) ?_)) | omega | (simp; done) | (simp; omega))
        clear hb4
        go_wp2_with fail
        refine bodyPost_ret (v := .tuple #[.int .i64 v1, .int .i64 v2]) (by rw [← H.out.1, ← H.out.2]; simp [results, Try.results61, go_sem]) rfl ⟨rfl, by repeat' (first | with_reducible assumption | with_reducible exact Below.refl _ _ | (with_reducible refine Below.setCell ?_ ?_ _) | (with_reducible refine Below.alloc ?_ ?_ _) | (with_reducible refine Below.drew ?_) | (with_reducible refine below_dr ?_ _) | (with_reducible refine Below.trans ?_ (Below.mono (by with_reducible assumption) ?_)) | omega | (simp; done) | (simp; omega))⟩
end Go.Proofs.Ytdeemhfhmgnbgaa
