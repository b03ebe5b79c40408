/- Walks: where a point is, the program's side; the law on PointIn: it returns true. -/
import Derived.Test.YtkhpmmclknonbaaZi
namespace Go.Proofs.Ytkhpmmclknonbaa
open Go.RowKit
set_option linter.unusedVariables false
theorem wdB_ok {ds : List DRing} {px py : Int} (h : vRn ds = true) (h2 : okB px py = true) : wdB ds px py = !onA (allE ds) px py := by unfold wdB; rw [h, h2]; rfl
theorem wdV_ok {ds : List DRing} {px py : Int} (h : vRn ds = true) (h2 : okB px py = true) (h3 : onA (allE ds) px py = false) : wdV ds px py = windI (allE ds) px py := by unfold wdV; rw [wdB_ok h h2, h3]; rfl
set_option maxRecDepth 100000 in
set_option maxHeartbeats 6400000 in
theorem implPointIn_any (ds : List DRing) (A : Option Addr) (c : Nat) (px py : Int) (w : World) (hl : ds.length ≤ 1048576) (hin : ∀ (i : Nat) (d : DRing), ds[i]? = some d → d.length ≤ 1048576) (htot : totRing ds ≤ 1048576) (r : RdRing w w.heap.size A ds) :
    Calls Try.prog 33 #[.agg #[.slice A ds.length c], .agg #[.int .i64 px, .int .i64 py]] w fun e w' => e = .returned (.tuple #[.int .i64 (piV ds px py), .int .i64 (piC ds px py)]) ∧ Below w.heap.size w w' := by
  have CV := Lib.hid (fun w1 r1 => implValidRegion_any ds A c w1 hl hin r1)
  have CP := Lib.hid (fun w => implValidPt_any px py w)
  have CW := Lib.hid (fun w r => implWindingOf_any ds A c px py w hl hin htot r)
  have H1 := Lib.hid (fun h => pi_1 (ds := ds) (px := px) (py := py) h)
  have H2 := Lib.hid (fun h h2 => pi_2 (ds := ds) (px := px) (py := py) h h2)
  have H3 := Lib.hid (fun h h2 h3 => pi_3 (ds := ds) (px := px) (py := py) h h2 h3)
  have H4 := Lib.hid (fun h h2 h3 h4 => pi_4 (ds := ds) (px := px) (py := py) h h2 h3 h4)
  have H5 := Lib.hid (fun h h2 h3 h4 => pi_5 (ds := ds) (px := px) (py := py) h h2 h3 h4)
  obtain ⟨v1, hv1⟩ : ∃ v, v = piV ds px py := ⟨_, rfl⟩
  obtain ⟨v2, hv2⟩ : ∃ v, v = piC ds px py := ⟨_, rfl⟩
  rw [← hv1, ← hv2] at H1 H2 H3 H4 H5 ⊢
  clear hv1 hv2
  obtain ⟨n, hn⟩ : ∃ n, n = ds.length := ⟨_, rfl⟩
  rcases hv : vRn ds with _ | _
  case false =>
    have H := Lib.hid (H1.out hv)
    rw [hv] at CV
    clear hv H1 H2 H3 H4 H5
    rw [← hn] at CV CW ⊢
    clear hn hl hin htot
    go_enter Try.func33, Try.ntmps33
    go_wp2_with fail
    refine (CV.out _ (((r.alloc (Nat.le_refl _) _).alloc (by simp) _).more (by simp; omega))).mono ?_
    rintro e w1 ⟨rfl, hb1⟩
    go_wp2_with fail
    refine bodyPost_ret (v := .tuple #[.int .i64 v1, .int .i64 v2]) (by rw [← H.out.1, ← H.out.2]; simp [results, Try.results33, go_sem]) rfl ⟨rfl, by repeat' (first | with_reducible assumption | with_reducible exact Below.refl _ _ | (with_reducible refine Below.setCell ?_ ?_ _) | (with_reducible refine Below.alloc ?_ ?_ _) | (with_reducible refine Below.drew ?_) | (with_reducible refine below_dr ?_ _) | (with_reducible refine Below.trans ?_ (Below.mono (by with_reducible assumption) ?_)) | omega | (simp; done) | (simp; omega))⟩
  case true =>
    rw [hv] at CV
    rw [← hn] at CV CW ⊢
    clear hn hl hin htot
    go_enter Try.func33, Try.ntmps33
    go_wp2_with fail
    refine (CV.out _ (((r.alloc (Nat.le_refl _) _).alloc (by simp) _).more (by simp; omega))).mono ?_
    rintro e w1 ⟨rfl, hb1⟩
    have at1 : AtL w.heap.size [.slice A n c] w1 := (AtL.alloc (AtL.new w _ 38) _).below hb1
    have at2 : AtL (w.heap.size + 1) [.int .i64 px, .int .i64 py] w1 := (AtL.newAt (by simp)).below hb1
    have k0 := at1.cell 0 rfl
    have k1 := at2.cell 0 rfl
    have k2 := at2.cell 1 rfl
    have lk := at1.lt
    have lk2 := at2.lt
    have g1 : Below w.heap.size w w1 := by repeat' (first | with_reducible assumption | with_reducible exact Below.refl _ _ | (with_reducible refine Below.setCell ?_ ?_ _) | (with_reducible refine Below.alloc ?_ ?_ _) | (with_reducible refine Below.drew ?_) | (with_reducible refine below_dr ?_ _) | (with_reducible refine Below.trans ?_ (Below.mono (by with_reducible assumption) ?_)) | omega | (simp; done) | (simp; omega))
    have r1 : RdRing w1 w1.heap.size A ds := (r.carry g1 (Nat.le_refl _)).more g1.size
    clear hb1 r CV
    go_wp2_with fail
    rcases hp : okB px py with _ | _
    case false =>
      have H := Lib.hid (H2.out hv hp)
      rw [hp] at CP
      clear hv hp H1 H2 H3 H4 H5
      refine (CP.out _).mono ?_
      rintro e w3 ⟨rfl, hb3⟩
      go_wp2_with fail
      refine bodyPost_ret (v := .tuple #[.int .i64 v1, .int .i64 v2]) (by rw [← H.out.1, ← H.out.2]; simp [results, Try.results33, go_sem]) rfl ⟨rfl, by repeat' (first | with_reducible assumption | with_reducible exact Below.refl _ _ | (with_reducible refine Below.setCell ?_ ?_ _) | (with_reducible refine Below.alloc ?_ ?_ _) | (with_reducible refine Below.drew ?_) | (with_reducible refine below_dr ?_ _) | (with_reducible refine Below.trans ?_ (Below.mono (by with_reducible assumption) ?_)) | omega | (simp; done) | (simp; omega))⟩
    case true =>
      rw [hp] at CP
      refine (CP.out _).mono ?_
      rintro e w3 ⟨rfl, hbw3⟩
      have gw3 : Below w.heap.size w w3 := by repeat' (first | with_reducible assumption | with_reducible exact Below.refl _ _ | (with_reducible refine Below.setCell ?_ ?_ _) | (with_reducible refine Below.alloc ?_ ?_ _) | (with_reducible refine Below.drew ?_) | (with_reducible refine below_dr ?_ _) | (with_reducible refine Below.trans ?_ (Below.mono (by with_reducible assumption) ?_)) | omega | (simp; done) | (simp; omega))
      replace at1 := at1.below hbw3
      replace at2 := at2.below hbw3
      clear k0 k1 k2 lk lk2
      have k0 := at1.cell 0 rfl
      have k1 := at2.cell 0 rfl
      have k2 := at2.cell 1 rfl
      have lk := at1.lt
      have lk2 := at2.lt
      have hb3x := hbw3
      have hon := wdB_ok hv hp
      have hwv := fun h => wdV_ok (ds := ds) hv hp h
      rcases ho : onA (allE ds) px py with _ | _
      case false =>
        rw [ho] at hon
        rw [hon, hwv ho] at CW
        clear hon hwv
        rcases hw : (windI (allE ds) px py != 0) with _ | _
        case false =>
          have H := Lib.hid (H5.out hv hp ho hw)
          generalize windI (allE ds) px py = vv at CW hw
          clear hv hp ho H1 H2 H3 H4 H5
          go_wp2_with fail
          refine (CW.out _ ((r1.carry hb3x (Nat.le_refl _)).more hb3x.size)).mono ?_
          rintro e w4 ⟨rfl, hb4⟩
          have g4 : Below w.heap.size w w4 := by repeat' (first | with_reducible assumption | with_reducible exact Below.refl _ _ | (with_reducible refine Below.setCell ?_ ?_ _) | (with_reducible refine Below.alloc ?_ ?_ _) | (with_reducible refine Below.drew ?_) | (with_reducible refine below_dr ?_ _) | (with_reducible refine Below.trans ?_ (Below.mono (by with_reducible assumption) ?_)) | omega | (simp; done) | (simp; omega))
          clear hb4
          go_wp2_with fail
          refine bodyPost_ret (v := .tuple #[.int .i64 v1, .int .i64 v2]) (by rw [← H.out.1, ← H.out.2]; simp [results, Try.results33, go_sem]) rfl ⟨rfl, by repeat' (first | with_reducible assumption | with_reducible exact Below.refl _ _ | (with_reducible refine Below.setCell ?_ ?_ _) | (with_reducible refine Below.alloc ?_ ?_ _) | (with_reducible refine Below.drew ?_) | (with_reducible refine below_dr ?_ _) | (with_reducible refine Below.trans ?_ (Below.mono (by with_reducible assumption) ?_)) | omega | (simp; done) | (simp; omega))⟩
        case true =>
          have H := Lib.hid (H4.out hv hp ho hw)
          generalize windI (allE ds) px py = vv at CW hw
          clear hv hp ho H1 H2 H3 H4 H5
          go_wp2_with fail
          refine (CW.out _ ((r1.carry hb3x (Nat.le_refl _)).more hb3x.size)).mono ?_
          rintro e w4 ⟨rfl, hb4⟩
          have g4 : Below w.heap.size w w4 := by repeat' (first | with_reducible assumption | with_reducible exact Below.refl _ _ | (with_reducible refine Below.setCell ?_ ?_ _) | (with_reducible refine Below.alloc ?_ ?_ _) | (with_reducible refine Below.drew ?_) | (with_reducible refine below_dr ?_ _) | (with_reducible refine Below.trans ?_ (Below.mono (by with_reducible assumption) ?_)) | omega | (simp; done) | (simp; omega))
          clear hb4
          go_wp2_with fail
          refine bodyPost_ret (v := .tuple #[.int .i64 v1, .int .i64 v2]) (by rw [← H.out.1, ← H.out.2]; simp [results, Try.results33, go_sem]) rfl ⟨rfl, by repeat' (first | with_reducible assumption | with_reducible exact Below.refl _ _ | (with_reducible refine Below.setCell ?_ ?_ _) | (with_reducible refine Below.alloc ?_ ?_ _) | (with_reducible refine Below.drew ?_) | (with_reducible refine below_dr ?_ _) | (with_reducible refine Below.trans ?_ (Below.mono (by with_reducible assumption) ?_)) | omega | (simp; done) | (simp; omega))⟩
      case true =>
        rw [ho] at hon
        rw [hon] at CW
        have H := Lib.hid (H3.out hv hp ho)
        generalize wdV ds px py = vv at CW
        clear hon hwv
        clear hv hp ho H1 H2 H3 H4 H5
        go_wp2_with fail
        refine (CW.out _ ((r1.carry hb3x (Nat.le_refl _)).more hb3x.size)).mono ?_
        rintro e w4 ⟨rfl, hb4⟩
        have g4 : Below w.heap.size w w4 := by repeat' (first | with_reducible assumption | with_reducible exact Below.refl _ _ | (with_reducible refine Below.setCell ?_ ?_ _) | (with_reducible refine Below.alloc ?_ ?_ _) | (with_reducible refine Below.drew ?_) | (with_reducible refine below_dr ?_ _) | (with_reducible refine Below.trans ?_ (Below.mono (by with_reducible assumption) ?_)) | omega | (simp; done) | (simp; omega))
        clear hb4
        go_wp2_with fail
        refine bodyPost_ret (v := .tuple #[.int .i64 v1, .int .i64 v2]) (by rw [← H.out.1, ← H.out.2]; simp [results, Try.results33, go_sem]) rfl ⟨rfl, by repeat' (first | with_reducible assumption | with_reducible exact Below.refl _ _ | (with_reducible refine Below.setCell ?_ ?_ _) | (with_reducible refine Below.alloc ?_ ?_ _) | (with_reducible refine Below.drew ?_) | (with_reducible refine below_dr ?_ _) | (with_reducible refine Below.trans ?_ (Below.mono (by with_reducible assumption) ?_)) | omega | (simp; done) | (simp; omega))⟩
set_option maxRecDepth 100000 in
set_option maxHeartbeats 12800000 in
theorem walkR_PointIn (a : ARegion) (b : APt) (w : World) (k_a : okRegion w w.heap.size a) (k_b : okPt w w.heap.size b) :
    Calls Try.prog 9 #[.agg #[.slice a.1 a.2.2.length a.2.1], .agg #[.int .i64 b.1, .int .i64 b.2]] w fun e w' => e = .returned (.bool true) ∧ Below w.heap.size w w' := by
  obtain ⟨a0A, a0c, a0l⟩ := a
  obtain ⟨nc_a0, cm_a0, rd_a0, ok_a0⟩ := k_a
  simp only at nc_a0 cm_a0 rd_a0 ok_a0 ⊢
  have hm_a0 : a0l.length ≤ 9223372036854775807 := by unfold maxLen at cm_a0; omega
  have okd_a0 := okDRing_all a0l ok_a0
  replace rd_a0 := RdRing.of a0l rd_a0 ok_a0
  obtain ⟨a0d, hd_a0⟩ : ∃ ds, ds = a0l.map dRing := ⟨_, rfl⟩
  have hn_a0 : a0l.length = a0d.length := by rw [hd_a0, List.length_map]
  rw [← hd_a0] at okd_a0 rd_a0
  rw [hn_a0] at hm_a0 ⊢
  have HOK_a0 := Lib.hid okd_a0
  clear ok_a0 nc_a0 cm_a0 okd_a0 hd_a0 hn_a0
  obtain ⟨b0, b1⟩ := b
  obtain ⟨w_b0, w_b1⟩ := k_b
  simp only at w_b0 w_b1 ⊢
  have C1 := Lib.hid (fun A c w hl hin ht r => specPointIn_any a0d A c b0 b1 w hl hin ht r)
  have C2 := Lib.hid (fun A c w hl hin ht r => implPointIn_any a0d A c b0 b1 w hl hin ht r)
  generalize piV a0d b0 b1 = v at C1 C2
  generalize piC a0d b0 b1 = u at C1 C2
  have e_v : (v != v) = false := by simp
  have e_u : (u != u) = false := by simp
  go_enter Try.func9, Try.ntmps9
  go_wp2_with fail
  generalize hW : ((w.alloc (.cells #[.slice a0A a0d.length a0c] 33)).alloc (.cells #[.int .i64 b0, .int .i64 b1] 23)) = W0
  have rd_a0w : RdRing w (w.heap.size) a0A a0d := rd_a0
  have bx_aW0 : AtL (w.heap.size) [.slice a0A a0d.length a0c] W0 := by rw [← hW]; repeat' (first | with_reducible assumption | with_reducible exact AtL.new _ _ _ | ((with_reducible refine AtL.newAt ?_); (first | rfl | (simp; done))) | (with_reducible refine AtL.drew ?_) | (with_reducible refine AtL.below ?_ (by with_reducible assumption)) | (with_reducible refine AtL.alloc ?_ _) | (with_reducible refine AtL.far ?_ ?_ _ _) | omega | (simp; done) | (simp; omega))
  have rd_a0W0 : RdRing W0 (w.heap.size) a0A a0d := by rw [← hW]; repeat' (first | with_reducible assumption | (with_reducible refine RdRing.drew ?_) | (with_reducible refine RdRing.carry ?_ (by with_reducible assumption) ?_) | (with_reducible refine RdRing.alloc ?_ ?_ _) | (with_reducible refine RdRing.setCell ?_ ?_ _) | omega | (simp; done) | (simp; omega))
  have bx_bW0 : AtL (w.heap.size + 1) [.int .i64 b0, .int .i64 b1] W0 := by rw [← hW]; repeat' (first | with_reducible assumption | with_reducible exact AtL.new _ _ _ | ((with_reducible refine AtL.newAt ?_); (first | rfl | (simp; done))) | (with_reducible refine AtL.drew ?_) | (with_reducible refine AtL.below ?_ (by with_reducible assumption)) | (with_reducible refine AtL.alloc ?_ _) | (with_reducible refine AtL.far ?_ ?_ _ _) | omega | (simp; done) | (simp; omega))
  have qW0 : w.heap.size ≤ W0.heap.size := by rw [← hW]; simp; omega
  have bn : Below w.heap.size w W0 := by rw [← hW]; repeat' (first | with_reducible assumption | with_reducible exact Below.refl _ _ | (with_reducible refine Below.setCell ?_ ?_ _) | (with_reducible refine Below.alloc ?_ ?_ _) | (with_reducible refine Below.drew ?_) | (with_reducible refine below_dr ?_ _) | (with_reducible refine Below.trans ?_ (Below.mono (by with_reducible assumption) ?_)) | omega | (simp; done) | (simp; omega))
  have bW0 := Lib.hid bn
  clear hW bn
  clear rd_a0w rd_a0
  have hV0 : 0 ≤ (1048576 : Int) ∧ (1048576 : Int) ≤ 1048576 := by omega
  by_cases hfit : ((a0d.length + totRing a0d : Nat) : Int) ≤ 1048576
  case neg =>
    replace hfit : 1048576 < ((a0d.length + totRing a0d : Nat) : Int) := by omega
    refine (szRegion_no a0A a0c a0d 1048576 _ (by omega) (by omega) hm_a0 hfit ?_ HOK_a0.out).mono ?_
    · (refine RdRing.more (B := w.heap.size) ?_ (by first | omega | ((try simp only [World.size_setCell]); (try simp only [World.size_drew]); (try simp only [World.size_alloc]); omega) | (simp; done) | (simp; omega))); (repeat' (first | with_reducible assumption | (with_reducible refine RdRing.drew ?_) | (with_reducible refine RdRing.carry ?_ (by with_reducible assumption) ?_) | (with_reducible refine RdRing.alloc ?_ ?_ _) | (with_reducible refine RdRing.setCell ?_ ?_ _) | omega | (simp; done) | (simp; omega)))
    rintro e wN ⟨rfl, hb⟩
    go_wp2_with fail
    go_ret
    have bp := bW0.out
    exact ⟨rfl, by repeat' (first | with_reducible assumption | with_reducible exact Below.refl _ _ | (with_reducible refine Below.setCell ?_ ?_ _) | (with_reducible refine Below.alloc ?_ ?_ _) | (with_reducible refine Below.drew ?_) | (with_reducible refine below_dr ?_ _) | (with_reducible refine Below.trans ?_ (Below.mono (by with_reducible assumption) ?_)) | omega | (simp; done) | (simp; omega))⟩
  case pos =>
    have hl_a0 : a0d.length ≤ 1048576 := by omega
    have hin_a0 : totRing a0d ≤ 1048576 := by omega
    have HIN_a0 := Lib.hid (inRing hin_a0)
    have HT_a0 := Lib.hid hin_a0
    clear hin_a0
    refine (szRegion_yes a0A a0c a0d 1048576 _ (by omega) (by omega) (by omega) hfit ?_ HOK_a0.out).mono ?_
    · (refine RdRing.more (B := w.heap.size) ?_ (by first | omega | ((try simp only [World.size_setCell]); (try simp only [World.size_drew]); (try simp only [World.size_alloc]); omega) | (simp; done) | (simp; omega))); (repeat' (first | with_reducible assumption | (with_reducible refine RdRing.drew ?_) | (with_reducible refine RdRing.carry ?_ (by with_reducible assumption) ?_) | (with_reducible refine RdRing.alloc ?_ ?_ _) | (with_reducible refine RdRing.setCell ?_ ?_ _) | omega | (simp; done) | (simp; omega)))
    obtain ⟨V0, hV⟩ : ∃ V : Int, V = 1048576 - (a0d.length + totRing a0d : Nat) := ⟨_, rfl⟩
    have hVV : 0 ≤ V0 ∧ V0 ≤ 1048576 := by omega
    rw [← hV]
    rintro e wS0 ⟨rfl, hbwS0⟩
    clear hV hfit
    obtain ⟨hV0_0, hV1_0⟩ := hVV
    have zwS0 := hbwS0.size
    (try simp only [World.size_setCell] at zwS0)
    (try simp only [World.size_drew] at zwS0)
    (try simp only [World.size_alloc] at zwS0)
    have qwS0 : w.heap.size ≤ wS0.heap.size := by omega
    have bx_awS0 : AtL (w.heap.size) [.slice a0A a0d.length a0c] wS0 := by repeat' (first | with_reducible assumption | with_reducible exact AtL.new _ _ _ | ((with_reducible refine AtL.newAt ?_); (first | rfl | (simp; done))) | (with_reducible refine AtL.drew ?_) | (with_reducible refine AtL.below ?_ (by with_reducible assumption)) | (with_reducible refine AtL.alloc ?_ _) | (with_reducible refine AtL.far ?_ ?_ _ _) | omega | (simp; done) | (simp; omega))
    have rd_a0wS0 : RdRing wS0 (w.heap.size) a0A a0d := by repeat' (first | with_reducible assumption | (with_reducible refine RdRing.drew ?_) | (with_reducible refine RdRing.carry ?_ (by with_reducible assumption) ?_) | (with_reducible refine RdRing.alloc ?_ ?_ _) | (with_reducible refine RdRing.setCell ?_ ?_ _) | omega | (simp; done) | (simp; omega))
    have bx_bwS0 : AtL (w.heap.size + 1) [.int .i64 b0, .int .i64 b1] wS0 := by repeat' (first | with_reducible assumption | with_reducible exact AtL.new _ _ _ | ((with_reducible refine AtL.newAt ?_); (first | rfl | (simp; done))) | (with_reducible refine AtL.drew ?_) | (with_reducible refine AtL.below ?_ (by with_reducible assumption)) | (with_reducible refine AtL.alloc ?_ _) | (with_reducible refine AtL.far ?_ ?_ _ _) | omega | (simp; done) | (simp; omega))
    have bp := bW0.out
    have bn : Below w.heap.size w wS0 := by repeat' (first | with_reducible assumption | with_reducible exact Below.refl _ _ | (with_reducible refine Below.setCell ?_ ?_ _) | (with_reducible refine Below.alloc ?_ ?_ _) | (with_reducible refine Below.drew ?_) | (with_reducible refine below_dr ?_ _) | (with_reducible refine Below.trans ?_ (Below.mono (by with_reducible assumption) ?_)) | omega | (simp; done) | (simp; omega))
    have bwS0 := Lib.hid bn
    clear bn
    clear bp bW0
    clear hbwS0
    clear bx_aW0
    clear rd_a0W0
    clear bx_bW0
    have kbx_a0 := bx_awS0.cell 0 rfl
    have lbx_a := bx_awS0.lt
    have kbx_b0 := bx_bwS0.cell 0 rfl
    have kbx_b1 := bx_bwS0.cell 1 rfl
    have lbx_b := bx_bwS0.lt
    go_wp2_with fail
    clear kbx_a0 lbx_a
    clear kbx_b0 kbx_b1 lbx_b
    have kbx_a0 := bx_awS0.cell 0 rfl
    have lbx_a := bx_awS0.lt
    have kbx_b0 := bx_bwS0.cell 0 rfl
    have kbx_b1 := bx_bwS0.cell 1 rfl
    have lbx_b := bx_bwS0.lt
    go_wp2_with fail
    go_region_held3 (fun w' => (∀ b o, b < wS0.heap.size → w'.cell? ⟨b, o, none⟩ = wS0.cell? ⟨b, o, none⟩) ∧ wS0.heap.size ≤ w'.heap.size)
      (first | ((try dsimp only); exact ⟨fun b o h => (by (repeat (first | with_reducible exact rfl | (with_reducible refine (cell_drew_at _ _).trans ?_) | (with_reducible refine (cell_set_at _ _ (by first | omega | (simp; done) | (simp; omega))).trans ?_) | (with_reducible refine (cell_alloc_at _ _ (by first | omega | (simp; done) | (simp; omega))).trans ?_) | (with_reducible refine (hcwA0 b o (by first | omega | (simp; done) | (simp; omega))).trans ?_) | (with_reducible refine (hcwF0 b o (by first | omega | (simp; done) | (simp; omega))).trans ?_) | (with_reducible refine (hcwB b o (by first | omega | (simp; done) | (simp; omega))).trans ?_)))), (by first | omega | (simp; done) | (simp; omega))⟩) | fail)
      (first
        | (go_at_call 21; (with_reducible refine (toRegion_any a0A a0c a0d _ hl_a0 HIN_a0.out ?_).mono ?_); (focus ((refine RdRing.more (B := w.heap.size) ?_ (by first | omega | ((try simp only [World.size_setCell]); (try simp only [World.size_drew]); (try simp only [World.size_alloc]); omega) | (simp; done) | (simp; omega))); (repeat' (first | with_reducible assumption | (with_reducible refine RdRing.drew ?_) | (with_reducible refine RdRing.carry ?_ (by with_reducible assumption) ?_) | (with_reducible refine RdRing.alloc ?_ ?_ _) | (with_reducible refine RdRing.setCell ?_ ?_ _) | omega | (simp; done) | (simp; omega))))); intro e wA0 hq; obtain ⟨g_owA0_a0, rfl, owA0_a0, hbwA0⟩ := hq; obtain ⟨hcwA0, hfwA0⟩ := bcell hbwA0; have hzwA0 := hbwA0.size; (try simp only [World.size_drew] at hcwA0 hfwA0 hzwA0); (try simp only [World.size_alloc] at hcwA0 hfwA0 hzwA0))
        | (go_at_call 14; (with_reducible refine (toPt_any b0 b1 _).mono ?_); rintro e wF0 ⟨rfl, hbwF0⟩; obtain ⟨hcwF0, hfwF0⟩ := bcell hbwF0; have hzwF0 := hbwF0.size; (try simp only [World.size_drew] at hcwF0 hfwF0 hzwF0); (try simp only [World.size_alloc] at hcwF0 hfwF0 hzwF0))
        | (go_at_call 32; (with_reducible refine (C1.out (some ⟨g_owA0_a0, 0, none⟩) a0d.length _ hl_a0 HIN_a0.out HT_a0.out ?_).mono ?_); (focus ((refine RdRing.more (B := wA0.heap.size) ?_ (by first | exact Nat.le_refl _ | omega | ((try simp only [World.size_drew]); (try simp only [World.size_alloc]); (try simp only [World.size_drew]); omega) | (simp; done) | (simp; omega))); (repeat' (first | with_reducible assumption | exact owA0_a0.here | (with_reducible refine RdRing.drew ?_) | (with_reducible refine RdRing.alloc ?_ ?_ _) | (with_reducible refine RdRing.carry ?_ (by with_reducible assumption) ?_) | exact Nat.le_refl _ | omega | (simp; done) | (simp; omega))))); rintro e wB ⟨rfl, hbwB⟩; obtain ⟨hcwB, hfwB⟩ := bcell hbwB; have hzwB := hbwB.size; (try simp only [World.size_drew] at hcwB hfwB hzwB); (try simp only [World.size_alloc] at hcwB hfwB hzwB)))
    clear kbx_a0 lbx_a
    clear kbx_b0 kbx_b1 lbx_b
    all_goals
      have zwB := hbwB.size
      (try simp only [World.size_setCell] at zwB)
      (try simp only [World.size_drew] at zwB)
      (try simp only [World.size_alloc] at zwB)
      have qwB : w.heap.size ≤ wB.heap.size := by omega
      have bx_awB : AtL (w.heap.size) [.slice a0A a0d.length a0c] wB := by repeat' (first | with_reducible assumption | with_reducible exact AtL.new _ _ _ | ((with_reducible refine AtL.newAt ?_); (first | rfl | (simp; done))) | (with_reducible refine AtL.drew ?_) | (with_reducible refine AtL.below ?_ (by with_reducible assumption)) | (with_reducible refine AtL.alloc ?_ _) | (with_reducible refine AtL.far ?_ ?_ _ _) | omega | (simp; done) | (simp; omega))
      have rd_a0wB : RdRing wB (w.heap.size) a0A a0d := by repeat' (first | with_reducible assumption | (with_reducible refine RdRing.drew ?_) | (with_reducible refine RdRing.carry ?_ (by with_reducible assumption) ?_) | (with_reducible refine RdRing.alloc ?_ ?_ _) | (with_reducible refine RdRing.setCell ?_ ?_ _) | omega | (simp; done) | (simp; omega))
      have bx_bwB : AtL (w.heap.size + 1) [.int .i64 b0, .int .i64 b1] wB := by repeat' (first | with_reducible assumption | with_reducible exact AtL.new _ _ _ | ((with_reducible refine AtL.newAt ?_); (first | rfl | (simp; done))) | (with_reducible refine AtL.drew ?_) | (with_reducible refine AtL.below ?_ (by with_reducible assumption)) | (with_reducible refine AtL.alloc ?_ _) | (with_reducible refine AtL.far ?_ ?_ _ _) | omega | (simp; done) | (simp; omega))
      have bp := bwS0.out
      have bn : Below w.heap.size w wB := by repeat' (first | with_reducible assumption | with_reducible exact Below.refl _ _ | (with_reducible refine Below.setCell ?_ ?_ _) | (with_reducible refine Below.alloc ?_ ?_ _) | (with_reducible refine Below.drew ?_) | (with_reducible refine below_dr ?_ _) | (with_reducible refine Below.trans ?_ (Below.mono (by with_reducible assumption) ?_)) | omega | (simp; done) | (simp; omega))
      have bwB := Lib.hid bn
      clear bn
      clear bp bwS0
      clear hbwB
      clear bx_awS0
      clear rd_a0wS0
      clear bx_bwS0
      clear hbwA0 hcwA0 hfwA0 hbwF0 hcwF0 hfwF0 hcwB hfwB
      have kbx_a0 := bx_awB.cell 0 rfl
      have lbx_a := bx_awB.lt
      go_wp2_with fail
      clear kbx_a0 lbx_a
      refine (toRegion_any a0A a0c a0d _ hl_a0 HIN_a0.out ?_).mono ?_
      · (refine RdRing.more (B := w.heap.size) ?_ (by first | omega | ((try simp only [World.size_setCell]); (try simp only [World.size_drew]); (try simp only [World.size_alloc]); omega) | (simp; done) | (simp; omega))); (repeat' (first | with_reducible assumption | (with_reducible refine RdRing.drew ?_) | (with_reducible refine RdRing.carry ?_ (by with_reducible assumption) ?_) | (with_reducible refine RdRing.alloc ?_ ?_ _) | (with_reducible refine RdRing.setCell ?_ ?_ _) | omega | (simp; done) | (simp; omega)))
      intro e wX0 hq
      obtain ⟨gX_a0, rfl, owX_a0, hbwX0⟩ := hq
      have zwX0 := hbwX0.size
      (try simp only [World.size_setCell] at zwX0)
      (try simp only [World.size_drew] at zwX0)
      (try simp only [World.size_alloc] at zwX0)
      have qwX0 : w.heap.size ≤ wX0.heap.size := by omega
      have bx_awX0 : AtL (w.heap.size) [.slice a0A a0d.length a0c] wX0 := by repeat' (first | with_reducible assumption | with_reducible exact AtL.new _ _ _ | ((with_reducible refine AtL.newAt ?_); (first | rfl | (simp; done))) | (with_reducible refine AtL.drew ?_) | (with_reducible refine AtL.below ?_ (by with_reducible assumption)) | (with_reducible refine AtL.alloc ?_ _) | (with_reducible refine AtL.far ?_ ?_ _ _) | omega | (simp; done) | (simp; omega))
      have rd_a0wX0 : RdRing wX0 (w.heap.size) a0A a0d := by repeat' (first | with_reducible assumption | (with_reducible refine RdRing.drew ?_) | (with_reducible refine RdRing.carry ?_ (by with_reducible assumption) ?_) | (with_reducible refine RdRing.alloc ?_ ?_ _) | (with_reducible refine RdRing.setCell ?_ ?_ _) | omega | (simp; done) | (simp; omega))
      have bx_bwX0 : AtL (w.heap.size + 1) [.int .i64 b0, .int .i64 b1] wX0 := by repeat' (first | with_reducible assumption | with_reducible exact AtL.new _ _ _ | ((with_reducible refine AtL.newAt ?_); (first | rfl | (simp; done))) | (with_reducible refine AtL.drew ?_) | (with_reducible refine AtL.below ?_ (by with_reducible assumption)) | (with_reducible refine AtL.alloc ?_ _) | (with_reducible refine AtL.far ?_ ?_ _ _) | omega | (simp; done) | (simp; omega))
      have bp := bwB.out
      have bn : Below w.heap.size w wX0 := by repeat' (first | with_reducible assumption | with_reducible exact Below.refl _ _ | (with_reducible refine Below.setCell ?_ ?_ _) | (with_reducible refine Below.alloc ?_ ?_ _) | (with_reducible refine Below.drew ?_) | (with_reducible refine below_dr ?_ _) | (with_reducible refine Below.trans ?_ (Below.mono (by with_reducible assumption) ?_)) | omega | (simp; done) | (simp; omega))
      have bwX0 := Lib.hid bn
      clear bn
      clear bp bwB
      clear hbwX0
      clear bx_awB
      clear rd_a0wB
      clear bx_bwB
      have rx_a0wX0 : RdRing wX0 (wX0.heap.size) (some ⟨gX_a0, 0, none⟩) a0d := owX_a0.here
      clear owX_a0
      have kbx_b0 := bx_bwX0.cell 0 rfl
      have kbx_b1 := bx_bwX0.cell 1 rfl
      have lbx_b := bx_bwX0.lt
      go_wp2_with fail
      clear kbx_b0 kbx_b1 lbx_b
      generalize hWB : wX0.alloc (.cells #[.slice (some ⟨gX_a0, 0, none⟩) a0d.length a0d.length] 38) = WB
      have hbWB : Below wX0.heap.size wX0 WB := by rw [← hWB]; repeat' (first | with_reducible assumption | with_reducible exact Below.refl _ _ | (with_reducible refine Below.setCell ?_ ?_ _) | (with_reducible refine Below.alloc ?_ ?_ _) | (with_reducible refine Below.drew ?_) | (with_reducible refine below_dr ?_ _) | (with_reducible refine Below.trans ?_ (Below.mono (by with_reducible assumption) ?_)) | omega | (simp; done) | (simp; omega))
      have at_pWB : AtL (wX0.heap.size) [.slice (some ⟨gX_a0, 0, none⟩) a0d.length a0d.length] WB := by rw [← hWB]; exact AtL.new _ _ _
      clear hWB
      have zWB := hbWB.size
      (try simp only [World.size_setCell] at zWB)
      (try simp only [World.size_drew] at zWB)
      (try simp only [World.size_alloc] at zWB)
      have qWB : w.heap.size ≤ WB.heap.size := by omega
      have bx_aWB : AtL (w.heap.size) [.slice a0A a0d.length a0c] WB := by repeat' (first | with_reducible assumption | with_reducible exact AtL.new _ _ _ | ((with_reducible refine AtL.newAt ?_); (first | rfl | (simp; done))) | (with_reducible refine AtL.drew ?_) | (with_reducible refine AtL.below ?_ (by with_reducible assumption)) | (with_reducible refine AtL.alloc ?_ _) | (with_reducible refine AtL.far ?_ ?_ _ _) | omega | (simp; done) | (simp; omega))
      have rd_a0WB : RdRing WB (w.heap.size) a0A a0d := by repeat' (first | with_reducible assumption | (with_reducible refine RdRing.drew ?_) | (with_reducible refine RdRing.carry ?_ (by with_reducible assumption) ?_) | (with_reducible refine RdRing.alloc ?_ ?_ _) | (with_reducible refine RdRing.setCell ?_ ?_ _) | omega | (simp; done) | (simp; omega))
      have bx_bWB : AtL (w.heap.size + 1) [.int .i64 b0, .int .i64 b1] WB := by repeat' (first | with_reducible assumption | with_reducible exact AtL.new _ _ _ | ((with_reducible refine AtL.newAt ?_); (first | rfl | (simp; done))) | (with_reducible refine AtL.drew ?_) | (with_reducible refine AtL.below ?_ (by with_reducible assumption)) | (with_reducible refine AtL.alloc ?_ _) | (with_reducible refine AtL.far ?_ ?_ _ _) | omega | (simp; done) | (simp; omega))
      have rx_a0WB : RdRing WB (wX0.heap.size) (some ⟨gX_a0, 0, none⟩) a0d := by repeat' (first | with_reducible assumption | (with_reducible refine RdRing.drew ?_) | (with_reducible refine RdRing.carry ?_ (by with_reducible assumption) ?_) | (with_reducible refine RdRing.alloc ?_ ?_ _) | (with_reducible refine RdRing.setCell ?_ ?_ _) | omega | (simp; done) | (simp; omega))
      have bp := bwX0.out
      have bn : Below w.heap.size w WB := by repeat' (first | with_reducible assumption | with_reducible exact Below.refl _ _ | (with_reducible refine Below.setCell ?_ ?_ _) | (with_reducible refine Below.alloc ?_ ?_ _) | (with_reducible refine Below.drew ?_) | (with_reducible refine below_dr ?_ _) | (with_reducible refine Below.trans ?_ (Below.mono (by with_reducible assumption) ?_)) | omega | (simp; done) | (simp; omega))
      have bWB := Lib.hid bn
      clear bn
      clear bp bwX0
      clear hbWB
      clear bx_awX0
      clear rd_a0wX0
      clear bx_bwX0
      clear rx_a0wX0
      have kat_p0 := at_pWB.cell 0 rfl
      have lat_p := at_pWB.lt
      have kbx_b0 := bx_bWB.cell 0 rfl
      have kbx_b1 := bx_bWB.cell 1 rfl
      have lbx_b := bx_bWB.lt
      go_region_held3 (fun w' => (∀ b o, b < WB.heap.size → w'.cell? ⟨b, o, none⟩ = WB.cell? ⟨b, o, none⟩) ∧ WB.heap.size ≤ w'.heap.size)
        (first | ((try dsimp only); exact ⟨fun b o h => (by (repeat (first | with_reducible exact rfl | (with_reducible refine (cell_drew_at _ _).trans ?_) | (with_reducible refine (cell_set_at _ _ (by first | omega | (simp; done) | (simp; omega))).trans ?_) | (with_reducible refine (cell_alloc_at _ _ (by first | omega | (simp; done) | (simp; omega))).trans ?_) | (with_reducible refine (hcwG0 b o (by first | omega | (simp; done) | (simp; omega))).trans ?_) | (with_reducible refine (hcwI b o (by first | omega | (simp; done) | (simp; omega))).trans ?_)))), (by first | omega | (simp; done) | (simp; omega))⟩) | fail)
        (first
          | (go_at_call 14; (with_reducible refine (toPt_any b0 b1 _).mono ?_); rintro e wG0 ⟨rfl, hbwG0⟩; obtain ⟨hcwG0, hfwG0⟩ := bcell hbwG0; have hzwG0 := hbwG0.size; (try simp only [World.size_drew] at hcwG0 hfwG0 hzwG0); (try simp only [World.size_alloc] at hcwG0 hfwG0 hzwG0))
          | (go_at_call 33; (with_reducible refine (C2.out (some ⟨gX_a0, 0, none⟩) a0d.length _ hl_a0 HIN_a0.out HT_a0.out ?_).mono ?_); (focus ((refine RdRing.more (B := wX0.heap.size) ?_ (by first | omega | ((try simp only [World.size_setCell]); (try simp only [World.size_drew]); (try simp only [World.size_alloc]); omega) | (simp; done) | (simp; omega))); (repeat' (first | with_reducible assumption | (with_reducible refine RdRing.drew ?_) | (with_reducible refine RdRing.carry ?_ (by with_reducible assumption) ?_) | (with_reducible refine RdRing.alloc ?_ ?_ _) | (with_reducible refine RdRing.setCell ?_ ?_ _) | omega | (simp; done) | (simp; omega))))); rintro e wI ⟨rfl, hbwI⟩; obtain ⟨hcwI, hfwI⟩ := bcell hbwI; have hzwI := hbwI.size; (try simp only [World.size_drew] at hcwI hfwI hzwI); (try simp only [World.size_alloc] at hcwI hfwI hzwI)))
      clear kat_p0 lat_p
      clear kbx_b0 kbx_b1 lbx_b
      all_goals
        have zwI := hbwI.size
        (try simp only [World.size_setCell] at zwI)
        (try simp only [World.size_drew] at zwI)
        (try simp only [World.size_alloc] at zwI)
        have qwI : w.heap.size ≤ wI.heap.size := by omega
        have bx_awI : AtL (w.heap.size) [.slice a0A a0d.length a0c] wI := by repeat' (first | with_reducible assumption | with_reducible exact AtL.new _ _ _ | ((with_reducible refine AtL.newAt ?_); (first | rfl | (simp; done))) | (with_reducible refine AtL.drew ?_) | (with_reducible refine AtL.below ?_ (by with_reducible assumption)) | (with_reducible refine AtL.alloc ?_ _) | (with_reducible refine AtL.far ?_ ?_ _ _) | omega | (simp; done) | (simp; omega))
        have rd_a0wI : RdRing wI (w.heap.size) a0A a0d := by repeat' (first | with_reducible assumption | (with_reducible refine RdRing.drew ?_) | (with_reducible refine RdRing.carry ?_ (by with_reducible assumption) ?_) | (with_reducible refine RdRing.alloc ?_ ?_ _) | (with_reducible refine RdRing.setCell ?_ ?_ _) | omega | (simp; done) | (simp; omega))
        have bx_bwI : AtL (w.heap.size + 1) [.int .i64 b0, .int .i64 b1] wI := by repeat' (first | with_reducible assumption | with_reducible exact AtL.new _ _ _ | ((with_reducible refine AtL.newAt ?_); (first | rfl | (simp; done))) | (with_reducible refine AtL.drew ?_) | (with_reducible refine AtL.below ?_ (by with_reducible assumption)) | (with_reducible refine AtL.alloc ?_ _) | (with_reducible refine AtL.far ?_ ?_ _ _) | omega | (simp; done) | (simp; omega))
        have rx_a0wI : RdRing wI (wX0.heap.size) (some ⟨gX_a0, 0, none⟩) a0d := by repeat' (first | with_reducible assumption | (with_reducible refine RdRing.drew ?_) | (with_reducible refine RdRing.carry ?_ (by with_reducible assumption) ?_) | (with_reducible refine RdRing.alloc ?_ ?_ _) | (with_reducible refine RdRing.setCell ?_ ?_ _) | omega | (simp; done) | (simp; omega))
        have at_pwI : AtL (wX0.heap.size) [.slice (some ⟨gX_a0, 0, none⟩) a0d.length a0d.length] wI := by repeat' (first | with_reducible assumption | with_reducible exact AtL.new _ _ _ | ((with_reducible refine AtL.newAt ?_); (first | rfl | (simp; done))) | (with_reducible refine AtL.drew ?_) | (with_reducible refine AtL.below ?_ (by with_reducible assumption)) | (with_reducible refine AtL.alloc ?_ _) | (with_reducible refine AtL.far ?_ ?_ _ _) | omega | (simp; done) | (simp; omega))
        have bp := bWB.out
        have bn : Below w.heap.size w wI := by repeat' (first | with_reducible assumption | with_reducible exact Below.refl _ _ | (with_reducible refine Below.setCell ?_ ?_ _) | (with_reducible refine Below.alloc ?_ ?_ _) | (with_reducible refine Below.drew ?_) | (with_reducible refine below_dr ?_ _) | (with_reducible refine Below.trans ?_ (Below.mono (by with_reducible assumption) ?_)) | omega | (simp; done) | (simp; omega))
        have bwI := Lib.hid bn
        clear bn
        clear bp bWB
        clear hbwI
        clear bx_aWB
        clear rd_a0WB
        clear bx_bWB
        clear rx_a0WB
        clear at_pWB
        clear hbwG0 hcwG0 hfwG0 hcwI hfwI
        have kat_p0 := at_pwI.cell 0 rfl
        have lat_p := at_pwI.lt
        have kbx_a0 := bx_awI.cell 0 rfl
        have lbx_a := bx_awI.lt
        go_wp2_with fail
        go_region_held3 (fun w' => (∀ b o, b < wI.heap.size → w'.cell? ⟨b, o, none⟩ = wI.cell? ⟨b, o, none⟩) ∧ wI.heap.size ≤ w'.heap.size)
          (first | ((try dsimp only); exact ⟨fun b o h => (by (repeat (first | with_reducible exact rfl | (with_reducible refine (cell_drew_at _ _).trans ?_) | (with_reducible refine (cell_set_at _ _ (by first | omega | (simp; done) | (simp; omega))).trans ?_) | (with_reducible refine (cell_alloc_at _ _ (by first | omega | (simp; done) | (simp; omega))).trans ?_) | (with_reducible refine (hcwT0 b o (by first | omega | (simp; done) | (simp; omega))).trans ?_) | (with_reducible refine (hcwE0 b o (by first | omega | (simp; done) | (simp; omega))).trans ?_)))), (by first | omega | (simp; done) | (simp; omega))⟩) | fail)
          (first
            | (go_at_call 21; (with_reducible refine (toRegion_any a0A a0c a0d _ hl_a0 HIN_a0.out ?_).mono ?_); (focus ((refine RdRing.more (B := w.heap.size) ?_ (by first | omega | ((try simp only [World.size_setCell]); (try simp only [World.size_drew]); (try simp only [World.size_alloc]); omega) | (simp; done) | (simp; omega))); (repeat' (first | with_reducible assumption | (with_reducible refine RdRing.drew ?_) | (with_reducible refine RdRing.carry ?_ (by with_reducible assumption) ?_) | (with_reducible refine RdRing.alloc ?_ ?_ _) | (with_reducible refine RdRing.setCell ?_ ?_ _) | omega | (simp; done) | (simp; omega))))); intro e wT0 hq; obtain ⟨g_owE_a0, rfl, owE_a0, hbwT0⟩ := hq; obtain ⟨hcwT0, hfwT0⟩ := bcell hbwT0; have hzwT0 := hbwT0.size; (try simp only [World.size_drew] at hcwT0 hfwT0 hzwT0); (try simp only [World.size_alloc] at hcwT0 hfwT0 hzwT0))
            | (go_at_call 23; (with_reducible refine (eqRegion_same (some ⟨gX_a0, 0, none⟩) a0d.length a0d (some ⟨g_owE_a0, 0, none⟩) a0d.length _ (by omega) (fun i d h => Nat.le_trans (HIN_a0.out i d h) (by omega)) ?_ ?_).mono ?_); (focus ((refine RdRing.more (B := wX0.heap.size) ?_ (by first | omega | ((try simp only [World.size_setCell]); (try simp only [World.size_drew]); (try simp only [World.size_alloc]); omega) | (simp; done) | (simp; omega))); (repeat' (first | with_reducible assumption | (with_reducible refine RdRing.drew ?_) | (with_reducible refine RdRing.carry ?_ (by with_reducible assumption) ?_) | (with_reducible refine RdRing.alloc ?_ ?_ _) | (with_reducible refine RdRing.setCell ?_ ?_ _) | omega | (simp; done) | (simp; omega))))); (focus ((first | exact owE_a0.here | exact RdRing.drew owE_a0.here))); rintro e wE0 ⟨rfl, hbwE0⟩; obtain ⟨hcwE0, hfwE0⟩ := bcell hbwE0; have hzwE0 := hbwE0.size; (try simp only [World.size_drew] at hcwE0 hfwE0 hzwE0); (try simp only [World.size_alloc] at hcwE0 hfwE0 hzwE0)))
        clear kat_p0 lat_p
        clear kbx_a0 lbx_a
        all_goals
          have zwE0 := hbwE0.size
          (try simp only [World.size_setCell] at zwE0)
          (try simp only [World.size_drew] at zwE0)
          (try simp only [World.size_alloc] at zwE0)
          have qwE0 : w.heap.size ≤ wE0.heap.size := by omega
          have bx_awE0 : AtL (w.heap.size) [.slice a0A a0d.length a0c] wE0 := by repeat' (first | with_reducible assumption | with_reducible exact AtL.new _ _ _ | ((with_reducible refine AtL.newAt ?_); (first | rfl | (simp; done))) | (with_reducible refine AtL.drew ?_) | (with_reducible refine AtL.below ?_ (by with_reducible assumption)) | (with_reducible refine AtL.alloc ?_ _) | (with_reducible refine AtL.far ?_ ?_ _ _) | omega | (simp; done) | (simp; omega))
          have rd_a0wE0 : RdRing wE0 (w.heap.size) a0A a0d := by repeat' (first | with_reducible assumption | (with_reducible refine RdRing.drew ?_) | (with_reducible refine RdRing.carry ?_ (by with_reducible assumption) ?_) | (with_reducible refine RdRing.alloc ?_ ?_ _) | (with_reducible refine RdRing.setCell ?_ ?_ _) | omega | (simp; done) | (simp; omega))
          have bx_bwE0 : AtL (w.heap.size + 1) [.int .i64 b0, .int .i64 b1] wE0 := by repeat' (first | with_reducible assumption | with_reducible exact AtL.new _ _ _ | ((with_reducible refine AtL.newAt ?_); (first | rfl | (simp; done))) | (with_reducible refine AtL.drew ?_) | (with_reducible refine AtL.below ?_ (by with_reducible assumption)) | (with_reducible refine AtL.alloc ?_ _) | (with_reducible refine AtL.far ?_ ?_ _ _) | omega | (simp; done) | (simp; omega))
          have rx_a0wE0 : RdRing wE0 (wX0.heap.size) (some ⟨gX_a0, 0, none⟩) a0d := by repeat' (first | with_reducible assumption | (with_reducible refine RdRing.drew ?_) | (with_reducible refine RdRing.carry ?_ (by with_reducible assumption) ?_) | (with_reducible refine RdRing.alloc ?_ ?_ _) | (with_reducible refine RdRing.setCell ?_ ?_ _) | omega | (simp; done) | (simp; omega))
          have at_pwE0 : AtL (wX0.heap.size) [.slice (some ⟨gX_a0, 0, none⟩) a0d.length a0d.length] wE0 := by repeat' (first | with_reducible assumption | with_reducible exact AtL.new _ _ _ | ((with_reducible refine AtL.newAt ?_); (first | rfl | (simp; done))) | (with_reducible refine AtL.drew ?_) | (with_reducible refine AtL.below ?_ (by with_reducible assumption)) | (with_reducible refine AtL.alloc ?_ _) | (with_reducible refine AtL.far ?_ ?_ _ _) | omega | (simp; done) | (simp; omega))
          have bp := bwI.out
          have bn : Below w.heap.size w wE0 := by repeat' (first | with_reducible assumption | with_reducible exact Below.refl _ _ | (with_reducible refine Below.setCell ?_ ?_ _) | (with_reducible refine Below.alloc ?_ ?_ _) | (with_reducible refine Below.drew ?_) | (with_reducible refine below_dr ?_ _) | (with_reducible refine Below.trans ?_ (Below.mono (by with_reducible assumption) ?_)) | omega | (simp; done) | (simp; omega))
          have bwE0 := Lib.hid bn
          clear bn
          clear bp bwI
          clear hbwE0
          clear bx_awI
          clear rd_a0wI
          clear bx_bwI
          clear rx_a0wI
          clear at_pwI
          go_wp2_with fail
          go_ret
          have bp := bwE0.out
          exact ⟨rfl, by repeat' (first | with_reducible assumption | with_reducible exact Below.refl _ _ | (with_reducible refine Below.setCell ?_ ?_ _) | (with_reducible refine Below.alloc ?_ ?_ _) | (with_reducible refine Below.drew ?_) | (with_reducible refine below_dr ?_ _) | (with_reducible refine Below.trans ?_ (Below.mono (by with_reducible assumption) ?_)) | omega | (simp; done) | (simp; omega))⟩
theorem walk_PointIn (a : ARegion) (f0 f1 : Int) (wf0 : (Lit.int .i64 f0).wf = true) (wf1 : (Lit.int .i64 f1).wf = true) (w : World) (k_a : okRegion w w.heap.size a) :
    Calls Try.prog 9 #[.agg #[.slice a.1 a.2.2.length a.2.1], .agg #[.int .i64 f0, .int .i64 f1]] w fun e w' => e = .returned (.bool true) ∧ Below w.heap.size w w' :=
  walkR_PointIn a (f0, f1) w k_a ⟨wf0, wf1⟩
end Go.Proofs.Ytkhpmmclknonbaa
