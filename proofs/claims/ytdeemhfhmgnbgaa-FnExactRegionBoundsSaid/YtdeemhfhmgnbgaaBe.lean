/- Walks: the law on RegionBounds: it returns true. -/
import Derived.Test.YtdeemhfhmgnbgaaBd
namespace Go.Proofs.Ytdeemhfhmgnbgaa
open Go.RowKit
set_option linter.unusedVariables false
set_option maxRecDepth 100000 in
set_option maxHeartbeats 12800000 in
theorem walk_RegionBounds (a : ARegion) (w : World) (k_a : okRegion w w.heap.size a) :
    Calls Try.prog 7 #[.agg #[.slice a.1 a.2.2.length a.2.1]] w fun e w' => e = .returned (.bool true) ∧ Below w.heap.size w w' := by
  obtain ⟨a0A, a0c, a0l⟩ := a
  obtain ⟨nc_a0, cm_a0, rd_a0, ok_a0⟩ := k_a
  simp only at nc_a0 cm_a0 rd_a0 ok_a0 ⊢
  have hm_a0 : a0l.length ≤ 9223372036854775807 := by unfold maxLen at cm_a0; omega
  have okd_a0 := okDRing_all a0l ok_a0
  replace rd_a0 := RdRing.of a0l rd_a0 ok_a0
  obtain ⟨a0d, hd_a0⟩ : ∃ ds, ds = a0l.map dRing := ⟨_, rfl⟩
  have hn_a0 : a0l.length = a0d.length := by rw [hd_a0, List.length_map]
  rw [← hd_a0] at okd_a0 rd_a0
  rw [hn_a0] at hm_a0 ⊢
  have HOK_a0 := Lib.hid okd_a0
  clear ok_a0 nc_a0 cm_a0 okd_a0 hd_a0 hn_a0
  have C1 := Lib.hid (fun A c w hl hin r => specRegionBounds_any a0d A c w hl hin r)
  have C2 := Lib.hid (fun A c w hl hin r => implRegionBounds_any a0d A c w hl hin r)
  unfold GbRet at C1 C2
  generalize gb bX1 a0d = v1 at C1 C2
  generalize gb bY1 a0d = v2 at C1 C2
  generalize gb bX2 a0d = v3 at C1 C2
  generalize gb bY2 a0d = v4 at C1 C2
  generalize gbC a0d = code at C1 C2
  have e_c : (code != code) = false := by simp
  go_enter Try.func7, Try.ntmps7
  go_wp2_with fail
  generalize hW : (w.alloc (.cells #[.slice a0A a0d.length a0c] 36)) = W0
  have rd_a0w : RdRing w (w.heap.size) a0A a0d := rd_a0
  have bx_aW0 : AtL (w.heap.size) [.slice a0A a0d.length a0c] W0 := by rw [← hW]; repeat' (first | with_reducible assumption | with_reducible exact AtL.new _ _ _ | ((with_reducible refine AtL.newAt ?_); (first | rfl | (simp; done))) | (with_reducible refine AtL.drew ?_) | (with_reducible refine AtL.below ?_ (by with_reducible assumption)) | (with_reducible refine AtL.alloc ?_ _) | (with_reducible refine AtL.far ?_ ?_ _ _) | omega | (simp; done) | (simp; omega))
  have rd_a0W0 : RdRing W0 (w.heap.size) a0A a0d := by rw [← hW]; repeat' (first | with_reducible assumption | (with_reducible refine RdRing.drew ?_) | (with_reducible refine RdRing.carry ?_ (by with_reducible assumption) ?_) | (with_reducible refine RdRing.alloc ?_ ?_ _) | (with_reducible refine RdRing.setCell ?_ ?_ _) | omega | (simp; done) | (simp; omega))
  have qW0 : w.heap.size ≤ W0.heap.size := by rw [← hW]; simp
  have bn : Below w.heap.size w W0 := by rw [← hW]; repeat' (first | with_reducible assumption | with_reducible exact Below.refl _ _ | (with_reducible refine Below.setCell ?_ ?_ _) | (with_reducible refine Below.alloc ?_ ?_ _) | (with_reducible refine Below.drew ?_) | (with_reducible refine below_dr ?_ _) | (with_reducible refine Below.trans ?_ (Below.mono (by with_reducible assumption) ?_)) | omega | (simp; done) | (simp; omega))
  have bW0 := Lib.hid bn
  clear hW bn
  clear rd_a0w rd_a0
  have hV0 : 0 ≤ (1048576 : Int) ∧ (1048576 : Int) ≤ 1048576 := by omega
  by_cases hfit : ((a0d.length + totRing a0d : Nat) : Int) ≤ 1048576
  case neg =>
    replace hfit : 1048576 < ((a0d.length + totRing a0d : Nat) : Int) := by omega
    refine (szRegion_no a0A a0c a0d 1048576 _ (by omega) (by omega) hm_a0 hfit ?_ HOK_a0.out).mono ?_
    · (refine RdRing.more (B := w.heap.size) ?_ (by first | omega | ((try simp only [World.size_setCell]); (try simp only [World.size_drew]); (try simp only [World.size_alloc]); omega) | (simp; done) | (simp; omega))); (repeat' (first | with_reducible assumption | (with_reducible refine RdRing.drew ?_) | (with_reducible refine RdRing.carry ?_ (by with_reducible assumption) ?_) | (with_reducible refine RdRing.alloc ?_ ?_ _) | (with_reducible refine RdRing.setCell ?_ ?_ _) | omega | (simp; done) | (simp; omega)))
    rintro e wN ⟨rfl, hb⟩
    go_wp2_with fail
    go_ret
    have bp := bW0.out
    exact ⟨rfl, by repeat' (first | with_reducible assumption | with_reducible exact Below.refl _ _ | (with_reducible refine Below.setCell ?_ ?_ _) | (with_reducible refine Below.alloc ?_ ?_ _) | (with_reducible refine Below.drew ?_) | (with_reducible refine below_dr ?_ _) | (with_reducible refine Below.trans ?_ (Below.mono (by with_reducible assumption) ?_)) | omega | (simp; done) | (simp; omega))⟩
  case pos =>
    have hl_a0 : a0d.length ≤ 1048576 := by omega
    have hin_a0 : totRing a0d ≤ 1048576 := by omega
    have HIN_a0 := Lib.hid (inRing hin_a0)
    have HT_a0 := Lib.hid hin_a0
    clear hin_a0
    refine (szRegion_yes a0A a0c a0d 1048576 _ (by omega) (by omega) (by omega) hfit ?_ HOK_a0.out).mono ?_
    · (refine RdRing.more (B := w.heap.size) ?_ (by first | omega | ((try simp only [World.size_setCell]); (try simp only [World.size_drew]); (try simp only [World.size_alloc]); omega) | (simp; done) | (simp; omega))); (repeat' (first | with_reducible assumption | (with_reducible refine RdRing.drew ?_) | (with_reducible refine RdRing.carry ?_ (by with_reducible assumption) ?_) | (with_reducible refine RdRing.alloc ?_ ?_ _) | (with_reducible refine RdRing.setCell ?_ ?_ _) | omega | (simp; done) | (simp; omega)))
    obtain ⟨V0, hV⟩ : ∃ V : Int, V = 1048576 - (a0d.length + totRing a0d : Nat) := ⟨_, rfl⟩
    have hVV : 0 ≤ V0 ∧ V0 ≤ 1048576 := by omega
    rw [← hV]
    rintro e wS0 ⟨rfl, hbwS0⟩
    clear hV hfit
    obtain ⟨hV0_0, hV1_0⟩ := hVV
    have zwS0 := hbwS0.size
    (try simp only [World.size_setCell] at zwS0)
    (try simp only [World.size_drew] at zwS0)
    (try simp only [World.size_alloc] at zwS0)
    have qwS0 : w.heap.size ≤ wS0.heap.size := by omega
    have bx_awS0 : AtL (w.heap.size) [.slice a0A a0d.length a0c] wS0 := by repeat' (first | with_reducible assumption | with_reducible exact AtL.new _ _ _ | ((with_reducible refine AtL.newAt ?_); (first | rfl | (simp; done))) | (with_reducible refine AtL.drew ?_) | (with_reducible refine AtL.below ?_ (by with_reducible assumption)) | (with_reducible refine AtL.alloc ?_ _) | (with_reducible refine AtL.far ?_ ?_ _ _) | omega | (simp; done) | (simp; omega))
    have rd_a0wS0 : RdRing wS0 (w.heap.size) a0A a0d := by repeat' (first | with_reducible assumption | (with_reducible refine RdRing.drew ?_) | (with_reducible refine RdRing.carry ?_ (by with_reducible assumption) ?_) | (with_reducible refine RdRing.alloc ?_ ?_ _) | (with_reducible refine RdRing.setCell ?_ ?_ _) | omega | (simp; done) | (simp; omega))
    have bp := bW0.out
    have bn : Below w.heap.size w wS0 := by repeat' (first | with_reducible assumption | with_reducible exact Below.refl _ _ | (with_reducible refine Below.setCell ?_ ?_ _) | (with_reducible refine Below.alloc ?_ ?_ _) | (with_reducible refine Below.drew ?_) | (with_reducible refine below_dr ?_ _) | (with_reducible refine Below.trans ?_ (Below.mono (by with_reducible assumption) ?_)) | omega | (simp; done) | (simp; omega))
    have bwS0 := Lib.hid bn
    clear bn
    clear bp bW0
    clear hbwS0
    clear bx_aW0
    clear rd_a0W0
    have kbx_a0 := bx_awS0.cell 0 rfl
    have lbx_a := bx_awS0.lt
    go_wp2_with fail
    clear kbx_a0 lbx_a
    refine (toRegion_any a0A a0c a0d _ hl_a0 HIN_a0.out ?_).mono ?_
    · (refine RdRing.more (B := w.heap.size) ?_ (by first | omega | ((try simp only [World.size_setCell]); (try simp only [World.size_drew]); (try simp only [World.size_alloc]); omega) | (simp; done) | (simp; omega))); (repeat' (first | with_reducible assumption | (with_reducible refine RdRing.drew ?_) | (with_reducible refine RdRing.carry ?_ (by with_reducible assumption) ?_) | (with_reducible refine RdRing.alloc ?_ ?_ _) | (with_reducible refine RdRing.setCell ?_ ?_ _) | omega | (simp; done) | (simp; omega)))
    intro e wA hq
    obtain ⟨gA_a0, rfl, owA_a0, hbwA⟩ := hq
    have zwA := hbwA.size
    (try simp only [World.size_setCell] at zwA)
    (try simp only [World.size_drew] at zwA)
    (try simp only [World.size_alloc] at zwA)
    have qwA : w.heap.size ≤ wA.heap.size := by omega
    have bx_awA : AtL (w.heap.size) [.slice a0A a0d.length a0c] wA := by repeat' (first | with_reducible assumption | with_reducible exact AtL.new _ _ _ | ((with_reducible refine AtL.newAt ?_); (first | rfl | (simp; done))) | (with_reducible refine AtL.drew ?_) | (with_reducible refine AtL.below ?_ (by with_reducible assumption)) | (with_reducible refine AtL.alloc ?_ _) | (with_reducible refine AtL.far ?_ ?_ _ _) | omega | (simp; done) | (simp; omega))
    have rd_a0wA : RdRing wA (w.heap.size) a0A a0d := by repeat' (first | with_reducible assumption | (with_reducible refine RdRing.drew ?_) | (with_reducible refine RdRing.carry ?_ (by with_reducible assumption) ?_) | (with_reducible refine RdRing.alloc ?_ ?_ _) | (with_reducible refine RdRing.setCell ?_ ?_ _) | omega | (simp; done) | (simp; omega))
    have bp := bwS0.out
    have bn : Below w.heap.size w wA := by repeat' (first | with_reducible assumption | with_reducible exact Below.refl _ _ | (with_reducible refine Below.setCell ?_ ?_ _) | (with_reducible refine Below.alloc ?_ ?_ _) | (with_reducible refine Below.drew ?_) | (with_reducible refine below_dr ?_ _) | (with_reducible refine Below.trans ?_ (Below.mono (by with_reducible assumption) ?_)) | omega | (simp; done) | (simp; omega))
    have bwA := Lib.hid bn
    clear bn
    clear bp bwS0
    clear hbwA
    clear bx_awS0
    clear rd_a0wS0
    go_wp2_with fail
    refine (C1.out (some ⟨gA_a0, 0, none⟩) a0d.length _ hl_a0 HIN_a0.out ?_).mono ?_
    · (first | exact owA_a0.here | exact RdRing.drew owA_a0.here)
    rintro e wB ⟨rfl, hbwB⟩
    clear owA_a0
    have zwB := hbwB.size
    (try simp only [World.size_setCell] at zwB)
    (try simp only [World.size_drew] at zwB)
    (try simp only [World.size_alloc] at zwB)
    have qwB : w.heap.size ≤ wB.heap.size := by omega
    have bx_awB : AtL (w.heap.size) [.slice a0A a0d.length a0c] wB := by repeat' (first | with_reducible assumption | with_reducible exact AtL.new _ _ _ | ((with_reducible refine AtL.newAt ?_); (first | rfl | (simp; done))) | (with_reducible refine AtL.drew ?_) | (with_reducible refine AtL.below ?_ (by with_reducible assumption)) | (with_reducible refine AtL.alloc ?_ _) | (with_reducible refine AtL.far ?_ ?_ _ _) | omega | (simp; done) | (simp; omega))
    have rd_a0wB : RdRing wB (w.heap.size) a0A a0d := by repeat' (first | with_reducible assumption | (with_reducible refine RdRing.drew ?_) | (with_reducible refine RdRing.carry ?_ (by with_reducible assumption) ?_) | (with_reducible refine RdRing.alloc ?_ ?_ _) | (with_reducible refine RdRing.setCell ?_ ?_ _) | omega | (simp; done) | (simp; omega))
    have bp := bwA.out
    have bn : Below w.heap.size w wB := by repeat' (first | with_reducible assumption | with_reducible exact Below.refl _ _ | (with_reducible refine Below.setCell ?_ ?_ _) | (with_reducible refine Below.alloc ?_ ?_ _) | (with_reducible refine Below.drew ?_) | (with_reducible refine below_dr ?_ _) | (with_reducible refine Below.trans ?_ (Below.mono (by with_reducible assumption) ?_)) | omega | (simp; done) | (simp; omega))
    have bwB := Lib.hid bn
    clear bn
    clear bp bwA
    clear hbwB
    clear bx_awA
    clear rd_a0wA
    have kbx_a0 := bx_awB.cell 0 rfl
    have lbx_a := bx_awB.lt
    go_wp2_with fail
    clear kbx_a0 lbx_a
    refine (toRegion_any a0A a0c a0d _ hl_a0 HIN_a0.out ?_).mono ?_
    · (refine RdRing.more (B := w.heap.size) ?_ (by first | omega | ((try simp only [World.size_setCell]); (try simp only [World.size_drew]); (try simp only [World.size_alloc]); omega) | (simp; done) | (simp; omega))); (repeat' (first | with_reducible assumption | (with_reducible refine RdRing.drew ?_) | (with_reducible refine RdRing.carry ?_ (by with_reducible assumption) ?_) | (with_reducible refine RdRing.alloc ?_ ?_ _) | (with_reducible refine RdRing.setCell ?_ ?_ _) | omega | (simp; done) | (simp; omega)))
    intro e wX hq
    obtain ⟨gX_a0, rfl, owX_a0, hbwX⟩ := hq
    have zwX := hbwX.size
    (try simp only [World.size_setCell] at zwX)
    (try simp only [World.size_drew] at zwX)
    (try simp only [World.size_alloc] at zwX)
    have qwX : w.heap.size ≤ wX.heap.size := by omega
    have bx_awX : AtL (w.heap.size) [.slice a0A a0d.length a0c] wX := by repeat' (first | with_reducible assumption | with_reducible exact AtL.new _ _ _ | ((with_reducible refine AtL.newAt ?_); (first | rfl | (simp; done))) | (with_reducible refine AtL.drew ?_) | (with_reducible refine AtL.below ?_ (by with_reducible assumption)) | (with_reducible refine AtL.alloc ?_ _) | (with_reducible refine AtL.far ?_ ?_ _ _) | omega | (simp; done) | (simp; omega))
    have rd_a0wX : RdRing wX (w.heap.size) a0A a0d := by repeat' (first | with_reducible assumption | (with_reducible refine RdRing.drew ?_) | (with_reducible refine RdRing.carry ?_ (by with_reducible assumption) ?_) | (with_reducible refine RdRing.alloc ?_ ?_ _) | (with_reducible refine RdRing.setCell ?_ ?_ _) | omega | (simp; done) | (simp; omega))
    have bx_w0wX : AtL (wB.heap.size) [.int .i64 v1, .int .i64 v2] wX := by repeat' (first | with_reducible assumption | with_reducible exact AtL.new _ _ _ | ((with_reducible refine AtL.newAt ?_); (first | rfl | (simp; done))) | (with_reducible refine AtL.drew ?_) | (with_reducible refine AtL.below ?_ (by with_reducible assumption)) | (with_reducible refine AtL.alloc ?_ _) | (with_reducible refine AtL.far ?_ ?_ _ _) | omega | (simp; done) | (simp; omega))
    have bx_w1wX : AtL (wB.heap.size + 1) [.int .i64 v3, .int .i64 v4] wX := by repeat' (first | with_reducible assumption | with_reducible exact AtL.new _ _ _ | ((with_reducible refine AtL.newAt ?_); (first | rfl | (simp; done))) | (with_reducible refine AtL.drew ?_) | (with_reducible refine AtL.below ?_ (by with_reducible assumption)) | (with_reducible refine AtL.alloc ?_ _) | (with_reducible refine AtL.far ?_ ?_ _ _) | omega | (simp; done) | (simp; omega))
    have bp := bwB.out
    have bn : Below w.heap.size w wX := by repeat' (first | with_reducible assumption | with_reducible exact Below.refl _ _ | (with_reducible refine Below.setCell ?_ ?_ _) | (with_reducible refine Below.alloc ?_ ?_ _) | (with_reducible refine Below.drew ?_) | (with_reducible refine below_dr ?_ _) | (with_reducible refine Below.trans ?_ (Below.mono (by with_reducible assumption) ?_)) | omega | (simp; done) | (simp; omega))
    have bwX := Lib.hid bn
    clear bn
    clear bp bwB
    clear hbwX
    clear bx_awB
    clear rd_a0wB
    have rx_a0wX : RdRing wX (wX.heap.size) (some ⟨gX_a0, 0, none⟩) a0d := owX_a0.here
    clear owX_a0
    go_wp2_with fail
    refine (C2.out (some ⟨gX_a0, 0, none⟩) a0d.length _ hl_a0 HIN_a0.out ?_).mono ?_
    · (refine RdRing.more (B := wX.heap.size) ?_ (by first | omega | ((try simp only [World.size_setCell]); (try simp only [World.size_drew]); (try simp only [World.size_alloc]); omega) | (simp; done) | (simp; omega))); (repeat' (first | with_reducible assumption | (with_reducible refine RdRing.drew ?_) | (with_reducible refine RdRing.carry ?_ (by with_reducible assumption) ?_) | (with_reducible refine RdRing.alloc ?_ ?_ _) | (with_reducible refine RdRing.setCell ?_ ?_ _) | omega | (simp; done) | (simp; omega)))
    rintro e wI ⟨rfl, hbwI⟩
    have zwI := hbwI.size
    (try simp only [World.size_setCell] at zwI)
    (try simp only [World.size_drew] at zwI)
    (try simp only [World.size_alloc] at zwI)
    have qwI : w.heap.size ≤ wI.heap.size := by omega
    have bx_awI : AtL (w.heap.size) [.slice a0A a0d.length a0c] wI := by repeat' (first | with_reducible assumption | with_reducible exact AtL.new _ _ _ | ((with_reducible refine AtL.newAt ?_); (first | rfl | (simp; done))) | (with_reducible refine AtL.drew ?_) | (with_reducible refine AtL.below ?_ (by with_reducible assumption)) | (with_reducible refine AtL.alloc ?_ _) | (with_reducible refine AtL.far ?_ ?_ _ _) | omega | (simp; done) | (simp; omega))
    have rd_a0wI : RdRing wI (w.heap.size) a0A a0d := by repeat' (first | with_reducible assumption | (with_reducible refine RdRing.drew ?_) | (with_reducible refine RdRing.carry ?_ (by with_reducible assumption) ?_) | (with_reducible refine RdRing.alloc ?_ ?_ _) | (with_reducible refine RdRing.setCell ?_ ?_ _) | omega | (simp; done) | (simp; omega))
    have bx_w0wI : AtL (wB.heap.size) [.int .i64 v1, .int .i64 v2] wI := by repeat' (first | with_reducible assumption | with_reducible exact AtL.new _ _ _ | ((with_reducible refine AtL.newAt ?_); (first | rfl | (simp; done))) | (with_reducible refine AtL.drew ?_) | (with_reducible refine AtL.below ?_ (by with_reducible assumption)) | (with_reducible refine AtL.alloc ?_ _) | (with_reducible refine AtL.far ?_ ?_ _ _) | omega | (simp; done) | (simp; omega))
    have bx_w1wI : AtL (wB.heap.size + 1) [.int .i64 v3, .int .i64 v4] wI := by repeat' (first | with_reducible assumption | with_reducible exact AtL.new _ _ _ | ((with_reducible refine AtL.newAt ?_); (first | rfl | (simp; done))) | (with_reducible refine AtL.drew ?_) | (with_reducible refine AtL.below ?_ (by with_reducible assumption)) | (with_reducible refine AtL.alloc ?_ _) | (with_reducible refine AtL.far ?_ ?_ _ _) | omega | (simp; done) | (simp; omega))
    have rx_a0wI : RdRing wI (wX.heap.size) (some ⟨gX_a0, 0, none⟩) a0d := by repeat' (first | with_reducible assumption | (with_reducible refine RdRing.drew ?_) | (with_reducible refine RdRing.carry ?_ (by with_reducible assumption) ?_) | (with_reducible refine RdRing.alloc ?_ ?_ _) | (with_reducible refine RdRing.setCell ?_ ?_ _) | omega | (simp; done) | (simp; omega))
    have at_pwI : AtL (wX.heap.size) [.slice (some ⟨gX_a0, 0, none⟩) a0d.length a0d.length] wI := by repeat' (first | with_reducible assumption | with_reducible exact AtL.new _ _ _ | ((with_reducible refine AtL.newAt ?_); (first | rfl | (simp; done))) | (with_reducible refine AtL.drew ?_) | (with_reducible refine AtL.below ?_ (by with_reducible assumption)) | (with_reducible refine AtL.alloc ?_ _) | (with_reducible refine AtL.far ?_ ?_ _ _) | omega | (simp; done) | (simp; omega))
    have bp := bwX.out
    have bn : Below w.heap.size w wI := by repeat' (first | with_reducible assumption | with_reducible exact Below.refl _ _ | (with_reducible refine Below.setCell ?_ ?_ _) | (with_reducible refine Below.alloc ?_ ?_ _) | (with_reducible refine Below.drew ?_) | (with_reducible refine below_dr ?_ _) | (with_reducible refine Below.trans ?_ (Below.mono (by with_reducible assumption) ?_)) | omega | (simp; done) | (simp; omega))
    have bwI := Lib.hid bn
    clear bn
    clear bp bwX
    clear hbwI
    clear bx_awX
    clear rd_a0wX
    clear bx_w0wX
    clear bx_w1wX
    clear rx_a0wX
    have kbx_w00 := bx_w0wI.cell 0 rfl
    have kbx_w01 := bx_w0wI.cell 1 rfl
    have lbx_w0 := bx_w0wI.lt
    go_wp2_with fail
    clear kbx_w00 kbx_w01 lbx_w0
    refine (eqPt_same v1 v2 _).mono ?_
    rintro e wE0 ⟨rfl, hbwE0⟩
    have zwE0 := hbwE0.size
    (try simp only [World.size_setCell] at zwE0)
    (try simp only [World.size_drew] at zwE0)
    (try simp only [World.size_alloc] at zwE0)
    have qwE0 : w.heap.size ≤ wE0.heap.size := by omega
    have bx_awE0 : AtL (w.heap.size) [.slice a0A a0d.length a0c] wE0 := by repeat' (first | with_reducible assumption | with_reducible exact AtL.new _ _ _ | ((with_reducible refine AtL.newAt ?_); (first | rfl | (simp; done))) | (with_reducible refine AtL.drew ?_) | (with_reducible refine AtL.below ?_ (by with_reducible assumption)) | (with_reducible refine AtL.alloc ?_ _) | (with_reducible refine AtL.far ?_ ?_ _ _) | omega | (simp; done) | (simp; omega))
    have rd_a0wE0 : RdRing wE0 (w.heap.size) a0A a0d := by repeat' (first | with_reducible assumption | (with_reducible refine RdRing.drew ?_) | (with_reducible refine RdRing.carry ?_ (by with_reducible assumption) ?_) | (with_reducible refine RdRing.alloc ?_ ?_ _) | (with_reducible refine RdRing.setCell ?_ ?_ _) | omega | (simp; done) | (simp; omega))
    have bx_w0wE0 : AtL (wB.heap.size) [.int .i64 v1, .int .i64 v2] wE0 := by repeat' (first | with_reducible assumption | with_reducible exact AtL.new _ _ _ | ((with_reducible refine AtL.newAt ?_); (first | rfl | (simp; done))) | (with_reducible refine AtL.drew ?_) | (with_reducible refine AtL.below ?_ (by with_reducible assumption)) | (with_reducible refine AtL.alloc ?_ _) | (with_reducible refine AtL.far ?_ ?_ _ _) | omega | (simp; done) | (simp; omega))
    have bx_w1wE0 : AtL (wB.heap.size + 1) [.int .i64 v3, .int .i64 v4] wE0 := by repeat' (first | with_reducible assumption | with_reducible exact AtL.new _ _ _ | ((with_reducible refine AtL.newAt ?_); (first | rfl | (simp; done))) | (with_reducible refine AtL.drew ?_) | (with_reducible refine AtL.below ?_ (by with_reducible assumption)) | (with_reducible refine AtL.alloc ?_ _) | (with_reducible refine AtL.far ?_ ?_ _ _) | omega | (simp; done) | (simp; omega))
    have rx_a0wE0 : RdRing wE0 (wX.heap.size) (some ⟨gX_a0, 0, none⟩) a0d := by repeat' (first | with_reducible assumption | (with_reducible refine RdRing.drew ?_) | (with_reducible refine RdRing.carry ?_ (by with_reducible assumption) ?_) | (with_reducible refine RdRing.alloc ?_ ?_ _) | (with_reducible refine RdRing.setCell ?_ ?_ _) | omega | (simp; done) | (simp; omega))
    have at_pwE0 : AtL (wX.heap.size) [.slice (some ⟨gX_a0, 0, none⟩) a0d.length a0d.length] wE0 := by repeat' (first | with_reducible assumption | with_reducible exact AtL.new _ _ _ | ((with_reducible refine AtL.newAt ?_); (first | rfl | (simp; done))) | (with_reducible refine AtL.drew ?_) | (with_reducible refine AtL.below ?_ (by with_reducible assumption)) | (with_reducible refine AtL.alloc ?_ _) | (with_reducible refine AtL.far ?_ ?_ _ _) | omega | (simp; done) | (simp; omega))
    have bx_h1wE0 : AtL (wI.heap.size + 1) [.int .i64 v3, .int .i64 v4] wE0 := by repeat' (first | with_reducible assumption | with_reducible exact AtL.new _ _ _ | ((with_reducible refine AtL.newAt ?_); (first | rfl | (simp; done))) | (with_reducible refine AtL.drew ?_) | (with_reducible refine AtL.below ?_ (by with_reducible assumption)) | (with_reducible refine AtL.alloc ?_ _) | (with_reducible refine AtL.far ?_ ?_ _ _) | omega | (simp; done) | (simp; omega))
    have bp := bwI.out
    have bn : Below w.heap.size w wE0 := by repeat' (first | with_reducible assumption | with_reducible exact Below.refl _ _ | (with_reducible refine Below.setCell ?_ ?_ _) | (with_reducible refine Below.alloc ?_ ?_ _) | (with_reducible refine Below.drew ?_) | (with_reducible refine below_dr ?_ _) | (with_reducible refine Below.trans ?_ (Below.mono (by with_reducible assumption) ?_)) | omega | (simp; done) | (simp; omega))
    have bwE0 := Lib.hid bn
    clear bn
    clear bp bwI
    clear hbwE0
    clear bx_awI
    clear rd_a0wI
    clear bx_w0wI
    clear bx_w1wI
    clear rx_a0wI
    clear at_pwI
    have kbx_w10 := bx_w1wE0.cell 0 rfl
    have kbx_w11 := bx_w1wE0.cell 1 rfl
    have lbx_w1 := bx_w1wE0.lt
    have kbx_h10 := bx_h1wE0.cell 0 rfl
    have kbx_h11 := bx_h1wE0.cell 1 rfl
    have lbx_h1 := bx_h1wE0.lt
    go_wp2_with fail
    clear kbx_w10 kbx_w11 lbx_w1
    clear kbx_h10 kbx_h11 lbx_h1
    refine (eqPt_same v3 v4 _).mono ?_
    rintro e wE1 ⟨rfl, hbwE1⟩
    have zwE1 := hbwE1.size
    (try simp only [World.size_setCell] at zwE1)
    (try simp only [World.size_drew] at zwE1)
    (try simp only [World.size_alloc] at zwE1)
    have qwE1 : w.heap.size ≤ wE1.heap.size := by omega
    have bx_awE1 : AtL (w.heap.size) [.slice a0A a0d.length a0c] wE1 := by repeat' (first | with_reducible assumption | with_reducible exact AtL.new _ _ _ | ((with_reducible refine AtL.newAt ?_); (first | rfl | (simp; done))) | (with_reducible refine AtL.drew ?_) | (with_reducible refine AtL.below ?_ (by with_reducible assumption)) | (with_reducible refine AtL.alloc ?_ _) | (with_reducible refine AtL.far ?_ ?_ _ _) | omega | (simp; done) | (simp; omega))
    have rd_a0wE1 : RdRing wE1 (w.heap.size) a0A a0d := by repeat' (first | with_reducible assumption | (with_reducible refine RdRing.drew ?_) | (with_reducible refine RdRing.carry ?_ (by with_reducible assumption) ?_) | (with_reducible refine RdRing.alloc ?_ ?_ _) | (with_reducible refine RdRing.setCell ?_ ?_ _) | omega | (simp; done) | (simp; omega))
    have bx_w0wE1 : AtL (wB.heap.size) [.int .i64 v1, .int .i64 v2] wE1 := by repeat' (first | with_reducible assumption | with_reducible exact AtL.new _ _ _ | ((with_reducible refine AtL.newAt ?_); (first | rfl | (simp; done))) | (with_reducible refine AtL.drew ?_) | (with_reducible refine AtL.below ?_ (by with_reducible assumption)) | (with_reducible refine AtL.alloc ?_ _) | (with_reducible refine AtL.far ?_ ?_ _ _) | omega | (simp; done) | (simp; omega))
    have bx_w1wE1 : AtL (wB.heap.size + 1) [.int .i64 v3, .int .i64 v4] wE1 := by repeat' (first | with_reducible assumption | with_reducible exact AtL.new _ _ _ | ((with_reducible refine AtL.newAt ?_); (first | rfl | (simp; done))) | (with_reducible refine AtL.drew ?_) | (with_reducible refine AtL.below ?_ (by with_reducible assumption)) | (with_reducible refine AtL.alloc ?_ _) | (with_reducible refine AtL.far ?_ ?_ _ _) | omega | (simp; done) | (simp; omega))
    have rx_a0wE1 : RdRing wE1 (wX.heap.size) (some ⟨gX_a0, 0, none⟩) a0d := by repeat' (first | with_reducible assumption | (with_reducible refine RdRing.drew ?_) | (with_reducible refine RdRing.carry ?_ (by with_reducible assumption) ?_) | (with_reducible refine RdRing.alloc ?_ ?_ _) | (with_reducible refine RdRing.setCell ?_ ?_ _) | omega | (simp; done) | (simp; omega))
    have at_pwE1 : AtL (wX.heap.size) [.slice (some ⟨gX_a0, 0, none⟩) a0d.length a0d.length] wE1 := by repeat' (first | with_reducible assumption | with_reducible exact AtL.new _ _ _ | ((with_reducible refine AtL.newAt ?_); (first | rfl | (simp; done))) | (with_reducible refine AtL.drew ?_) | (with_reducible refine AtL.below ?_ (by with_reducible assumption)) | (with_reducible refine AtL.alloc ?_ _) | (with_reducible refine AtL.far ?_ ?_ _ _) | omega | (simp; done) | (simp; omega))
    have bx_h1wE1 : AtL (wI.heap.size + 1) [.int .i64 v3, .int .i64 v4] wE1 := by repeat' (first | with_reducible assumption | with_reducible exact AtL.new _ _ _ | ((with_reducible refine AtL.newAt ?_); (first | rfl | (simp; done))) | (with_reducible refine AtL.drew ?_) | (with_reducible refine AtL.below ?_ (by with_reducible assumption)) | (with_reducible refine AtL.alloc ?_ _) | (with_reducible refine AtL.far ?_ ?_ _ _) | omega | (simp; done) | (simp; omega))
    have bp := bwE0.out
    have bn : Below w.heap.size w wE1 := by repeat' (first | with_reducible assumption | with_reducible exact Below.refl _ _ | (with_reducible refine Below.setCell ?_ ?_ _) | (with_reducible refine Below.alloc ?_ ?_ _) | (with_reducible refine Below.drew ?_) | (with_reducible refine below_dr ?_ _) | (with_reducible refine Below.trans ?_ (Below.mono (by with_reducible assumption) ?_)) | omega | (simp; done) | (simp; omega))
    have bwE1 := Lib.hid bn
    clear bn
    clear bp bwE0
    clear hbwE1
    clear bx_awE0
    clear rd_a0wE0
    clear bx_w0wE0
    clear bx_w1wE0
    clear rx_a0wE0
    clear at_pwE0
    clear bx_h1wE0
    have kat_p0 := at_pwE1.cell 0 rfl
    have lat_p := at_pwE1.lt
    have kbx_a0 := bx_awE1.cell 0 rfl
    have lbx_a := bx_awE1.lt
    go_wp2_with fail
    go_region_held3 (fun w' => (∀ b o, b < wE1.heap.size → w'.cell? ⟨b, o, none⟩ = wE1.cell? ⟨b, o, none⟩) ∧ wE1.heap.size ≤ w'.heap.size)
      (first | ((try dsimp only); exact ⟨fun b o h => (by (repeat (first | with_reducible exact rfl | (with_reducible refine (cell_drew_at _ _).trans ?_) | (with_reducible refine (cell_set_at _ _ (by first | omega | (simp; done) | (simp; omega))).trans ?_) | (with_reducible refine (cell_alloc_at _ _ (by first | omega | (simp; done) | (simp; omega))).trans ?_) | (with_reducible refine (hcwT b o (by first | omega | (simp; done) | (simp; omega))).trans ?_) | (with_reducible refine (hcwG b o (by first | omega | (simp; done) | (simp; omega))).trans ?_)))), (by first | omega | (simp; done) | (simp; omega))⟩) | fail)
      (first
        | (go_at_call 16; (with_reducible refine (toRegion_any a0A a0c a0d _ hl_a0 HIN_a0.out ?_).mono ?_); (focus ((refine RdRing.more (B := w.heap.size) ?_ (by first | omega | ((try simp only [World.size_setCell]); (try simp only [World.size_drew]); (try simp only [World.size_alloc]); omega) | (simp; done) | (simp; omega))); (repeat' (first | with_reducible assumption | (with_reducible refine RdRing.drew ?_) | (with_reducible refine RdRing.carry ?_ (by with_reducible assumption) ?_) | (with_reducible refine RdRing.alloc ?_ ?_ _) | (with_reducible refine RdRing.setCell ?_ ?_ _) | omega | (simp; done) | (simp; omega))))); intro e wT hq; obtain ⟨g_owE_a0, rfl, owE_a0, hbwT⟩ := hq; obtain ⟨hcwT, hfwT⟩ := bcell hbwT; have hzwT := hbwT.size; (try simp only [World.size_drew] at hcwT hfwT hzwT); (try simp only [World.size_alloc] at hcwT hfwT hzwT))
        | (go_at_call 18; (with_reducible refine (eqRegion_same (some ⟨gX_a0, 0, none⟩) a0d.length a0d (some ⟨g_owE_a0, 0, none⟩) a0d.length _ (by omega) (fun i d h => Nat.le_trans (HIN_a0.out i d h) (by omega)) ?_ ?_).mono ?_); (focus ((refine RdRing.more (B := wX.heap.size) ?_ (by first | omega | ((try simp only [World.size_setCell]); (try simp only [World.size_drew]); (try simp only [World.size_alloc]); omega) | (simp; done) | (simp; omega))); (repeat' (first | with_reducible assumption | (with_reducible refine RdRing.drew ?_) | (with_reducible refine RdRing.carry ?_ (by with_reducible assumption) ?_) | (with_reducible refine RdRing.alloc ?_ ?_ _) | (with_reducible refine RdRing.setCell ?_ ?_ _) | omega | (simp; done) | (simp; omega))))); (focus ((first | exact owE_a0.here | exact RdRing.drew owE_a0.here))); rintro e wG ⟨rfl, hbwG⟩; obtain ⟨hcwG, hfwG⟩ := bcell hbwG; have hzwG := hbwG.size; (try simp only [World.size_drew] at hcwG hfwG hzwG); (try simp only [World.size_alloc] at hcwG hfwG hzwG)))
    clear kat_p0 lat_p
    clear kbx_a0 lbx_a
    all_goals
      have zwG := hbwG.size
      (try simp only [World.size_setCell] at zwG)
      (try simp only [World.size_drew] at zwG)
      (try simp only [World.size_alloc] at zwG)
      have qwG : w.heap.size ≤ wG.heap.size := by omega
      have bx_awG : AtL (w.heap.size) [.slice a0A a0d.length a0c] wG := by repeat' (first | with_reducible assumption | with_reducible exact AtL.new _ _ _ | ((with_reducible refine AtL.newAt ?_); (first | rfl | (simp; done))) | (with_reducible refine AtL.drew ?_) | (with_reducible refine AtL.below ?_ (by with_reducible assumption)) | (with_reducible refine AtL.alloc ?_ _) | (with_reducible refine AtL.far ?_ ?_ _ _) | omega | (simp; done) | (simp; omega))
      have rd_a0wG : RdRing wG (w.heap.size) a0A a0d := by repeat' (first | with_reducible assumption | (with_reducible refine RdRing.drew ?_) | (with_reducible refine RdRing.carry ?_ (by with_reducible assumption) ?_) | (with_reducible refine RdRing.alloc ?_ ?_ _) | (with_reducible refine RdRing.setCell ?_ ?_ _) | omega | (simp; done) | (simp; omega))
      have bx_w0wG : AtL (wB.heap.size) [.int .i64 v1, .int .i64 v2] wG := by repeat' (first | with_reducible assumption | with_reducible exact AtL.new _ _ _ | ((with_reducible refine AtL.newAt ?_); (first | rfl | (simp; done))) | (with_reducible refine AtL.drew ?_) | (with_reducible refine AtL.below ?_ (by with_reducible assumption)) | (with_reducible refine AtL.alloc ?_ _) | (with_reducible refine AtL.far ?_ ?_ _ _) | omega | (simp; done) | (simp; omega))
      have bx_w1wG : AtL (wB.heap.size + 1) [.int .i64 v3, .int .i64 v4] wG := by repeat' (first | with_reducible assumption | with_reducible exact AtL.new _ _ _ | ((with_reducible refine AtL.newAt ?_); (first | rfl | (simp; done))) | (with_reducible refine AtL.drew ?_) | (with_reducible refine AtL.below ?_ (by with_reducible assumption)) | (with_reducible refine AtL.alloc ?_ _) | (with_reducible refine AtL.far ?_ ?_ _ _) | omega | (simp; done) | (simp; omega))
      have rx_a0wG : RdRing wG (wX.heap.size) (some ⟨gX_a0, 0, none⟩) a0d := by repeat' (first | with_reducible assumption | (with_reducible refine RdRing.drew ?_) | (with_reducible refine RdRing.carry ?_ (by with_reducible assumption) ?_) | (with_reducible refine RdRing.alloc ?_ ?_ _) | (with_reducible refine RdRing.setCell ?_ ?_ _) | omega | (simp; done) | (simp; omega))
      have at_pwG : AtL (wX.heap.size) [.slice (some ⟨gX_a0, 0, none⟩) a0d.length a0d.length] wG := by repeat' (first | with_reducible assumption | with_reducible exact AtL.new _ _ _ | ((with_reducible refine AtL.newAt ?_); (first | rfl | (simp; done))) | (with_reducible refine AtL.drew ?_) | (with_reducible refine AtL.below ?_ (by with_reducible assumption)) | (with_reducible refine AtL.alloc ?_ _) | (with_reducible refine AtL.far ?_ ?_ _ _) | omega | (simp; done) | (simp; omega))
      have bx_h1wG : AtL (wI.heap.size + 1) [.int .i64 v3, .int .i64 v4] wG := by repeat' (first | with_reducible assumption | with_reducible exact AtL.new _ _ _ | ((with_reducible refine AtL.newAt ?_); (first | rfl | (simp; done))) | (with_reducible refine AtL.drew ?_) | (with_reducible refine AtL.below ?_ (by with_reducible assumption)) | (with_reducible refine AtL.alloc ?_ _) | (with_reducible refine AtL.far ?_ ?_ _ _) | omega | (simp; done) | (simp; omega))
      have bp := bwE1.out
      have bn : Below w.heap.size w wG := by repeat' (first | with_reducible assumption | with_reducible exact Below.refl _ _ | (with_reducible refine Below.setCell ?_ ?_ _) | (with_reducible refine Below.alloc ?_ ?_ _) | (with_reducible refine Below.drew ?_) | (with_reducible refine below_dr ?_ _) | (with_reducible refine Below.trans ?_ (Below.mono (by with_reducible assumption) ?_)) | omega | (simp; done) | (simp; omega))
      have bwG := Lib.hid bn
      clear bn
      clear bp bwE1
      clear hbwG
      clear bx_awE1
      clear rd_a0wE1
      clear bx_w0wE1
      clear bx_w1wE1
      clear rx_a0wE1
      clear at_pwE1
      clear bx_h1wE1
      go_wp2_with fail
      go_ret
      have bp := bwG.out
      exact ⟨rfl, by repeat' (first | with_reducible assumption | with_reducible exact Below.refl _ _ | (with_reducible refine Below.setCell ?_ ?_ _) | (with_reducible refine Below.alloc ?_ ?_ _) | (with_reducible refine Below.drew ?_) | (with_reducible refine below_dr ?_ _) | (with_reducible refine Below.trans ?_ (Below.mono (by with_reducible assumption) ?_)) | omega | (simp; done) | (simp; omega))⟩
end Go.Proofs.Ytdeemhfhmgnbgaa
