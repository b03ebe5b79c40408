/- Walks: the law on ReverseRegion: it returns true. -/
import Derived.Test.YtkhpmmclknonbaaYh
namespace Go.Proofs.Ytkhpmmclknonbaa
open Go.RowKit
set_option linter.unusedVariables false
theorem tot_rev (ds : List DRing) : totRing (ds.map List.reverse) = totRing ds := by
  unfold totRing
  rw [List.map_map]
  congr 1
  apply List.map_congr_left
  intro d _
  exact List.length_reverse
/-- Both sides hand back the same. -/
theorem region_both (ds : List DRing) : ∃ (l : List DRing) (code : Int), l.length ≤ 1048576 ∧ totRing l ≤ 1048576 ∧
    (∀ (A : Option Addr) (c : Nat) (w : World), (ds.length ≤ 1048576 ∧ totRing ds ≤ 1048576) → RdRing w w.heap.size A ds → Calls Try.prog 26 #[.agg #[.slice A ds.length c]] w (OutRet code l w)) ∧
    (∀ (A : Option Addr) (c : Nat) (w : World), (ds.length ≤ 1048576 ∧ totRing ds ≤ 1048576) → RdRing w w.heap.size A ds → Calls Try.prog 27 #[.agg #[.slice A ds.length c]] w (OutRet code l w)) := by
  by_cases hf : ds.length ≤ 1048576 ∧ totRing ds ≤ 1048576
  · obtain ⟨hl, ht⟩ := hf
    rcases hv : vRn ds with _ | _
    · exact ⟨[], 1, Nat.zero_le _, Nat.zero_le _, fun A c w _ r => specReverseRegion_bad ds A c w hv hl (inRing ht) r, fun A c w _ r => implReverseRegion_bad ds A c w hv hl (inRing ht) r⟩
    · exact ⟨ds.map List.reverse, 0, by rw [List.length_map]; exact hl, by rw [tot_rev]; exact ht, fun A c w _ r => specReverseRegion_ok ds A c w hv r, fun A c w _ r => implReverseRegion_ok ds A c w hv r⟩
  · exact ⟨[], 1, Nat.zero_le _, Nat.zero_le _, fun A c w h _ => absurd h hf, fun A c w h _ => absurd h hf⟩
set_option maxRecDepth 100000 in
set_option maxHeartbeats 12800000 in
theorem walk_ReverseRegion (a : ARegion) (w : World) (k_a : okRegion w w.heap.size a) :
    Calls Try.prog 7 #[.agg #[.slice a.1 a.2.2.length a.2.1]] w fun e w' => e = .returned (.bool true) ∧ Below w.heap.size w w' := by
  obtain ⟨a0A, a0c, a0l⟩ := a
  obtain ⟨nc_a0, cm_a0, rd_a0, ok_a0⟩ := k_a
  simp only at nc_a0 cm_a0 rd_a0 ok_a0 ⊢
  have hm_a0 : a0l.length ≤ 9223372036854775807 := by unfold maxLen at cm_a0; omega
  have okd_a0 := okDRing_all a0l ok_a0
  replace rd_a0 := RdRing.of a0l rd_a0 ok_a0
  obtain ⟨a0d, hd_a0⟩ : ∃ ds, ds = a0l.map dRing := ⟨_, rfl⟩
  have hn_a0 : a0l.length = a0d.length := by rw [hd_a0, List.length_map]
  rw [← hd_a0] at okd_a0 rd_a0
  rw [hn_a0] at hm_a0 ⊢
  have HOK_a0 := Lib.hid okd_a0
  clear ok_a0 nc_a0 cm_a0 okd_a0 hd_a0 hn_a0
  obtain ⟨l, code, hlen_r, htot_r, C1, C2⟩ := region_both a0d
  have HIN_r := Lib.hid (inRing htot_r)
  have HMK_r := Lib.hid (show kAt 1 l l.length ≤ 4611686018427387904 by rw [kAt_tot]; omega)
  replace C1 := Lib.hid C1
  replace C2 := Lib.hid C2
  have e_code : (code != code) = false := by simp
  clear htot_r
  obtain ⟨M, hM⟩ : ∃ M : Int, M = ((kAt 1 l l.length : Nat) : Int) := ⟨_, rfl⟩
  have hM0 : 0 ≤ M := by omega
  have HM := Lib.hid hM
  have e_M : (M != M) = false := by simp
  clear hM
  obtain ⟨M1, hM1⟩ : ∃ M1 : Int, M1 = ((kAt 1 a0d a0d.length : Nat) : Int) := ⟨_, rfl⟩
  have hM10 : 0 ≤ M1 := by omega
  have HM1 := Lib.hid hM1
  clear hM1
  go_enter Try.func7, Try.ntmps7
  go_wp2_with fail
  generalize hW : (w.alloc (.cells #[.slice a0A a0d.length a0c] 33)) = W0
  have rd_a0w : RdRing w (w.heap.size) a0A a0d := rd_a0
  have bx_aW0 : AtL (w.heap.size) [.slice a0A a0d.length a0c] W0 := by rw [← hW]; repeat' (first | with_reducible assumption | with_reducible exact AtL.new _ _ _ | ((with_reducible refine AtL.newAt ?_); (first | rfl | (simp; done))) | (with_reducible refine AtL.drew ?_) | (with_reducible refine AtL.below ?_ (by with_reducible assumption)) | (with_reducible refine AtL.alloc ?_ _) | (with_reducible refine AtL.far ?_ ?_ _ _) | omega | (simp; done) | (simp; omega))
  have rd_a0W0 : RdRing W0 (w.heap.size) a0A a0d := by rw [← hW]; repeat' (first | with_reducible assumption | (with_reducible refine RdRing.drew ?_) | (with_reducible refine RdRing.carry ?_ (by with_reducible assumption) ?_) | (with_reducible refine RdRing.alloc ?_ ?_ _) | (with_reducible refine RdRing.setCell ?_ ?_ _) | omega | (simp; done) | (simp; omega))
  have qW0 : w.heap.size ≤ W0.heap.size := by rw [← hW]; simp
  have bn : Below w.heap.size w W0 := by rw [← hW]; repeat' (first | with_reducible assumption | with_reducible exact Below.refl _ _ | (with_reducible refine Below.setCell ?_ ?_ _) | (with_reducible refine Below.alloc ?_ ?_ _) | (with_reducible refine Below.drew ?_) | (with_reducible refine below_dr ?_ _) | (with_reducible refine Below.trans ?_ (Below.mono (by with_reducible assumption) ?_)) | omega | (simp; done) | (simp; omega))
  have bW0 := Lib.hid bn
  clear hW bn
  clear rd_a0w rd_a0
  have hV0 : 0 ≤ (1048576 : Int) ∧ (1048576 : Int) ≤ 1048576 := by omega
  by_cases hfit : ((a0d.length + totRing a0d : Nat) : Int) ≤ 1048576
  case neg =>
    replace hfit : 1048576 < ((a0d.length + totRing a0d : Nat) : Int) := by omega
    refine (szRegion_no a0A a0c a0d 1048576 _ (by omega) (by omega) hm_a0 hfit ?_ HOK_a0.out).mono ?_
    · (refine RdRing.more (B := w.heap.size) ?_ (by first | omega | ((try simp only [World.size_setCell]); (try simp only [World.size_drew]); (try simp only [World.size_alloc]); omega) | (simp; done) | (simp; omega))); (repeat' (first | with_reducible assumption | (with_reducible refine RdRing.drew ?_) | (with_reducible refine RdRing.carry ?_ (by with_reducible assumption) ?_) | (with_reducible refine RdRing.alloc ?_ ?_ _) | (with_reducible refine RdRing.setCell ?_ ?_ _) | omega | (simp; done) | (simp; omega)))
    rintro e wN ⟨rfl, hb⟩
    go_wp2_with fail
    go_ret
    have bp := bW0.out
    exact ⟨rfl, by repeat' (first | with_reducible assumption | with_reducible exact Below.refl _ _ | (with_reducible refine Below.setCell ?_ ?_ _) | (with_reducible refine Below.alloc ?_ ?_ _) | (with_reducible refine Below.drew ?_) | (with_reducible refine below_dr ?_ _) | (with_reducible refine Below.trans ?_ (Below.mono (by with_reducible assumption) ?_)) | omega | (simp; done) | (simp; omega))⟩
  case pos =>
    have hl_a0 : a0d.length ≤ 1048576 := by omega
    have hin_a0 : totRing a0d ≤ 1048576 := by omega
    have HIN_a0 := Lib.hid (inRing hin_a0)
    have HT_a0 := Lib.hid hin_a0
    clear hin_a0
    refine (szRegion_yes a0A a0c a0d 1048576 _ (by omega) (by omega) (by omega) hfit ?_ HOK_a0.out).mono ?_
    · (refine RdRing.more (B := w.heap.size) ?_ (by first | omega | ((try simp only [World.size_setCell]); (try simp only [World.size_drew]); (try simp only [World.size_alloc]); omega) | (simp; done) | (simp; omega))); (repeat' (first | with_reducible assumption | (with_reducible refine RdRing.drew ?_) | (with_reducible refine RdRing.carry ?_ (by with_reducible assumption) ?_) | (with_reducible refine RdRing.alloc ?_ ?_ _) | (with_reducible refine RdRing.setCell ?_ ?_ _) | omega | (simp; done) | (simp; omega)))
    obtain ⟨V0, hV⟩ : ∃ V : Int, V = 1048576 - (a0d.length + totRing a0d : Nat) := ⟨_, rfl⟩
    have hVV : 0 ≤ V0 ∧ V0 ≤ 1048576 := by omega
    rw [← hV]
    rintro e wS0 ⟨rfl, hbwS0⟩
    clear hV hfit
    obtain ⟨hV0_0, hV1_0⟩ := hVV
    have zwS0 := hbwS0.size
    (try simp only [World.size_setCell] at zwS0)
    (try simp only [World.size_drew] at zwS0)
    (try simp only [World.size_alloc] at zwS0)
    have qwS0 : w.heap.size ≤ wS0.heap.size := by omega
    have bx_awS0 : AtL (w.heap.size) [.slice a0A a0d.length a0c] wS0 := by repeat' (first | with_reducible assumption | with_reducible exact AtL.new _ _ _ | ((with_reducible refine AtL.newAt ?_); (first | rfl | (simp; done))) | (with_reducible refine AtL.drew ?_) | (with_reducible refine AtL.below ?_ (by with_reducible assumption)) | (with_reducible refine AtL.alloc ?_ _) | (with_reducible refine AtL.far ?_ ?_ _ _) | omega | (simp; done) | (simp; omega))
    have rd_a0wS0 : RdRing wS0 (w.heap.size) a0A a0d := by repeat' (first | with_reducible assumption | (with_reducible refine RdRing.drew ?_) | (with_reducible refine RdRing.carry ?_ (by with_reducible assumption) ?_) | (with_reducible refine RdRing.alloc ?_ ?_ _) | (with_reducible refine RdRing.setCell ?_ ?_ _) | omega | (simp; done) | (simp; omega))
    have bp := bW0.out
    have bn : Below w.heap.size w wS0 := by repeat' (first | with_reducible assumption | with_reducible exact Below.refl _ _ | (with_reducible refine Below.setCell ?_ ?_ _) | (with_reducible refine Below.alloc ?_ ?_ _) | (with_reducible refine Below.drew ?_) | (with_reducible refine below_dr ?_ _) | (with_reducible refine Below.trans ?_ (Below.mono (by with_reducible assumption) ?_)) | omega | (simp; done) | (simp; omega))
    have bwS0 := Lib.hid bn
    clear bn
    clear bp bW0
    clear hbwS0
    clear bx_aW0
    clear rd_a0W0
    have kbx_a0 := bx_awS0.cell 0 rfl
    have lbx_a := bx_awS0.lt
    go_wp2_with fail
    clear kbx_a0 lbx_a
    have lt_a := bx_awS0.lt
    refine (toRegion_own a0d a0A a0c _ hl_a0 HIN_a0.out ?_).mono ?_
    · (refine RdRing.more (B := w.heap.size) ?_ (by first | omega | ((try simp only [World.size_setCell]); (try simp only [World.size_drew]); (try simp only [World.size_alloc]); omega) | (simp; done) | (simp; omega))); (repeat' (first | with_reducible assumption | (with_reducible refine RdRing.drew ?_) | (with_reducible refine RdRing.carry ?_ (by with_reducible assumption) ?_) | (with_reducible refine RdRing.alloc ?_ ?_ _) | (with_reducible refine RdRing.setCell ?_ ?_ _) | omega | (simp; done) | (simp; omega)))
    intro e wA hq
    obtain ⟨gA, rfl, owA, hbwA⟩ := hq
    have zwA := hbwA.size
    (try simp only [World.size_setCell] at zwA)
    (try simp only [World.size_drew] at zwA)
    (try simp only [World.size_alloc] at zwA)
    have qwA : w.heap.size ≤ wA.heap.size := by omega
    have bx_awA : AtL (w.heap.size) [.slice a0A a0d.length a0c] wA := by repeat' (first | with_reducible assumption | with_reducible exact AtL.new _ _ _ | ((with_reducible refine AtL.newAt ?_); (first | rfl | (simp; done))) | (with_reducible refine AtL.drew ?_) | (with_reducible refine AtL.below ?_ (by with_reducible assumption)) | (with_reducible refine AtL.alloc ?_ _) | (with_reducible refine AtL.far ?_ ?_ _ _) | omega | (simp; done) | (simp; omega))
    have rd_a0wA : RdRing wA (w.heap.size) a0A a0d := by repeat' (first | with_reducible assumption | (with_reducible refine RdRing.drew ?_) | (with_reducible refine RdRing.carry ?_ (by with_reducible assumption) ?_) | (with_reducible refine RdRing.alloc ?_ ?_ _) | (with_reducible refine RdRing.setCell ?_ ?_ _) | omega | (simp; done) | (simp; omega))
    have bp := bwS0.out
    have bn : Below w.heap.size w wA := by repeat' (first | with_reducible assumption | with_reducible exact Below.refl _ _ | (with_reducible refine Below.setCell ?_ ?_ _) | (with_reducible refine Below.alloc ?_ ?_ _) | (with_reducible refine Below.drew ?_) | (with_reducible refine below_dr ?_ _) | (with_reducible refine Below.trans ?_ (Below.mono (by with_reducible assumption) ?_)) | omega | (simp; done) | (simp; omega))
    have bwA := Lib.hid bn
    clear bn
    clear bp bwS0
    clear hbwA
    clear bx_awS0
    clear rd_a0wS0
    go_wp2_with fail
    refine (C1.out (some ⟨gA, 0, none⟩) a0d.length _ ⟨hl_a0, HT_a0.out⟩ ?_).mono ?_
    · (first | exact owA.rd | exact RdRing.drew owA.rd | (refine RdRing.more (B := _) ?_ ?_; rotate_left; (first | exact owA.rd | exact RdRing.drew owA.rd); (simp; done)))
    intro e wC hq
    obtain ⟨Aw, cw, rfl, oww, hbwC⟩ := hq
    have zwC := hbwC.size
    (try simp only [World.size_setCell] at zwC)
    (try simp only [World.size_drew] at zwC)
    (try simp only [World.size_alloc] at zwC)
    have qwC : w.heap.size ≤ wC.heap.size := by omega
    have bx_awC : AtL (w.heap.size) [.slice a0A a0d.length a0c] wC := by repeat' (first | with_reducible assumption | with_reducible exact AtL.new _ _ _ | ((with_reducible refine AtL.newAt ?_); (first | rfl | (simp; done))) | (with_reducible refine AtL.drew ?_) | (with_reducible refine AtL.below ?_ (by with_reducible assumption)) | (with_reducible refine AtL.alloc ?_ _) | (with_reducible refine AtL.far ?_ ?_ _ _) | omega | (simp; done) | (simp; omega))
    have rd_a0wC : RdRing wC (w.heap.size) a0A a0d := by repeat' (first | with_reducible assumption | (with_reducible refine RdRing.drew ?_) | (with_reducible refine RdRing.carry ?_ (by with_reducible assumption) ?_) | (with_reducible refine RdRing.alloc ?_ ?_ _) | (with_reducible refine RdRing.setCell ?_ ?_ _) | omega | (simp; done) | (simp; omega))
    have bp := bwA.out
    have bn : Below w.heap.size w wC := by repeat' (first | with_reducible assumption | with_reducible exact Below.refl _ _ | (with_reducible refine Below.setCell ?_ ?_ _) | (with_reducible refine Below.alloc ?_ ?_ _) | (with_reducible refine Below.drew ?_) | (with_reducible refine below_dr ?_ _) | (with_reducible refine Below.trans ?_ (Below.mono (by with_reducible assumption) ?_)) | omega | (simp; done) | (simp; omega))
    have bwC := Lib.hid bn
    clear bn
    clear bp bwA
    clear hbwC
    clear bx_awA
    clear rd_a0wA
    clear owA
    have r1wC : RdRing wC (wC.heap.size) Aw l := oww.rd
    clear oww
    have kbx_a0 := bx_awC.cell 0 rfl
    have lbx_a := bx_awC.lt
    go_wp2_with fail
    clear kbx_a0 lbx_a
    refine (toRegion_own a0d a0A a0c _ hl_a0 HIN_a0.out ?_).mono ?_
    · (refine RdRing.more (B := w.heap.size) ?_ (by first | omega | ((try simp only [World.size_setCell]); (try simp only [World.size_drew]); (try simp only [World.size_alloc]); omega) | (simp; done) | (simp; omega))); (repeat' (first | with_reducible assumption | (with_reducible refine RdRing.drew ?_) | (with_reducible refine RdRing.carry ?_ (by with_reducible assumption) ?_) | (with_reducible refine RdRing.alloc ?_ ?_ _) | (with_reducible refine RdRing.setCell ?_ ?_ _) | omega | (simp; done) | (simp; omega)))
    intro e wX hq
    obtain ⟨gX, rfl, owX, hbwX⟩ := hq
    have zwX := hbwX.size
    (try simp only [World.size_setCell] at zwX)
    (try simp only [World.size_drew] at zwX)
    (try simp only [World.size_alloc] at zwX)
    have qwX : w.heap.size ≤ wX.heap.size := by omega
    have bx_awX : AtL (w.heap.size) [.slice a0A a0d.length a0c] wX := by repeat' (first | with_reducible assumption | with_reducible exact AtL.new _ _ _ | ((with_reducible refine AtL.newAt ?_); (first | rfl | (simp; done))) | (with_reducible refine AtL.drew ?_) | (with_reducible refine AtL.below ?_ (by with_reducible assumption)) | (with_reducible refine AtL.alloc ?_ _) | (with_reducible refine AtL.far ?_ ?_ _ _) | omega | (simp; done) | (simp; omega))
    have rd_a0wX : RdRing wX (w.heap.size) a0A a0d := by repeat' (first | with_reducible assumption | (with_reducible refine RdRing.drew ?_) | (with_reducible refine RdRing.carry ?_ (by with_reducible assumption) ?_) | (with_reducible refine RdRing.alloc ?_ ?_ _) | (with_reducible refine RdRing.setCell ?_ ?_ _) | omega | (simp; done) | (simp; omega))
    have r1wX : RdRing wX (wC.heap.size) Aw l := by repeat' (first | with_reducible assumption | (with_reducible refine RdRing.drew ?_) | (with_reducible refine RdRing.carry ?_ (by with_reducible assumption) ?_) | (with_reducible refine RdRing.alloc ?_ ?_ _) | (with_reducible refine RdRing.setCell ?_ ?_ _) | omega | (simp; done) | (simp; omega))
    have bx_wwX : AtL (wC.heap.size) [.slice Aw l.length cw] wX := by repeat' (first | with_reducible assumption | with_reducible exact AtL.new _ _ _ | ((with_reducible refine AtL.newAt ?_); (first | rfl | (simp; done))) | (with_reducible refine AtL.drew ?_) | (with_reducible refine AtL.below ?_ (by with_reducible assumption)) | (with_reducible refine AtL.alloc ?_ _) | (with_reducible refine AtL.far ?_ ?_ _ _) | omega | (simp; done) | (simp; omega))
    have bp := bwC.out
    have bn : Below w.heap.size w wX := by repeat' (first | with_reducible assumption | with_reducible exact Below.refl _ _ | (with_reducible refine Below.setCell ?_ ?_ _) | (with_reducible refine Below.alloc ?_ ?_ _) | (with_reducible refine Below.drew ?_) | (with_reducible refine below_dr ?_ _) | (with_reducible refine Below.trans ?_ (Below.mono (by with_reducible assumption) ?_)) | omega | (simp; done) | (simp; omega))
    have bwX := Lib.hid bn
    clear bn
    clear bp bwC
    clear hbwX
    clear bx_awC
    clear rd_a0wC
    clear r1wC
    have zcx : wC.heap.size < wX.heap.size := bx_wwX.lt
    have oxwX := owX.wide (lo' := wC.heap.size + 1) (hi' := wX.heap.size) (by first | exact Nat.le_refl _ | (simp; done) | (simp; omega)) (Nat.le_refl _)
    clear owX
    have rxwX : RdRing wX (wX.heap.size) (some ⟨gX, 0, none⟩) a0d := oxwX.rd
    go_wp2_with fail
    refine (C2.out (some ⟨gX, 0, none⟩) a0d.length _ ⟨hl_a0, HT_a0.out⟩ ?_).mono ?_
    · (refine RdRing.more (B := wX.heap.size) ?_ (by first | omega | ((try simp only [World.size_setCell]); (try simp only [World.size_drew]); (try simp only [World.size_alloc]); omega) | (simp; done) | (simp; omega))); (repeat' (first | with_reducible assumption | (with_reducible refine RdRing.drew ?_) | (with_reducible refine RdRing.carry ?_ (by with_reducible assumption) ?_) | (with_reducible refine RdRing.alloc ?_ ?_ _) | (with_reducible refine RdRing.setCell ?_ ?_ _) | omega | (simp; done) | (simp; omega)))
    intro e wD hq
    obtain ⟨Ag, cg, rfl, owg, hbwD⟩ := hq
    have zwD := hbwD.size
    (try simp only [World.size_setCell] at zwD)
    (try simp only [World.size_drew] at zwD)
    (try simp only [World.size_alloc] at zwD)
    have qwD : w.heap.size ≤ wD.heap.size := by omega
    have bx_awD : AtL (w.heap.size) [.slice a0A a0d.length a0c] wD := by repeat' (first | with_reducible assumption | with_reducible exact AtL.new _ _ _ | ((with_reducible refine AtL.newAt ?_); (first | rfl | (simp; done))) | (with_reducible refine AtL.drew ?_) | (with_reducible refine AtL.below ?_ (by with_reducible assumption)) | (with_reducible refine AtL.alloc ?_ _) | (with_reducible refine AtL.far ?_ ?_ _ _) | omega | (simp; done) | (simp; omega))
    have rd_a0wD : RdRing wD (w.heap.size) a0A a0d := by repeat' (first | with_reducible assumption | (with_reducible refine RdRing.drew ?_) | (with_reducible refine RdRing.carry ?_ (by with_reducible assumption) ?_) | (with_reducible refine RdRing.alloc ?_ ?_ _) | (with_reducible refine RdRing.setCell ?_ ?_ _) | omega | (simp; done) | (simp; omega))
    have r1wD : RdRing wD (wC.heap.size) Aw l := by repeat' (first | with_reducible assumption | (with_reducible refine RdRing.drew ?_) | (with_reducible refine RdRing.carry ?_ (by with_reducible assumption) ?_) | (with_reducible refine RdRing.alloc ?_ ?_ _) | (with_reducible refine RdRing.setCell ?_ ?_ _) | omega | (simp; done) | (simp; omega))
    have bx_wwD : AtL (wC.heap.size) [.slice Aw l.length cw] wD := by repeat' (first | with_reducible assumption | with_reducible exact AtL.new _ _ _ | ((with_reducible refine AtL.newAt ?_); (first | rfl | (simp; done))) | (with_reducible refine AtL.drew ?_) | (with_reducible refine AtL.below ?_ (by with_reducible assumption)) | (with_reducible refine AtL.alloc ?_ _) | (with_reducible refine AtL.far ?_ ?_ _ _) | omega | (simp; done) | (simp; omega))
    have rxwD : RdRing wD (wX.heap.size) (some ⟨gX, 0, none⟩) a0d := by repeat' (first | with_reducible assumption | (with_reducible refine RdRing.drew ?_) | (with_reducible refine RdRing.carry ?_ (by with_reducible assumption) ?_) | (with_reducible refine RdRing.alloc ?_ ?_ _) | (with_reducible refine RdRing.setCell ?_ ?_ _) | omega | (simp; done) | (simp; omega))
    have oxwD : OwnRing wD (wC.heap.size + 1) (wX.heap.size) (some ⟨gX, 0, none⟩) a0d.length (a0d) := by repeat' (first | with_reducible assumption | (with_reducible refine OwnRing.drew ?_) | (with_reducible refine OwnRing.carry ?_ (by with_reducible assumption)) | (with_reducible refine OwnRing.alloc ?_ _) | (with_reducible refine OwnRing.set_far ?_ ?_ _) | omega | (simp; done) | (simp; omega))
    have at_xwD : AtL (wX.heap.size) [.slice (some ⟨gX, 0, none⟩) a0d.length a0d.length] wD := by repeat' (first | with_reducible assumption | with_reducible exact AtL.new _ _ _ | ((with_reducible refine AtL.newAt ?_); (first | rfl | (simp; done))) | (with_reducible refine AtL.drew ?_) | (with_reducible refine AtL.below ?_ (by with_reducible assumption)) | (with_reducible refine AtL.alloc ?_ _) | (with_reducible refine AtL.far ?_ ?_ _ _) | omega | (simp; done) | (simp; omega))
    have bp := bwX.out
    have bn : Below w.heap.size w wD := by repeat' (first | with_reducible assumption | with_reducible exact Below.refl _ _ | (with_reducible refine Below.setCell ?_ ?_ _) | (with_reducible refine Below.alloc ?_ ?_ _) | (with_reducible refine Below.drew ?_) | (with_reducible refine below_dr ?_ _) | (with_reducible refine Below.trans ?_ (Below.mono (by with_reducible assumption) ?_)) | omega | (simp; done) | (simp; omega))
    have bwD := Lib.hid bn
    clear bn
    clear bp bwX
    clear hbwD
    clear bx_awX
    clear rd_a0wX
    clear r1wX
    clear bx_wwX
    clear rxwX
    clear oxwX
    have zxd : wX.heap.size < wD.heap.size := at_xwD.lt
    have ogwD := owg.wide (lo' := wX.heap.size + 1) (hi' := wD.heap.size) (by first | exact Nat.le_refl _ | (simp; done) | (simp; omega)) (Nat.le_refl _)
    clear owg
    have kbx_w0 := bx_wwD.cell 0 rfl
    have lbx_w := bx_wwD.lt
    go_wp2_with fail
    clear kbx_w0 lbx_w
    refine (eqRegion_same Ag cg l Aw cw _ (by omega) (fun i d h => Nat.le_trans (HIN_r.out i d h) (by omega)) ?_ ?_).mono ?_
    · exact OwnRing.rd (lo := wX.heap.size + 1) (hi := wD.heap.size) (c := cg) (by repeat' (first | with_reducible assumption | (with_reducible refine OwnRing.drew ?_) | (with_reducible refine OwnRing.carry ?_ (by with_reducible assumption)) | (with_reducible refine OwnRing.alloc ?_ _) | (with_reducible refine OwnRing.set_far ?_ ?_ _) | omega | (simp; done) | (simp; omega)))
    · refine RdRing.more (B := wC.heap.size) ?_ (by (try simp only [World.size_drew]); (try simp only [World.size_alloc]); omega)
      repeat' (first | with_reducible assumption | (with_reducible refine RdRing.drew ?_) | (with_reducible refine RdRing.carry ?_ (by with_reducible assumption) ?_) | (with_reducible refine RdRing.alloc ?_ ?_ _) | (with_reducible refine RdRing.setCell ?_ ?_ _) | omega | (simp; done) | (simp; omega))
    rintro e wE ⟨rfl, hbwE⟩
    have zwE := hbwE.size
    (try simp only [World.size_setCell] at zwE)
    (try simp only [World.size_drew] at zwE)
    (try simp only [World.size_alloc] at zwE)
    have qwE : w.heap.size ≤ wE.heap.size := by omega
    have bx_awE : AtL (w.heap.size) [.slice a0A a0d.length a0c] wE := by repeat' (first | with_reducible assumption | with_reducible exact AtL.new _ _ _ | ((with_reducible refine AtL.newAt ?_); (first | rfl | (simp; done))) | (with_reducible refine AtL.drew ?_) | (with_reducible refine AtL.below ?_ (by with_reducible assumption)) | (with_reducible refine AtL.alloc ?_ _) | (with_reducible refine AtL.far ?_ ?_ _ _) | omega | (simp; done) | (simp; omega))
    have rd_a0wE : RdRing wE (w.heap.size) a0A a0d := by repeat' (first | with_reducible assumption | (with_reducible refine RdRing.drew ?_) | (with_reducible refine RdRing.carry ?_ (by with_reducible assumption) ?_) | (with_reducible refine RdRing.alloc ?_ ?_ _) | (with_reducible refine RdRing.setCell ?_ ?_ _) | omega | (simp; done) | (simp; omega))
    have r1wE : RdRing wE (wC.heap.size) Aw l := by repeat' (first | with_reducible assumption | (with_reducible refine RdRing.drew ?_) | (with_reducible refine RdRing.carry ?_ (by with_reducible assumption) ?_) | (with_reducible refine RdRing.alloc ?_ ?_ _) | (with_reducible refine RdRing.setCell ?_ ?_ _) | omega | (simp; done) | (simp; omega))
    have bx_wwE : AtL (wC.heap.size) [.slice Aw l.length cw] wE := by repeat' (first | with_reducible assumption | with_reducible exact AtL.new _ _ _ | ((with_reducible refine AtL.newAt ?_); (first | rfl | (simp; done))) | (with_reducible refine AtL.drew ?_) | (with_reducible refine AtL.below ?_ (by with_reducible assumption)) | (with_reducible refine AtL.alloc ?_ _) | (with_reducible refine AtL.far ?_ ?_ _ _) | omega | (simp; done) | (simp; omega))
    have rxwE : RdRing wE (wX.heap.size) (some ⟨gX, 0, none⟩) a0d := by repeat' (first | with_reducible assumption | (with_reducible refine RdRing.drew ?_) | (with_reducible refine RdRing.carry ?_ (by with_reducible assumption) ?_) | (with_reducible refine RdRing.alloc ?_ ?_ _) | (with_reducible refine RdRing.setCell ?_ ?_ _) | omega | (simp; done) | (simp; omega))
    have oxwE : OwnRing wE (wC.heap.size + 1) (wX.heap.size) (some ⟨gX, 0, none⟩) a0d.length (a0d) := by repeat' (first | with_reducible assumption | (with_reducible refine OwnRing.drew ?_) | (with_reducible refine OwnRing.carry ?_ (by with_reducible assumption)) | (with_reducible refine OwnRing.alloc ?_ _) | (with_reducible refine OwnRing.set_far ?_ ?_ _) | omega | (simp; done) | (simp; omega))
    have at_xwE : AtL (wX.heap.size) [.slice (some ⟨gX, 0, none⟩) a0d.length a0d.length] wE := by repeat' (first | with_reducible assumption | with_reducible exact AtL.new _ _ _ | ((with_reducible refine AtL.newAt ?_); (first | rfl | (simp; done))) | (with_reducible refine AtL.drew ?_) | (with_reducible refine AtL.below ?_ (by with_reducible assumption)) | (with_reducible refine AtL.alloc ?_ _) | (with_reducible refine AtL.far ?_ ?_ _ _) | omega | (simp; done) | (simp; omega))
    have ogwE : OwnRing wE (wX.heap.size + 1) (wD.heap.size) Ag cg (l) := by repeat' (first | with_reducible assumption | (with_reducible refine OwnRing.drew ?_) | (with_reducible refine OwnRing.carry ?_ (by with_reducible assumption)) | (with_reducible refine OwnRing.alloc ?_ _) | (with_reducible refine OwnRing.set_far ?_ ?_ _) | omega | (simp; done) | (simp; omega))
    have bx_gwE : AtL (wD.heap.size) [.slice Ag l.length cg] wE := by repeat' (first | with_reducible assumption | with_reducible exact AtL.new _ _ _ | ((with_reducible refine AtL.newAt ?_); (first | rfl | (simp; done))) | (with_reducible refine AtL.drew ?_) | (with_reducible refine AtL.below ?_ (by with_reducible assumption)) | (with_reducible refine AtL.alloc ?_ _) | (with_reducible refine AtL.far ?_ ?_ _ _) | omega | (simp; done) | (simp; omega))
    have bp := bwD.out
    have bn : Below w.heap.size w wE := by repeat' (first | with_reducible assumption | with_reducible exact Below.refl _ _ | (with_reducible refine Below.setCell ?_ ?_ _) | (with_reducible refine Below.alloc ?_ ?_ _) | (with_reducible refine Below.drew ?_) | (with_reducible refine below_dr ?_ _) | (with_reducible refine Below.trans ?_ (Below.mono (by with_reducible assumption) ?_)) | omega | (simp; done) | (simp; omega))
    have bwE := Lib.hid bn
    clear bn
    clear bp bwD
    clear hbwE
    clear bx_awD
    clear rd_a0wD
    clear r1wD
    clear bx_wwD
    clear rxwD
    clear oxwD
    clear at_xwD
    clear ogwD
    have zde : wD.heap.size < wE.heap.size := bx_gwE.lt
    have kat_x0 := at_xwE.cell 0 rfl
    have lat_x := at_xwE.lt
    have kbx_a0 := bx_awE.cell 0 rfl
    have lbx_a := bx_awE.lt
    go_wp2_with fail
    go_region_held3 (fun w' => (∀ b o, b < wE.heap.size → w'.cell? ⟨b, o, none⟩ = wE.cell? ⟨b, o, none⟩) ∧ wE.heap.size ≤ w'.heap.size)
      (first | ((try dsimp only); exact ⟨fun b o h => (by (repeat (first | with_reducible exact rfl | (with_reducible refine (cell_drew_at _ _).trans ?_) | (with_reducible refine (cell_set_at _ _ (by first | omega | (simp; done) | (simp; omega))).trans ?_) | (with_reducible refine (cell_alloc_at _ _ (by first | omega | (simp; done) | (simp; omega))).trans ?_) | (with_reducible refine (hcwT b o (by first | omega | (simp; done) | (simp; omega))).trans ?_) | (with_reducible refine (hcwG b o (by first | omega | (simp; done) | (simp; omega))).trans ?_)))), (by first | omega | (simp; done) | (simp; omega))⟩) | fail)
      (first
        | (go_at_call 21; (with_reducible refine (toRegion_any a0A a0c a0d _ hl_a0 HIN_a0.out ?_).mono ?_); (focus ((refine RdRing.more (B := w.heap.size) ?_ (by first | omega | ((try simp only [World.size_setCell]); (try simp only [World.size_drew]); (try simp only [World.size_alloc]); omega) | (simp; done) | (simp; omega))); (repeat' (first | with_reducible assumption | (with_reducible refine RdRing.drew ?_) | (with_reducible refine RdRing.carry ?_ (by with_reducible assumption) ?_) | (with_reducible refine RdRing.alloc ?_ ?_ _) | (with_reducible refine RdRing.setCell ?_ ?_ _) | omega | (simp; done) | (simp; omega))))); intro e wT hq; obtain ⟨g_owE_a0, rfl, owE_a0, hbwT⟩ := hq; obtain ⟨hcwT, hfwT⟩ := bcell hbwT; have hzwT := hbwT.size; (try simp only [World.size_drew] at hcwT hfwT hzwT); (try simp only [World.size_alloc] at hcwT hfwT hzwT))
        | (go_at_call 23; (with_reducible refine (eqRegion_same (some ⟨gX, 0, none⟩) a0d.length a0d (some ⟨g_owE_a0, 0, none⟩) a0d.length _ (by omega) (fun i d h => Nat.le_trans (HIN_a0.out i d h) (by omega)) ?_ ?_).mono ?_); (focus ((refine RdRing.more (B := wX.heap.size) ?_ (by first | omega | ((try simp only [World.size_setCell]); (try simp only [World.size_drew]); (try simp only [World.size_alloc]); omega) | (simp; done) | (simp; omega))); (repeat' (first | with_reducible assumption | (with_reducible refine RdRing.drew ?_) | (with_reducible refine RdRing.carry ?_ (by with_reducible assumption) ?_) | (with_reducible refine RdRing.alloc ?_ ?_ _) | (with_reducible refine RdRing.setCell ?_ ?_ _) | omega | (simp; done) | (simp; omega))))); (focus ((first | exact owE_a0.here | exact RdRing.drew owE_a0.here))); rintro e wG ⟨rfl, hbwG⟩; obtain ⟨hcwG, hfwG⟩ := bcell hbwG; have hzwG := hbwG.size; (try simp only [World.size_drew] at hcwG hfwG hzwG); (try simp only [World.size_alloc] at hcwG hfwG hzwG)))
    clear kat_x0 lat_x
    clear kbx_a0 lbx_a
    all_goals
      have zwG := hbwG.size
      (try simp only [World.size_setCell] at zwG)
      (try simp only [World.size_drew] at zwG)
      (try simp only [World.size_alloc] at zwG)
      have qwG : w.heap.size ≤ wG.heap.size := by omega
      have bx_awG : AtL (w.heap.size) [.slice a0A a0d.length a0c] wG := by repeat' (first | with_reducible assumption | with_reducible exact AtL.new _ _ _ | ((with_reducible refine AtL.newAt ?_); (first | rfl | (simp; done))) | (with_reducible refine AtL.drew ?_) | (with_reducible refine AtL.below ?_ (by with_reducible assumption)) | (with_reducible refine AtL.alloc ?_ _) | (with_reducible refine AtL.far ?_ ?_ _ _) | omega | (simp; done) | (simp; omega))
      have rd_a0wG : RdRing wG (w.heap.size) a0A a0d := by repeat' (first | with_reducible assumption | (with_reducible refine RdRing.drew ?_) | (with_reducible refine RdRing.carry ?_ (by with_reducible assumption) ?_) | (with_reducible refine RdRing.alloc ?_ ?_ _) | (with_reducible refine RdRing.setCell ?_ ?_ _) | omega | (simp; done) | (simp; omega))
      have r1wG : RdRing wG (wC.heap.size) Aw l := by repeat' (first | with_reducible assumption | (with_reducible refine RdRing.drew ?_) | (with_reducible refine RdRing.carry ?_ (by with_reducible assumption) ?_) | (with_reducible refine RdRing.alloc ?_ ?_ _) | (with_reducible refine RdRing.setCell ?_ ?_ _) | omega | (simp; done) | (simp; omega))
      have bx_wwG : AtL (wC.heap.size) [.slice Aw l.length cw] wG := by repeat' (first | with_reducible assumption | with_reducible exact AtL.new _ _ _ | ((with_reducible refine AtL.newAt ?_); (first | rfl | (simp; done))) | (with_reducible refine AtL.drew ?_) | (with_reducible refine AtL.below ?_ (by with_reducible assumption)) | (with_reducible refine AtL.alloc ?_ _) | (with_reducible refine AtL.far ?_ ?_ _ _) | omega | (simp; done) | (simp; omega))
      have rxwG : RdRing wG (wX.heap.size) (some ⟨gX, 0, none⟩) a0d := by repeat' (first | with_reducible assumption | (with_reducible refine RdRing.drew ?_) | (with_reducible refine RdRing.carry ?_ (by with_reducible assumption) ?_) | (with_reducible refine RdRing.alloc ?_ ?_ _) | (with_reducible refine RdRing.setCell ?_ ?_ _) | omega | (simp; done) | (simp; omega))
      have oxwG : OwnRing wG (wC.heap.size + 1) (wX.heap.size) (some ⟨gX, 0, none⟩) a0d.length (a0d) := by repeat' (first | with_reducible assumption | (with_reducible refine OwnRing.drew ?_) | (with_reducible refine OwnRing.carry ?_ (by with_reducible assumption)) | (with_reducible refine OwnRing.alloc ?_ _) | (with_reducible refine OwnRing.set_far ?_ ?_ _) | omega | (simp; done) | (simp; omega))
      have at_xwG : AtL (wX.heap.size) [.slice (some ⟨gX, 0, none⟩) a0d.length a0d.length] wG := by repeat' (first | with_reducible assumption | with_reducible exact AtL.new _ _ _ | ((with_reducible refine AtL.newAt ?_); (first | rfl | (simp; done))) | (with_reducible refine AtL.drew ?_) | (with_reducible refine AtL.below ?_ (by with_reducible assumption)) | (with_reducible refine AtL.alloc ?_ _) | (with_reducible refine AtL.far ?_ ?_ _ _) | omega | (simp; done) | (simp; omega))
      have ogwG : OwnRing wG (wX.heap.size + 1) (wD.heap.size) Ag cg (l) := by repeat' (first | with_reducible assumption | (with_reducible refine OwnRing.drew ?_) | (with_reducible refine OwnRing.carry ?_ (by with_reducible assumption)) | (with_reducible refine OwnRing.alloc ?_ _) | (with_reducible refine OwnRing.set_far ?_ ?_ _) | omega | (simp; done) | (simp; omega))
      have bx_gwG : AtL (wD.heap.size) [.slice Ag l.length cg] wG := by repeat' (first | with_reducible assumption | with_reducible exact AtL.new _ _ _ | ((with_reducible refine AtL.newAt ?_); (first | rfl | (simp; done))) | (with_reducible refine AtL.drew ?_) | (with_reducible refine AtL.below ?_ (by with_reducible assumption)) | (with_reducible refine AtL.alloc ?_ _) | (with_reducible refine AtL.far ?_ ?_ _ _) | omega | (simp; done) | (simp; omega))
      have bp := bwE.out
      have bn : Below w.heap.size w wG := by repeat' (first | with_reducible assumption | with_reducible exact Below.refl _ _ | (with_reducible refine Below.setCell ?_ ?_ _) | (with_reducible refine Below.alloc ?_ ?_ _) | (with_reducible refine Below.drew ?_) | (with_reducible refine below_dr ?_ _) | (with_reducible refine Below.trans ?_ (Below.mono (by with_reducible assumption) ?_)) | omega | (simp; done) | (simp; omega))
      have bwG := Lib.hid bn
      clear bn
      clear bp bwE
      clear hbwG
      clear bx_awE
      clear rd_a0wE
      clear r1wE
      clear bx_wwE
      clear rxwE
      clear oxwE
      clear at_xwE
      clear ogwE
      clear bx_gwE
      clear hbwT hcwT hfwT hcwG hfwG
      have kat_x0 := at_xwG.cell 0 rfl
      have lat_x := at_xwG.lt
      go_wp2_with fail
      clear kat_x0 lat_x
      refine (markRegion_any 1 a0d (some ⟨gX, 0, none⟩) a0d.length (wC.heap.size + 1) (wX.heap.size) _ (Nat.le_refl _) (by rw [kAt_tot]; have h := HT_a0.out; omega) (by omega) (by repeat' (first | with_reducible assumption | (with_reducible refine OwnRing.drew ?_) | (with_reducible refine OwnRing.carry ?_ (by with_reducible assumption)) | (with_reducible refine OwnRing.alloc ?_ _) | (with_reducible refine OwnRing.set_far ?_ ?_ _) | omega | (simp; done) | (simp; omega)))).mono ?_
      rw [← HM1.out]
      rintro e wH ⟨rfl, omwH, hg⟩
      have zwH := hg.size
      (try simp only [World.size_drew] at zwH)
      (try simp only [World.size_alloc] at zwH)
      have qwH : w.heap.size ≤ wH.heap.size := by omega
      have bp := bwG.out
      have bn : Below w.heap.size w wH := by exact Below.mid (w := _) (by repeat' (first | with_reducible assumption | with_reducible exact Below.refl _ _ | (with_reducible refine Below.setCell ?_ ?_ _) | (with_reducible refine Below.alloc ?_ ?_ _) | (with_reducible refine Below.drew ?_) | (with_reducible refine below_dr ?_ _) | (with_reducible refine Below.trans ?_ (Below.mono (by with_reducible assumption) ?_)) | omega | (simp; done) | (simp; omega))) hg (by omega) (by (try simp only [World.size_drew]); (try simp only [World.size_alloc]); omega)
      have bwH := Lib.hid bn
      clear bn
      clear bp bwG
      have bx_awH : AtL (w.heap.size) [.slice a0A a0d.length a0c] wH := AtL.mid (w := _) (by repeat' (first | with_reducible assumption | with_reducible exact AtL.new _ _ _ | ((with_reducible refine AtL.newAt ?_); (first | rfl | (simp; done))) | (with_reducible refine AtL.drew ?_) | (with_reducible refine AtL.below ?_ (by with_reducible assumption)) | (with_reducible refine AtL.alloc ?_ _) | (with_reducible refine AtL.far ?_ ?_ _ _) | omega | (simp; done) | (simp; omega))) hg (by omega)
      have rd_a0wH : RdRing wH (w.heap.size) a0A a0d := RdRing.mid (w := _) (by repeat' (first | with_reducible assumption | (with_reducible refine RdRing.drew ?_) | (with_reducible refine RdRing.carry ?_ (by with_reducible assumption) ?_) | (with_reducible refine RdRing.alloc ?_ ?_ _) | (with_reducible refine RdRing.setCell ?_ ?_ _) | omega | (simp; done) | (simp; omega))) hg (by omega) (by (try simp only [World.size_drew]); (try simp only [World.size_alloc]); omega)
      have r1wH : RdRing wH (wC.heap.size) Aw l := RdRing.mid (w := _) (by repeat' (first | with_reducible assumption | (with_reducible refine RdRing.drew ?_) | (with_reducible refine RdRing.carry ?_ (by with_reducible assumption) ?_) | (with_reducible refine RdRing.alloc ?_ ?_ _) | (with_reducible refine RdRing.setCell ?_ ?_ _) | omega | (simp; done) | (simp; omega))) hg (by omega) (by (try simp only [World.size_drew]); (try simp only [World.size_alloc]); omega)
      have bx_wwH : AtL (wC.heap.size) [.slice Aw l.length cw] wH := AtL.mid (w := _) (by repeat' (first | with_reducible assumption | with_reducible exact AtL.new _ _ _ | ((with_reducible refine AtL.newAt ?_); (first | rfl | (simp; done))) | (with_reducible refine AtL.drew ?_) | (with_reducible refine AtL.below ?_ (by with_reducible assumption)) | (with_reducible refine AtL.alloc ?_ _) | (with_reducible refine AtL.far ?_ ?_ _ _) | omega | (simp; done) | (simp; omega))) hg (by omega)
      have at_xwH : AtL (wX.heap.size) [.slice (some ⟨gX, 0, none⟩) a0d.length a0d.length] wH := AtL.mid (w := _) (by repeat' (first | with_reducible assumption | with_reducible exact AtL.new _ _ _ | ((with_reducible refine AtL.newAt ?_); (first | rfl | (simp; done))) | (with_reducible refine AtL.drew ?_) | (with_reducible refine AtL.below ?_ (by with_reducible assumption)) | (with_reducible refine AtL.alloc ?_ _) | (with_reducible refine AtL.far ?_ ?_ _ _) | omega | (simp; done) | (simp; omega))) hg (by omega)
      have ogwH : OwnRing wH (wX.heap.size + 1) (wD.heap.size) Ag cg (l) := OwnRing.mid (w := _) (by repeat' (first | with_reducible assumption | (with_reducible refine OwnRing.drew ?_) | (with_reducible refine OwnRing.carry ?_ (by with_reducible assumption)) | (with_reducible refine OwnRing.alloc ?_ _) | (with_reducible refine OwnRing.set_far ?_ ?_ _) | omega | (simp; done) | (simp; omega))) hg (by omega)
      have bx_gwH : AtL (wD.heap.size) [.slice Ag l.length cg] wH := AtL.mid (w := _) (by repeat' (first | with_reducible assumption | with_reducible exact AtL.new _ _ _ | ((with_reducible refine AtL.newAt ?_); (first | rfl | (simp; done))) | (with_reducible refine AtL.drew ?_) | (with_reducible refine AtL.below ?_ (by with_reducible assumption)) | (with_reducible refine AtL.alloc ?_ _) | (with_reducible refine AtL.far ?_ ?_ _ _) | omega | (simp; done) | (simp; omega))) hg (by omega)
      clear hg bx_awG rd_a0wG r1wG bx_wwG rxwG oxwG at_xwG ogwG bx_gwG
      clear omwH
      clear at_xwH
      have kbx_g0 := bx_gwH.cell 0 rfl
      have lbx_g := bx_gwH.lt
      have kbx_w0 := bx_wwH.cell 0 rfl
      have lbx_w := bx_wwH.lt
      go_wp2_with fail
      clear kbx_g0 lbx_g
      clear kbx_w0 lbx_w
      refine (eqRegion_same Ag cg l Aw cw _ (by omega) (fun i d h => Nat.le_trans (HIN_r.out i d h) (by omega)) ?_ ?_).mono ?_
      · exact OwnRing.rd (lo := wX.heap.size + 1) (hi := wD.heap.size) (c := cg) (by repeat' (first | with_reducible assumption | (with_reducible refine OwnRing.drew ?_) | (with_reducible refine OwnRing.carry ?_ (by with_reducible assumption)) | (with_reducible refine OwnRing.alloc ?_ _) | (with_reducible refine OwnRing.set_far ?_ ?_ _) | omega | (simp; done) | (simp; omega)))
      · refine RdRing.more (B := wC.heap.size) ?_ (by (try simp only [World.size_drew]); (try simp only [World.size_alloc]); omega)
        repeat' (first | with_reducible assumption | (with_reducible refine RdRing.drew ?_) | (with_reducible refine RdRing.carry ?_ (by with_reducible assumption) ?_) | (with_reducible refine RdRing.alloc ?_ ?_ _) | (with_reducible refine RdRing.setCell ?_ ?_ _) | omega | (simp; done) | (simp; omega))
      rintro e wJ ⟨rfl, hbwJ⟩
      have zwJ := hbwJ.size
      (try simp only [World.size_setCell] at zwJ)
      (try simp only [World.size_drew] at zwJ)
      (try simp only [World.size_alloc] at zwJ)
      have qwJ : w.heap.size ≤ wJ.heap.size := by omega
      have bx_awJ : AtL (w.heap.size) [.slice a0A a0d.length a0c] wJ := by repeat' (first | with_reducible assumption | with_reducible exact AtL.new _ _ _ | ((with_reducible refine AtL.newAt ?_); (first | rfl | (simp; done))) | (with_reducible refine AtL.drew ?_) | (with_reducible refine AtL.below ?_ (by with_reducible assumption)) | (with_reducible refine AtL.alloc ?_ _) | (with_reducible refine AtL.far ?_ ?_ _ _) | omega | (simp; done) | (simp; omega))
      have rd_a0wJ : RdRing wJ (w.heap.size) a0A a0d := by repeat' (first | with_reducible assumption | (with_reducible refine RdRing.drew ?_) | (with_reducible refine RdRing.carry ?_ (by with_reducible assumption) ?_) | (with_reducible refine RdRing.alloc ?_ ?_ _) | (with_reducible refine RdRing.setCell ?_ ?_ _) | omega | (simp; done) | (simp; omega))
      have r1wJ : RdRing wJ (wC.heap.size) Aw l := by repeat' (first | with_reducible assumption | (with_reducible refine RdRing.drew ?_) | (with_reducible refine RdRing.carry ?_ (by with_reducible assumption) ?_) | (with_reducible refine RdRing.alloc ?_ ?_ _) | (with_reducible refine RdRing.setCell ?_ ?_ _) | omega | (simp; done) | (simp; omega))
      have bx_wwJ : AtL (wC.heap.size) [.slice Aw l.length cw] wJ := by repeat' (first | with_reducible assumption | with_reducible exact AtL.new _ _ _ | ((with_reducible refine AtL.newAt ?_); (first | rfl | (simp; done))) | (with_reducible refine AtL.drew ?_) | (with_reducible refine AtL.below ?_ (by with_reducible assumption)) | (with_reducible refine AtL.alloc ?_ _) | (with_reducible refine AtL.far ?_ ?_ _ _) | omega | (simp; done) | (simp; omega))
      have ogwJ : OwnRing wJ (wX.heap.size + 1) (wD.heap.size) Ag cg (l) := by repeat' (first | with_reducible assumption | (with_reducible refine OwnRing.drew ?_) | (with_reducible refine OwnRing.carry ?_ (by with_reducible assumption)) | (with_reducible refine OwnRing.alloc ?_ _) | (with_reducible refine OwnRing.set_far ?_ ?_ _) | omega | (simp; done) | (simp; omega))
      have bx_gwJ : AtL (wD.heap.size) [.slice Ag l.length cg] wJ := by repeat' (first | with_reducible assumption | with_reducible exact AtL.new _ _ _ | ((with_reducible refine AtL.newAt ?_); (first | rfl | (simp; done))) | (with_reducible refine AtL.drew ?_) | (with_reducible refine AtL.below ?_ (by with_reducible assumption)) | (with_reducible refine AtL.alloc ?_ _) | (with_reducible refine AtL.far ?_ ?_ _ _) | omega | (simp; done) | (simp; omega))
      have bp := bwH.out
      have bn : Below w.heap.size w wJ := by repeat' (first | with_reducible assumption | with_reducible exact Below.refl _ _ | (with_reducible refine Below.setCell ?_ ?_ _) | (with_reducible refine Below.alloc ?_ ?_ _) | (with_reducible refine Below.drew ?_) | (with_reducible refine below_dr ?_ _) | (with_reducible refine Below.trans ?_ (Below.mono (by with_reducible assumption) ?_)) | omega | (simp; done) | (simp; omega))
      have bwJ := Lib.hid bn
      clear bn
      clear bp bwH
      clear hbwJ
      clear bx_awH
      clear rd_a0wH
      clear r1wH
      clear bx_wwH
      clear ogwH
      clear bx_gwH
      have kbx_g0 := bx_gwJ.cell 0 rfl
      have lbx_g := bx_gwJ.lt
      go_wp2_with fail
      clear kbx_g0 lbx_g
      refine (markRegion_any 1 l Ag cg (wX.heap.size + 1) (wD.heap.size) _ (Nat.le_refl _) (HMK_r.out) (by omega) (by repeat' (first | with_reducible assumption | (with_reducible refine OwnRing.drew ?_) | (with_reducible refine OwnRing.carry ?_ (by with_reducible assumption)) | (with_reducible refine OwnRing.alloc ?_ _) | (with_reducible refine OwnRing.set_far ?_ ?_ _) | omega | (simp; done) | (simp; omega)))).mono ?_
      rw [← HM.out]
      rintro e wK ⟨rfl, omwK, hg⟩
      have zwK := hg.size
      (try simp only [World.size_drew] at zwK)
      (try simp only [World.size_alloc] at zwK)
      have qwK : w.heap.size ≤ wK.heap.size := by omega
      have bp := bwJ.out
      have bn : Below w.heap.size w wK := by exact Below.mid (w := _) (by repeat' (first | with_reducible assumption | with_reducible exact Below.refl _ _ | (with_reducible refine Below.setCell ?_ ?_ _) | (with_reducible refine Below.alloc ?_ ?_ _) | (with_reducible refine Below.drew ?_) | (with_reducible refine below_dr ?_ _) | (with_reducible refine Below.trans ?_ (Below.mono (by with_reducible assumption) ?_)) | omega | (simp; done) | (simp; omega))) hg (by omega) (by (try simp only [World.size_drew]); (try simp only [World.size_alloc]); omega)
      have bwK := Lib.hid bn
      clear bn
      clear bp bwJ
      have bx_awK : AtL (w.heap.size) [.slice a0A a0d.length a0c] wK := AtL.mid (w := _) (by repeat' (first | with_reducible assumption | with_reducible exact AtL.new _ _ _ | ((with_reducible refine AtL.newAt ?_); (first | rfl | (simp; done))) | (with_reducible refine AtL.drew ?_) | (with_reducible refine AtL.below ?_ (by with_reducible assumption)) | (with_reducible refine AtL.alloc ?_ _) | (with_reducible refine AtL.far ?_ ?_ _ _) | omega | (simp; done) | (simp; omega))) hg (by omega)
      have rd_a0wK : RdRing wK (w.heap.size) a0A a0d := RdRing.mid (w := _) (by repeat' (first | with_reducible assumption | (with_reducible refine RdRing.drew ?_) | (with_reducible refine RdRing.carry ?_ (by with_reducible assumption) ?_) | (with_reducible refine RdRing.alloc ?_ ?_ _) | (with_reducible refine RdRing.setCell ?_ ?_ _) | omega | (simp; done) | (simp; omega))) hg (by omega) (by (try simp only [World.size_drew]); (try simp only [World.size_alloc]); omega)
      have r1wK : RdRing wK (wC.heap.size) Aw l := RdRing.mid (w := _) (by repeat' (first | with_reducible assumption | (with_reducible refine RdRing.drew ?_) | (with_reducible refine RdRing.carry ?_ (by with_reducible assumption) ?_) | (with_reducible refine RdRing.alloc ?_ ?_ _) | (with_reducible refine RdRing.setCell ?_ ?_ _) | omega | (simp; done) | (simp; omega))) hg (by omega) (by (try simp only [World.size_drew]); (try simp only [World.size_alloc]); omega)
      have bx_wwK : AtL (wC.heap.size) [.slice Aw l.length cw] wK := AtL.mid (w := _) (by repeat' (first | with_reducible assumption | with_reducible exact AtL.new _ _ _ | ((with_reducible refine AtL.newAt ?_); (first | rfl | (simp; done))) | (with_reducible refine AtL.drew ?_) | (with_reducible refine AtL.below ?_ (by with_reducible assumption)) | (with_reducible refine AtL.alloc ?_ _) | (with_reducible refine AtL.far ?_ ?_ _ _) | omega | (simp; done) | (simp; omega))) hg (by omega)
      have bx_gwK : AtL (wD.heap.size) [.slice Ag l.length cg] wK := AtL.mid (w := _) (by repeat' (first | with_reducible assumption | with_reducible exact AtL.new _ _ _ | ((with_reducible refine AtL.newAt ?_); (first | rfl | (simp; done))) | (with_reducible refine AtL.drew ?_) | (with_reducible refine AtL.below ?_ (by with_reducible assumption)) | (with_reducible refine AtL.alloc ?_ _) | (with_reducible refine AtL.far ?_ ?_ _ _) | omega | (simp; done) | (simp; omega))) hg (by omega)
      clear hg bx_awJ rd_a0wJ r1wJ bx_wwJ ogwJ bx_gwJ
      have kbx_g0 := bx_gwK.cell 0 rfl
      have lbx_g := bx_gwK.lt
      go_wp2_with fail
      clear kbx_g0 lbx_g
      refine (heldRegion_any 1 l Ag cg _ (Nat.le_refl _) HMK_r.out (by omega) ?_).mono ?_
      · exact OwnRing.rd (lo := wX.heap.size + 1) (hi := wD.heap.size) (c := cg) (by repeat' (first | with_reducible assumption | (with_reducible refine OwnRing.drew ?_) | (with_reducible refine OwnRing.carry ?_ (by with_reducible assumption)) | (with_reducible refine OwnRing.alloc ?_ _) | (with_reducible refine OwnRing.set_far ?_ ?_ _) | omega | (simp; done) | (simp; omega)))
      rw [← HM.out]
      rintro e wL ⟨rfl, hbwL⟩
      have zwL := hbwL.size
      (try simp only [World.size_setCell] at zwL)
      (try simp only [World.size_drew] at zwL)
      (try simp only [World.size_alloc] at zwL)
      have qwL : w.heap.size ≤ wL.heap.size := by omega
      have bx_awL : AtL (w.heap.size) [.slice a0A a0d.length a0c] wL := by repeat' (first | with_reducible assumption | with_reducible exact AtL.new _ _ _ | ((with_reducible refine AtL.newAt ?_); (first | rfl | (simp; done))) | (with_reducible refine AtL.drew ?_) | (with_reducible refine AtL.below ?_ (by with_reducible assumption)) | (with_reducible refine AtL.alloc ?_ _) | (with_reducible refine AtL.far ?_ ?_ _ _) | omega | (simp; done) | (simp; omega))
      have rd_a0wL : RdRing wL (w.heap.size) a0A a0d := by repeat' (first | with_reducible assumption | (with_reducible refine RdRing.drew ?_) | (with_reducible refine RdRing.carry ?_ (by with_reducible assumption) ?_) | (with_reducible refine RdRing.alloc ?_ ?_ _) | (with_reducible refine RdRing.setCell ?_ ?_ _) | omega | (simp; done) | (simp; omega))
      have r1wL : RdRing wL (wC.heap.size) Aw l := by repeat' (first | with_reducible assumption | (with_reducible refine RdRing.drew ?_) | (with_reducible refine RdRing.carry ?_ (by with_reducible assumption) ?_) | (with_reducible refine RdRing.alloc ?_ ?_ _) | (with_reducible refine RdRing.setCell ?_ ?_ _) | omega | (simp; done) | (simp; omega))
      have bx_wwL : AtL (wC.heap.size) [.slice Aw l.length cw] wL := by repeat' (first | with_reducible assumption | with_reducible exact AtL.new _ _ _ | ((with_reducible refine AtL.newAt ?_); (first | rfl | (simp; done))) | (with_reducible refine AtL.drew ?_) | (with_reducible refine AtL.below ?_ (by with_reducible assumption)) | (with_reducible refine AtL.alloc ?_ _) | (with_reducible refine AtL.far ?_ ?_ _ _) | omega | (simp; done) | (simp; omega))
      have bx_gwL : AtL (wD.heap.size) [.slice Ag l.length cg] wL := by repeat' (first | with_reducible assumption | with_reducible exact AtL.new _ _ _ | ((with_reducible refine AtL.newAt ?_); (first | rfl | (simp; done))) | (with_reducible refine AtL.drew ?_) | (with_reducible refine AtL.below ?_ (by with_reducible assumption)) | (with_reducible refine AtL.alloc ?_ _) | (with_reducible refine AtL.far ?_ ?_ _ _) | omega | (simp; done) | (simp; omega))
      have omwL : OwnRing wL (wX.heap.size + 1) (wD.heap.size) Ag cg (mds 1 l) := by repeat' (first | with_reducible assumption | (with_reducible refine OwnRing.drew ?_) | (with_reducible refine OwnRing.carry ?_ (by with_reducible assumption)) | (with_reducible refine OwnRing.alloc ?_ _) | (with_reducible refine OwnRing.set_far ?_ ?_ _) | omega | (simp; done) | (simp; omega))
      have bp := bwK.out
      have bn : Below w.heap.size w wL := by repeat' (first | with_reducible assumption | with_reducible exact Below.refl _ _ | (with_reducible refine Below.setCell ?_ ?_ _) | (with_reducible refine Below.alloc ?_ ?_ _) | (with_reducible refine Below.drew ?_) | (with_reducible refine below_dr ?_ _) | (with_reducible refine Below.trans ?_ (Below.mono (by with_reducible assumption) ?_)) | omega | (simp; done) | (simp; omega))
      have bwL := Lib.hid bn
      clear bn
      clear bp bwK
      clear hbwL
      clear bx_awK
      clear rd_a0wK
      clear r1wK
      clear bx_wwK
      clear bx_gwK
      clear omwK
      have kbx_a0 := bx_awL.cell 0 rfl
      have lbx_a := bx_awL.lt
      go_wp2_with fail
      clear kbx_a0 lbx_a
      refine (toRegion_own a0d a0A a0c _ hl_a0 HIN_a0.out ?_).mono ?_
      · (refine RdRing.more (B := w.heap.size) ?_ (by first | omega | ((try simp only [World.size_setCell]); (try simp only [World.size_drew]); (try simp only [World.size_alloc]); omega) | (simp; done) | (simp; omega))); (repeat' (first | with_reducible assumption | (with_reducible refine RdRing.drew ?_) | (with_reducible refine RdRing.carry ?_ (by with_reducible assumption) ?_) | (with_reducible refine RdRing.alloc ?_ ?_ _) | (with_reducible refine RdRing.setCell ?_ ?_ _) | omega | (simp; done) | (simp; omega)))
      intro e wP hq
      obtain ⟨gP, rfl, owP, hbwP⟩ := hq
      have zwP := hbwP.size
      (try simp only [World.size_setCell] at zwP)
      (try simp only [World.size_drew] at zwP)
      (try simp only [World.size_alloc] at zwP)
      have qwP : w.heap.size ≤ wP.heap.size := by omega
      have bx_awP : AtL (w.heap.size) [.slice a0A a0d.length a0c] wP := by repeat' (first | with_reducible assumption | with_reducible exact AtL.new _ _ _ | ((with_reducible refine AtL.newAt ?_); (first | rfl | (simp; done))) | (with_reducible refine AtL.drew ?_) | (with_reducible refine AtL.below ?_ (by with_reducible assumption)) | (with_reducible refine AtL.alloc ?_ _) | (with_reducible refine AtL.far ?_ ?_ _ _) | omega | (simp; done) | (simp; omega))
      have rd_a0wP : RdRing wP (w.heap.size) a0A a0d := by repeat' (first | with_reducible assumption | (with_reducible refine RdRing.drew ?_) | (with_reducible refine RdRing.carry ?_ (by with_reducible assumption) ?_) | (with_reducible refine RdRing.alloc ?_ ?_ _) | (with_reducible refine RdRing.setCell ?_ ?_ _) | omega | (simp; done) | (simp; omega))
      have r1wP : RdRing wP (wC.heap.size) Aw l := by repeat' (first | with_reducible assumption | (with_reducible refine RdRing.drew ?_) | (with_reducible refine RdRing.carry ?_ (by with_reducible assumption) ?_) | (with_reducible refine RdRing.alloc ?_ ?_ _) | (with_reducible refine RdRing.setCell ?_ ?_ _) | omega | (simp; done) | (simp; omega))
      have bx_wwP : AtL (wC.heap.size) [.slice Aw l.length cw] wP := by repeat' (first | with_reducible assumption | with_reducible exact AtL.new _ _ _ | ((with_reducible refine AtL.newAt ?_); (first | rfl | (simp; done))) | (with_reducible refine AtL.drew ?_) | (with_reducible refine AtL.below ?_ (by with_reducible assumption)) | (with_reducible refine AtL.alloc ?_ _) | (with_reducible refine AtL.far ?_ ?_ _ _) | omega | (simp; done) | (simp; omega))
      have bx_gwP : AtL (wD.heap.size) [.slice Ag l.length cg] wP := by repeat' (first | with_reducible assumption | with_reducible exact AtL.new _ _ _ | ((with_reducible refine AtL.newAt ?_); (first | rfl | (simp; done))) | (with_reducible refine AtL.drew ?_) | (with_reducible refine AtL.below ?_ (by with_reducible assumption)) | (with_reducible refine AtL.alloc ?_ _) | (with_reducible refine AtL.far ?_ ?_ _ _) | omega | (simp; done) | (simp; omega))
      have omwP : OwnRing wP (wX.heap.size + 1) (wD.heap.size) Ag cg (mds 1 l) := by repeat' (first | with_reducible assumption | (with_reducible refine OwnRing.drew ?_) | (with_reducible refine OwnRing.carry ?_ (by with_reducible assumption)) | (with_reducible refine OwnRing.alloc ?_ _) | (with_reducible refine OwnRing.set_far ?_ ?_ _) | omega | (simp; done) | (simp; omega))
      have bp := bwL.out
      have bn : Below w.heap.size w wP := by repeat' (first | with_reducible assumption | with_reducible exact Below.refl _ _ | (with_reducible refine Below.setCell ?_ ?_ _) | (with_reducible refine Below.alloc ?_ ?_ _) | (with_reducible refine Below.drew ?_) | (with_reducible refine below_dr ?_ _) | (with_reducible refine Below.trans ?_ (Below.mono (by with_reducible assumption) ?_)) | omega | (simp; done) | (simp; omega))
      have bwP := Lib.hid bn
      clear bn
      clear bp bwL
      clear hbwP
      clear bx_awL
      clear rd_a0wL
      clear r1wL
      clear bx_wwL
      clear bx_gwL
      clear omwL
      go_wp2_with fail
      refine (C2.out (some ⟨gP, 0, none⟩) a0d.length _ ⟨hl_a0, HT_a0.out⟩ ?_).mono ?_
      · (first | exact owP.rd | exact RdRing.drew owP.rd | (refine RdRing.more (B := _) ?_ ?_; rotate_left; (first | exact owP.rd | exact RdRing.drew owP.rd); (simp; done)))
      intro e wQ hq
      obtain ⟨Ah, ch, rfl, owh, hbwQ⟩ := hq
      have zwQ := hbwQ.size
      (try simp only [World.size_setCell] at zwQ)
      (try simp only [World.size_drew] at zwQ)
      (try simp only [World.size_alloc] at zwQ)
      have qwQ : w.heap.size ≤ wQ.heap.size := by omega
      have bx_awQ : AtL (w.heap.size) [.slice a0A a0d.length a0c] wQ := by repeat' (first | with_reducible assumption | with_reducible exact AtL.new _ _ _ | ((with_reducible refine AtL.newAt ?_); (first | rfl | (simp; done))) | (with_reducible refine AtL.drew ?_) | (with_reducible refine AtL.below ?_ (by with_reducible assumption)) | (with_reducible refine AtL.alloc ?_ _) | (with_reducible refine AtL.far ?_ ?_ _ _) | omega | (simp; done) | (simp; omega))
      have rd_a0wQ : RdRing wQ (w.heap.size) a0A a0d := by repeat' (first | with_reducible assumption | (with_reducible refine RdRing.drew ?_) | (with_reducible refine RdRing.carry ?_ (by with_reducible assumption) ?_) | (with_reducible refine RdRing.alloc ?_ ?_ _) | (with_reducible refine RdRing.setCell ?_ ?_ _) | omega | (simp; done) | (simp; omega))
      have r1wQ : RdRing wQ (wC.heap.size) Aw l := by repeat' (first | with_reducible assumption | (with_reducible refine RdRing.drew ?_) | (with_reducible refine RdRing.carry ?_ (by with_reducible assumption) ?_) | (with_reducible refine RdRing.alloc ?_ ?_ _) | (with_reducible refine RdRing.setCell ?_ ?_ _) | omega | (simp; done) | (simp; omega))
      have bx_wwQ : AtL (wC.heap.size) [.slice Aw l.length cw] wQ := by repeat' (first | with_reducible assumption | with_reducible exact AtL.new _ _ _ | ((with_reducible refine AtL.newAt ?_); (first | rfl | (simp; done))) | (with_reducible refine AtL.drew ?_) | (with_reducible refine AtL.below ?_ (by with_reducible assumption)) | (with_reducible refine AtL.alloc ?_ _) | (with_reducible refine AtL.far ?_ ?_ _ _) | omega | (simp; done) | (simp; omega))
      have bx_gwQ : AtL (wD.heap.size) [.slice Ag l.length cg] wQ := by repeat' (first | with_reducible assumption | with_reducible exact AtL.new _ _ _ | ((with_reducible refine AtL.newAt ?_); (first | rfl | (simp; done))) | (with_reducible refine AtL.drew ?_) | (with_reducible refine AtL.below ?_ (by with_reducible assumption)) | (with_reducible refine AtL.alloc ?_ _) | (with_reducible refine AtL.far ?_ ?_ _ _) | omega | (simp; done) | (simp; omega))
      have omwQ : OwnRing wQ (wX.heap.size + 1) (wD.heap.size) Ag cg (mds 1 l) := by repeat' (first | with_reducible assumption | (with_reducible refine OwnRing.drew ?_) | (with_reducible refine OwnRing.carry ?_ (by with_reducible assumption)) | (with_reducible refine OwnRing.alloc ?_ _) | (with_reducible refine OwnRing.set_far ?_ ?_ _) | omega | (simp; done) | (simp; omega))
      have bp := bwP.out
      have bn : Below w.heap.size w wQ := by repeat' (first | with_reducible assumption | with_reducible exact Below.refl _ _ | (with_reducible refine Below.setCell ?_ ?_ _) | (with_reducible refine Below.alloc ?_ ?_ _) | (with_reducible refine Below.drew ?_) | (with_reducible refine below_dr ?_ _) | (with_reducible refine Below.trans ?_ (Below.mono (by with_reducible assumption) ?_)) | omega | (simp; done) | (simp; omega))
      have bwQ := Lib.hid bn
      clear bn
      clear bp bwP
      clear hbwQ
      clear bx_awP
      clear rd_a0wP
      clear r1wP
      clear bx_wwP
      clear bx_gwP
      clear omwP
      clear owP
      have ohwQ := owh.wide (lo' := 0) (hi' := wQ.heap.size) (Nat.zero_le _) (Nat.le_refl _)
      clear owh
      have kbx_w0 := bx_wwQ.cell 0 rfl
      have lbx_w := bx_wwQ.lt
      go_wp2_with fail
      clear kbx_w0 lbx_w
      refine (eqRegion_same Ah ch l Aw cw _ (by omega) (fun i d h => Nat.le_trans (HIN_r.out i d h) (by omega)) ?_ ?_).mono ?_
      · exact OwnRing.rd (lo := 0) (hi := wQ.heap.size) (c := ch) (by repeat' (first | with_reducible assumption | (with_reducible refine OwnRing.drew ?_) | (with_reducible refine OwnRing.carry ?_ (by with_reducible assumption)) | (with_reducible refine OwnRing.alloc ?_ _) | (with_reducible refine OwnRing.set_far ?_ ?_ _) | omega | (simp; done) | (simp; omega)))
      · refine RdRing.more (B := wC.heap.size) ?_ (by (try simp only [World.size_drew]); (try simp only [World.size_alloc]); omega)
        repeat' (first | with_reducible assumption | (with_reducible refine RdRing.drew ?_) | (with_reducible refine RdRing.carry ?_ (by with_reducible assumption) ?_) | (with_reducible refine RdRing.alloc ?_ ?_ _) | (with_reducible refine RdRing.setCell ?_ ?_ _) | omega | (simp; done) | (simp; omega))
      rintro e wR ⟨rfl, hbwR⟩
      have zwR := hbwR.size
      (try simp only [World.size_setCell] at zwR)
      (try simp only [World.size_drew] at zwR)
      (try simp only [World.size_alloc] at zwR)
      have qwR : w.heap.size ≤ wR.heap.size := by omega
      have bx_awR : AtL (w.heap.size) [.slice a0A a0d.length a0c] wR := by repeat' (first | with_reducible assumption | with_reducible exact AtL.new _ _ _ | ((with_reducible refine AtL.newAt ?_); (first | rfl | (simp; done))) | (with_reducible refine AtL.drew ?_) | (with_reducible refine AtL.below ?_ (by with_reducible assumption)) | (with_reducible refine AtL.alloc ?_ _) | (with_reducible refine AtL.far ?_ ?_ _ _) | omega | (simp; done) | (simp; omega))
      have rd_a0wR : RdRing wR (w.heap.size) a0A a0d := by repeat' (first | with_reducible assumption | (with_reducible refine RdRing.drew ?_) | (with_reducible refine RdRing.carry ?_ (by with_reducible assumption) ?_) | (with_reducible refine RdRing.alloc ?_ ?_ _) | (with_reducible refine RdRing.setCell ?_ ?_ _) | omega | (simp; done) | (simp; omega))
      have r1wR : RdRing wR (wC.heap.size) Aw l := by repeat' (first | with_reducible assumption | (with_reducible refine RdRing.drew ?_) | (with_reducible refine RdRing.carry ?_ (by with_reducible assumption) ?_) | (with_reducible refine RdRing.alloc ?_ ?_ _) | (with_reducible refine RdRing.setCell ?_ ?_ _) | omega | (simp; done) | (simp; omega))
      have bx_wwR : AtL (wC.heap.size) [.slice Aw l.length cw] wR := by repeat' (first | with_reducible assumption | with_reducible exact AtL.new _ _ _ | ((with_reducible refine AtL.newAt ?_); (first | rfl | (simp; done))) | (with_reducible refine AtL.drew ?_) | (with_reducible refine AtL.below ?_ (by with_reducible assumption)) | (with_reducible refine AtL.alloc ?_ _) | (with_reducible refine AtL.far ?_ ?_ _ _) | omega | (simp; done) | (simp; omega))
      have bx_gwR : AtL (wD.heap.size) [.slice Ag l.length cg] wR := by repeat' (first | with_reducible assumption | with_reducible exact AtL.new _ _ _ | ((with_reducible refine AtL.newAt ?_); (first | rfl | (simp; done))) | (with_reducible refine AtL.drew ?_) | (with_reducible refine AtL.below ?_ (by with_reducible assumption)) | (with_reducible refine AtL.alloc ?_ _) | (with_reducible refine AtL.far ?_ ?_ _ _) | omega | (simp; done) | (simp; omega))
      have omwR : OwnRing wR (wX.heap.size + 1) (wD.heap.size) Ag cg (mds 1 l) := by repeat' (first | with_reducible assumption | (with_reducible refine OwnRing.drew ?_) | (with_reducible refine OwnRing.carry ?_ (by with_reducible assumption)) | (with_reducible refine OwnRing.alloc ?_ _) | (with_reducible refine OwnRing.set_far ?_ ?_ _) | omega | (simp; done) | (simp; omega))
      have ohwR : OwnRing wR (0) (wQ.heap.size) Ah ch (l) := by repeat' (first | with_reducible assumption | (with_reducible refine OwnRing.drew ?_) | (with_reducible refine OwnRing.carry ?_ (by with_reducible assumption)) | (with_reducible refine OwnRing.alloc ?_ _) | (with_reducible refine OwnRing.set_far ?_ ?_ _) | omega | (simp; done) | (simp; omega))
      have bp := bwQ.out
      have bn : Below w.heap.size w wR := by repeat' (first | with_reducible assumption | with_reducible exact Below.refl _ _ | (with_reducible refine Below.setCell ?_ ?_ _) | (with_reducible refine Below.alloc ?_ ?_ _) | (with_reducible refine Below.drew ?_) | (with_reducible refine below_dr ?_ _) | (with_reducible refine Below.trans ?_ (Below.mono (by with_reducible assumption) ?_)) | omega | (simp; done) | (simp; omega))
      have bwR := Lib.hid bn
      clear bn
      clear bp bwQ
      clear hbwR
      clear bx_awQ
      clear rd_a0wQ
      clear r1wQ
      clear bx_wwQ
      clear bx_gwQ
      clear omwQ
      clear ohwQ
      have kbx_g0 := bx_gwR.cell 0 rfl
      have lbx_g := bx_gwR.lt
      go_wp2_with fail
      clear kbx_g0 lbx_g
      refine (heldRegion_any 1 l Ag cg _ (Nat.le_refl _) HMK_r.out (by omega) ?_).mono ?_
      · exact OwnRing.rd (lo := wX.heap.size + 1) (hi := wD.heap.size) (c := cg) (by repeat' (first | with_reducible assumption | (with_reducible refine OwnRing.drew ?_) | (with_reducible refine OwnRing.carry ?_ (by with_reducible assumption)) | (with_reducible refine OwnRing.alloc ?_ _) | (with_reducible refine OwnRing.set_far ?_ ?_ _) | omega | (simp; done) | (simp; omega)))
      rw [← HM.out]
      rintro e wV ⟨rfl, hbwV⟩
      have zwV := hbwV.size
      (try simp only [World.size_setCell] at zwV)
      (try simp only [World.size_drew] at zwV)
      (try simp only [World.size_alloc] at zwV)
      have qwV : w.heap.size ≤ wV.heap.size := by omega
      have bx_awV : AtL (w.heap.size) [.slice a0A a0d.length a0c] wV := by repeat' (first | with_reducible assumption | with_reducible exact AtL.new _ _ _ | ((with_reducible refine AtL.newAt ?_); (first | rfl | (simp; done))) | (with_reducible refine AtL.drew ?_) | (with_reducible refine AtL.below ?_ (by with_reducible assumption)) | (with_reducible refine AtL.alloc ?_ _) | (with_reducible refine AtL.far ?_ ?_ _ _) | omega | (simp; done) | (simp; omega))
      have rd_a0wV : RdRing wV (w.heap.size) a0A a0d := by repeat' (first | with_reducible assumption | (with_reducible refine RdRing.drew ?_) | (with_reducible refine RdRing.carry ?_ (by with_reducible assumption) ?_) | (with_reducible refine RdRing.alloc ?_ ?_ _) | (with_reducible refine RdRing.setCell ?_ ?_ _) | omega | (simp; done) | (simp; omega))
      have r1wV : RdRing wV (wC.heap.size) Aw l := by repeat' (first | with_reducible assumption | (with_reducible refine RdRing.drew ?_) | (with_reducible refine RdRing.carry ?_ (by with_reducible assumption) ?_) | (with_reducible refine RdRing.alloc ?_ ?_ _) | (with_reducible refine RdRing.setCell ?_ ?_ _) | omega | (simp; done) | (simp; omega))
      have bx_wwV : AtL (wC.heap.size) [.slice Aw l.length cw] wV := by repeat' (first | with_reducible assumption | with_reducible exact AtL.new _ _ _ | ((with_reducible refine AtL.newAt ?_); (first | rfl | (simp; done))) | (with_reducible refine AtL.drew ?_) | (with_reducible refine AtL.below ?_ (by with_reducible assumption)) | (with_reducible refine AtL.alloc ?_ _) | (with_reducible refine AtL.far ?_ ?_ _ _) | omega | (simp; done) | (simp; omega))
      have bx_gwV : AtL (wD.heap.size) [.slice Ag l.length cg] wV := by repeat' (first | with_reducible assumption | with_reducible exact AtL.new _ _ _ | ((with_reducible refine AtL.newAt ?_); (first | rfl | (simp; done))) | (with_reducible refine AtL.drew ?_) | (with_reducible refine AtL.below ?_ (by with_reducible assumption)) | (with_reducible refine AtL.alloc ?_ _) | (with_reducible refine AtL.far ?_ ?_ _ _) | omega | (simp; done) | (simp; omega))
      have omwV : OwnRing wV (wX.heap.size + 1) (wD.heap.size) Ag cg (mds 1 l) := by repeat' (first | with_reducible assumption | (with_reducible refine OwnRing.drew ?_) | (with_reducible refine OwnRing.carry ?_ (by with_reducible assumption)) | (with_reducible refine OwnRing.alloc ?_ _) | (with_reducible refine OwnRing.set_far ?_ ?_ _) | omega | (simp; done) | (simp; omega))
      have ohwV : OwnRing wV (0) (wQ.heap.size) Ah ch (l) := by repeat' (first | with_reducible assumption | (with_reducible refine OwnRing.drew ?_) | (with_reducible refine OwnRing.carry ?_ (by with_reducible assumption)) | (with_reducible refine OwnRing.alloc ?_ _) | (with_reducible refine OwnRing.set_far ?_ ?_ _) | omega | (simp; done) | (simp; omega))
      have bp := bwR.out
      have bn : Below w.heap.size w wV := by repeat' (first | with_reducible assumption | with_reducible exact Below.refl _ _ | (with_reducible refine Below.setCell ?_ ?_ _) | (with_reducible refine Below.alloc ?_ ?_ _) | (with_reducible refine Below.drew ?_) | (with_reducible refine below_dr ?_ _) | (with_reducible refine Below.trans ?_ (Below.mono (by with_reducible assumption) ?_)) | omega | (simp; done) | (simp; omega))
      have bwV := Lib.hid bn
      clear bn
      clear bp bwR
      clear hbwV
      clear bx_awR
      clear rd_a0wR
      clear r1wR
      clear bx_wwR
      clear bx_gwR
      clear omwR
      clear ohwR
      go_wp2_with fail
      go_ret
      have bp := bwV.out
      exact ⟨rfl, by repeat' (first | with_reducible assumption | with_reducible exact Below.refl _ _ | (with_reducible refine Below.setCell ?_ ?_ _) | (with_reducible refine Below.alloc ?_ ?_ _) | (with_reducible refine Below.drew ?_) | (with_reducible refine below_dr ?_ _) | (with_reducible refine Below.trans ?_ (Below.mono (by with_reducible assumption) ?_)) | omega | (simp; done) | (simp; omega))⟩
end Go.Proofs.Ytkhpmmclknonbaa
