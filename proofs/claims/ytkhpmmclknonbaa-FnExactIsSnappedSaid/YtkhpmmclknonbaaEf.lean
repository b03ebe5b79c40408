/- Walks: the law on IsSnapped: it returns true. -/
import Derived.Test.YtkhpmmclknonbaaEe
import Derived.Test.YtkhpmmclknonbaaVq
namespace Go.Proofs.Ytkhpmmclknonbaa
open Go.RowKit
set_option linter.unusedVariables false
set_option maxRecDepth 100000 in
set_option maxHeartbeats 6400000 in
theorem walk_IsSnapped (a : ARegion) (w : World) (k_a : okRegion w w.heap.size a) :
    Calls Try.prog 5 #[.agg #[.slice a.1 a.2.2.length a.2.1]] w fun e w' => e = .returned (.bool true) ∧ Below w.heap.size w w' := by
  obtain ⟨a0A, a0c, a0l⟩ := a
  obtain ⟨nc_a0, cm_a0, rd_a0, ok_a0⟩ := k_a
  simp only at nc_a0 cm_a0 rd_a0 ok_a0 ⊢
  have hm_a0 : a0l.length ≤ 9223372036854775807 := by unfold maxLen at cm_a0; omega
  have okd_a0 := okDRing_all a0l ok_a0
  replace rd_a0 := RdRing.of a0l rd_a0 ok_a0
  obtain ⟨a0d, hd_a0⟩ : ∃ ds, ds = a0l.map dRing := ⟨_, rfl⟩
  have hn_a0 : a0l.length = a0d.length := by rw [hd_a0, List.length_map]
  rw [← hd_a0] at okd_a0 rd_a0
  rw [hn_a0] at hm_a0 ⊢
  have HOK_a0 := Lib.hid okd_a0
  clear ok_a0 nc_a0 cm_a0 okd_a0 hd_a0 hn_a0
  have C1 := Lib.hid (fun A c w hl hin r => specIsSnapped_any a0d A c w hl hin r)
  have C2 := Lib.hid (fun A c w hl hin r => implIsSnapped_any a0d A c w hl hin r)
  generalize isSn a0d = v at C1 C2
  have e_v : (v != v) = false := by simp
  go_enter Try.func5, Try.ntmps5
  go_wp2_with fail
  generalize hW : (w.alloc (.cells #[.slice a0A a0d.length a0c] 33)) = W0
  have rd_a0w : RdRing w (w.heap.size) a0A a0d := rd_a0
  have bx_aW0 : AtL (w.heap.size) [.slice a0A a0d.length a0c] W0 := by rw [← hW]; repeat' (first | with_reducible assumption | with_reducible exact AtL.new _ _ _ | ((with_reducible refine AtL.newAt ?_); (first | rfl | (simp; done))) | (with_reducible refine AtL.drew ?_) | (with_reducible refine AtL.below ?_ (by with_reducible assumption)) | (with_reducible refine AtL.alloc ?_ _) | (with_reducible refine AtL.far ?_ ?_ _ _) | omega | (simp; done) | (simp; omega))
  have rd_a0W0 : RdRing W0 (w.heap.size) a0A a0d := by rw [← hW]; repeat' (first | with_reducible assumption | (with_reducible refine RdRing.drew ?_) | (with_reducible refine RdRing.carry ?_ (by with_reducible assumption) ?_) | (with_reducible refine RdRing.alloc ?_ ?_ _) | (with_reducible refine RdRing.setCell ?_ ?_ _) | omega | (simp; done) | (simp; omega))
  have qW0 : w.heap.size ≤ W0.heap.size := by rw [← hW]; simp
  have bn : Below w.heap.size w W0 := by rw [← hW]; repeat' (first | with_reducible assumption | with_reducible exact Below.refl _ _ | (with_reducible refine Below.setCell ?_ ?_ _) | (with_reducible refine Below.alloc ?_ ?_ _) | (with_reducible refine Below.drew ?_) | (with_reducible refine below_dr ?_ _) | (with_reducible refine Below.trans ?_ (Below.mono (by with_reducible assumption) ?_)) | omega | (simp; done) | (simp; omega))
  have bW0 := Lib.hid bn
  clear hW bn
  clear rd_a0w rd_a0
  have hV0 : 0 ≤ (1048576 : Int) ∧ (1048576 : Int) ≤ 1048576 := by omega
  by_cases hfit : ((a0d.length + totRing a0d : Nat) : Int) ≤ 1048576
  case neg =>
    replace hfit : 1048576 < ((a0d.length + totRing a0d : Nat) : Int) := by omega
    refine (szRegion_no a0A a0c a0d 1048576 _ (by omega) (by omega) hm_a0 hfit ?_ HOK_a0.out).mono ?_
    · (refine RdRing.more (B := w.heap.size) ?_ (by first | omega | ((try simp only [World.size_setCell]); (try simp only [World.size_drew]); (try simp only [World.size_alloc]); omega) | (simp; done) | (simp; omega))); (repeat' (first | with_reducible assumption | (with_reducible refine RdRing.drew ?_) | (with_reducible refine RdRing.carry ?_ (by with_reducible assumption) ?_) | (with_reducible refine RdRing.alloc ?_ ?_ _) | (with_reducible refine RdRing.setCell ?_ ?_ _) | omega | (simp; done) | (simp; omega)))
    rintro e wN ⟨rfl, hb⟩
    go_wp2_with fail
    go_ret
    have bp := bW0.out
    exact ⟨rfl, by repeat' (first | with_reducible assumption | with_reducible exact Below.refl _ _ | (with_reducible refine Below.setCell ?_ ?_ _) | (with_reducible refine Below.alloc ?_ ?_ _) | (with_reducible refine Below.drew ?_) | (with_reducible refine below_dr ?_ _) | (with_reducible refine Below.trans ?_ (Below.mono (by with_reducible assumption) ?_)) | omega | (simp; done) | (simp; omega))⟩
  case pos =>
    have hl_a0 : a0d.length ≤ 1048576 := by omega
    have hin_a0 : totRing a0d ≤ 1048576 := by omega
    have HIN_a0 := Lib.hid (inRing hin_a0)
    have HT_a0 := Lib.hid hin_a0
    clear hin_a0
    refine (szRegion_yes a0A a0c a0d 1048576 _ (by omega) (by omega) (by omega) hfit ?_ HOK_a0.out).mono ?_
    · (refine RdRing.more (B := w.heap.size) ?_ (by first | omega | ((try simp only [World.size_setCell]); (try simp only [World.size_drew]); (try simp only [World.size_alloc]); omega) | (simp; done) | (simp; omega))); (repeat' (first | with_reducible assumption | (with_reducible refine RdRing.drew ?_) | (with_reducible refine RdRing.carry ?_ (by with_reducible assumption) ?_) | (with_reducible refine RdRing.alloc ?_ ?_ _) | (with_reducible refine RdRing.setCell ?_ ?_ _) | omega | (simp; done) | (simp; omega)))
    obtain ⟨V0, hV⟩ : ∃ V : Int, V = 1048576 - (a0d.length + totRing a0d : Nat) := ⟨_, rfl⟩
    have hVV : 0 ≤ V0 ∧ V0 ≤ 1048576 := by omega
    rw [← hV]
    rintro e wS0 ⟨rfl, hbwS0⟩
    clear hV hfit
    obtain ⟨hV0_0, hV1_0⟩ := hVV
    have zwS0 := hbwS0.size
    (try simp only [World.size_setCell] at zwS0)
    (try simp only [World.size_drew] at zwS0)
    (try simp only [World.size_alloc] at zwS0)
    have qwS0 : w.heap.size ≤ wS0.heap.size := by omega
    have bx_awS0 : AtL (w.heap.size) [.slice a0A a0d.length a0c] wS0 := by repeat' (first | with_reducible assumption | with_reducible exact AtL.new _ _ _ | ((with_reducible refine AtL.newAt ?_); (first | rfl | (simp; done))) | (with_reducible refine AtL.drew ?_) | (with_reducible refine AtL.below ?_ (by with_reducible assumption)) | (with_reducible refine AtL.alloc ?_ _) | (with_reducible refine AtL.far ?_ ?_ _ _) | omega | (simp; done) | (simp; omega))
    have rd_a0wS0 : RdRing wS0 (w.heap.size) a0A a0d := by repeat' (first | with_reducible assumption | (with_reducible refine RdRing.drew ?_) | (with_reducible refine RdRing.carry ?_ (by with_reducible assumption) ?_) | (with_reducible refine RdRing.alloc ?_ ?_ _) | (with_reducible refine RdRing.setCell ?_ ?_ _) | omega | (simp; done) | (simp; omega))
    have bp := bW0.out
    have bn : Below w.heap.size w wS0 := by repeat' (first | with_reducible assumption | with_reducible exact Below.refl _ _ | (with_reducible refine Below.setCell ?_ ?_ _) | (with_reducible refine Below.alloc ?_ ?_ _) | (with_reducible refine Below.drew ?_) | (with_reducible refine below_dr ?_ _) | (with_reducible refine Below.trans ?_ (Below.mono (by with_reducible assumption) ?_)) | omega | (simp; done) | (simp; omega))
    have bwS0 := Lib.hid bn
    clear bn
    clear bp bW0
    clear hbwS0
    clear bx_aW0
    clear rd_a0W0
    have kbx_a0 := bx_awS0.cell 0 rfl
    have lbx_a := bx_awS0.lt
    go_wp2_with fail
    clear kbx_a0 lbx_a
    refine (toRegion_any a0A a0c a0d _ hl_a0 HIN_a0.out ?_).mono ?_
    · (refine RdRing.more (B := w.heap.size) ?_ (by first | omega | ((try simp only [World.size_setCell]); (try simp only [World.size_drew]); (try simp only [World.size_alloc]); omega) | (simp; done) | (simp; omega))); (repeat' (first | with_reducible assumption | (with_reducible refine RdRing.drew ?_) | (with_reducible refine RdRing.carry ?_ (by with_reducible assumption) ?_) | (with_reducible refine RdRing.alloc ?_ ?_ _) | (with_reducible refine RdRing.setCell ?_ ?_ _) | omega | (simp; done) | (simp; omega)))
    intro e wA hq
    obtain ⟨gA_a0, rfl, owA_a0, hbwA⟩ := hq
    have zwA := hbwA.size
    (try simp only [World.size_setCell] at zwA)
    (try simp only [World.size_drew] at zwA)
    (try simp only [World.size_alloc] at zwA)
    have qwA : w.heap.size ≤ wA.heap.size := by omega
    have bx_awA : AtL (w.heap.size) [.slice a0A a0d.length a0c] wA := by repeat' (first | with_reducible assumption | with_reducible exact AtL.new _ _ _ | ((with_reducible refine AtL.newAt ?_); (first | rfl | (simp; done))) | (with_reducible refine AtL.drew ?_) | (with_reducible refine AtL.below ?_ (by with_reducible assumption)) | (with_reducible refine AtL.alloc ?_ _) | (with_reducible refine AtL.far ?_ ?_ _ _) | omega | (simp; done) | (simp; omega))
    have rd_a0wA : RdRing wA (w.heap.size) a0A a0d := by repeat' (first | with_reducible assumption | (with_reducible refine RdRing.drew ?_) | (with_reducible refine RdRing.carry ?_ (by with_reducible assumption) ?_) | (with_reducible refine RdRing.alloc ?_ ?_ _) | (with_reducible refine RdRing.setCell ?_ ?_ _) | omega | (simp; done) | (simp; omega))
    have bp := bwS0.out
    have bn : Below w.heap.size w wA := by repeat' (first | with_reducible assumption | with_reducible exact Below.refl _ _ | (with_reducible refine Below.setCell ?_ ?_ _) | (with_reducible refine Below.alloc ?_ ?_ _) | (with_reducible refine Below.drew ?_) | (with_reducible refine below_dr ?_ _) | (with_reducible refine Below.trans ?_ (Below.mono (by with_reducible assumption) ?_)) | omega | (simp; done) | (simp; omega))
    have bwA := Lib.hid bn
    clear bn
    clear bp bwS0
    clear hbwA
    clear bx_awS0
    clear rd_a0wS0
    go_wp2_with fail
    refine (C1.out (some ⟨gA_a0, 0, none⟩) a0d.length _ hl_a0 HIN_a0.out ?_).mono ?_
    · (first | exact owA_a0.here | exact RdRing.drew owA_a0.here)
    rintro e wB ⟨rfl, hbwB⟩
    clear owA_a0
    have zwB := hbwB.size
    (try simp only [World.size_setCell] at zwB)
    (try simp only [World.size_drew] at zwB)
    (try simp only [World.size_alloc] at zwB)
    have qwB : w.heap.size ≤ wB.heap.size := by omega
    have bx_awB : AtL (w.heap.size) [.slice a0A a0d.length a0c] wB := by repeat' (first | with_reducible assumption | with_reducible exact AtL.new _ _ _ | ((with_reducible refine AtL.newAt ?_); (first | rfl | (simp; done))) | (with_reducible refine AtL.drew ?_) | (with_reducible refine AtL.below ?_ (by with_reducible assumption)) | (with_reducible refine AtL.alloc ?_ _) | (with_reducible refine AtL.far ?_ ?_ _ _) | omega | (simp; done) | (simp; omega))
    have rd_a0wB : RdRing wB (w.heap.size) a0A a0d := by repeat' (first | with_reducible assumption | (with_reducible refine RdRing.drew ?_) | (with_reducible refine RdRing.carry ?_ (by with_reducible assumption) ?_) | (with_reducible refine RdRing.alloc ?_ ?_ _) | (with_reducible refine RdRing.setCell ?_ ?_ _) | omega | (simp; done) | (simp; omega))
    have bp := bwA.out
    have bn : Below w.heap.size w wB := by repeat' (first | with_reducible assumption | with_reducible exact Below.refl _ _ | (with_reducible refine Below.setCell ?_ ?_ _) | (with_reducible refine Below.alloc ?_ ?_ _) | (with_reducible refine Below.drew ?_) | (with_reducible refine below_dr ?_ _) | (with_reducible refine Below.trans ?_ (Below.mono (by with_reducible assumption) ?_)) | omega | (simp; done) | (simp; omega))
    have bwB := Lib.hid bn
    clear bn
    clear bp bwA
    clear hbwB
    clear bx_awA
    clear rd_a0wA
    have kbx_a0 := bx_awB.cell 0 rfl
    have lbx_a := bx_awB.lt
    go_wp2_with fail
    clear kbx_a0 lbx_a
    refine (toRegion_any a0A a0c a0d _ hl_a0 HIN_a0.out ?_).mono ?_
    · (refine RdRing.more (B := w.heap.size) ?_ (by first | omega | ((try simp only [World.size_setCell]); (try simp only [World.size_drew]); (try simp only [World.size_alloc]); omega) | (simp; done) | (simp; omega))); (repeat' (first | with_reducible assumption | (with_reducible refine RdRing.drew ?_) | (with_reducible refine RdRing.carry ?_ (by with_reducible assumption) ?_) | (with_reducible refine RdRing.alloc ?_ ?_ _) | (with_reducible refine RdRing.setCell ?_ ?_ _) | omega | (simp; done) | (simp; omega)))
    intro e wX0 hq
    obtain ⟨gX_a0, rfl, owX_a0, hbwX0⟩ := hq
    have zwX0 := hbwX0.size
    (try simp only [World.size_setCell] at zwX0)
    (try simp only [World.size_drew] at zwX0)
    (try simp only [World.size_alloc] at zwX0)
    have qwX0 : w.heap.size ≤ wX0.heap.size := by omega
    have bx_awX0 : AtL (w.heap.size) [.slice a0A a0d.length a0c] wX0 := by repeat' (first | with_reducible assumption | with_reducible exact AtL.new _ _ _ | ((with_reducible refine AtL.newAt ?_); (first | rfl | (simp; done))) | (with_reducible refine AtL.drew ?_) | (with_reducible refine AtL.below ?_ (by with_reducible assumption)) | (with_reducible refine AtL.alloc ?_ _) | (with_reducible refine AtL.far ?_ ?_ _ _) | omega | (simp; done) | (simp; omega))
    have rd_a0wX0 : RdRing wX0 (w.heap.size) a0A a0d := by repeat' (first | with_reducible assumption | (with_reducible refine RdRing.drew ?_) | (with_reducible refine RdRing.carry ?_ (by with_reducible assumption) ?_) | (with_reducible refine RdRing.alloc ?_ ?_ _) | (with_reducible refine RdRing.setCell ?_ ?_ _) | omega | (simp; done) | (simp; omega))
    have bp := bwB.out
    have bn : Below w.heap.size w wX0 := by repeat' (first | with_reducible assumption | with_reducible exact Below.refl _ _ | (with_reducible refine Below.setCell ?_ ?_ _) | (with_reducible refine Below.alloc ?_ ?_ _) | (with_reducible refine Below.drew ?_) | (with_reducible refine below_dr ?_ _) | (with_reducible refine Below.trans ?_ (Below.mono (by with_reducible assumption) ?_)) | omega | (simp; done) | (simp; omega))
    have bwX0 := Lib.hid bn
    clear bn
    clear bp bwB
    clear hbwX0
    clear bx_awB
    clear rd_a0wB
    have rx_a0wX0 : RdRing wX0 (wX0.heap.size) (some ⟨gX_a0, 0, none⟩) a0d := owX_a0.here
    clear owX_a0
    go_wp2_with fail
    refine (C2.out (some ⟨gX_a0, 0, none⟩) a0d.length _ hl_a0 HIN_a0.out ?_).mono ?_
    · (refine RdRing.more (B := wX0.heap.size) ?_ (by first | omega | ((try simp only [World.size_setCell]); (try simp only [World.size_drew]); (try simp only [World.size_alloc]); omega) | (simp; done) | (simp; omega))); (repeat' (first | with_reducible assumption | (with_reducible refine RdRing.drew ?_) | (with_reducible refine RdRing.carry ?_ (by with_reducible assumption) ?_) | (with_reducible refine RdRing.alloc ?_ ?_ _) | (with_reducible refine RdRing.setCell ?_ ?_ _) | omega | (simp; done) | (simp; omega)))
    rintro e wI ⟨rfl, hbwI⟩
    have zwI := hbwI.size
    (try simp only [World.size_setCell] at zwI)
    (try simp only [World.size_drew] at zwI)
    (try simp only [World.size_alloc] at zwI)
    have qwI : w.heap.size ≤ wI.heap.size := by omega
    have bx_awI : AtL (w.heap.size) [.slice a0A a0d.length a0c] wI := by repeat' (first | with_reducible assumption | with_reducible exact AtL.new _ _ _ | ((with_reducible refine AtL.newAt ?_); (first | rfl | (simp; done))) | (with_reducible refine AtL.drew ?_) | (with_reducible refine AtL.below ?_ (by with_reducible assumption)) | (with_reducible refine AtL.alloc ?_ _) | (with_reducible refine AtL.far ?_ ?_ _ _) | omega | (simp; done) | (simp; omega))
    have rd_a0wI : RdRing wI (w.heap.size) a0A a0d := by repeat' (first | with_reducible assumption | (with_reducible refine RdRing.drew ?_) | (with_reducible refine RdRing.carry ?_ (by with_reducible assumption) ?_) | (with_reducible refine RdRing.alloc ?_ ?_ _) | (with_reducible refine RdRing.setCell ?_ ?_ _) | omega | (simp; done) | (simp; omega))
    have rx_a0wI : RdRing wI (wX0.heap.size) (some ⟨gX_a0, 0, none⟩) a0d := by repeat' (first | with_reducible assumption | (with_reducible refine RdRing.drew ?_) | (with_reducible refine RdRing.carry ?_ (by with_reducible assumption) ?_) | (with_reducible refine RdRing.alloc ?_ ?_ _) | (with_reducible refine RdRing.setCell ?_ ?_ _) | omega | (simp; done) | (simp; omega))
    have at_awI : AtL (wX0.heap.size) [.slice (some ⟨gX_a0, 0, none⟩) a0d.length a0d.length] wI := by repeat' (first | with_reducible assumption | with_reducible exact AtL.new _ _ _ | ((with_reducible refine AtL.newAt ?_); (first | rfl | (simp; done))) | (with_reducible refine AtL.drew ?_) | (with_reducible refine AtL.below ?_ (by with_reducible assumption)) | (with_reducible refine AtL.alloc ?_ _) | (with_reducible refine AtL.far ?_ ?_ _ _) | omega | (simp; done) | (simp; omega))
    have bp := bwX0.out
    have bn : Below w.heap.size w wI := by repeat' (first | with_reducible assumption | with_reducible exact Below.refl _ _ | (with_reducible refine Below.setCell ?_ ?_ _) | (with_reducible refine Below.alloc ?_ ?_ _) | (with_reducible refine Below.drew ?_) | (with_reducible refine below_dr ?_ _) | (with_reducible refine Below.trans ?_ (Below.mono (by with_reducible assumption) ?_)) | omega | (simp; done) | (simp; omega))
    have bwI := Lib.hid bn
    clear bn
    clear bp bwX0
    clear hbwI
    clear bx_awX0
    clear rd_a0wX0
    clear rx_a0wX0
    have kat_a0 := at_awI.cell 0 rfl
    have lat_a := at_awI.lt
    have kbx_a0 := bx_awI.cell 0 rfl
    have lbx_a := bx_awI.lt
    go_wp2_with fail
    go_region_held3 (fun w' => (∀ b o, b < wI.heap.size → w'.cell? ⟨b, o, none⟩ = wI.cell? ⟨b, o, none⟩) ∧ wI.heap.size ≤ w'.heap.size)
      (first | ((try dsimp only); exact ⟨fun b o h => (by (repeat (first | with_reducible exact rfl | (with_reducible refine (cell_drew_at _ _).trans ?_) | (with_reducible refine (cell_set_at _ _ (by first | omega | (simp; done) | (simp; omega))).trans ?_) | (with_reducible refine (cell_alloc_at _ _ (by first | omega | (simp; done) | (simp; omega))).trans ?_) | (with_reducible refine (hcwT0 b o (by first | omega | (simp; done) | (simp; omega))).trans ?_) | (with_reducible refine (hcwE0 b o (by first | omega | (simp; done) | (simp; omega))).trans ?_)))), (by first | omega | (simp; done) | (simp; omega))⟩) | fail)
      (first
        | (go_at_call 21; (with_reducible refine (toRegion_any a0A a0c a0d _ hl_a0 HIN_a0.out ?_).mono ?_); (focus ((refine RdRing.more (B := w.heap.size) ?_ (by first | omega | ((try simp only [World.size_setCell]); (try simp only [World.size_drew]); (try simp only [World.size_alloc]); omega) | (simp; done) | (simp; omega))); (repeat' (first | with_reducible assumption | (with_reducible refine RdRing.drew ?_) | (with_reducible refine RdRing.carry ?_ (by with_reducible assumption) ?_) | (with_reducible refine RdRing.alloc ?_ ?_ _) | (with_reducible refine RdRing.setCell ?_ ?_ _) | omega | (simp; done) | (simp; omega))))); intro e wT0 hq; obtain ⟨g_owE_a0, rfl, owE_a0, hbwT0⟩ := hq; obtain ⟨hcwT0, hfwT0⟩ := bcell hbwT0; have hzwT0 := hbwT0.size; (try simp only [World.size_drew] at hcwT0 hfwT0 hzwT0); (try simp only [World.size_alloc] at hcwT0 hfwT0 hzwT0))
        | (go_at_call 23; (with_reducible refine (eqRegion_same (some ⟨gX_a0, 0, none⟩) a0d.length a0d (some ⟨g_owE_a0, 0, none⟩) a0d.length _ (by omega) (fun i d h => Nat.le_trans (HIN_a0.out i d h) (by omega)) ?_ ?_).mono ?_); (focus ((refine RdRing.more (B := wX0.heap.size) ?_ (by first | omega | ((try simp only [World.size_setCell]); (try simp only [World.size_drew]); (try simp only [World.size_alloc]); omega) | (simp; done) | (simp; omega))); (repeat' (first | with_reducible assumption | (with_reducible refine RdRing.drew ?_) | (with_reducible refine RdRing.carry ?_ (by with_reducible assumption) ?_) | (with_reducible refine RdRing.alloc ?_ ?_ _) | (with_reducible refine RdRing.setCell ?_ ?_ _) | omega | (simp; done) | (simp; omega))))); (focus ((first | exact owE_a0.here | exact RdRing.drew owE_a0.here))); rintro e wE0 ⟨rfl, hbwE0⟩; obtain ⟨hcwE0, hfwE0⟩ := bcell hbwE0; have hzwE0 := hbwE0.size; (try simp only [World.size_drew] at hcwE0 hfwE0 hzwE0); (try simp only [World.size_alloc] at hcwE0 hfwE0 hzwE0)))
    clear kat_a0 lat_a
    clear kbx_a0 lbx_a
    all_goals
      have zwE0 := hbwE0.size
      (try simp only [World.size_setCell] at zwE0)
      (try simp only [World.size_drew] at zwE0)
      (try simp only [World.size_alloc] at zwE0)
      have qwE0 : w.heap.size ≤ wE0.heap.size := by omega
      have bx_awE0 : AtL (w.heap.size) [.slice a0A a0d.length a0c] wE0 := by repeat' (first | with_reducible assumption | with_reducible exact AtL.new _ _ _ | ((with_reducible refine AtL.newAt ?_); (first | rfl | (simp; done))) | (with_reducible refine AtL.drew ?_) | (with_reducible refine AtL.below ?_ (by with_reducible assumption)) | (with_reducible refine AtL.alloc ?_ _) | (with_reducible refine AtL.far ?_ ?_ _ _) | omega | (simp; done) | (simp; omega))
      have rd_a0wE0 : RdRing wE0 (w.heap.size) a0A a0d := by repeat' (first | with_reducible assumption | (with_reducible refine RdRing.drew ?_) | (with_reducible refine RdRing.carry ?_ (by with_reducible assumption) ?_) | (with_reducible refine RdRing.alloc ?_ ?_ _) | (with_reducible refine RdRing.setCell ?_ ?_ _) | omega | (simp; done) | (simp; omega))
      have rx_a0wE0 : RdRing wE0 (wX0.heap.size) (some ⟨gX_a0, 0, none⟩) a0d := by repeat' (first | with_reducible assumption | (with_reducible refine RdRing.drew ?_) | (with_reducible refine RdRing.carry ?_ (by with_reducible assumption) ?_) | (with_reducible refine RdRing.alloc ?_ ?_ _) | (with_reducible refine RdRing.setCell ?_ ?_ _) | omega | (simp; done) | (simp; omega))
      have at_awE0 : AtL (wX0.heap.size) [.slice (some ⟨gX_a0, 0, none⟩) a0d.length a0d.length] wE0 := by repeat' (first | with_reducible assumption | with_reducible exact AtL.new _ _ _ | ((with_reducible refine AtL.newAt ?_); (first | rfl | (simp; done))) | (with_reducible refine AtL.drew ?_) | (with_reducible refine AtL.below ?_ (by with_reducible assumption)) | (with_reducible refine AtL.alloc ?_ _) | (with_reducible refine AtL.far ?_ ?_ _ _) | omega | (simp; done) | (simp; omega))
      have bp := bwI.out
      have bn : Below w.heap.size w wE0 := by repeat' (first | with_reducible assumption | with_reducible exact Below.refl _ _ | (with_reducible refine Below.setCell ?_ ?_ _) | (with_reducible refine Below.alloc ?_ ?_ _) | (with_reducible refine Below.drew ?_) | (with_reducible refine below_dr ?_ _) | (with_reducible refine Below.trans ?_ (Below.mono (by with_reducible assumption) ?_)) | omega | (simp; done) | (simp; omega))
      have bwE0 := Lib.hid bn
      clear bn
      clear bp bwI
      clear hbwE0
      clear bx_awI
      clear rd_a0wI
      clear rx_a0wI
      clear at_awI
      go_wp2_with fail
      go_ret
      have bp := bwE0.out
      exact ⟨rfl, by repeat' (first | with_reducible assumption | with_reducible exact Below.refl _ _ | (with_reducible refine Below.setCell ?_ ?_ _) | (with_reducible refine Below.alloc ?_ ?_ _) | (with_reducible refine Below.drew ?_) | (with_reducible refine below_dr ?_ _) | (with_reducible refine Below.trans ?_ (Below.mono (by with_reducible assumption) ?_)) | omega | (simp; done) | (simp; omega))⟩
end Go.Proofs.Ytkhpmmclknonbaa
