/- The law on ProgramOf: the walk. -/
import Derived.Test.YtofaolbgjhpopabDoorPoi
namespace Go.Proofs.YtofaolbgjhpopabDoor
open Go.RowKit Go.ChangeShapes Go.WideShapes Go.Deep Go.Joins
set_option linter.unusedVariables false
set_option maxRecDepth 100000 in
set_option maxHeartbeats 6400000 in
theorem walk_ProgramOf (al : List AHint) (aA : Option Addr) (ac : Nat)  (w : World) (nc_a : al.length ≤ ac) (cm_a : ac ≤ maxLen) (rd_a : Rd cHint 2 w w.heap.size aA al) (hH : HandIs w) :
    Calls Tryd.prog 4 #[.slice aA al.length ac] w fun e w' => e = .returned (.bool true) ∧ Below w.heap.size w w' := by
  have hm_a : al.length ≤ 9223372036854775807 := by unfold maxLen at cm_a; omega
  clear nc_a cm_a
  skip
  have C1 := Lib.hid (fun A c w ha ra => specProgramOf_any al A c w ha ra)
  have C2 := Lib.hid (fun A c w1 (hb : Below w.heap.size w w1) ha ra => implProgramOf_any al A c w1 ha ra (hH.stay hb))
  clear hH
  generalize pgV al = v at C1 C2
  generalize pgC al = u at C1 C2
  have e_v : (v.toList != v.toList) = false := by simp
  have e_v2 : (v.toList == v.toList) = true := by simp
  have e_u : (u != u) = false := by simp
  go_enter Tryd.func4, Tryd.ntmps4
  go_wp2_with fail
  have rd_aw : Rd cHint 2 w (w.heap.size) aA al := rd_a
  clear rd_a
  have hV0 : 0 ≤ (1048576 : Int) ∧ (1048576 : Int) ≤ 1048576 := by omega
  rcases Int.lt_or_le 1048576 (al.length : Int) with hfit | hfit
  · refine (szHintS_no al aA ac 1048576 _ (by omega) (by omega) hm_a hfit).mono ?_
    rintro e wN ⟨rfl, hb⟩
    go_wp2_with fail
    go_ret
    exact ⟨rfl, by repeat' (first | with_reducible assumption | with_reducible exact Below.refl _ _ | (with_reducible refine Below.setCell ?_ ?_ _) | (with_reducible refine Below.alloc ?_ ?_ _) | (with_reducible refine Below.drew ?_) | (with_reducible refine below_dr ?_ _) | (with_reducible refine Below.trans ?_ (Below.mono (by with_reducible assumption) ?_)) | omega | (simp; done) | (simp; omega))⟩
  have hl_a : al.length ≤ 1048576 := by omega
  refine (szHintS_yes al aA ac 1048576 _ (by omega) (by omega) hm_a hfit).mono ?_
  obtain ⟨V0, hV⟩ : ∃ V : Int, V = 1048576 - al.length := ⟨_, rfl⟩
  have hVV : 0 ≤ V0 ∧ V0 ≤ 1048576 := by omega
  rw [← hV]
  rintro e wS0 ⟨rfl, hbwS0⟩
  clear hV hfit hV0
  obtain ⟨hV0_0, hV1_0⟩ := hVV
  have zwS0 := hbwS0.size
  (try simp only [World.size_setCell] at zwS0)
  (try simp only [World.size_drew] at zwS0)
  (try simp only [World.size_alloc] at zwS0)
  have qwS0 : w.heap.size ≤ wS0.heap.size := by omega
  have rd_awS0 : Rd cHint 2 wS0 (w.heap.size) aA al := by repeat' (first | with_reducible assumption | (with_reducible refine Rd.drew ?_) | (with_reducible refine Rd.carry ?_ (by with_reducible assumption) ?_) | (with_reducible refine Rd.alloc ?_ ?_ _) | (with_reducible refine Rd.setCell ?_ ?_ _) | omega | (simp; done) | (simp; omega))
  have bn : Below w.heap.size w wS0 := by repeat' (first | with_reducible assumption | with_reducible exact Below.refl _ _ | (with_reducible refine Below.setCell ?_ ?_ _) | (with_reducible refine Below.alloc ?_ ?_ _) | (with_reducible refine Below.drew ?_) | (with_reducible refine below_dr ?_ _) | (with_reducible refine Below.trans ?_ (Below.mono (by with_reducible assumption) ?_)) | omega | (simp; done) | (simp; omega))
  have bwS0 := Lib.hid bn
  clear bn
  clear hbwS0
  clear rd_aw
  go_wp2_with fail
  refine (toHintS_any al aA ac _ hl_a ?_).mono ?_
  · (refine Rd.more (B := w.heap.size) ?_ (by first | omega | ((try simp only [World.size_setCell]); (try simp only [World.size_drew]); (try simp only [World.size_alloc]); omega) | (simp; done) | (simp; omega))); (repeat' (first | with_reducible assumption | (with_reducible refine Rd.drew ?_) | (with_reducible refine Rd.carry ?_ (by with_reducible assumption) ?_) | (with_reducible refine Rd.alloc ?_ ?_ _) | (with_reducible refine Rd.setCell ?_ ?_ _) | omega | (simp; done) | (simp; omega)))
  intro e wA0 hq
  obtain ⟨gA_a, rfl, ow, hbwA0⟩ := hq
  have zwA0 := hbwA0.size
  (try simp only [World.size_setCell] at zwA0)
  (try simp only [World.size_drew] at zwA0)
  (try simp only [World.size_alloc] at zwA0)
  have qwA0 : w.heap.size ≤ wA0.heap.size := by omega
  have rd_awA0 : Rd cHint 2 wA0 (w.heap.size) aA al := by repeat' (first | with_reducible assumption | (with_reducible refine Rd.drew ?_) | (with_reducible refine Rd.carry ?_ (by with_reducible assumption) ?_) | (with_reducible refine Rd.alloc ?_ ?_ _) | (with_reducible refine Rd.setCell ?_ ?_ _) | omega | (simp; done) | (simp; omega))
  have bp := bwS0.out
  have bn : Below w.heap.size w wA0 := by repeat' (first | with_reducible assumption | with_reducible exact Below.refl _ _ | (with_reducible refine Below.setCell ?_ ?_ _) | (with_reducible refine Below.alloc ?_ ?_ _) | (with_reducible refine Below.drew ?_) | (with_reducible refine below_dr ?_ _) | (with_reducible refine Below.trans ?_ (Below.mono (by with_reducible assumption) ?_)) | omega | (simp; done) | (simp; omega))
  have bwA0 := Lib.hid bn
  clear bn
  clear bp bwS0
  clear hbwA0
  clear rd_awS0
  have ra_awA0 : Rd cHint 2 wA0 (wA0.heap.size) (some ⟨gA_a, 0, none⟩) al := Rd.of_own (fun a => cHint_len a) (by omega) ow (Nat.le_refl _)
  clear ow
  go_wp2_with fail
  refine (C1.out (some ⟨gA_a, 0, none⟩) al.length _ hl_a ?_).mono ?_
  · (refine Rd.more (B := wA0.heap.size) ?_ (by first | omega | ((try simp only [World.size_setCell]); (try simp only [World.size_drew]); (try simp only [World.size_alloc]); omega) | (simp; done) | (simp; omega))); (repeat' (first | with_reducible assumption | (with_reducible refine Rd.drew ?_) | (with_reducible refine Rd.carry ?_ (by with_reducible assumption) ?_) | (with_reducible refine Rd.alloc ?_ ?_ _) | (with_reducible refine Rd.setCell ?_ ?_ _) | omega | (simp; done) | (simp; omega)))
  rintro e wB ⟨rfl, hbwB⟩
  have zwB := hbwB.size
  (try simp only [World.size_setCell] at zwB)
  (try simp only [World.size_drew] at zwB)
  (try simp only [World.size_alloc] at zwB)
  have qwB : w.heap.size ≤ wB.heap.size := by omega
  have rd_awB : Rd cHint 2 wB (w.heap.size) aA al := by repeat' (first | with_reducible assumption | (with_reducible refine Rd.drew ?_) | (with_reducible refine Rd.carry ?_ (by with_reducible assumption) ?_) | (with_reducible refine Rd.alloc ?_ ?_ _) | (with_reducible refine Rd.setCell ?_ ?_ _) | omega | (simp; done) | (simp; omega))
  have ra_awB : Rd cHint 2 wB (wA0.heap.size) (some ⟨gA_a, 0, none⟩) al := by repeat' (first | with_reducible assumption | (with_reducible refine Rd.drew ?_) | (with_reducible refine Rd.carry ?_ (by with_reducible assumption) ?_) | (with_reducible refine Rd.alloc ?_ ?_ _) | (with_reducible refine Rd.setCell ?_ ?_ _) | omega | (simp; done) | (simp; omega))
  have bp := bwA0.out
  have bn : Below w.heap.size w wB := by repeat' (first | with_reducible assumption | with_reducible exact Below.refl _ _ | (with_reducible refine Below.setCell ?_ ?_ _) | (with_reducible refine Below.alloc ?_ ?_ _) | (with_reducible refine Below.drew ?_) | (with_reducible refine below_dr ?_ _) | (with_reducible refine Below.trans ?_ (Below.mono (by with_reducible assumption) ?_)) | omega | (simp; done) | (simp; omega))
  have bwB := Lib.hid bn
  clear bn
  clear bp bwA0
  clear hbwB
  clear rd_awA0
  clear ra_awA0
  clear ra_awB
  go_wp2_with fail
  refine (toHintS_any al aA ac _ hl_a ?_).mono ?_
  · (refine Rd.more (B := w.heap.size) ?_ (by first | omega | ((try simp only [World.size_setCell]); (try simp only [World.size_drew]); (try simp only [World.size_alloc]); omega) | (simp; done) | (simp; omega))); (repeat' (first | with_reducible assumption | (with_reducible refine Rd.drew ?_) | (with_reducible refine Rd.carry ?_ (by with_reducible assumption) ?_) | (with_reducible refine Rd.alloc ?_ ?_ _) | (with_reducible refine Rd.setCell ?_ ?_ _) | omega | (simp; done) | (simp; omega)))
  intro e wX0 hq
  obtain ⟨gX_a, rfl, ow, hbwX0⟩ := hq
  have zwX0 := hbwX0.size
  (try simp only [World.size_setCell] at zwX0)
  (try simp only [World.size_drew] at zwX0)
  (try simp only [World.size_alloc] at zwX0)
  have qwX0 : w.heap.size ≤ wX0.heap.size := by omega
  have rd_awX0 : Rd cHint 2 wX0 (w.heap.size) aA al := by repeat' (first | with_reducible assumption | (with_reducible refine Rd.drew ?_) | (with_reducible refine Rd.carry ?_ (by with_reducible assumption) ?_) | (with_reducible refine Rd.alloc ?_ ?_ _) | (with_reducible refine Rd.setCell ?_ ?_ _) | omega | (simp; done) | (simp; omega))
  have bp := bwB.out
  have bn : Below w.heap.size w wX0 := by repeat' (first | with_reducible assumption | with_reducible exact Below.refl _ _ | (with_reducible refine Below.setCell ?_ ?_ _) | (with_reducible refine Below.alloc ?_ ?_ _) | (with_reducible refine Below.drew ?_) | (with_reducible refine below_dr ?_ _) | (with_reducible refine Below.trans ?_ (Below.mono (by with_reducible assumption) ?_)) | omega | (simp; done) | (simp; omega))
  have bwX0 := Lib.hid bn
  clear bn
  clear bp bwB
  clear hbwX0
  clear rd_awB
  have rx_awX0 : Rd cHint 2 wX0 (wX0.heap.size) (some ⟨gX_a, 0, none⟩) al := Rd.of_own (fun a => cHint_len a) (by omega) ow (Nat.le_refl _)
  clear ow
  go_wp2_with fail
  refine (C2.out (some ⟨gX_a, 0, none⟩) al.length _ bwX0.out hl_a ?_).mono ?_
  · (refine Rd.more (B := wX0.heap.size) ?_ (by first | omega | ((try simp only [World.size_setCell]); (try simp only [World.size_drew]); (try simp only [World.size_alloc]); omega) | (simp; done) | (simp; omega))); (repeat' (first | with_reducible assumption | (with_reducible refine Rd.drew ?_) | (with_reducible refine Rd.carry ?_ (by with_reducible assumption) ?_) | (with_reducible refine Rd.alloc ?_ ?_ _) | (with_reducible refine Rd.setCell ?_ ?_ _) | omega | (simp; done) | (simp; omega)))
  rintro e wI ⟨rfl, hbwI⟩
  have zwI := hbwI.size
  (try simp only [World.size_setCell] at zwI)
  (try simp only [World.size_drew] at zwI)
  (try simp only [World.size_alloc] at zwI)
  have qwI : w.heap.size ≤ wI.heap.size := by omega
  have rd_awI : Rd cHint 2 wI (w.heap.size) aA al := by repeat' (first | with_reducible assumption | (with_reducible refine Rd.drew ?_) | (with_reducible refine Rd.carry ?_ (by with_reducible assumption) ?_) | (with_reducible refine Rd.alloc ?_ ?_ _) | (with_reducible refine Rd.setCell ?_ ?_ _) | omega | (simp; done) | (simp; omega))
  have rx_awI : Rd cHint 2 wI (wX0.heap.size) (some ⟨gX_a, 0, none⟩) al := by repeat' (first | with_reducible assumption | (with_reducible refine Rd.drew ?_) | (with_reducible refine Rd.carry ?_ (by with_reducible assumption) ?_) | (with_reducible refine Rd.alloc ?_ ?_ _) | (with_reducible refine Rd.setCell ?_ ?_ _) | omega | (simp; done) | (simp; omega))
  have bp := bwX0.out
  have bn : Below w.heap.size w wI := by repeat' (first | with_reducible assumption | with_reducible exact Below.refl _ _ | (with_reducible refine Below.setCell ?_ ?_ _) | (with_reducible refine Below.alloc ?_ ?_ _) | (with_reducible refine Below.drew ?_) | (with_reducible refine below_dr ?_ _) | (with_reducible refine Below.trans ?_ (Below.mono (by with_reducible assumption) ?_)) | omega | (simp; done) | (simp; omega))
  have bwI := Lib.hid bn
  clear bn
  clear bp bwX0
  clear hbwI
  clear rd_awX0
  clear rx_awX0
  go_wp2_with fail
  refine (toHintS_any al aA ac _ hl_a ?_).mono ?_
  · (refine Rd.more (B := w.heap.size) ?_ (by first | omega | ((try simp only [World.size_setCell]); (try simp only [World.size_drew]); (try simp only [World.size_alloc]); omega) | (simp; done) | (simp; omega))); (repeat' (first | with_reducible assumption | (with_reducible refine Rd.drew ?_) | (with_reducible refine Rd.carry ?_ (by with_reducible assumption) ?_) | (with_reducible refine Rd.alloc ?_ ?_ _) | (with_reducible refine Rd.setCell ?_ ?_ _) | omega | (simp; done) | (simp; omega)))
  intro e wT0 hq
  obtain ⟨gT_a, rfl, ow, hbwT0⟩ := hq
  have zwT0 := hbwT0.size
  (try simp only [World.size_setCell] at zwT0)
  (try simp only [World.size_drew] at zwT0)
  (try simp only [World.size_alloc] at zwT0)
  have qwT0 : w.heap.size ≤ wT0.heap.size := by omega
  have rd_awT0 : Rd cHint 2 wT0 (w.heap.size) aA al := by repeat' (first | with_reducible assumption | (with_reducible refine Rd.drew ?_) | (with_reducible refine Rd.carry ?_ (by with_reducible assumption) ?_) | (with_reducible refine Rd.alloc ?_ ?_ _) | (with_reducible refine Rd.setCell ?_ ?_ _) | omega | (simp; done) | (simp; omega))
  have rx_awT0 : Rd cHint 2 wT0 (wX0.heap.size) (some ⟨gX_a, 0, none⟩) al := by repeat' (first | with_reducible assumption | (with_reducible refine Rd.drew ?_) | (with_reducible refine Rd.carry ?_ (by with_reducible assumption) ?_) | (with_reducible refine Rd.alloc ?_ ?_ _) | (with_reducible refine Rd.setCell ?_ ?_ _) | omega | (simp; done) | (simp; omega))
  have bp := bwI.out
  have bn : Below w.heap.size w wT0 := by repeat' (first | with_reducible assumption | with_reducible exact Below.refl _ _ | (with_reducible refine Below.setCell ?_ ?_ _) | (with_reducible refine Below.alloc ?_ ?_ _) | (with_reducible refine Below.drew ?_) | (with_reducible refine below_dr ?_ _) | (with_reducible refine Below.trans ?_ (Below.mono (by with_reducible assumption) ?_)) | omega | (simp; done) | (simp; omega))
  have bwT0 := Lib.hid bn
  clear bn
  clear bp bwI
  clear hbwT0
  clear rd_awI
  clear rx_awI
  have rt_awT0 : Rd cHint 2 wT0 (wT0.heap.size) (some ⟨gT_a, 0, none⟩) al := Rd.of_own (fun a => cHint_len a) (by omega) ow (Nat.le_refl _)
  clear ow
  go_wp2_with fail
  refine (eqHintS_same al (some ⟨gX_a, 0, none⟩) (some ⟨gT_a, 0, none⟩) al.length al.length _ (by omega) ?_ ?_).mono ?_
  · (refine Rd.more (B := wX0.heap.size) ?_ (by first | omega | ((try simp only [World.size_setCell]); (try simp only [World.size_drew]); (try simp only [World.size_alloc]); omega) | (simp; done) | (simp; omega))); (repeat' (first | with_reducible assumption | (with_reducible refine Rd.drew ?_) | (with_reducible refine Rd.carry ?_ (by with_reducible assumption) ?_) | (with_reducible refine Rd.alloc ?_ ?_ _) | (with_reducible refine Rd.setCell ?_ ?_ _) | omega | (simp; done) | (simp; omega)))
  · (refine Rd.more (B := wT0.heap.size) ?_ (by first | omega | ((try simp only [World.size_setCell]); (try simp only [World.size_drew]); (try simp only [World.size_alloc]); omega) | (simp; done) | (simp; omega))); (repeat' (first | with_reducible assumption | (with_reducible refine Rd.drew ?_) | (with_reducible refine Rd.carry ?_ (by with_reducible assumption) ?_) | (with_reducible refine Rd.alloc ?_ ?_ _) | (with_reducible refine Rd.setCell ?_ ?_ _) | omega | (simp; done) | (simp; omega)))
  rintro e wE0 ⟨rfl, hbwE0⟩
  have zwE0 := hbwE0.size
  (try simp only [World.size_setCell] at zwE0)
  (try simp only [World.size_drew] at zwE0)
  (try simp only [World.size_alloc] at zwE0)
  have qwE0 : w.heap.size ≤ wE0.heap.size := by omega
  have rd_awE0 : Rd cHint 2 wE0 (w.heap.size) aA al := by repeat' (first | with_reducible assumption | (with_reducible refine Rd.drew ?_) | (with_reducible refine Rd.carry ?_ (by with_reducible assumption) ?_) | (with_reducible refine Rd.alloc ?_ ?_ _) | (with_reducible refine Rd.setCell ?_ ?_ _) | omega | (simp; done) | (simp; omega))
  have rx_awE0 : Rd cHint 2 wE0 (wX0.heap.size) (some ⟨gX_a, 0, none⟩) al := by repeat' (first | with_reducible assumption | (with_reducible refine Rd.drew ?_) | (with_reducible refine Rd.carry ?_ (by with_reducible assumption) ?_) | (with_reducible refine Rd.alloc ?_ ?_ _) | (with_reducible refine Rd.setCell ?_ ?_ _) | omega | (simp; done) | (simp; omega))
  have rt_awE0 : Rd cHint 2 wE0 (wT0.heap.size) (some ⟨gT_a, 0, none⟩) al := by repeat' (first | with_reducible assumption | (with_reducible refine Rd.drew ?_) | (with_reducible refine Rd.carry ?_ (by with_reducible assumption) ?_) | (with_reducible refine Rd.alloc ?_ ?_ _) | (with_reducible refine Rd.setCell ?_ ?_ _) | omega | (simp; done) | (simp; omega))
  have bp := bwT0.out
  have bn : Below w.heap.size w wE0 := by repeat' (first | with_reducible assumption | with_reducible exact Below.refl _ _ | (with_reducible refine Below.setCell ?_ ?_ _) | (with_reducible refine Below.alloc ?_ ?_ _) | (with_reducible refine Below.drew ?_) | (with_reducible refine below_dr ?_ _) | (with_reducible refine Below.trans ?_ (Below.mono (by with_reducible assumption) ?_)) | omega | (simp; done) | (simp; omega))
  have bwE0 := Lib.hid bn
  clear bn
  clear bp bwT0
  clear hbwE0
  clear rd_awT0
  clear rx_awT0
  clear rt_awT0
  clear rt_awE0
  clear rx_awE0
  go_wp2_with fail
  go_ret
  have bp := bwE0.out
  exact ⟨rfl, by repeat' (first | with_reducible assumption | with_reducible exact Below.refl _ _ | (with_reducible refine Below.setCell ?_ ?_ _) | (with_reducible refine Below.alloc ?_ ?_ _) | (with_reducible refine Below.drew ?_) | (with_reducible refine below_dr ?_ _) | (with_reducible refine Below.trans ?_ (Below.mono (by with_reducible assumption) ?_)) | omega | (simp; done) | (simp; omega))⟩
end Go.Proofs.YtofaolbgjhpopabDoor
