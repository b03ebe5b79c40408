/- Walks: the laws on PathWithin and NearPath: they return true. -/
import Derived.Test.YtjhboedaaeaomaaFe
namespace Go.Proofs.Ytjhboedaaeaomaa
open Go.RowKit Go.ChangeShapes Go.WideShapes Go.Deep Go.Joins
set_option linter.unusedVariables false
set_option maxRecDepth 100000 in
theorem open_rowPt {H : Type} {enc : TypeId × Value → H} {w : World} {r : Reach} {base b0 : Nat} {spare : Nat → Bool} {held : Bool} {v : Value} {d : DataW H} {p : List MemPlace} (hv : Value.okWide Try.prog w r b0 (28 : Nat) v) (h : DataW.Trod enc Try.prog w base spare held (28 : Nat) v d p) :
    ∃ (l : List APt) (A : Option Addr) (c : Nat), v = .slice A l.length c ∧ l.length ≤ c ∧ c ≤ maxLen ∧ Rd cPt 2 w w.heap.size A l := by
  obtain ⟨a, n, c, rfl⟩ := okWide_slice Try.underlying28 hv
  obtain ⟨fuel, hf⟩ := h
  obtain ⟨A, n', c', l, hcs, hl, hnc, hcm, hr, -⟩ := open_PtS hf
  simp [Value.cells] at hcs
  obtain ⟨rfl, rfl, rfl⟩ := hcs
  exact ⟨l, a, c, by rw [hl], by omega, hcm, hr⟩
set_option maxRecDepth 100000 in
set_option maxHeartbeats 6400000 in
theorem walk_PathWithin (al : List APt) (aA : Option Addr) (ac : Nat) (bl : List APt) (bA : Option Addr) (bc : Nat) (r : Int)   (w_r : (Lit.int .i64 r).wf = true) (w : World) (nc_a : al.length ≤ ac) (cm_a : ac ≤ maxLen) (rd_a : Rd cPt 2 w w.heap.size aA al) (nc_b : bl.length ≤ bc) (cm_b : bc ≤ maxLen) (rd_b : Rd cPt 2 w w.heap.size bA bl) :
    Calls Try.prog 6 #[.slice aA al.length ac, .slice bA bl.length bc, .int .i64 r] w fun e w' => e = .returned (.bool true) ∧ Below w.heap.size w w' := by
  have hm_a : al.length ≤ 9223372036854775807 := by unfold maxLen at cm_a; omega
  have hm_b : bl.length ≤ 9223372036854775807 := by unfold maxLen at cm_b; omega
  clear nc_a cm_a nc_b cm_b
  clear w_r
  have C1 := Lib.hid (fun A c A' c' w ha hl ra rd => specPathWithin_any al bl A' A c c' r w ha ra hl rd)
  have C2 := Lib.hid (fun A c A' c' w ha hl ra rd => implPathWithin_any al bl A' A c c' r w ha ra hl rd)
  generalize pwV al bl r = v at C1 C2
  have e_v : (v != v) = false := by simp
  go_enter Try.func6, Try.ntmps6
  go_wp2_with fail
  have rd_aw : Rd cPt 2 w (w.heap.size) aA al := rd_a
  have rd_bw : Rd cPt 2 w (w.heap.size) bA bl := rd_b
  clear rd_a rd_b
  have hV0 : 0 ≤ (1048576 : Int) ∧ (1048576 : Int) ≤ 1048576 := by omega
  rcases Int.lt_or_le 1048576 (al.length : Int) with hfit | hfit
  · refine (szPtS_no al aA ac 1048576 _ (by omega) (by omega) hm_a hfit).mono ?_
    rintro e wN ⟨rfl, hb⟩
    go_wp2_with fail
    go_ret
    exact ⟨rfl, by repeat' (first | with_reducible assumption | with_reducible exact Below.refl _ _ | (with_reducible refine Below.setCell ?_ ?_ _) | (with_reducible refine Below.alloc ?_ ?_ _) | (with_reducible refine Below.drew ?_) | (with_reducible refine below_dr ?_ _) | (with_reducible refine Below.trans ?_ (Below.mono (by with_reducible assumption) ?_)) | omega | (simp; done) | (simp; omega))⟩
  have hl_a : al.length ≤ 1048576 := by omega
  refine (szPtS_yes al aA ac 1048576 _ (by omega) (by omega) hm_a hfit).mono ?_
  obtain ⟨V0, hV⟩ : ∃ V : Int, V = 1048576 - al.length := ⟨_, rfl⟩
  have hVV : 0 ≤ V0 ∧ V0 ≤ 1048576 := by omega
  rw [← hV]
  rintro e wS0 ⟨rfl, hbwS0⟩
  clear hV hfit hV0
  obtain ⟨hV0_0, hV1_0⟩ := hVV
  have zwS0 := hbwS0.size
  (try simp only [World.size_setCell] at zwS0)
  (try simp only [World.size_drew] at zwS0)
  (try simp only [World.size_alloc] at zwS0)
  have qwS0 : w.heap.size ≤ wS0.heap.size := by omega
  have rd_awS0 : Rd cPt 2 wS0 (w.heap.size) aA al := by repeat' (first | with_reducible assumption | (with_reducible refine Rd.drew ?_) | (with_reducible refine Rd.carry ?_ (by with_reducible assumption) ?_) | (with_reducible refine Rd.alloc ?_ ?_ _) | (with_reducible refine Rd.setCell ?_ ?_ _) | omega | (simp; done) | (simp; omega))
  have rd_bwS0 : Rd cPt 2 wS0 (w.heap.size) bA bl := by repeat' (first | with_reducible assumption | (with_reducible refine Rd.drew ?_) | (with_reducible refine Rd.carry ?_ (by with_reducible assumption) ?_) | (with_reducible refine Rd.alloc ?_ ?_ _) | (with_reducible refine Rd.setCell ?_ ?_ _) | omega | (simp; done) | (simp; omega))
  have bn : Below w.heap.size w wS0 := by repeat' (first | with_reducible assumption | with_reducible exact Below.refl _ _ | (with_reducible refine Below.setCell ?_ ?_ _) | (with_reducible refine Below.alloc ?_ ?_ _) | (with_reducible refine Below.drew ?_) | (with_reducible refine below_dr ?_ _) | (with_reducible refine Below.trans ?_ (Below.mono (by with_reducible assumption) ?_)) | omega | (simp; done) | (simp; omega))
  have bwS0 := Lib.hid bn
  clear bn
  clear hbwS0
  clear rd_aw
  clear rd_bw
  go_wp2_with fail
  have hV1 : 0 ≤ (V0 : Int) ∧ (V0 : Int) ≤ 1048576 := by omega
  rcases Int.lt_or_le V0 (bl.length : Int) with hfit | hfit
  · refine (szPtS_no bl bA bc V0 _ (by omega) (by omega) hm_b hfit).mono ?_
    rintro e wN ⟨rfl, hb⟩
    go_wp2_with fail
    go_ret
    have bp := bwS0.out
    exact ⟨rfl, by repeat' (first | with_reducible assumption | with_reducible exact Below.refl _ _ | (with_reducible refine Below.setCell ?_ ?_ _) | (with_reducible refine Below.alloc ?_ ?_ _) | (with_reducible refine Below.drew ?_) | (with_reducible refine below_dr ?_ _) | (with_reducible refine Below.trans ?_ (Below.mono (by with_reducible assumption) ?_)) | omega | (simp; done) | (simp; omega))⟩
  have hl_b : bl.length ≤ 1048576 := by omega
  refine (szPtS_yes bl bA bc V0 _ (by omega) (by omega) hm_b hfit).mono ?_
  obtain ⟨V1, hV⟩ : ∃ V : Int, V = V0 - bl.length := ⟨_, rfl⟩
  have hVV : 0 ≤ V1 ∧ V1 ≤ 1048576 := by omega
  rw [← hV]
  rintro e wS1 ⟨rfl, hbwS1⟩
  clear hV hfit hV1
  obtain ⟨hV0_1, hV1_1⟩ := hVV
  have zwS1 := hbwS1.size
  (try simp only [World.size_setCell] at zwS1)
  (try simp only [World.size_drew] at zwS1)
  (try simp only [World.size_alloc] at zwS1)
  have qwS1 : w.heap.size ≤ wS1.heap.size := by omega
  have rd_awS1 : Rd cPt 2 wS1 (w.heap.size) aA al := by repeat' (first | with_reducible assumption | (with_reducible refine Rd.drew ?_) | (with_reducible refine Rd.carry ?_ (by with_reducible assumption) ?_) | (with_reducible refine Rd.alloc ?_ ?_ _) | (with_reducible refine Rd.setCell ?_ ?_ _) | omega | (simp; done) | (simp; omega))
  have rd_bwS1 : Rd cPt 2 wS1 (w.heap.size) bA bl := by repeat' (first | with_reducible assumption | (with_reducible refine Rd.drew ?_) | (with_reducible refine Rd.carry ?_ (by with_reducible assumption) ?_) | (with_reducible refine Rd.alloc ?_ ?_ _) | (with_reducible refine Rd.setCell ?_ ?_ _) | omega | (simp; done) | (simp; omega))
  have bp := bwS0.out
  have bn : Below w.heap.size w wS1 := by repeat' (first | with_reducible assumption | with_reducible exact Below.refl _ _ | (with_reducible refine Below.setCell ?_ ?_ _) | (with_reducible refine Below.alloc ?_ ?_ _) | (with_reducible refine Below.drew ?_) | (with_reducible refine below_dr ?_ _) | (with_reducible refine Below.trans ?_ (Below.mono (by with_reducible assumption) ?_)) | omega | (simp; done) | (simp; omega))
  have bwS1 := Lib.hid bn
  clear bn
  clear bp bwS0
  clear hbwS1
  clear rd_awS0
  clear rd_bwS0
  go_wp2_with fail
  refine (toPtS_any al aA ac _ hl_a ?_).mono ?_
  · (refine Rd.more (B := w.heap.size) ?_ (by first | omega | ((try simp only [World.size_setCell]); (try simp only [World.size_drew]); (try simp only [World.size_alloc]); omega) | (simp; done) | (simp; omega))); (repeat' (first | with_reducible assumption | (with_reducible refine Rd.drew ?_) | (with_reducible refine Rd.carry ?_ (by with_reducible assumption) ?_) | (with_reducible refine Rd.alloc ?_ ?_ _) | (with_reducible refine Rd.setCell ?_ ?_ _) | omega | (simp; done) | (simp; omega)))
  intro e wA0 hq
  obtain ⟨gA_a, rfl, ow, hbwA0⟩ := hq
  have zwA0 := hbwA0.size
  (try simp only [World.size_setCell] at zwA0)
  (try simp only [World.size_drew] at zwA0)
  (try simp only [World.size_alloc] at zwA0)
  have qwA0 : w.heap.size ≤ wA0.heap.size := by omega
  have rd_awA0 : Rd cPt 2 wA0 (w.heap.size) aA al := by repeat' (first | with_reducible assumption | (with_reducible refine Rd.drew ?_) | (with_reducible refine Rd.carry ?_ (by with_reducible assumption) ?_) | (with_reducible refine Rd.alloc ?_ ?_ _) | (with_reducible refine Rd.setCell ?_ ?_ _) | omega | (simp; done) | (simp; omega))
  have rd_bwA0 : Rd cPt 2 wA0 (w.heap.size) bA bl := by repeat' (first | with_reducible assumption | (with_reducible refine Rd.drew ?_) | (with_reducible refine Rd.carry ?_ (by with_reducible assumption) ?_) | (with_reducible refine Rd.alloc ?_ ?_ _) | (with_reducible refine Rd.setCell ?_ ?_ _) | omega | (simp; done) | (simp; omega))
  have bp := bwS1.out
  have bn : Below w.heap.size w wA0 := by repeat' (first | with_reducible assumption | with_reducible exact Below.refl _ _ | (with_reducible refine Below.setCell ?_ ?_ _) | (with_reducible refine Below.alloc ?_ ?_ _) | (with_reducible refine Below.drew ?_) | (with_reducible refine below_dr ?_ _) | (with_reducible refine Below.trans ?_ (Below.mono (by with_reducible assumption) ?_)) | omega | (simp; done) | (simp; omega))
  have bwA0 := Lib.hid bn
  clear bn
  clear bp bwS1
  clear hbwA0
  clear rd_awS1
  clear rd_bwS1
  have ra_awA0 : Rd cPt 2 wA0 (wA0.heap.size) (some ⟨gA_a, 0, none⟩) al := Rd.of_own (fun a => cPt_len a) (by omega) ow (Nat.le_refl _)
  clear ow
  go_wp2_with fail
  refine (toPtS_any bl bA bc _ hl_b ?_).mono ?_
  · (refine Rd.more (B := w.heap.size) ?_ (by first | omega | ((try simp only [World.size_setCell]); (try simp only [World.size_drew]); (try simp only [World.size_alloc]); omega) | (simp; done) | (simp; omega))); (repeat' (first | with_reducible assumption | (with_reducible refine Rd.drew ?_) | (with_reducible refine Rd.carry ?_ (by with_reducible assumption) ?_) | (with_reducible refine Rd.alloc ?_ ?_ _) | (with_reducible refine Rd.setCell ?_ ?_ _) | omega | (simp; done) | (simp; omega)))
  intro e wA1 hq
  obtain ⟨gA_b, rfl, ow, hbwA1⟩ := hq
  have zwA1 := hbwA1.size
  (try simp only [World.size_setCell] at zwA1)
  (try simp only [World.size_drew] at zwA1)
  (try simp only [World.size_alloc] at zwA1)
  have qwA1 : w.heap.size ≤ wA1.heap.size := by omega
  have rd_awA1 : Rd cPt 2 wA1 (w.heap.size) aA al := by repeat' (first | with_reducible assumption | (with_reducible refine Rd.drew ?_) | (with_reducible refine Rd.carry ?_ (by with_reducible assumption) ?_) | (with_reducible refine Rd.alloc ?_ ?_ _) | (with_reducible refine Rd.setCell ?_ ?_ _) | omega | (simp; done) | (simp; omega))
  have rd_bwA1 : Rd cPt 2 wA1 (w.heap.size) bA bl := by repeat' (first | with_reducible assumption | (with_reducible refine Rd.drew ?_) | (with_reducible refine Rd.carry ?_ (by with_reducible assumption) ?_) | (with_reducible refine Rd.alloc ?_ ?_ _) | (with_reducible refine Rd.setCell ?_ ?_ _) | omega | (simp; done) | (simp; omega))
  have ra_awA1 : Rd cPt 2 wA1 (wA0.heap.size) (some ⟨gA_a, 0, none⟩) al := by repeat' (first | with_reducible assumption | (with_reducible refine Rd.drew ?_) | (with_reducible refine Rd.carry ?_ (by with_reducible assumption) ?_) | (with_reducible refine Rd.alloc ?_ ?_ _) | (with_reducible refine Rd.setCell ?_ ?_ _) | omega | (simp; done) | (simp; omega))
  have bp := bwA0.out
  have bn : Below w.heap.size w wA1 := by repeat' (first | with_reducible assumption | with_reducible exact Below.refl _ _ | (with_reducible refine Below.setCell ?_ ?_ _) | (with_reducible refine Below.alloc ?_ ?_ _) | (with_reducible refine Below.drew ?_) | (with_reducible refine below_dr ?_ _) | (with_reducible refine Below.trans ?_ (Below.mono (by with_reducible assumption) ?_)) | omega | (simp; done) | (simp; omega))
  have bwA1 := Lib.hid bn
  clear bn
  clear bp bwA0
  clear hbwA1
  clear rd_awA0
  clear rd_bwA0
  clear ra_awA0
  have ra_bwA1 : Rd cPt 2 wA1 (wA1.heap.size) (some ⟨gA_b, 0, none⟩) bl := Rd.of_own (fun a => cPt_len a) (by omega) ow (Nat.le_refl _)
  clear ow
  go_wp2_with fail
  refine (C1.out (some ⟨gA_a, 0, none⟩) al.length (some ⟨gA_b, 0, none⟩) bl.length _ hl_a hl_b ?_ ?_).mono ?_
  · (refine Rd.more (B := wA0.heap.size) ?_ (by first | omega | ((try simp only [World.size_setCell]); (try simp only [World.size_drew]); (try simp only [World.size_alloc]); omega) | (simp; done) | (simp; omega))); (repeat' (first | with_reducible assumption | (with_reducible refine Rd.drew ?_) | (with_reducible refine Rd.carry ?_ (by with_reducible assumption) ?_) | (with_reducible refine Rd.alloc ?_ ?_ _) | (with_reducible refine Rd.setCell ?_ ?_ _) | omega | (simp; done) | (simp; omega)))
  · (refine Rd.more (B := wA1.heap.size) ?_ (by first | omega | ((try simp only [World.size_setCell]); (try simp only [World.size_drew]); (try simp only [World.size_alloc]); omega) | (simp; done) | (simp; omega))); (repeat' (first | with_reducible assumption | (with_reducible refine Rd.drew ?_) | (with_reducible refine Rd.carry ?_ (by with_reducible assumption) ?_) | (with_reducible refine Rd.alloc ?_ ?_ _) | (with_reducible refine Rd.setCell ?_ ?_ _) | omega | (simp; done) | (simp; omega)))
  rintro e wB ⟨rfl, hbwB⟩
  have zwB := hbwB.size
  (try simp only [World.size_setCell] at zwB)
  (try simp only [World.size_drew] at zwB)
  (try simp only [World.size_alloc] at zwB)
  have qwB : w.heap.size ≤ wB.heap.size := by omega
  have rd_awB : Rd cPt 2 wB (w.heap.size) aA al := by repeat' (first | with_reducible assumption | (with_reducible refine Rd.drew ?_) | (with_reducible refine Rd.carry ?_ (by with_reducible assumption) ?_) | (with_reducible refine Rd.alloc ?_ ?_ _) | (with_reducible refine Rd.setCell ?_ ?_ _) | omega | (simp; done) | (simp; omega))
  have rd_bwB : Rd cPt 2 wB (w.heap.size) bA bl := by repeat' (first | with_reducible assumption | (with_reducible refine Rd.drew ?_) | (with_reducible refine Rd.carry ?_ (by with_reducible assumption) ?_) | (with_reducible refine Rd.alloc ?_ ?_ _) | (with_reducible refine Rd.setCell ?_ ?_ _) | omega | (simp; done) | (simp; omega))
  have ra_awB : Rd cPt 2 wB (wA0.heap.size) (some ⟨gA_a, 0, none⟩) al := by repeat' (first | with_reducible assumption | (with_reducible refine Rd.drew ?_) | (with_reducible refine Rd.carry ?_ (by with_reducible assumption) ?_) | (with_reducible refine Rd.alloc ?_ ?_ _) | (with_reducible refine Rd.setCell ?_ ?_ _) | omega | (simp; done) | (simp; omega))
  have ra_bwB : Rd cPt 2 wB (wA1.heap.size) (some ⟨gA_b, 0, none⟩) bl := by repeat' (first | with_reducible assumption | (with_reducible refine Rd.drew ?_) | (with_reducible refine Rd.carry ?_ (by with_reducible assumption) ?_) | (with_reducible refine Rd.alloc ?_ ?_ _) | (with_reducible refine Rd.setCell ?_ ?_ _) | omega | (simp; done) | (simp; omega))
  have bp := bwA1.out
  have bn : Below w.heap.size w wB := by repeat' (first | with_reducible assumption | with_reducible exact Below.refl _ _ | (with_reducible refine Below.setCell ?_ ?_ _) | (with_reducible refine Below.alloc ?_ ?_ _) | (with_reducible refine Below.drew ?_) | (with_reducible refine below_dr ?_ _) | (with_reducible refine Below.trans ?_ (Below.mono (by with_reducible assumption) ?_)) | omega | (simp; done) | (simp; omega))
  have bwB := Lib.hid bn
  clear bn
  clear bp bwA1
  clear hbwB
  clear rd_awA1
  clear rd_bwA1
  clear ra_awA1
  clear ra_bwA1
  clear ra_awB
  clear ra_bwB
  go_wp2_with fail
  refine (toPtS_any al aA ac _ hl_a ?_).mono ?_
  · (refine Rd.more (B := w.heap.size) ?_ (by first | omega | ((try simp only [World.size_setCell]); (try simp only [World.size_drew]); (try simp only [World.size_alloc]); omega) | (simp; done) | (simp; omega))); (repeat' (first | with_reducible assumption | (with_reducible refine Rd.drew ?_) | (with_reducible refine Rd.carry ?_ (by with_reducible assumption) ?_) | (with_reducible refine Rd.alloc ?_ ?_ _) | (with_reducible refine Rd.setCell ?_ ?_ _) | omega | (simp; done) | (simp; omega)))
  intro e wX0 hq
  obtain ⟨gX_a, rfl, ow, hbwX0⟩ := hq
  have zwX0 := hbwX0.size
  (try simp only [World.size_setCell] at zwX0)
  (try simp only [World.size_drew] at zwX0)
  (try simp only [World.size_alloc] at zwX0)
  have qwX0 : w.heap.size ≤ wX0.heap.size := by omega
  have rd_awX0 : Rd cPt 2 wX0 (w.heap.size) aA al := by repeat' (first | with_reducible assumption | (with_reducible refine Rd.drew ?_) | (with_reducible refine Rd.carry ?_ (by with_reducible assumption) ?_) | (with_reducible refine Rd.alloc ?_ ?_ _) | (with_reducible refine Rd.setCell ?_ ?_ _) | omega | (simp; done) | (simp; omega))
  have rd_bwX0 : Rd cPt 2 wX0 (w.heap.size) bA bl := by repeat' (first | with_reducible assumption | (with_reducible refine Rd.drew ?_) | (with_reducible refine Rd.carry ?_ (by with_reducible assumption) ?_) | (with_reducible refine Rd.alloc ?_ ?_ _) | (with_reducible refine Rd.setCell ?_ ?_ _) | omega | (simp; done) | (simp; omega))
  have bp := bwB.out
  have bn : Below w.heap.size w wX0 := by repeat' (first | with_reducible assumption | with_reducible exact Below.refl _ _ | (with_reducible refine Below.setCell ?_ ?_ _) | (with_reducible refine Below.alloc ?_ ?_ _) | (with_reducible refine Below.drew ?_) | (with_reducible refine below_dr ?_ _) | (with_reducible refine Below.trans ?_ (Below.mono (by with_reducible assumption) ?_)) | omega | (simp; done) | (simp; omega))
  have bwX0 := Lib.hid bn
  clear bn
  clear bp bwB
  clear hbwX0
  clear rd_awB
  clear rd_bwB
  have rx_awX0 : Rd cPt 2 wX0 (wX0.heap.size) (some ⟨gX_a, 0, none⟩) al := Rd.of_own (fun a => cPt_len a) (by omega) ow (Nat.le_refl _)
  clear ow
  go_wp2_with fail
  refine (toPtS_any bl bA bc _ hl_b ?_).mono ?_
  · (refine Rd.more (B := w.heap.size) ?_ (by first | omega | ((try simp only [World.size_setCell]); (try simp only [World.size_drew]); (try simp only [World.size_alloc]); omega) | (simp; done) | (simp; omega))); (repeat' (first | with_reducible assumption | (with_reducible refine Rd.drew ?_) | (with_reducible refine Rd.carry ?_ (by with_reducible assumption) ?_) | (with_reducible refine Rd.alloc ?_ ?_ _) | (with_reducible refine Rd.setCell ?_ ?_ _) | omega | (simp; done) | (simp; omega)))
  intro e wX1 hq
  obtain ⟨gX_b, rfl, ow, hbwX1⟩ := hq
  have zwX1 := hbwX1.size
  (try simp only [World.size_setCell] at zwX1)
  (try simp only [World.size_drew] at zwX1)
  (try simp only [World.size_alloc] at zwX1)
  have qwX1 : w.heap.size ≤ wX1.heap.size := by omega
  have rd_awX1 : Rd cPt 2 wX1 (w.heap.size) aA al := by repeat' (first | with_reducible assumption | (with_reducible refine Rd.drew ?_) | (with_reducible refine Rd.carry ?_ (by with_reducible assumption) ?_) | (with_reducible refine Rd.alloc ?_ ?_ _) | (with_reducible refine Rd.setCell ?_ ?_ _) | omega | (simp; done) | (simp; omega))
  have rd_bwX1 : Rd cPt 2 wX1 (w.heap.size) bA bl := by repeat' (first | with_reducible assumption | (with_reducible refine Rd.drew ?_) | (with_reducible refine Rd.carry ?_ (by with_reducible assumption) ?_) | (with_reducible refine Rd.alloc ?_ ?_ _) | (with_reducible refine Rd.setCell ?_ ?_ _) | omega | (simp; done) | (simp; omega))
  have rx_awX1 : Rd cPt 2 wX1 (wX0.heap.size) (some ⟨gX_a, 0, none⟩) al := by repeat' (first | with_reducible assumption | (with_reducible refine Rd.drew ?_) | (with_reducible refine Rd.carry ?_ (by with_reducible assumption) ?_) | (with_reducible refine Rd.alloc ?_ ?_ _) | (with_reducible refine Rd.setCell ?_ ?_ _) | omega | (simp; done) | (simp; omega))
  have bp := bwX0.out
  have bn : Below w.heap.size w wX1 := by repeat' (first | with_reducible assumption | with_reducible exact Below.refl _ _ | (with_reducible refine Below.setCell ?_ ?_ _) | (with_reducible refine Below.alloc ?_ ?_ _) | (with_reducible refine Below.drew ?_) | (with_reducible refine below_dr ?_ _) | (with_reducible refine Below.trans ?_ (Below.mono (by with_reducible assumption) ?_)) | omega | (simp; done) | (simp; omega))
  have bwX1 := Lib.hid bn
  clear bn
  clear bp bwX0
  clear hbwX1
  clear rd_awX0
  clear rd_bwX0
  clear rx_awX0
  have rx_bwX1 : Rd cPt 2 wX1 (wX1.heap.size) (some ⟨gX_b, 0, none⟩) bl := Rd.of_own (fun a => cPt_len a) (by omega) ow (Nat.le_refl _)
  clear ow
  go_wp2_with fail
  refine (C2.out (some ⟨gX_a, 0, none⟩) al.length (some ⟨gX_b, 0, none⟩) bl.length _ hl_a hl_b ?_ ?_).mono ?_
  · (refine Rd.more (B := wX0.heap.size) ?_ (by first | omega | ((try simp only [World.size_setCell]); (try simp only [World.size_drew]); (try simp only [World.size_alloc]); omega) | (simp; done) | (simp; omega))); (repeat' (first | with_reducible assumption | (with_reducible refine Rd.drew ?_) | (with_reducible refine Rd.carry ?_ (by with_reducible assumption) ?_) | (with_reducible refine Rd.alloc ?_ ?_ _) | (with_reducible refine Rd.setCell ?_ ?_ _) | omega | (simp; done) | (simp; omega)))
  · (refine Rd.more (B := wX1.heap.size) ?_ (by first | omega | ((try simp only [World.size_setCell]); (try simp only [World.size_drew]); (try simp only [World.size_alloc]); omega) | (simp; done) | (simp; omega))); (repeat' (first | with_reducible assumption | (with_reducible refine Rd.drew ?_) | (with_reducible refine Rd.carry ?_ (by with_reducible assumption) ?_) | (with_reducible refine Rd.alloc ?_ ?_ _) | (with_reducible refine Rd.setCell ?_ ?_ _) | omega | (simp; done) | (simp; omega)))
  rintro e wI ⟨rfl, hbwI⟩
  have zwI := hbwI.size
  (try simp only [World.size_setCell] at zwI)
  (try simp only [World.size_drew] at zwI)
  (try simp only [World.size_alloc] at zwI)
  have qwI : w.heap.size ≤ wI.heap.size := by omega
  have rd_awI : Rd cPt 2 wI (w.heap.size) aA al := by repeat' (first | with_reducible assumption | (with_reducible refine Rd.drew ?_) | (with_reducible refine Rd.carry ?_ (by with_reducible assumption) ?_) | (with_reducible refine Rd.alloc ?_ ?_ _) | (with_reducible refine Rd.setCell ?_ ?_ _) | omega | (simp; done) | (simp; omega))
  have rd_bwI : Rd cPt 2 wI (w.heap.size) bA bl := by repeat' (first | with_reducible assumption | (with_reducible refine Rd.drew ?_) | (with_reducible refine Rd.carry ?_ (by with_reducible assumption) ?_) | (with_reducible refine Rd.alloc ?_ ?_ _) | (with_reducible refine Rd.setCell ?_ ?_ _) | omega | (simp; done) | (simp; omega))
  have rx_awI : Rd cPt 2 wI (wX0.heap.size) (some ⟨gX_a, 0, none⟩) al := by repeat' (first | with_reducible assumption | (with_reducible refine Rd.drew ?_) | (with_reducible refine Rd.carry ?_ (by with_reducible assumption) ?_) | (with_reducible refine Rd.alloc ?_ ?_ _) | (with_reducible refine Rd.setCell ?_ ?_ _) | omega | (simp; done) | (simp; omega))
  have rx_bwI : Rd cPt 2 wI (wX1.heap.size) (some ⟨gX_b, 0, none⟩) bl := by repeat' (first | with_reducible assumption | (with_reducible refine Rd.drew ?_) | (with_reducible refine Rd.carry ?_ (by with_reducible assumption) ?_) | (with_reducible refine Rd.alloc ?_ ?_ _) | (with_reducible refine Rd.setCell ?_ ?_ _) | omega | (simp; done) | (simp; omega))
  have bp := bwX1.out
  have bn : Below w.heap.size w wI := by repeat' (first | with_reducible assumption | with_reducible exact Below.refl _ _ | (with_reducible refine Below.setCell ?_ ?_ _) | (with_reducible refine Below.alloc ?_ ?_ _) | (with_reducible refine Below.drew ?_) | (with_reducible refine below_dr ?_ _) | (with_reducible refine Below.trans ?_ (Below.mono (by with_reducible assumption) ?_)) | omega | (simp; done) | (simp; omega))
  have bwI := Lib.hid bn
  clear bn
  clear bp bwX1
  clear hbwI
  clear rd_awX1
  clear rd_bwX1
  clear rx_awX1
  clear rx_bwX1
  go_wp2_with fail
  refine (toPtS_any al aA ac _ hl_a ?_).mono ?_
  · (refine Rd.more (B := w.heap.size) ?_ (by first | omega | ((try simp only [World.size_setCell]); (try simp only [World.size_drew]); (try simp only [World.size_alloc]); omega) | (simp; done) | (simp; omega))); (repeat' (first | with_reducible assumption | (with_reducible refine Rd.drew ?_) | (with_reducible refine Rd.carry ?_ (by with_reducible assumption) ?_) | (with_reducible refine Rd.alloc ?_ ?_ _) | (with_reducible refine Rd.setCell ?_ ?_ _) | omega | (simp; done) | (simp; omega)))
  intro e wT0 hq
  obtain ⟨gT_a, rfl, ow, hbwT0⟩ := hq
  have zwT0 := hbwT0.size
  (try simp only [World.size_setCell] at zwT0)
  (try simp only [World.size_drew] at zwT0)
  (try simp only [World.size_alloc] at zwT0)
  have qwT0 : w.heap.size ≤ wT0.heap.size := by omega
  have rd_awT0 : Rd cPt 2 wT0 (w.heap.size) aA al := by repeat' (first | with_reducible assumption | (with_reducible refine Rd.drew ?_) | (with_reducible refine Rd.carry ?_ (by with_reducible assumption) ?_) | (with_reducible refine Rd.alloc ?_ ?_ _) | (with_reducible refine Rd.setCell ?_ ?_ _) | omega | (simp; done) | (simp; omega))
  have rd_bwT0 : Rd cPt 2 wT0 (w.heap.size) bA bl := by repeat' (first | with_reducible assumption | (with_reducible refine Rd.drew ?_) | (with_reducible refine Rd.carry ?_ (by with_reducible assumption) ?_) | (with_reducible refine Rd.alloc ?_ ?_ _) | (with_reducible refine Rd.setCell ?_ ?_ _) | omega | (simp; done) | (simp; omega))
  have rx_awT0 : Rd cPt 2 wT0 (wX0.heap.size) (some ⟨gX_a, 0, none⟩) al := by repeat' (first | with_reducible assumption | (with_reducible refine Rd.drew ?_) | (with_reducible refine Rd.carry ?_ (by with_reducible assumption) ?_) | (with_reducible refine Rd.alloc ?_ ?_ _) | (with_reducible refine Rd.setCell ?_ ?_ _) | omega | (simp; done) | (simp; omega))
  have rx_bwT0 : Rd cPt 2 wT0 (wX1.heap.size) (some ⟨gX_b, 0, none⟩) bl := by repeat' (first | with_reducible assumption | (with_reducible refine Rd.drew ?_) | (with_reducible refine Rd.carry ?_ (by with_reducible assumption) ?_) | (with_reducible refine Rd.alloc ?_ ?_ _) | (with_reducible refine Rd.setCell ?_ ?_ _) | omega | (simp; done) | (simp; omega))
  have bp := bwI.out
  have bn : Below w.heap.size w wT0 := by repeat' (first | with_reducible assumption | with_reducible exact Below.refl _ _ | (with_reducible refine Below.setCell ?_ ?_ _) | (with_reducible refine Below.alloc ?_ ?_ _) | (with_reducible refine Below.drew ?_) | (with_reducible refine below_dr ?_ _) | (with_reducible refine Below.trans ?_ (Below.mono (by with_reducible assumption) ?_)) | omega | (simp; done) | (simp; omega))
  have bwT0 := Lib.hid bn
  clear bn
  clear bp bwI
  clear hbwT0
  clear rd_awI
  clear rd_bwI
  clear rx_awI
  clear rx_bwI
  have rt_awT0 : Rd cPt 2 wT0 (wT0.heap.size) (some ⟨gT_a, 0, none⟩) al := Rd.of_own (fun a => cPt_len a) (by omega) ow (Nat.le_refl _)
  clear ow
  go_wp2_with fail
  refine (eqPtS_same al (some ⟨gX_a, 0, none⟩) (some ⟨gT_a, 0, none⟩) al.length al.length _ (by omega) ?_ ?_).mono ?_
  · (refine Rd.more (B := wX0.heap.size) ?_ (by first | omega | ((try simp only [World.size_setCell]); (try simp only [World.size_drew]); (try simp only [World.size_alloc]); omega) | (simp; done) | (simp; omega))); (repeat' (first | with_reducible assumption | (with_reducible refine Rd.drew ?_) | (with_reducible refine Rd.carry ?_ (by with_reducible assumption) ?_) | (with_reducible refine Rd.alloc ?_ ?_ _) | (with_reducible refine Rd.setCell ?_ ?_ _) | omega | (simp; done) | (simp; omega)))
  · (refine Rd.more (B := wT0.heap.size) ?_ (by first | omega | ((try simp only [World.size_setCell]); (try simp only [World.size_drew]); (try simp only [World.size_alloc]); omega) | (simp; done) | (simp; omega))); (repeat' (first | with_reducible assumption | (with_reducible refine Rd.drew ?_) | (with_reducible refine Rd.carry ?_ (by with_reducible assumption) ?_) | (with_reducible refine Rd.alloc ?_ ?_ _) | (with_reducible refine Rd.setCell ?_ ?_ _) | omega | (simp; done) | (simp; omega)))
  rintro e wE0 ⟨rfl, hbwE0⟩
  have zwE0 := hbwE0.size
  (try simp only [World.size_setCell] at zwE0)
  (try simp only [World.size_drew] at zwE0)
  (try simp only [World.size_alloc] at zwE0)
  have qwE0 : w.heap.size ≤ wE0.heap.size := by omega
  have rd_awE0 : Rd cPt 2 wE0 (w.heap.size) aA al := by repeat' (first | with_reducible assumption | (with_reducible refine Rd.drew ?_) | (with_reducible refine Rd.carry ?_ (by with_reducible assumption) ?_) | (with_reducible refine Rd.alloc ?_ ?_ _) | (with_reducible refine Rd.setCell ?_ ?_ _) | omega | (simp; done) | (simp; omega))
  have rd_bwE0 : Rd cPt 2 wE0 (w.heap.size) bA bl := by repeat' (first | with_reducible assumption | (with_reducible refine Rd.drew ?_) | (with_reducible refine Rd.carry ?_ (by with_reducible assumption) ?_) | (with_reducible refine Rd.alloc ?_ ?_ _) | (with_reducible refine Rd.setCell ?_ ?_ _) | omega | (simp; done) | (simp; omega))
  have rx_awE0 : Rd cPt 2 wE0 (wX0.heap.size) (some ⟨gX_a, 0, none⟩) al := by repeat' (first | with_reducible assumption | (with_reducible refine Rd.drew ?_) | (with_reducible refine Rd.carry ?_ (by with_reducible assumption) ?_) | (with_reducible refine Rd.alloc ?_ ?_ _) | (with_reducible refine Rd.setCell ?_ ?_ _) | omega | (simp; done) | (simp; omega))
  have rx_bwE0 : Rd cPt 2 wE0 (wX1.heap.size) (some ⟨gX_b, 0, none⟩) bl := by repeat' (first | with_reducible assumption | (with_reducible refine Rd.drew ?_) | (with_reducible refine Rd.carry ?_ (by with_reducible assumption) ?_) | (with_reducible refine Rd.alloc ?_ ?_ _) | (with_reducible refine Rd.setCell ?_ ?_ _) | omega | (simp; done) | (simp; omega))
  have rt_awE0 : Rd cPt 2 wE0 (wT0.heap.size) (some ⟨gT_a, 0, none⟩) al := by repeat' (first | with_reducible assumption | (with_reducible refine Rd.drew ?_) | (with_reducible refine Rd.carry ?_ (by with_reducible assumption) ?_) | (with_reducible refine Rd.alloc ?_ ?_ _) | (with_reducible refine Rd.setCell ?_ ?_ _) | omega | (simp; done) | (simp; omega))
  have bp := bwT0.out
  have bn : Below w.heap.size w wE0 := by repeat' (first | with_reducible assumption | with_reducible exact Below.refl _ _ | (with_reducible refine Below.setCell ?_ ?_ _) | (with_reducible refine Below.alloc ?_ ?_ _) | (with_reducible refine Below.drew ?_) | (with_reducible refine below_dr ?_ _) | (with_reducible refine Below.trans ?_ (Below.mono (by with_reducible assumption) ?_)) | omega | (simp; done) | (simp; omega))
  have bwE0 := Lib.hid bn
  clear bn
  clear bp bwT0
  clear hbwE0
  clear rd_awT0
  clear rd_bwT0
  clear rx_awT0
  clear rx_bwT0
  clear rt_awT0
  clear rt_awE0
  clear rx_awE0
  go_wp2_with fail
  refine (toPtS_any bl bA bc _ hl_b ?_).mono ?_
  · (refine Rd.more (B := w.heap.size) ?_ (by first | omega | ((try simp only [World.size_setCell]); (try simp only [World.size_drew]); (try simp only [World.size_alloc]); omega) | (simp; done) | (simp; omega))); (repeat' (first | with_reducible assumption | (with_reducible refine Rd.drew ?_) | (with_reducible refine Rd.carry ?_ (by with_reducible assumption) ?_) | (with_reducible refine Rd.alloc ?_ ?_ _) | (with_reducible refine Rd.setCell ?_ ?_ _) | omega | (simp; done) | (simp; omega)))
  intro e wT1 hq
  obtain ⟨gT_b, rfl, ow, hbwT1⟩ := hq
  have zwT1 := hbwT1.size
  (try simp only [World.size_setCell] at zwT1)
  (try simp only [World.size_drew] at zwT1)
  (try simp only [World.size_alloc] at zwT1)
  have qwT1 : w.heap.size ≤ wT1.heap.size := by omega
  have rd_awT1 : Rd cPt 2 wT1 (w.heap.size) aA al := by repeat' (first | with_reducible assumption | (with_reducible refine Rd.drew ?_) | (with_reducible refine Rd.carry ?_ (by with_reducible assumption) ?_) | (with_reducible refine Rd.alloc ?_ ?_ _) | (with_reducible refine Rd.setCell ?_ ?_ _) | omega | (simp; done) | (simp; omega))
  have rd_bwT1 : Rd cPt 2 wT1 (w.heap.size) bA bl := by repeat' (first | with_reducible assumption | (with_reducible refine Rd.drew ?_) | (with_reducible refine Rd.carry ?_ (by with_reducible assumption) ?_) | (with_reducible refine Rd.alloc ?_ ?_ _) | (with_reducible refine Rd.setCell ?_ ?_ _) | omega | (simp; done) | (simp; omega))
  have rx_bwT1 : Rd cPt 2 wT1 (wX1.heap.size) (some ⟨gX_b, 0, none⟩) bl := by repeat' (first | with_reducible assumption | (with_reducible refine Rd.drew ?_) | (with_reducible refine Rd.carry ?_ (by with_reducible assumption) ?_) | (with_reducible refine Rd.alloc ?_ ?_ _) | (with_reducible refine Rd.setCell ?_ ?_ _) | omega | (simp; done) | (simp; omega))
  have bp := bwE0.out
  have bn : Below w.heap.size w wT1 := by repeat' (first | with_reducible assumption | with_reducible exact Below.refl _ _ | (with_reducible refine Below.setCell ?_ ?_ _) | (with_reducible refine Below.alloc ?_ ?_ _) | (with_reducible refine Below.drew ?_) | (with_reducible refine below_dr ?_ _) | (with_reducible refine Below.trans ?_ (Below.mono (by with_reducible assumption) ?_)) | omega | (simp; done) | (simp; omega))
  have bwT1 := Lib.hid bn
  clear bn
  clear bp bwE0
  clear hbwT1
  clear rd_awE0
  clear rd_bwE0
  clear rx_bwE0
  have rt_bwT1 : Rd cPt 2 wT1 (wT1.heap.size) (some ⟨gT_b, 0, none⟩) bl := Rd.of_own (fun a => cPt_len a) (by omega) ow (Nat.le_refl _)
  clear ow
  go_wp2_with fail
  refine (eqPtS_same bl (some ⟨gX_b, 0, none⟩) (some ⟨gT_b, 0, none⟩) bl.length bl.length _ (by omega) ?_ ?_).mono ?_
  · (refine Rd.more (B := wX1.heap.size) ?_ (by first | omega | ((try simp only [World.size_setCell]); (try simp only [World.size_drew]); (try simp only [World.size_alloc]); omega) | (simp; done) | (simp; omega))); (repeat' (first | with_reducible assumption | (with_reducible refine Rd.drew ?_) | (with_reducible refine Rd.carry ?_ (by with_reducible assumption) ?_) | (with_reducible refine Rd.alloc ?_ ?_ _) | (with_reducible refine Rd.setCell ?_ ?_ _) | omega | (simp; done) | (simp; omega)))
  · (refine Rd.more (B := wT1.heap.size) ?_ (by first | omega | ((try simp only [World.size_setCell]); (try simp only [World.size_drew]); (try simp only [World.size_alloc]); omega) | (simp; done) | (simp; omega))); (repeat' (first | with_reducible assumption | (with_reducible refine Rd.drew ?_) | (with_reducible refine Rd.carry ?_ (by with_reducible assumption) ?_) | (with_reducible refine Rd.alloc ?_ ?_ _) | (with_reducible refine Rd.setCell ?_ ?_ _) | omega | (simp; done) | (simp; omega)))
  rintro e wE1 ⟨rfl, hbwE1⟩
  have zwE1 := hbwE1.size
  (try simp only [World.size_setCell] at zwE1)
  (try simp only [World.size_drew] at zwE1)
  (try simp only [World.size_alloc] at zwE1)
  have qwE1 : w.heap.size ≤ wE1.heap.size := by omega
  have rd_awE1 : Rd cPt 2 wE1 (w.heap.size) aA al := by repeat' (first | with_reducible assumption | (with_reducible refine Rd.drew ?_) | (with_reducible refine Rd.carry ?_ (by with_reducible assumption) ?_) | (with_reducible refine Rd.alloc ?_ ?_ _) | (with_reducible refine Rd.setCell ?_ ?_ _) | omega | (simp; done) | (simp; omega))
  have rd_bwE1 : Rd cPt 2 wE1 (w.heap.size) bA bl := by repeat' (first | with_reducible assumption | (with_reducible refine Rd.drew ?_) | (with_reducible refine Rd.carry ?_ (by with_reducible assumption) ?_) | (with_reducible refine Rd.alloc ?_ ?_ _) | (with_reducible refine Rd.setCell ?_ ?_ _) | omega | (simp; done) | (simp; omega))
  have rx_bwE1 : Rd cPt 2 wE1 (wX1.heap.size) (some ⟨gX_b, 0, none⟩) bl := by repeat' (first | with_reducible assumption | (with_reducible refine Rd.drew ?_) | (with_reducible refine Rd.carry ?_ (by with_reducible assumption) ?_) | (with_reducible refine Rd.alloc ?_ ?_ _) | (with_reducible refine Rd.setCell ?_ ?_ _) | omega | (simp; done) | (simp; omega))
  have rt_bwE1 : Rd cPt 2 wE1 (wT1.heap.size) (some ⟨gT_b, 0, none⟩) bl := by repeat' (first | with_reducible assumption | (with_reducible refine Rd.drew ?_) | (with_reducible refine Rd.carry ?_ (by with_reducible assumption) ?_) | (with_reducible refine Rd.alloc ?_ ?_ _) | (with_reducible refine Rd.setCell ?_ ?_ _) | omega | (simp; done) | (simp; omega))
  have bp := bwT1.out
  have bn : Below w.heap.size w wE1 := by repeat' (first | with_reducible assumption | with_reducible exact Below.refl _ _ | (with_reducible refine Below.setCell ?_ ?_ _) | (with_reducible refine Below.alloc ?_ ?_ _) | (with_reducible refine Below.drew ?_) | (with_reducible refine below_dr ?_ _) | (with_reducible refine Below.trans ?_ (Below.mono (by with_reducible assumption) ?_)) | omega | (simp; done) | (simp; omega))
  have bwE1 := Lib.hid bn
  clear bn
  clear bp bwT1
  clear hbwE1
  clear rd_awT1
  clear rd_bwT1
  clear rx_bwT1
  clear rt_bwT1
  clear rt_bwE1
  clear rx_bwE1
  go_wp2_with fail
  go_ret
  have bp := bwE1.out
  exact ⟨rfl, by repeat' (first | with_reducible assumption | with_reducible exact Below.refl _ _ | (with_reducible refine Below.setCell ?_ ?_ _) | (with_reducible refine Below.alloc ?_ ?_ _) | (with_reducible refine Below.drew ?_) | (with_reducible refine below_dr ?_ _) | (with_reducible refine Below.trans ?_ (Below.mono (by with_reducible assumption) ?_)) | omega | (simp; done) | (simp; omega))⟩
set_option maxRecDepth 100000 in
set_option maxHeartbeats 6400000 in
theorem walk_NearPath (al : List APt) (aA : Option Addr) (ac : Nat) (x y : Int) (r : Int)  (w_x : (Lit.int .i64 x).wf = true) (w_y : (Lit.int .i64 y).wf = true) (w_r : (Lit.int .i64 r).wf = true) (w : World) (nc_a : al.length ≤ ac) (cm_a : ac ≤ maxLen) (rd_a : Rd cPt 2 w w.heap.size aA al) :
    Calls Try.prog 4 #[.slice aA al.length ac, .agg #[.int .i64 x, .int .i64 y], .int .i64 r] w fun e w' => e = .returned (.bool true) ∧ Below w.heap.size w w' := by
  have hm_a : al.length ≤ 9223372036854775807 := by unfold maxLen at cm_a; omega
  clear nc_a cm_a
  clear w_r w_x w_y
  have C1 := Lib.hid (fun A c w ha ra => specNearPath_any al A c x y r w ha ra)
  have C2 := Lib.hid (fun A c w ha ra => implNearPath_any al A c x y r w ha ra)
  generalize npV al x y r = v at C1 C2
  have e_v : (v != v) = false := by simp
  go_enter Try.func4, Try.ntmps4
  go_wp2_with fail
  have rd_aw : Rd cPt 2 w (w.heap.size) aA al := rd_a
  generalize hW : (w.alloc (.cells #[.int .i64 x, .int .i64 y] 23)) = W0
  have rd_aW0 : Rd cPt 2 W0 (w.heap.size) aA al := by rw [← hW]; repeat' (first | with_reducible assumption | (with_reducible refine Rd.drew ?_) | (with_reducible refine Rd.carry ?_ (by with_reducible assumption) ?_) | (with_reducible refine Rd.alloc ?_ ?_ _) | (with_reducible refine Rd.setCell ?_ ?_ _) | omega | (simp; done) | (simp; omega))
  have bx_f0W0 : AtL (w.heap.size) [.int .i64 x, .int .i64 y] W0 := by rw [← hW]; repeat' (first | with_reducible assumption | with_reducible exact AtL.new _ _ _ | ((with_reducible refine AtL.newAt ?_); (first | rfl | (simp; done))) | (with_reducible refine AtL.drew ?_) | (with_reducible refine AtL.below ?_ (by with_reducible assumption)) | (with_reducible refine AtL.alloc ?_ _) | (with_reducible refine AtL.far ?_ ?_ _ _) | omega | (simp; done) | (simp; omega))
  have qW0 : w.heap.size ≤ W0.heap.size := by rw [← hW]; first | (simp; done) | (simp; omega)
  have bn : Below w.heap.size w W0 := by rw [← hW]; repeat' (first | with_reducible assumption | with_reducible exact Below.refl _ _ | (with_reducible refine Below.setCell ?_ ?_ _) | (with_reducible refine Below.alloc ?_ ?_ _) | (with_reducible refine Below.drew ?_) | (with_reducible refine below_dr ?_ _) | (with_reducible refine Below.trans ?_ (Below.mono (by with_reducible assumption) ?_)) | omega | (simp; done) | (simp; omega))
  have bW0 := Lib.hid bn
  clear hW bn
  clear rd_aw
  clear rd_a
  have hV0 : 0 ≤ (1048576 : Int) ∧ (1048576 : Int) ≤ 1048576 := by omega
  rcases Int.lt_or_le 1048576 (al.length : Int) with hfit | hfit
  · refine (szPtS_no al aA ac 1048576 _ (by omega) (by omega) hm_a hfit).mono ?_
    rintro e wN ⟨rfl, hb⟩
    go_wp2_with fail
    go_ret
    have bp := bW0.out
    exact ⟨rfl, by repeat' (first | with_reducible assumption | with_reducible exact Below.refl _ _ | (with_reducible refine Below.setCell ?_ ?_ _) | (with_reducible refine Below.alloc ?_ ?_ _) | (with_reducible refine Below.drew ?_) | (with_reducible refine below_dr ?_ _) | (with_reducible refine Below.trans ?_ (Below.mono (by with_reducible assumption) ?_)) | omega | (simp; done) | (simp; omega))⟩
  have hl_a : al.length ≤ 1048576 := by omega
  refine (szPtS_yes al aA ac 1048576 _ (by omega) (by omega) hm_a hfit).mono ?_
  obtain ⟨V0, hV⟩ : ∃ V : Int, V = 1048576 - al.length := ⟨_, rfl⟩
  have hVV : 0 ≤ V0 ∧ V0 ≤ 1048576 := by omega
  rw [← hV]
  rintro e wS0 ⟨rfl, hbwS0⟩
  clear hV hfit hV0
  obtain ⟨hV0_0, hV1_0⟩ := hVV
  have zwS0 := hbwS0.size
  (try simp only [World.size_setCell] at zwS0)
  (try simp only [World.size_drew] at zwS0)
  (try simp only [World.size_alloc] at zwS0)
  have qwS0 : w.heap.size ≤ wS0.heap.size := by omega
  have rd_awS0 : Rd cPt 2 wS0 (w.heap.size) aA al := by repeat' (first | with_reducible assumption | (with_reducible refine Rd.drew ?_) | (with_reducible refine Rd.carry ?_ (by with_reducible assumption) ?_) | (with_reducible refine Rd.alloc ?_ ?_ _) | (with_reducible refine Rd.setCell ?_ ?_ _) | omega | (simp; done) | (simp; omega))
  have bx_f0wS0 : AtL (w.heap.size) [.int .i64 x, .int .i64 y] wS0 := by repeat' (first | with_reducible assumption | with_reducible exact AtL.new _ _ _ | ((with_reducible refine AtL.newAt ?_); (first | rfl | (simp; done))) | (with_reducible refine AtL.drew ?_) | (with_reducible refine AtL.below ?_ (by with_reducible assumption)) | (with_reducible refine AtL.alloc ?_ _) | (with_reducible refine AtL.far ?_ ?_ _ _) | omega | (simp; done) | (simp; omega))
  have bp := bW0.out
  have bn : Below w.heap.size w wS0 := by repeat' (first | with_reducible assumption | with_reducible exact Below.refl _ _ | (with_reducible refine Below.setCell ?_ ?_ _) | (with_reducible refine Below.alloc ?_ ?_ _) | (with_reducible refine Below.drew ?_) | (with_reducible refine below_dr ?_ _) | (with_reducible refine Below.trans ?_ (Below.mono (by with_reducible assumption) ?_)) | omega | (simp; done) | (simp; omega))
  have bwS0 := Lib.hid bn
  clear bn
  clear bp bW0
  clear hbwS0
  clear rd_aW0
  clear bx_f0W0
  have kbx_f00 := bx_f0wS0.cell 0 rfl
  have kbx_f01 := bx_f0wS0.cell 1 rfl
  have lbx_f0 := bx_f0wS0.lt
  go_wp2_with fail
  go_region_held3 (fun w' => (∀ b o, b < wS0.heap.size → w'.cell? ⟨b, o, none⟩ = wS0.cell? ⟨b, o, none⟩) ∧ wS0.heap.size ≤ w'.heap.size)
    (first | ((try dsimp only); exact ⟨fun b o h => (by (repeat (first | with_reducible exact rfl | (with_reducible refine (cell_drew_at _ _).trans ?_) | (with_reducible refine (cell_set_at _ _ (by first | omega | (simp; done) | (simp; omega))).trans ?_) | (with_reducible refine (cell_alloc_at _ _ (by first | omega | (simp; done) | (simp; omega))).trans ?_) | (with_reducible refine (hcwA0 b o (by first | omega | (simp; done) | (simp; omega))).trans ?_) | (with_reducible refine (hcwF0 b o (by first | omega | (simp; done) | (simp; omega))).trans ?_) | (with_reducible refine (hcwB b o (by first | omega | (simp; done) | (simp; omega))).trans ?_)))), (by first | omega | (simp; done) | (simp; omega))⟩) | fail)
    (first
      | (go_at_call 17; (with_reducible refine (toPtS_any al aA ac _ hl_a ?_).mono ?_); (focus ((refine Rd.more (B := w.heap.size) ?_ (by first | omega | ((try simp only [World.size_setCell]); (try simp only [World.size_drew]); (try simp only [World.size_alloc]); omega) | (simp; done) | (simp; omega))); (repeat' (first | with_reducible assumption | (with_reducible refine Rd.drew ?_) | (with_reducible refine Rd.carry ?_ (by with_reducible assumption) ?_) | (with_reducible refine Rd.alloc ?_ ?_ _) | (with_reducible refine Rd.setCell ?_ ?_ _) | omega | (simp; done) | (simp; omega))))); intro e wA0 hq; obtain ⟨gA_a, rfl, owA_a, hbwA0⟩ := hq; obtain ⟨hcwA0, hfwA0⟩ := bcell hbwA0; have hzwA0 := hbwA0.size; (try simp only [World.size_drew] at hcwA0 hfwA0 hzwA0); (try simp only [World.size_alloc] at hcwA0 hfwA0 hzwA0))
      | (go_at_call 13; (with_reducible refine (toPt_any x y _).mono ?_); rintro e wF0 ⟨rfl, hbwF0⟩; obtain ⟨hcwF0, hfwF0⟩ := bcell hbwF0; have hzwF0 := hbwF0.size; (try simp only [World.size_drew] at hcwF0 hfwF0 hzwF0); (try simp only [World.size_alloc] at hcwF0 hfwF0 hzwF0))
      | (go_at_call 16; (with_reducible refine (C1.out (some ⟨gA_a, 0, none⟩) al.length _ hl_a ?_).mono ?_); (focus ((refine Rd.more (B := wA0.heap.size) ?_ (by first | exact Nat.le_refl _ | omega | ((try simp only [World.size_drew]); (try simp only [World.size_alloc]); (try simp only [World.size_drew]); omega) | (simp; done) | (simp; omega))); (repeat' (first | with_reducible assumption | exact Rd.of_own (fun a => cPt_len a) (by omega) owA_a (Nat.le_refl _) | (with_reducible refine Rd.drew ?_) | (with_reducible refine Rd.alloc ?_ ?_ _) | (with_reducible refine Rd.carry ?_ (by with_reducible assumption) ?_) | exact Nat.le_refl _ | omega | (simp; done) | (simp; omega))))); rintro e wB ⟨rfl, hbwB⟩; obtain ⟨hcwB, hfwB⟩ := bcell hbwB; have hzwB := hbwB.size; (try simp only [World.size_drew] at hcwB hfwB hzwB); (try simp only [World.size_alloc] at hcwB hfwB hzwB)))
  clear kbx_f00 kbx_f01 lbx_f0
  all_goals
    have zwB := hbwB.size
    (try simp only [World.size_setCell] at zwB)
    (try simp only [World.size_drew] at zwB)
    (try simp only [World.size_alloc] at zwB)
    have qwB : w.heap.size ≤ wB.heap.size := by omega
    have rd_awB : Rd cPt 2 wB (w.heap.size) aA al := by repeat' (first | with_reducible assumption | (with_reducible refine Rd.drew ?_) | (with_reducible refine Rd.carry ?_ (by with_reducible assumption) ?_) | (with_reducible refine Rd.alloc ?_ ?_ _) | (with_reducible refine Rd.setCell ?_ ?_ _) | omega | (simp; done) | (simp; omega))
    have bx_f0wB : AtL (w.heap.size) [.int .i64 x, .int .i64 y] wB := by repeat' (first | with_reducible assumption | with_reducible exact AtL.new _ _ _ | ((with_reducible refine AtL.newAt ?_); (first | rfl | (simp; done))) | (with_reducible refine AtL.drew ?_) | (with_reducible refine AtL.below ?_ (by with_reducible assumption)) | (with_reducible refine AtL.alloc ?_ _) | (with_reducible refine AtL.far ?_ ?_ _ _) | omega | (simp; done) | (simp; omega))
    have bp := bwS0.out
    have bn : Below w.heap.size w wB := by repeat' (first | with_reducible assumption | with_reducible exact Below.refl _ _ | (with_reducible refine Below.setCell ?_ ?_ _) | (with_reducible refine Below.alloc ?_ ?_ _) | (with_reducible refine Below.drew ?_) | (with_reducible refine below_dr ?_ _) | (with_reducible refine Below.trans ?_ (Below.mono (by with_reducible assumption) ?_)) | omega | (simp; done) | (simp; omega))
    have bwB := Lib.hid bn
    clear bn
    clear bp bwS0
    clear hbwB
    clear rd_awS0
    clear bx_f0wS0
    clear hbwA0 hcwA0 hfwA0 hbwF0 hcwF0 hfwF0 hcwB hfwB owA_a
    go_wp2_with fail
    refine (toPtS_any al aA ac _ hl_a ?_).mono ?_
    · (refine Rd.more (B := w.heap.size) ?_ (by first | omega | ((try simp only [World.size_setCell]); (try simp only [World.size_drew]); (try simp only [World.size_alloc]); omega) | (simp; done) | (simp; omega))); (repeat' (first | with_reducible assumption | (with_reducible refine Rd.drew ?_) | (with_reducible refine Rd.carry ?_ (by with_reducible assumption) ?_) | (with_reducible refine Rd.alloc ?_ ?_ _) | (with_reducible refine Rd.setCell ?_ ?_ _) | omega | (simp; done) | (simp; omega)))
    intro e wX0 hq
    obtain ⟨gX_a, rfl, ow, hbwX0⟩ := hq
    have zwX0 := hbwX0.size
    (try simp only [World.size_setCell] at zwX0)
    (try simp only [World.size_drew] at zwX0)
    (try simp only [World.size_alloc] at zwX0)
    have qwX0 : w.heap.size ≤ wX0.heap.size := by omega
    have rd_awX0 : Rd cPt 2 wX0 (w.heap.size) aA al := by repeat' (first | with_reducible assumption | (with_reducible refine Rd.drew ?_) | (with_reducible refine Rd.carry ?_ (by with_reducible assumption) ?_) | (with_reducible refine Rd.alloc ?_ ?_ _) | (with_reducible refine Rd.setCell ?_ ?_ _) | omega | (simp; done) | (simp; omega))
    have bx_f0wX0 : AtL (w.heap.size) [.int .i64 x, .int .i64 y] wX0 := by repeat' (first | with_reducible assumption | with_reducible exact AtL.new _ _ _ | ((with_reducible refine AtL.newAt ?_); (first | rfl | (simp; done))) | (with_reducible refine AtL.drew ?_) | (with_reducible refine AtL.below ?_ (by with_reducible assumption)) | (with_reducible refine AtL.alloc ?_ _) | (with_reducible refine AtL.far ?_ ?_ _ _) | omega | (simp; done) | (simp; omega))
    have bp := bwB.out
    have bn : Below w.heap.size w wX0 := by repeat' (first | with_reducible assumption | with_reducible exact Below.refl _ _ | (with_reducible refine Below.setCell ?_ ?_ _) | (with_reducible refine Below.alloc ?_ ?_ _) | (with_reducible refine Below.drew ?_) | (with_reducible refine below_dr ?_ _) | (with_reducible refine Below.trans ?_ (Below.mono (by with_reducible assumption) ?_)) | omega | (simp; done) | (simp; omega))
    have bwX0 := Lib.hid bn
    clear bn
    clear bp bwB
    clear hbwX0
    clear rd_awB
    clear bx_f0wB
    have rx_awX0 : Rd cPt 2 wX0 (wX0.heap.size) (some ⟨gX_a, 0, none⟩) al := Rd.of_own (fun a => cPt_len a) (by omega) ow (Nat.le_refl _)
    clear ow
    have kbx_f00 := bx_f0wX0.cell 0 rfl
    have kbx_f01 := bx_f0wX0.cell 1 rfl
    have lbx_f0 := bx_f0wX0.lt
    go_wp2_with fail
    clear kbx_f00 kbx_f01 lbx_f0
    refine (toPt_any x y _).mono ?_
    rintro e wXF0 ⟨rfl, hbwXF0⟩
    have zwXF0 := hbwXF0.size
    (try simp only [World.size_setCell] at zwXF0)
    (try simp only [World.size_drew] at zwXF0)
    (try simp only [World.size_alloc] at zwXF0)
    have qwXF0 : w.heap.size ≤ wXF0.heap.size := by omega
    have rd_awXF0 : Rd cPt 2 wXF0 (w.heap.size) aA al := by repeat' (first | with_reducible assumption | (with_reducible refine Rd.drew ?_) | (with_reducible refine Rd.carry ?_ (by with_reducible assumption) ?_) | (with_reducible refine Rd.alloc ?_ ?_ _) | (with_reducible refine Rd.setCell ?_ ?_ _) | omega | (simp; done) | (simp; omega))
    have bx_f0wXF0 : AtL (w.heap.size) [.int .i64 x, .int .i64 y] wXF0 := by repeat' (first | with_reducible assumption | with_reducible exact AtL.new _ _ _ | ((with_reducible refine AtL.newAt ?_); (first | rfl | (simp; done))) | (with_reducible refine AtL.drew ?_) | (with_reducible refine AtL.below ?_ (by with_reducible assumption)) | (with_reducible refine AtL.alloc ?_ _) | (with_reducible refine AtL.far ?_ ?_ _ _) | omega | (simp; done) | (simp; omega))
    have rx_awXF0 : Rd cPt 2 wXF0 (wX0.heap.size) (some ⟨gX_a, 0, none⟩) al := by repeat' (first | with_reducible assumption | (with_reducible refine Rd.drew ?_) | (with_reducible refine Rd.carry ?_ (by with_reducible assumption) ?_) | (with_reducible refine Rd.alloc ?_ ?_ _) | (with_reducible refine Rd.setCell ?_ ?_ _) | omega | (simp; done) | (simp; omega))
    have bp := bwX0.out
    have bn : Below w.heap.size w wXF0 := by repeat' (first | with_reducible assumption | with_reducible exact Below.refl _ _ | (with_reducible refine Below.setCell ?_ ?_ _) | (with_reducible refine Below.alloc ?_ ?_ _) | (with_reducible refine Below.drew ?_) | (with_reducible refine below_dr ?_ _) | (with_reducible refine Below.trans ?_ (Below.mono (by with_reducible assumption) ?_)) | omega | (simp; done) | (simp; omega))
    have bwXF0 := Lib.hid bn
    clear bn
    clear bp bwX0
    clear hbwXF0
    clear rd_awX0
    clear bx_f0wX0
    clear rx_awX0
    go_wp2_with fail
    refine (C2.out (some ⟨gX_a, 0, none⟩) al.length _ hl_a ?_).mono ?_
    · (refine Rd.more (B := wX0.heap.size) ?_ (by first | omega | ((try simp only [World.size_setCell]); (try simp only [World.size_drew]); (try simp only [World.size_alloc]); omega) | (simp; done) | (simp; omega))); (repeat' (first | with_reducible assumption | (with_reducible refine Rd.drew ?_) | (with_reducible refine Rd.carry ?_ (by with_reducible assumption) ?_) | (with_reducible refine Rd.alloc ?_ ?_ _) | (with_reducible refine Rd.setCell ?_ ?_ _) | omega | (simp; done) | (simp; omega)))
    rintro e wI ⟨rfl, hbwI⟩
    have zwI := hbwI.size
    (try simp only [World.size_setCell] at zwI)
    (try simp only [World.size_drew] at zwI)
    (try simp only [World.size_alloc] at zwI)
    have qwI : w.heap.size ≤ wI.heap.size := by omega
    have rd_awI : Rd cPt 2 wI (w.heap.size) aA al := by repeat' (first | with_reducible assumption | (with_reducible refine Rd.drew ?_) | (with_reducible refine Rd.carry ?_ (by with_reducible assumption) ?_) | (with_reducible refine Rd.alloc ?_ ?_ _) | (with_reducible refine Rd.setCell ?_ ?_ _) | omega | (simp; done) | (simp; omega))
    have bx_f0wI : AtL (w.heap.size) [.int .i64 x, .int .i64 y] wI := by repeat' (first | with_reducible assumption | with_reducible exact AtL.new _ _ _ | ((with_reducible refine AtL.newAt ?_); (first | rfl | (simp; done))) | (with_reducible refine AtL.drew ?_) | (with_reducible refine AtL.below ?_ (by with_reducible assumption)) | (with_reducible refine AtL.alloc ?_ _) | (with_reducible refine AtL.far ?_ ?_ _ _) | omega | (simp; done) | (simp; omega))
    have rx_awI : Rd cPt 2 wI (wX0.heap.size) (some ⟨gX_a, 0, none⟩) al := by repeat' (first | with_reducible assumption | (with_reducible refine Rd.drew ?_) | (with_reducible refine Rd.carry ?_ (by with_reducible assumption) ?_) | (with_reducible refine Rd.alloc ?_ ?_ _) | (with_reducible refine Rd.setCell ?_ ?_ _) | omega | (simp; done) | (simp; omega))
    have bp := bwXF0.out
    have bn : Below w.heap.size w wI := by repeat' (first | with_reducible assumption | with_reducible exact Below.refl _ _ | (with_reducible refine Below.setCell ?_ ?_ _) | (with_reducible refine Below.alloc ?_ ?_ _) | (with_reducible refine Below.drew ?_) | (with_reducible refine below_dr ?_ _) | (with_reducible refine Below.trans ?_ (Below.mono (by with_reducible assumption) ?_)) | omega | (simp; done) | (simp; omega))
    have bwI := Lib.hid bn
    clear bn
    clear bp bwXF0
    clear hbwI
    clear rd_awXF0
    clear bx_f0wXF0
    clear rx_awXF0
    go_wp2_with fail
    refine (toPtS_any al aA ac _ hl_a ?_).mono ?_
    · (refine Rd.more (B := w.heap.size) ?_ (by first | omega | ((try simp only [World.size_setCell]); (try simp only [World.size_drew]); (try simp only [World.size_alloc]); omega) | (simp; done) | (simp; omega))); (repeat' (first | with_reducible assumption | (with_reducible refine Rd.drew ?_) | (with_reducible refine Rd.carry ?_ (by with_reducible assumption) ?_) | (with_reducible refine Rd.alloc ?_ ?_ _) | (with_reducible refine Rd.setCell ?_ ?_ _) | omega | (simp; done) | (simp; omega)))
    intro e wT0 hq
    obtain ⟨gT_a, rfl, ow, hbwT0⟩ := hq
    have zwT0 := hbwT0.size
    (try simp only [World.size_setCell] at zwT0)
    (try simp only [World.size_drew] at zwT0)
    (try simp only [World.size_alloc] at zwT0)
    have qwT0 : w.heap.size ≤ wT0.heap.size := by omega
    have rd_awT0 : Rd cPt 2 wT0 (w.heap.size) aA al := by repeat' (first | with_reducible assumption | (with_reducible refine Rd.drew ?_) | (with_reducible refine Rd.carry ?_ (by with_reducible assumption) ?_) | (with_reducible refine Rd.alloc ?_ ?_ _) | (with_reducible refine Rd.setCell ?_ ?_ _) | omega | (simp; done) | (simp; omega))
    have bx_f0wT0 : AtL (w.heap.size) [.int .i64 x, .int .i64 y] wT0 := by repeat' (first | with_reducible assumption | with_reducible exact AtL.new _ _ _ | ((with_reducible refine AtL.newAt ?_); (first | rfl | (simp; done))) | (with_reducible refine AtL.drew ?_) | (with_reducible refine AtL.below ?_ (by with_reducible assumption)) | (with_reducible refine AtL.alloc ?_ _) | (with_reducible refine AtL.far ?_ ?_ _ _) | omega | (simp; done) | (simp; omega))
    have rx_awT0 : Rd cPt 2 wT0 (wX0.heap.size) (some ⟨gX_a, 0, none⟩) al := by repeat' (first | with_reducible assumption | (with_reducible refine Rd.drew ?_) | (with_reducible refine Rd.carry ?_ (by with_reducible assumption) ?_) | (with_reducible refine Rd.alloc ?_ ?_ _) | (with_reducible refine Rd.setCell ?_ ?_ _) | omega | (simp; done) | (simp; omega))
    have bp := bwI.out
    have bn : Below w.heap.size w wT0 := by repeat' (first | with_reducible assumption | with_reducible exact Below.refl _ _ | (with_reducible refine Below.setCell ?_ ?_ _) | (with_reducible refine Below.alloc ?_ ?_ _) | (with_reducible refine Below.drew ?_) | (with_reducible refine below_dr ?_ _) | (with_reducible refine Below.trans ?_ (Below.mono (by with_reducible assumption) ?_)) | omega | (simp; done) | (simp; omega))
    have bwT0 := Lib.hid bn
    clear bn
    clear bp bwI
    clear hbwT0
    clear rd_awI
    clear bx_f0wI
    clear rx_awI
    have rt_awT0 : Rd cPt 2 wT0 (wT0.heap.size) (some ⟨gT_a, 0, none⟩) al := Rd.of_own (fun a => cPt_len a) (by omega) ow (Nat.le_refl _)
    clear ow
    go_wp2_with fail
    refine (eqPtS_same al (some ⟨gX_a, 0, none⟩) (some ⟨gT_a, 0, none⟩) al.length al.length _ (by omega) ?_ ?_).mono ?_
    · (refine Rd.more (B := wX0.heap.size) ?_ (by first | omega | ((try simp only [World.size_setCell]); (try simp only [World.size_drew]); (try simp only [World.size_alloc]); omega) | (simp; done) | (simp; omega))); (repeat' (first | with_reducible assumption | (with_reducible refine Rd.drew ?_) | (with_reducible refine Rd.carry ?_ (by with_reducible assumption) ?_) | (with_reducible refine Rd.alloc ?_ ?_ _) | (with_reducible refine Rd.setCell ?_ ?_ _) | omega | (simp; done) | (simp; omega)))
    · (refine Rd.more (B := wT0.heap.size) ?_ (by first | omega | ((try simp only [World.size_setCell]); (try simp only [World.size_drew]); (try simp only [World.size_alloc]); omega) | (simp; done) | (simp; omega))); (repeat' (first | with_reducible assumption | (with_reducible refine Rd.drew ?_) | (with_reducible refine Rd.carry ?_ (by with_reducible assumption) ?_) | (with_reducible refine Rd.alloc ?_ ?_ _) | (with_reducible refine Rd.setCell ?_ ?_ _) | omega | (simp; done) | (simp; omega)))
    rintro e wE0 ⟨rfl, hbwE0⟩
    have zwE0 := hbwE0.size
    (try simp only [World.size_setCell] at zwE0)
    (try simp only [World.size_drew] at zwE0)
    (try simp only [World.size_alloc] at zwE0)
    have qwE0 : w.heap.size ≤ wE0.heap.size := by omega
    have rd_awE0 : Rd cPt 2 wE0 (w.heap.size) aA al := by repeat' (first | with_reducible assumption | (with_reducible refine Rd.drew ?_) | (with_reducible refine Rd.carry ?_ (by with_reducible assumption) ?_) | (with_reducible refine Rd.alloc ?_ ?_ _) | (with_reducible refine Rd.setCell ?_ ?_ _) | omega | (simp; done) | (simp; omega))
    have bx_f0wE0 : AtL (w.heap.size) [.int .i64 x, .int .i64 y] wE0 := by repeat' (first | with_reducible assumption | with_reducible exact AtL.new _ _ _ | ((with_reducible refine AtL.newAt ?_); (first | rfl | (simp; done))) | (with_reducible refine AtL.drew ?_) | (with_reducible refine AtL.below ?_ (by with_reducible assumption)) | (with_reducible refine AtL.alloc ?_ _) | (with_reducible refine AtL.far ?_ ?_ _ _) | omega | (simp; done) | (simp; omega))
    have rx_awE0 : Rd cPt 2 wE0 (wX0.heap.size) (some ⟨gX_a, 0, none⟩) al := by repeat' (first | with_reducible assumption | (with_reducible refine Rd.drew ?_) | (with_reducible refine Rd.carry ?_ (by with_reducible assumption) ?_) | (with_reducible refine Rd.alloc ?_ ?_ _) | (with_reducible refine Rd.setCell ?_ ?_ _) | omega | (simp; done) | (simp; omega))
    have rt_awE0 : Rd cPt 2 wE0 (wT0.heap.size) (some ⟨gT_a, 0, none⟩) al := by repeat' (first | with_reducible assumption | (with_reducible refine Rd.drew ?_) | (with_reducible refine Rd.carry ?_ (by with_reducible assumption) ?_) | (with_reducible refine Rd.alloc ?_ ?_ _) | (with_reducible refine Rd.setCell ?_ ?_ _) | omega | (simp; done) | (simp; omega))
    have bp := bwT0.out
    have bn : Below w.heap.size w wE0 := by repeat' (first | with_reducible assumption | with_reducible exact Below.refl _ _ | (with_reducible refine Below.setCell ?_ ?_ _) | (with_reducible refine Below.alloc ?_ ?_ _) | (with_reducible refine Below.drew ?_) | (with_reducible refine below_dr ?_ _) | (with_reducible refine Below.trans ?_ (Below.mono (by with_reducible assumption) ?_)) | omega | (simp; done) | (simp; omega))
    have bwE0 := Lib.hid bn
    clear bn
    clear bp bwT0
    clear hbwE0
    clear rd_awT0
    clear bx_f0wT0
    clear rx_awT0
    clear rt_awT0
    clear rt_awE0
    clear rx_awE0
    go_wp2_with fail
    go_ret
    have bp := bwE0.out
    exact ⟨rfl, by repeat' (first | with_reducible assumption | with_reducible exact Below.refl _ _ | (with_reducible refine Below.setCell ?_ ?_ _) | (with_reducible refine Below.alloc ?_ ?_ _) | (with_reducible refine Below.drew ?_) | (with_reducible refine below_dr ?_ _) | (with_reducible refine Below.trans ?_ (Below.mono (by with_reducible assumption) ?_)) | omega | (simp; done) | (simp; omega))⟩
end Go.Proofs.Ytjhboedaaeaomaa
