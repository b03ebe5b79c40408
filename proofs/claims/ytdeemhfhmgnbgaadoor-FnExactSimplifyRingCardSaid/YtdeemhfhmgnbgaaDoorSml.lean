/- Walks: the law on SimplifyRing: it returns true. -/
import Derived.Test.YtdeemhfhmgnbgaaDoorSmk
import Derived.Deep.RegionHeld3
namespace Go.Proofs.YtdeemhfhmgnbgaaDoor
open Go.RowKit
set_option linter.unusedVariables false
def markC (z : Nat) : Bool := decide (z % 3 = 0)
theorem markC_is (z : Nat) (c : Int) (hc : c = (z : Int)) : (c % 3 == 0) = markC z := by
  subst hc
  unfold markC
  rw [Bool.eq_iff_iff, beq_iff_eq, decide_eq_true_iff]
  omega
def marksPt (k n : Nat) : List APt := (List.range n).map fun i => (((k + 2 * i : Nat) : Int), ((k + 2 * i : Nat) : Int) + 1)
theorem marksPt_len (k n : Nat) : (marksPt k n).length = n := by simp [marksPt]
theorem marksPt_at {k n i : Nat} (h : i < n) : (marksPt k n)[i]? = some (((k + 2 * i : Nat) : Int), ((k + 2 * i : Nat) : Int) + 1) := by simp [marksPt, h]
set_option maxHeartbeats 1600000 in
theorem markPtS_any (k n : Nat) (A : Option Addr) (c base : Nat) (xs : List Value) (w : World) (hk : 1 ≤ k) (hn : k + 2 * n ≤ 4611686018427387904) (h1 : w.ownsRow base 52 2 (.slice A n c) n xs) :
    Calls Tryd.prog 19 #[.slice A n c, .int .i64 k] w fun e w' => e = .returned (.int .i64 ((k + 2 * n : Nat) : Int)) ∧ w'.ownsRow base 52 2 (.slice A n c) n (cellsF cPt (marksPt k n)) ∧ w.grownBy w' (Value.slice A n c).ownBlock := by
  go_enter Tryd.func19, Tryd.ntmps19
  go_wp2_with fail
  go_loopw [1, 5] (fun j i wr => ∃ (m : Nat) (ys : List Value), m ≤ n ∧ i = .int .i64 m ∧ j = .int .i64 ((k + 2 * m : Nat) : Int) ∧ wr.ownsRow base 52 2 (.slice A n c) n ys ∧ Filled cPt 2 (marksPt k n) m ys ∧ w.grownBy wr (Value.slice A n c).ownBlock) (fun _ i _ => n - (intOf i).toNat)
  case atStart => exact ⟨0, _, Nat.zero_le _, rfl, rfl, h1, Filled.zero, World.grownBy.refl _ _⟩
  case round =>
    obtain ⟨m, ys, hm, rfl, rfl, hown, hfil, hg⟩ := hrel
    have hxl : ys.length = n * 2 := hown.1
    have HX := Lib.hid hxl
    clear hxl
    by_cases hlt : m < n
    · obtain ⟨g, cap, hv, _, hgl⟩ := hown.form (by omega)
      obtain rfl : A = some ⟨g, 0, none⟩ := by injection hv
      have hat := marksPt_at (k := k) hlt
      obtain ⟨z, hz⟩ : ∃ z : Nat, z = k + 2 * m := ⟨_, rfl⟩
      rw [← hz] at hat ⊢
      have HZ := Lib.hid hz
      have hz2 : z + 2 ≤ 4611686018427387904 := by omega
      have hz1 : 1 ≤ z := by omega
      clear hz hv h1
      have hstep := Lib.hid (fun h => Filled.step2 hfil hat h (rfl : cPt _ = _))
      have hki : (m : Int) < (n : Int) := by omega
      clear hat hfil
      obtain ⟨yo0, y0⟩ : ∃ v, wr.cell? ⟨g, m * 2, none⟩ = some v := ⟨_, (hown.cellAt (m * 2) (by have := HX.out; omega)).trans (List.getElem?_eq_getElem (by have := HX.out; omega))⟩
      have yf0 : wr.frozen? ⟨g, m * 2, none⟩ = false := hown.frozenAt (m * 2)
      obtain ⟨yo1, y1⟩ : ∃ v, wr.cell? ⟨g, m * 2 + 1, none⟩ = some v := ⟨_, (hown.cellAt (m * 2 + 1) (by have := HX.out; omega)).trans (List.getElem?_eq_getElem (by have := HX.out; omega))⟩
      have yf1 : wr.frozen? ⟨g, m * 2 + 1, none⟩ = false := hown.frozenAt (m * 2 + 1)
      go_wp2_with fail
      go_roundw
      case rel =>
        have hst0 := World.ownsRow.stored (hown) (m * 2) (.int .i64 ((z : Nat) : Int))
        have hst1 := World.ownsRow.stored (hst0.1) (m * 2 + 1) (.int .i64 ((z : Int) + 1))
        exact ⟨m + 1, _, by omega, by go_num, by have := HZ.out; go_num, hst1.1, hstep.out (by have := HX.out; omega), (grownBy_trans (grownBy_trans hg hst0.2) hst1.2)⟩
      case measure => simp [intOf]; omega
    · obtain rfl : m = n := by omega
      go_wp2_with fail
      go_ret
      have hx := Filled.done (fun a => cPt_len a) (by omega) (by rw [marksPt_len]; exact hfil) (by rw [marksPt_len]; exact HX.out)
      rw [hx] at hown
      exact ⟨rfl, hown, hg⟩
set_option maxHeartbeats 1600000 in
theorem heldPtS_any (k n : Nat) (A : Option Addr) (c : Nat) (w : World) (hk : 1 ≤ k) (hn : k + 2 * n ≤ 4611686018427387904) (hr : Rd cPt 2 w w.heap.size A (marksPt k n)) :
    Calls Tryd.prog 20 #[.slice A n c, .int .i64 k] w fun e w' => e = .returned (.int .i64 ((k + 2 * n : Nat) : Int)) ∧ Below w.heap.size w w' := by
  go_enter Tryd.func20, Tryd.ntmps20
  go_wp2_with fail
  go_loopw [1, 5] (fun j i wr => ∃ m : Nat, m ≤ n ∧ i = .int .i64 m ∧ j = .int .i64 ((k + 2 * m : Nat) : Int) ∧ Below w.heap.size w wr) (fun _ i _ => n - (intOf i).toNat)
  case atStart => exact ⟨0, Nat.zero_le _, rfl, rfl, by repeat' (first | with_reducible assumption | with_reducible exact Below.refl _ _ | (with_reducible refine Below.setCell ?_ ?_ _) | (with_reducible refine Below.alloc ?_ ?_ _) | (with_reducible refine Below.drew ?_) | (with_reducible refine below_dr ?_ _) | (with_reducible refine Below.trans ?_ (Below.mono (by with_reducible assumption) ?_)) | omega | (simp; done) | (simp; omega))⟩
  case round =>
    obtain ⟨m, hm, rfl, rfl, hbl⟩ := hrel
    by_cases hlt : m < n
    · have ha := marksPt_at (k := k) hlt
      obtain ⟨g, o, rfl, hgb, hc⟩ := (hr.below hbl).elem ha
      obtain ⟨z, hz⟩ : ∃ z : Nat, z = k + 2 * m := ⟨_, rfl⟩
      rw [← hz] at hc ⊢
      have HZ := Lib.hid hz
      have hz2 : z + 2 ≤ 4611686018427387904 := by omega
      have hz1 : 1 ≤ z := by omega
      clear hz ha hr
      have d0 : (((z : Int)) != ((z : Int))) = false := by simp
      have d1 : (((z : Int) + 1) != ((z : Int) + 1)) = false := by simp
      have c0 : wr.cell? ⟨g, o + m * 2, none⟩ = some (.int .i64 (z : Int)) := hc 0 _ rfl
      have c1 : wr.cell? ⟨g, o + m * 2 + 1, none⟩ = some (.int .i64 ((z : Int) + 1)) := hc 1 _ rfl
      clear hc
      have hzr := hbl.size
      have hgw : g < wr.heap.size := by omega
      have hki : (m : Int) < (n : Int) := by omega
      go_wp2_with fail
      go_roundw
      case rel => exact ⟨m + 1, by omega, by go_num, by have := HZ.out; go_num, by repeat' (first | with_reducible assumption | with_reducible exact Below.refl _ _ | (with_reducible refine Below.setCell ?_ ?_ _) | (with_reducible refine Below.alloc ?_ ?_ _) | (with_reducible refine Below.drew ?_) | (with_reducible refine below_dr ?_ _) | (with_reducible refine Below.trans ?_ (Below.mono (by with_reducible assumption) ?_)) | omega | (simp; done) | (simp; omega))⟩
      case measure => simp [intOf]; omega
    · obtain rfl : m = n := by omega
      go_wp2_with fail
      go_ret
      exact ⟨rfl, hbl⟩
theorem grownBy_alloc_l {w w' : World} {o : Obj} {row : Option Nat} (h : (w.alloc o).grownBy w' row) : w.grownBy w' row := grownBy_trans (World.grownBy_alloc w o row) h
set_option maxHeartbeats 1600000 in
theorem markRing_any (x0A : Option Addr) (x0c : Nat)  (k n base : Nat) (xs : List Value) (w : World) (hk : 1 ≤ k) (hn : k + 2 * n ≤ 4611686018427387904) (h1 : w.ownsRow base 52 2 (.slice x0A n x0c) n xs) :
    Calls Tryd.prog 9 #[.agg #[.slice x0A n x0c], .int .i64 k] w fun e w' => e = .returned (.int .i64 ((k + 2 * n : Nat) : Int)) ∧ w'.ownsRow base 52 2 (.slice x0A n x0c) n (cellsF cPt (marksPt k n)) ∧ w.grownBy w' (Value.slice x0A n x0c).ownBlock := by
  go_enter Tryd.func9, Tryd.ntmps9
  go_wp2_with fail
  refine (markPtS_any k n x0A x0c base xs _ hk hn (h1.alloc _)).mono ?_
  rintro e wZ ⟨rfl, hown, hg⟩
  replace hg := grownBy_alloc_l hg
  go_wp2_with fail
  go_ret
  exact ⟨rfl, hown, hg⟩
set_option maxHeartbeats 1600000 in
theorem heldRing_any (x0A : Option Addr) (x0c : Nat)  (k n : Nat) (w : World) (hk : 1 ≤ k) (hn : k + 2 * n ≤ 4611686018427387904) (r_x0 : Rd cPt 2 w w.heap.size x0A (marksPt k n)) :
    Calls Tryd.prog 10 #[.agg #[.slice x0A n x0c], .int .i64 k] w fun e w' => e = .returned (.int .i64 ((k + 2 * n : Nat) : Int)) ∧ Below w.heap.size w w' := by
  obtain ⟨V, hV⟩ : ∃ V : Int, V = ((k + 2 * n : Nat) : Int) := ⟨_, rfl⟩
  have hz0 : 0 ≤ V := by omega
  rw [← hV]
  have HV := Lib.hid hV
  clear hV
  go_enter Tryd.func10, Tryd.ntmps10
  go_wp2_with fail
  refine (heldPtS_any k n x0A x0c _ hk hn ?_).mono ?_
  · exact (r_x0.below (by repeat' (first | with_reducible assumption | with_reducible exact Below.refl _ _ | (with_reducible refine Below.setCell ?_ ?_ _) | (with_reducible refine Below.alloc ?_ ?_ _) | (with_reducible refine Below.drew ?_) | (with_reducible refine below_dr ?_ _) | (with_reducible refine Below.trans ?_ (Below.mono (by with_reducible assumption) ?_)) | omega | (simp; done) | (simp; omega)))).more (by (try simp only [World.size_setCell]); (try simp only [World.size_drew]); (try simp only [World.size_alloc]); omega)
  rw [← HV.out]
  rintro e wZ ⟨rfl, hbZ⟩
  go_wp2_with fail
  go_ret
  exact ⟨rfl, by repeat' (first | with_reducible assumption | with_reducible exact Below.refl _ _ | (with_reducible refine Below.setCell ?_ ?_ _) | (with_reducible refine Below.alloc ?_ ?_ _) | (with_reducible refine Below.drew ?_) | (with_reducible refine below_dr ?_ _) | (with_reducible refine Below.trans ?_ (Below.mono (by with_reducible assumption) ?_)) | omega | (simp; done) | (simp; omega))⟩
/-- What the row's list gives: the sentinel's variable holds a pointer to an errors.errorString. -/
def SentIs (w : World) : Prop := 0 < w.heap.size ∧ ∃ b : Addr, w.cell? ⟨0, 0, none⟩ = some (.iface 79 (.pointer (some b)))
theorem spL_len (l : List APt) : (spL l).length ≤ 1048576 := by
  unfold spL
  rcases hv : vRg l with _ | _
  · simp
  · rw [cond_true]
    have h := vRg_parts hv
    have := smp_len l.length l
    omega
set_option maxRecDepth 100000 in
set_option maxHeartbeats 12800000 in
theorem walk_SimplifyRing (a : ARing) (w : World) (k_a : okRing w w.heap.size a) (hs : SentIs w) :
    Calls Tryd.prog 3 #[.agg #[.slice a.1 a.2.2.length a.2.1]] w fun e w' => e = .returned (.bool true) ∧ Below w.heap.size w w' := by
  obtain ⟨a0A, a0c, a0l⟩ := a
  obtain ⟨nc_a0, cm_a0, rd_a0, ok_a0⟩ := k_a
  simp only at nc_a0 cm_a0 rd_a0 ok_a0 ⊢
  have hm_a0 : a0l.length ≤ 9223372036854775807 := by unfold maxLen at cm_a0; omega
  have HOK_a0 := Lib.hid (show ∀ (w2 : World) (B : Nat) (i : Nat) (b : APt), a0l[i]? = some b → okPt w2 B b from fun _ _ i b h => ok_a0 i b h)
  clear ok_a0 nc_a0 cm_a0
  obtain ⟨hz, b, hG⟩ := hs
  have C1 := Lib.hid (fun A c w hl r => specSimp_any a0l A c w hl r)
  have C2 := Lib.hid (fun A c w1 (hb : Below w.heap.size w w1) hl r => implSimp_any a0l A c b w1 hl (by have := hb.size; omega) ((hb.cell (p := ⟨0, 0, none⟩) hz).trans hG) r)
  have hll := spL_len a0l
  unfold RgRet at C1 C2
  generalize spL a0l = l2 at *
  generalize spC a0l = code at *
  have e_c : (code != code) = false := by simp
  have hzz := Lib.hid hz
  clear hG hz
  obtain ⟨M, hM⟩ : ∃ M : Int, M = ((1 + 2 * l2.length : Nat) : Int) := ⟨_, rfl⟩
  have hM0 : 0 ≤ M := by omega
  have HM := Lib.hid hM
  have e_M : (M != M) = false := by simp
  clear hM
  obtain ⟨M1, hM1⟩ : ∃ M1 : Int, M1 = ((1 + 2 * a0l.length : Nat) : Int) := ⟨_, rfl⟩
  have hM10 : 0 ≤ M1 := by omega
  have HM1 := Lib.hid hM1
  clear hM1
  go_enter Tryd.func3, Tryd.ntmps3
  go_wp2_with fail
  generalize hW : (w.alloc (.cells #[.slice a0A a0l.length a0c] 24)) = W0
  have rd_a0w : Rd cPt 2 w (w.heap.size) a0A a0l := rd_a0
  have bx_aW0 : AtL (w.heap.size) [.slice a0A a0l.length a0c] W0 := by rw [← hW]; repeat' (first | with_reducible assumption | with_reducible exact AtL.new _ _ _ | ((with_reducible refine AtL.newAt ?_); (first | rfl | (simp; done))) | (with_reducible refine AtL.drew ?_) | (with_reducible refine AtL.below ?_ (by with_reducible assumption)) | (with_reducible refine AtL.alloc ?_ _) | (with_reducible refine AtL.far ?_ ?_ _ _) | omega | (simp; done) | (simp; omega))
  have rd_a0W0 : Rd cPt 2 W0 (w.heap.size) a0A a0l := by rw [← hW]; repeat' (first | with_reducible assumption | (with_reducible refine Rd.drew ?_) | (with_reducible refine Rd.carry ?_ (by with_reducible assumption) ?_) | (with_reducible refine Rd.alloc ?_ ?_ _) | (with_reducible refine Rd.setCell ?_ ?_ _) | omega | (simp; done) | (simp; omega))
  have qW0 : w.heap.size ≤ W0.heap.size := by rw [← hW]; simp
  have bn : Below w.heap.size w W0 := by rw [← hW]; repeat' (first | with_reducible assumption | with_reducible exact Below.refl _ _ | (with_reducible refine Below.setCell ?_ ?_ _) | (with_reducible refine Below.alloc ?_ ?_ _) | (with_reducible refine Below.drew ?_) | (with_reducible refine below_dr ?_ _) | (with_reducible refine Below.trans ?_ (Below.mono (by with_reducible assumption) ?_)) | omega | (simp; done) | (simp; omega))
  have bW0 := Lib.hid bn
  clear hW bn
  clear rd_a0w rd_a0
  have hV0 : 0 ≤ (1048576 : Int) ∧ (1048576 : Int) ≤ 1048576 := by omega
  by_cases hfit : ((a0l.length : Nat) : Int) ≤ 1048576
  case neg =>
    replace hfit : 1048576 < ((a0l.length : Nat) : Int) := by omega
    refine (szRing_no a0A a0c a0l 1048576 _ (by omega) (by omega) hm_a0 hfit ?_ (HOK_a0.out _ _)).mono ?_
    · (refine Rd.more (B := w.heap.size) ?_ (by first | omega | ((try simp only [World.size_setCell]); (try simp only [World.size_drew]); (try simp only [World.size_alloc]); omega) | (simp; done) | (simp; omega))); (repeat' (first | with_reducible assumption | (with_reducible refine Rd.drew ?_) | (with_reducible refine Rd.carry ?_ (by with_reducible assumption) ?_) | (with_reducible refine Rd.alloc ?_ ?_ _) | (with_reducible refine Rd.setCell ?_ ?_ _) | omega | (simp; done) | (simp; omega)))
    rintro e wN ⟨rfl, hb⟩
    go_wp2_with fail
    go_ret
    have bp := bW0.out
    exact ⟨rfl, by repeat' (first | with_reducible assumption | with_reducible exact Below.refl _ _ | (with_reducible refine Below.setCell ?_ ?_ _) | (with_reducible refine Below.alloc ?_ ?_ _) | (with_reducible refine Below.drew ?_) | (with_reducible refine below_dr ?_ _) | (with_reducible refine Below.trans ?_ (Below.mono (by with_reducible assumption) ?_)) | omega | (simp; done) | (simp; omega))⟩
  case pos =>
    have hl_a0 : a0l.length ≤ 1048576 := by omega
    refine (szRing_yes a0A a0c a0l 1048576 _ (by omega) (by omega) (by omega) hfit ?_ (HOK_a0.out _ _)).mono ?_
    · (refine Rd.more (B := w.heap.size) ?_ (by first | omega | ((try simp only [World.size_setCell]); (try simp only [World.size_drew]); (try simp only [World.size_alloc]); omega) | (simp; done) | (simp; omega))); (repeat' (first | with_reducible assumption | (with_reducible refine Rd.drew ?_) | (with_reducible refine Rd.carry ?_ (by with_reducible assumption) ?_) | (with_reducible refine Rd.alloc ?_ ?_ _) | (with_reducible refine Rd.setCell ?_ ?_ _) | omega | (simp; done) | (simp; omega)))
    obtain ⟨V0, hV⟩ : ∃ V : Int, V = 1048576 - (a0l.length : Nat) := ⟨_, rfl⟩
    have hVV : 0 ≤ V0 ∧ V0 ≤ 1048576 := by omega
    rw [← hV]
    rintro e wS0 ⟨rfl, hbwS0⟩
    clear hV hfit
    obtain ⟨hV0_0, hV1_0⟩ := hVV
    have zwS0 := hbwS0.size
    (try simp only [World.size_setCell] at zwS0)
    (try simp only [World.size_drew] at zwS0)
    (try simp only [World.size_alloc] at zwS0)
    have qwS0 : w.heap.size ≤ wS0.heap.size := by omega
    have bx_awS0 : AtL (w.heap.size) [.slice a0A a0l.length a0c] wS0 := by repeat' (first | with_reducible assumption | with_reducible exact AtL.new _ _ _ | ((with_reducible refine AtL.newAt ?_); (first | rfl | (simp; done))) | (with_reducible refine AtL.drew ?_) | (with_reducible refine AtL.below ?_ (by with_reducible assumption)) | (with_reducible refine AtL.alloc ?_ _) | (with_reducible refine AtL.far ?_ ?_ _ _) | omega | (simp; done) | (simp; omega))
    have rd_a0wS0 : Rd cPt 2 wS0 (w.heap.size) a0A a0l := by repeat' (first | with_reducible assumption | (with_reducible refine Rd.drew ?_) | (with_reducible refine Rd.carry ?_ (by with_reducible assumption) ?_) | (with_reducible refine Rd.alloc ?_ ?_ _) | (with_reducible refine Rd.setCell ?_ ?_ _) | omega | (simp; done) | (simp; omega))
    have bp := bW0.out
    have bn : Below w.heap.size w wS0 := by repeat' (first | with_reducible assumption | with_reducible exact Below.refl _ _ | (with_reducible refine Below.setCell ?_ ?_ _) | (with_reducible refine Below.alloc ?_ ?_ _) | (with_reducible refine Below.drew ?_) | (with_reducible refine below_dr ?_ _) | (with_reducible refine Below.trans ?_ (Below.mono (by with_reducible assumption) ?_)) | omega | (simp; done) | (simp; omega))
    have bwS0 := Lib.hid bn
    clear bn
    clear bp bW0
    clear hbwS0
    clear bx_aW0
    clear rd_a0W0
    have kbx_a0 := bx_awS0.cell 0 rfl
    have lbx_a := bx_awS0.lt
    go_wp2_with fail
    clear kbx_a0 lbx_a
    have lt_a := bx_awS0.lt
    refine (toRing_any a0A a0c a0l _ hl_a0 ?_).mono ?_
    · (refine Rd.more (B := w.heap.size) ?_ (by first | omega | ((try simp only [World.size_setCell]); (try simp only [World.size_drew]); (try simp only [World.size_alloc]); omega) | (simp; done) | (simp; omega))); (repeat' (first | with_reducible assumption | (with_reducible refine Rd.drew ?_) | (with_reducible refine Rd.carry ?_ (by with_reducible assumption) ?_) | (with_reducible refine Rd.alloc ?_ ?_ _) | (with_reducible refine Rd.setCell ?_ ?_ _) | omega | (simp; done) | (simp; omega)))
    intro e wA hq
    obtain ⟨gA, rfl, owA, hbwA⟩ := hq
    have zwA := hbwA.size
    (try simp only [World.size_setCell] at zwA)
    (try simp only [World.size_drew] at zwA)
    (try simp only [World.size_alloc] at zwA)
    have qwA : w.heap.size ≤ wA.heap.size := by omega
    have bx_awA : AtL (w.heap.size) [.slice a0A a0l.length a0c] wA := by repeat' (first | with_reducible assumption | with_reducible exact AtL.new _ _ _ | ((with_reducible refine AtL.newAt ?_); (first | rfl | (simp; done))) | (with_reducible refine AtL.drew ?_) | (with_reducible refine AtL.below ?_ (by with_reducible assumption)) | (with_reducible refine AtL.alloc ?_ _) | (with_reducible refine AtL.far ?_ ?_ _ _) | omega | (simp; done) | (simp; omega))
    have rd_a0wA : Rd cPt 2 wA (w.heap.size) a0A a0l := by repeat' (first | with_reducible assumption | (with_reducible refine Rd.drew ?_) | (with_reducible refine Rd.carry ?_ (by with_reducible assumption) ?_) | (with_reducible refine Rd.alloc ?_ ?_ _) | (with_reducible refine Rd.setCell ?_ ?_ _) | omega | (simp; done) | (simp; omega))
    have bp := bwS0.out
    have bn : Below w.heap.size w wA := by repeat' (first | with_reducible assumption | with_reducible exact Below.refl _ _ | (with_reducible refine Below.setCell ?_ ?_ _) | (with_reducible refine Below.alloc ?_ ?_ _) | (with_reducible refine Below.drew ?_) | (with_reducible refine below_dr ?_ _) | (with_reducible refine Below.trans ?_ (Below.mono (by with_reducible assumption) ?_)) | omega | (simp; done) | (simp; omega))
    have bwA := Lib.hid bn
    clear bn
    clear bp bwS0
    clear hbwA
    clear bx_awS0
    clear rd_a0wS0
    go_wp2_with fail
    refine (C1.out (some ⟨gA, 0, none⟩) a0l.length _ hl_a0 ?_).mono ?_
    · (first | exact Rd.of_own (fun a => cPt_len a) (by omega) owA (by first | exact Nat.le_refl _ | (simp; done)) | exact Rd.drew (Rd.of_own (fun a => cPt_len a) (by omega) owA (by first | exact Nat.le_refl _ | (simp; done))))
    intro e wC hq
    obtain ⟨Aw, cw, rfl, oww, hbwC⟩ := hq
    have zwC := hbwC.size
    (try simp only [World.size_setCell] at zwC)
    (try simp only [World.size_drew] at zwC)
    (try simp only [World.size_alloc] at zwC)
    have qwC : w.heap.size ≤ wC.heap.size := by omega
    have bx_awC : AtL (w.heap.size) [.slice a0A a0l.length a0c] wC := by repeat' (first | with_reducible assumption | with_reducible exact AtL.new _ _ _ | ((with_reducible refine AtL.newAt ?_); (first | rfl | (simp; done))) | (with_reducible refine AtL.drew ?_) | (with_reducible refine AtL.below ?_ (by with_reducible assumption)) | (with_reducible refine AtL.alloc ?_ _) | (with_reducible refine AtL.far ?_ ?_ _ _) | omega | (simp; done) | (simp; omega))
    have rd_a0wC : Rd cPt 2 wC (w.heap.size) a0A a0l := by repeat' (first | with_reducible assumption | (with_reducible refine Rd.drew ?_) | (with_reducible refine Rd.carry ?_ (by with_reducible assumption) ?_) | (with_reducible refine Rd.alloc ?_ ?_ _) | (with_reducible refine Rd.setCell ?_ ?_ _) | omega | (simp; done) | (simp; omega))
    have bp := bwA.out
    have bn : Below w.heap.size w wC := by repeat' (first | with_reducible assumption | with_reducible exact Below.refl _ _ | (with_reducible refine Below.setCell ?_ ?_ _) | (with_reducible refine Below.alloc ?_ ?_ _) | (with_reducible refine Below.drew ?_) | (with_reducible refine below_dr ?_ _) | (with_reducible refine Below.trans ?_ (Below.mono (by with_reducible assumption) ?_)) | omega | (simp; done) | (simp; omega))
    have bwC := Lib.hid bn
    clear bn
    clear bp bwA
    clear hbwC
    clear bx_awA
    clear rd_a0wA
    clear owA
    have r1wC : Rd cPt 2 wC (wC.heap.size) Aw l2 := Rd.of_own (fun a => cPt_len a) (by omega) oww (Nat.le_refl _)
    clear oww
    have kbx_a0 := bx_awC.cell 0 rfl
    have lbx_a := bx_awC.lt
    go_wp2_with fail
    clear kbx_a0 lbx_a
    refine (toRing_any a0A a0c a0l _ hl_a0 ?_).mono ?_
    · (refine Rd.more (B := w.heap.size) ?_ (by first | omega | ((try simp only [World.size_setCell]); (try simp only [World.size_drew]); (try simp only [World.size_alloc]); omega) | (simp; done) | (simp; omega))); (repeat' (first | with_reducible assumption | (with_reducible refine Rd.drew ?_) | (with_reducible refine Rd.carry ?_ (by with_reducible assumption) ?_) | (with_reducible refine Rd.alloc ?_ ?_ _) | (with_reducible refine Rd.setCell ?_ ?_ _) | omega | (simp; done) | (simp; omega)))
    intro e wX hq
    obtain ⟨gX, rfl, owX, hbwX⟩ := hq
    have zwX := hbwX.size
    (try simp only [World.size_setCell] at zwX)
    (try simp only [World.size_drew] at zwX)
    (try simp only [World.size_alloc] at zwX)
    have qwX : w.heap.size ≤ wX.heap.size := by omega
    have bx_awX : AtL (w.heap.size) [.slice a0A a0l.length a0c] wX := by repeat' (first | with_reducible assumption | with_reducible exact AtL.new _ _ _ | ((with_reducible refine AtL.newAt ?_); (first | rfl | (simp; done))) | (with_reducible refine AtL.drew ?_) | (with_reducible refine AtL.below ?_ (by with_reducible assumption)) | (with_reducible refine AtL.alloc ?_ _) | (with_reducible refine AtL.far ?_ ?_ _ _) | omega | (simp; done) | (simp; omega))
    have rd_a0wX : Rd cPt 2 wX (w.heap.size) a0A a0l := by repeat' (first | with_reducible assumption | (with_reducible refine Rd.drew ?_) | (with_reducible refine Rd.carry ?_ (by with_reducible assumption) ?_) | (with_reducible refine Rd.alloc ?_ ?_ _) | (with_reducible refine Rd.setCell ?_ ?_ _) | omega | (simp; done) | (simp; omega))
    have r1wX : Rd cPt 2 wX (wC.heap.size) Aw l2 := by repeat' (first | with_reducible assumption | (with_reducible refine Rd.drew ?_) | (with_reducible refine Rd.carry ?_ (by with_reducible assumption) ?_) | (with_reducible refine Rd.alloc ?_ ?_ _) | (with_reducible refine Rd.setCell ?_ ?_ _) | omega | (simp; done) | (simp; omega))
    have bx_wwX : AtL (wC.heap.size) [.slice Aw l2.length cw] wX := by repeat' (first | with_reducible assumption | with_reducible exact AtL.new _ _ _ | ((with_reducible refine AtL.newAt ?_); (first | rfl | (simp; done))) | (with_reducible refine AtL.drew ?_) | (with_reducible refine AtL.below ?_ (by with_reducible assumption)) | (with_reducible refine AtL.alloc ?_ _) | (with_reducible refine AtL.far ?_ ?_ _ _) | omega | (simp; done) | (simp; omega))
    have bp := bwC.out
    have bn : Below w.heap.size w wX := by repeat' (first | with_reducible assumption | with_reducible exact Below.refl _ _ | (with_reducible refine Below.setCell ?_ ?_ _) | (with_reducible refine Below.alloc ?_ ?_ _) | (with_reducible refine Below.drew ?_) | (with_reducible refine below_dr ?_ _) | (with_reducible refine Below.trans ?_ (Below.mono (by with_reducible assumption) ?_)) | omega | (simp; done) | (simp; omega))
    have bwX := Lib.hid bn
    clear bn
    clear bp bwC
    clear hbwX
    clear bx_awC
    clear rd_a0wC
    clear r1wC
    have zcx : wC.heap.size < wX.heap.size := bx_wwX.lt
    replace owX := own_base (base := wC.heap.size + 1) owX (by first | exact Nat.le_refl _ | (simp; done) | (simp; omega))
    have rxwX : Rd cPt 2 wX (wX.heap.size) (some ⟨gX, 0, none⟩) a0l := Rd.of_own (fun a => cPt_len a) (by omega) owX (Nat.le_refl _)
    have ROWX := Lib.hid (fun q (hq : (Value.slice (some ⟨gX, 0, none⟩) a0l.length a0l.length).ownBlock = some q) => own_block owX hq)
    have oxwX := owX
    clear owX
    go_wp2_with fail
    refine (C2.out (some ⟨gX, 0, none⟩) a0l.length _ (by have bp := bwX.out; repeat' (first | with_reducible assumption | with_reducible exact Below.refl _ _ | (with_reducible refine Below.setCell ?_ ?_ _) | (with_reducible refine Below.alloc ?_ ?_ _) | (with_reducible refine Below.drew ?_) | (with_reducible refine below_dr ?_ _) | (with_reducible refine Below.trans ?_ (Below.mono (by with_reducible assumption) ?_)) | omega | (simp; done) | (simp; omega))) hl_a0 ?_).mono ?_
    · (refine Rd.more (B := wX.heap.size) ?_ (by first | omega | ((try simp only [World.size_setCell]); (try simp only [World.size_drew]); (try simp only [World.size_alloc]); omega) | (simp; done) | (simp; omega))); (repeat' (first | with_reducible assumption | (with_reducible refine Rd.drew ?_) | (with_reducible refine Rd.carry ?_ (by with_reducible assumption) ?_) | (with_reducible refine Rd.alloc ?_ ?_ _) | (with_reducible refine Rd.setCell ?_ ?_ _) | omega | (simp; done) | (simp; omega)))
    intro e wD hq
    obtain ⟨Ag, cg, rfl, owg, hbwD⟩ := hq
    have zwD := hbwD.size
    (try simp only [World.size_setCell] at zwD)
    (try simp only [World.size_drew] at zwD)
    (try simp only [World.size_alloc] at zwD)
    have qwD : w.heap.size ≤ wD.heap.size := by omega
    have bx_awD : AtL (w.heap.size) [.slice a0A a0l.length a0c] wD := by repeat' (first | with_reducible assumption | with_reducible exact AtL.new _ _ _ | ((with_reducible refine AtL.newAt ?_); (first | rfl | (simp; done))) | (with_reducible refine AtL.drew ?_) | (with_reducible refine AtL.below ?_ (by with_reducible assumption)) | (with_reducible refine AtL.alloc ?_ _) | (with_reducible refine AtL.far ?_ ?_ _ _) | omega | (simp; done) | (simp; omega))
    have rd_a0wD : Rd cPt 2 wD (w.heap.size) a0A a0l := by repeat' (first | with_reducible assumption | (with_reducible refine Rd.drew ?_) | (with_reducible refine Rd.carry ?_ (by with_reducible assumption) ?_) | (with_reducible refine Rd.alloc ?_ ?_ _) | (with_reducible refine Rd.setCell ?_ ?_ _) | omega | (simp; done) | (simp; omega))
    have r1wD : Rd cPt 2 wD (wC.heap.size) Aw l2 := by repeat' (first | with_reducible assumption | (with_reducible refine Rd.drew ?_) | (with_reducible refine Rd.carry ?_ (by with_reducible assumption) ?_) | (with_reducible refine Rd.alloc ?_ ?_ _) | (with_reducible refine Rd.setCell ?_ ?_ _) | omega | (simp; done) | (simp; omega))
    have bx_wwD : AtL (wC.heap.size) [.slice Aw l2.length cw] wD := by repeat' (first | with_reducible assumption | with_reducible exact AtL.new _ _ _ | ((with_reducible refine AtL.newAt ?_); (first | rfl | (simp; done))) | (with_reducible refine AtL.drew ?_) | (with_reducible refine AtL.below ?_ (by with_reducible assumption)) | (with_reducible refine AtL.alloc ?_ _) | (with_reducible refine AtL.far ?_ ?_ _ _) | omega | (simp; done) | (simp; omega))
    have rxwD : Rd cPt 2 wD (wX.heap.size) (some ⟨gX, 0, none⟩) a0l := by repeat' (first | with_reducible assumption | (with_reducible refine Rd.drew ?_) | (with_reducible refine Rd.carry ?_ (by with_reducible assumption) ?_) | (with_reducible refine Rd.alloc ?_ ?_ _) | (with_reducible refine Rd.setCell ?_ ?_ _) | omega | (simp; done) | (simp; omega))
    have oxwD : wD.ownsRow (wC.heap.size + 1) 52 2 (.slice (some ⟨gX, 0, none⟩) a0l.length a0l.length) a0l.length (cellsF cPt a0l) := by repeat' (first | with_reducible assumption | (with_reducible refine own_drew ?_) | (with_reducible refine own_stays ?_ (by with_reducible assumption)) | (with_reducible refine World.ownsRow.alloc ?_ _))
    have at_xwD : AtL (wX.heap.size) [.slice (some ⟨gX, 0, none⟩) a0l.length a0l.length] wD := by repeat' (first | with_reducible assumption | with_reducible exact AtL.new _ _ _ | ((with_reducible refine AtL.newAt ?_); (first | rfl | (simp; done))) | (with_reducible refine AtL.drew ?_) | (with_reducible refine AtL.below ?_ (by with_reducible assumption)) | (with_reducible refine AtL.alloc ?_ _) | (with_reducible refine AtL.far ?_ ?_ _ _) | omega | (simp; done) | (simp; omega))
    have bp := bwX.out
    have bn : Below w.heap.size w wD := by repeat' (first | with_reducible assumption | with_reducible exact Below.refl _ _ | (with_reducible refine Below.setCell ?_ ?_ _) | (with_reducible refine Below.alloc ?_ ?_ _) | (with_reducible refine Below.drew ?_) | (with_reducible refine below_dr ?_ _) | (with_reducible refine Below.trans ?_ (Below.mono (by with_reducible assumption) ?_)) | omega | (simp; done) | (simp; omega))
    have bwD := Lib.hid bn
    clear bn
    clear bp bwX
    clear hbwD
    clear bx_awX
    clear rd_a0wX
    clear r1wX
    clear bx_wwX
    clear rxwX
    clear oxwX
    have zxd : wX.heap.size < wD.heap.size := at_xwD.lt
    have ogwD := own_base (base := wX.heap.size + 1) owg (by first | exact Nat.le_refl _ | (simp; done) | (simp; omega))
    clear owg
    have OBg := Lib.hid (fun r hr => own_block ogwD (q := r) hr)
    have kbx_w0 := bx_wwD.cell 0 rfl
    have lbx_w := bx_wwD.lt
    go_wp2_with fail
    clear kbx_w0 lbx_w
    refine (eqRing_same Ag cg l2 Aw cw _ (by omega) ?_ ?_).mono ?_
    · refine Rd.of_own (fun a => cPt_len a) (by omega) (base := wX.heap.size + 1) (e := 52) (n := l2.length) (c := cg) ?_ (Nat.le_refl _); (repeat' (first | with_reducible assumption | (with_reducible refine own_drew ?_) | (with_reducible refine own_stays ?_ (by with_reducible assumption)) | (with_reducible refine World.ownsRow.alloc ?_ _)))
    · refine Rd.more (B := wC.heap.size) ?_ (by (try simp only [World.size_drew]); (try simp only [World.size_alloc]); omega)
      repeat' (first | with_reducible assumption | (with_reducible refine Rd.drew ?_) | (with_reducible refine Rd.carry ?_ (by with_reducible assumption) ?_) | (with_reducible refine Rd.alloc ?_ ?_ _) | (with_reducible refine Rd.setCell ?_ ?_ _) | omega | (simp; done) | (simp; omega))
    rintro e wE ⟨rfl, hbwE⟩
    have zwE := hbwE.size
    (try simp only [World.size_setCell] at zwE)
    (try simp only [World.size_drew] at zwE)
    (try simp only [World.size_alloc] at zwE)
    have qwE : w.heap.size ≤ wE.heap.size := by omega
    have bx_awE : AtL (w.heap.size) [.slice a0A a0l.length a0c] wE := by repeat' (first | with_reducible assumption | with_reducible exact AtL.new _ _ _ | ((with_reducible refine AtL.newAt ?_); (first | rfl | (simp; done))) | (with_reducible refine AtL.drew ?_) | (with_reducible refine AtL.below ?_ (by with_reducible assumption)) | (with_reducible refine AtL.alloc ?_ _) | (with_reducible refine AtL.far ?_ ?_ _ _) | omega | (simp; done) | (simp; omega))
    have rd_a0wE : Rd cPt 2 wE (w.heap.size) a0A a0l := by repeat' (first | with_reducible assumption | (with_reducible refine Rd.drew ?_) | (with_reducible refine Rd.carry ?_ (by with_reducible assumption) ?_) | (with_reducible refine Rd.alloc ?_ ?_ _) | (with_reducible refine Rd.setCell ?_ ?_ _) | omega | (simp; done) | (simp; omega))
    have r1wE : Rd cPt 2 wE (wC.heap.size) Aw l2 := by repeat' (first | with_reducible assumption | (with_reducible refine Rd.drew ?_) | (with_reducible refine Rd.carry ?_ (by with_reducible assumption) ?_) | (with_reducible refine Rd.alloc ?_ ?_ _) | (with_reducible refine Rd.setCell ?_ ?_ _) | omega | (simp; done) | (simp; omega))
    have bx_wwE : AtL (wC.heap.size) [.slice Aw l2.length cw] wE := by repeat' (first | with_reducible assumption | with_reducible exact AtL.new _ _ _ | ((with_reducible refine AtL.newAt ?_); (first | rfl | (simp; done))) | (with_reducible refine AtL.drew ?_) | (with_reducible refine AtL.below ?_ (by with_reducible assumption)) | (with_reducible refine AtL.alloc ?_ _) | (with_reducible refine AtL.far ?_ ?_ _ _) | omega | (simp; done) | (simp; omega))
    have rxwE : Rd cPt 2 wE (wX.heap.size) (some ⟨gX, 0, none⟩) a0l := by repeat' (first | with_reducible assumption | (with_reducible refine Rd.drew ?_) | (with_reducible refine Rd.carry ?_ (by with_reducible assumption) ?_) | (with_reducible refine Rd.alloc ?_ ?_ _) | (with_reducible refine Rd.setCell ?_ ?_ _) | omega | (simp; done) | (simp; omega))
    have oxwE : wE.ownsRow (wC.heap.size + 1) 52 2 (.slice (some ⟨gX, 0, none⟩) a0l.length a0l.length) a0l.length (cellsF cPt a0l) := by repeat' (first | with_reducible assumption | (with_reducible refine own_drew ?_) | (with_reducible refine own_stays ?_ (by with_reducible assumption)) | (with_reducible refine World.ownsRow.alloc ?_ _))
    have at_xwE : AtL (wX.heap.size) [.slice (some ⟨gX, 0, none⟩) a0l.length a0l.length] wE := by repeat' (first | with_reducible assumption | with_reducible exact AtL.new _ _ _ | ((with_reducible refine AtL.newAt ?_); (first | rfl | (simp; done))) | (with_reducible refine AtL.drew ?_) | (with_reducible refine AtL.below ?_ (by with_reducible assumption)) | (with_reducible refine AtL.alloc ?_ _) | (with_reducible refine AtL.far ?_ ?_ _ _) | omega | (simp; done) | (simp; omega))
    have ogwE : wE.ownsRow (wX.heap.size + 1) 52 2 (.slice Ag l2.length cg) l2.length (cellsF cPt l2) := by repeat' (first | with_reducible assumption | (with_reducible refine own_drew ?_) | (with_reducible refine own_stays ?_ (by with_reducible assumption)) | (with_reducible refine World.ownsRow.alloc ?_ _))
    have bx_gwE : AtL (wD.heap.size) [.slice Ag l2.length cg] wE := by repeat' (first | with_reducible assumption | with_reducible exact AtL.new _ _ _ | ((with_reducible refine AtL.newAt ?_); (first | rfl | (simp; done))) | (with_reducible refine AtL.drew ?_) | (with_reducible refine AtL.below ?_ (by with_reducible assumption)) | (with_reducible refine AtL.alloc ?_ _) | (with_reducible refine AtL.far ?_ ?_ _ _) | omega | (simp; done) | (simp; omega))
    have bp := bwD.out
    have bn : Below w.heap.size w wE := by repeat' (first | with_reducible assumption | with_reducible exact Below.refl _ _ | (with_reducible refine Below.setCell ?_ ?_ _) | (with_reducible refine Below.alloc ?_ ?_ _) | (with_reducible refine Below.drew ?_) | (with_reducible refine below_dr ?_ _) | (with_reducible refine Below.trans ?_ (Below.mono (by with_reducible assumption) ?_)) | omega | (simp; done) | (simp; omega))
    have bwE := Lib.hid bn
    clear bn
    clear bp bwD
    clear hbwE
    clear bx_awD
    clear rd_a0wD
    clear r1wD
    clear bx_wwD
    clear rxwD
    clear oxwD
    clear at_xwD
    clear ogwD
    have zde : wD.heap.size < wE.heap.size := bx_gwE.lt
    have kat_x0 := at_xwE.cell 0 rfl
    have lat_x := at_xwE.lt
    have kbx_a0 := bx_awE.cell 0 rfl
    have lbx_a := bx_awE.lt
    go_wp2_with fail
    go_region_held3 (fun w' => (∀ b o, b < wE.heap.size → w'.cell? ⟨b, o, none⟩ = wE.cell? ⟨b, o, none⟩) ∧ wE.heap.size ≤ w'.heap.size)
      (first | ((try dsimp only); exact ⟨fun b o h => (by (repeat (first | with_reducible exact rfl | (with_reducible refine (cell_drew_at _ _).trans ?_) | (with_reducible refine (cell_set_at _ _ (by first | omega | (simp; done) | (simp; omega))).trans ?_) | (with_reducible refine (cell_alloc_at _ _ (by first | omega | (simp; done) | (simp; omega))).trans ?_) | (with_reducible refine (hcwT b o (by first | omega | (simp; done) | (simp; omega))).trans ?_) | (with_reducible refine (hcwG b o (by first | omega | (simp; done) | (simp; omega))).trans ?_)))), (by first | omega | (simp; done) | (simp; omega))⟩) | fail)
      (first
        | (go_at_call 6; (with_reducible refine (toRing_any a0A a0c a0l _ hl_a0 ?_).mono ?_); (focus ((refine Rd.more (B := w.heap.size) ?_ (by first | omega | ((try simp only [World.size_setCell]); (try simp only [World.size_drew]); (try simp only [World.size_alloc]); omega) | (simp; done) | (simp; omega))); (repeat' (first | with_reducible assumption | (with_reducible refine Rd.drew ?_) | (with_reducible refine Rd.carry ?_ (by with_reducible assumption) ?_) | (with_reducible refine Rd.alloc ?_ ?_ _) | (with_reducible refine Rd.setCell ?_ ?_ _) | omega | (simp; done) | (simp; omega))))); intro e wT hq; obtain ⟨g_owE_a0, rfl, owE_a0, hbwT⟩ := hq; obtain ⟨hcwT, hfwT⟩ := bcell hbwT; have hzwT := hbwT.size; (try simp only [World.size_drew] at hcwT hfwT hzwT); (try simp only [World.size_alloc] at hcwT hfwT hzwT))
        | (go_at_call 8; (with_reducible refine (eqRing_same (some ⟨gX, 0, none⟩) a0l.length a0l (some ⟨g_owE_a0, 0, none⟩) a0l.length _ (by omega) ?_ ?_).mono ?_); (focus ((refine Rd.more (B := wX.heap.size) ?_ (by first | omega | ((try simp only [World.size_setCell]); (try simp only [World.size_drew]); (try simp only [World.size_alloc]); omega) | (simp; done) | (simp; omega))); (repeat' (first | with_reducible assumption | (with_reducible refine Rd.drew ?_) | (with_reducible refine Rd.carry ?_ (by with_reducible assumption) ?_) | (with_reducible refine Rd.alloc ?_ ?_ _) | (with_reducible refine Rd.setCell ?_ ?_ _) | omega | (simp; done) | (simp; omega))))); (focus ((first | exact Rd.of_own (fun a => cPt_len a) (by omega) owE_a0 (by first | exact Nat.le_refl _ | (simp; done)) | exact Rd.drew (Rd.of_own (fun a => cPt_len a) (by omega) owE_a0 (by first | exact Nat.le_refl _ | (simp; done)))))); rintro e wG ⟨rfl, hbwG⟩; obtain ⟨hcwG, hfwG⟩ := bcell hbwG; have hzwG := hbwG.size; (try simp only [World.size_drew] at hcwG hfwG hzwG); (try simp only [World.size_alloc] at hcwG hfwG hzwG)))
    clear kat_x0 lat_x
    clear kbx_a0 lbx_a
    all_goals
      have zwG := hbwG.size
      (try simp only [World.size_setCell] at zwG)
      (try simp only [World.size_drew] at zwG)
      (try simp only [World.size_alloc] at zwG)
      have qwG : w.heap.size ≤ wG.heap.size := by omega
      have bx_awG : AtL (w.heap.size) [.slice a0A a0l.length a0c] wG := by repeat' (first | with_reducible assumption | with_reducible exact AtL.new _ _ _ | ((with_reducible refine AtL.newAt ?_); (first | rfl | (simp; done))) | (with_reducible refine AtL.drew ?_) | (with_reducible refine AtL.below ?_ (by with_reducible assumption)) | (with_reducible refine AtL.alloc ?_ _) | (with_reducible refine AtL.far ?_ ?_ _ _) | omega | (simp; done) | (simp; omega))
      have rd_a0wG : Rd cPt 2 wG (w.heap.size) a0A a0l := by repeat' (first | with_reducible assumption | (with_reducible refine Rd.drew ?_) | (with_reducible refine Rd.carry ?_ (by with_reducible assumption) ?_) | (with_reducible refine Rd.alloc ?_ ?_ _) | (with_reducible refine Rd.setCell ?_ ?_ _) | omega | (simp; done) | (simp; omega))
      have r1wG : Rd cPt 2 wG (wC.heap.size) Aw l2 := by repeat' (first | with_reducible assumption | (with_reducible refine Rd.drew ?_) | (with_reducible refine Rd.carry ?_ (by with_reducible assumption) ?_) | (with_reducible refine Rd.alloc ?_ ?_ _) | (with_reducible refine Rd.setCell ?_ ?_ _) | omega | (simp; done) | (simp; omega))
      have bx_wwG : AtL (wC.heap.size) [.slice Aw l2.length cw] wG := by repeat' (first | with_reducible assumption | with_reducible exact AtL.new _ _ _ | ((with_reducible refine AtL.newAt ?_); (first | rfl | (simp; done))) | (with_reducible refine AtL.drew ?_) | (with_reducible refine AtL.below ?_ (by with_reducible assumption)) | (with_reducible refine AtL.alloc ?_ _) | (with_reducible refine AtL.far ?_ ?_ _ _) | omega | (simp; done) | (simp; omega))
      have rxwG : Rd cPt 2 wG (wX.heap.size) (some ⟨gX, 0, none⟩) a0l := by repeat' (first | with_reducible assumption | (with_reducible refine Rd.drew ?_) | (with_reducible refine Rd.carry ?_ (by with_reducible assumption) ?_) | (with_reducible refine Rd.alloc ?_ ?_ _) | (with_reducible refine Rd.setCell ?_ ?_ _) | omega | (simp; done) | (simp; omega))
      have oxwG : wG.ownsRow (wC.heap.size + 1) 52 2 (.slice (some ⟨gX, 0, none⟩) a0l.length a0l.length) a0l.length (cellsF cPt a0l) := by repeat' (first | with_reducible assumption | (with_reducible refine own_drew ?_) | (with_reducible refine own_stays ?_ (by with_reducible assumption)) | (with_reducible refine World.ownsRow.alloc ?_ _))
      have at_xwG : AtL (wX.heap.size) [.slice (some ⟨gX, 0, none⟩) a0l.length a0l.length] wG := by repeat' (first | with_reducible assumption | with_reducible exact AtL.new _ _ _ | ((with_reducible refine AtL.newAt ?_); (first | rfl | (simp; done))) | (with_reducible refine AtL.drew ?_) | (with_reducible refine AtL.below ?_ (by with_reducible assumption)) | (with_reducible refine AtL.alloc ?_ _) | (with_reducible refine AtL.far ?_ ?_ _ _) | omega | (simp; done) | (simp; omega))
      have ogwG : wG.ownsRow (wX.heap.size + 1) 52 2 (.slice Ag l2.length cg) l2.length (cellsF cPt l2) := by repeat' (first | with_reducible assumption | (with_reducible refine own_drew ?_) | (with_reducible refine own_stays ?_ (by with_reducible assumption)) | (with_reducible refine World.ownsRow.alloc ?_ _))
      have bx_gwG : AtL (wD.heap.size) [.slice Ag l2.length cg] wG := by repeat' (first | with_reducible assumption | with_reducible exact AtL.new _ _ _ | ((with_reducible refine AtL.newAt ?_); (first | rfl | (simp; done))) | (with_reducible refine AtL.drew ?_) | (with_reducible refine AtL.below ?_ (by with_reducible assumption)) | (with_reducible refine AtL.alloc ?_ _) | (with_reducible refine AtL.far ?_ ?_ _ _) | omega | (simp; done) | (simp; omega))
      have bp := bwE.out
      have bn : Below w.heap.size w wG := by repeat' (first | with_reducible assumption | with_reducible exact Below.refl _ _ | (with_reducible refine Below.setCell ?_ ?_ _) | (with_reducible refine Below.alloc ?_ ?_ _) | (with_reducible refine Below.drew ?_) | (with_reducible refine below_dr ?_ _) | (with_reducible refine Below.trans ?_ (Below.mono (by with_reducible assumption) ?_)) | omega | (simp; done) | (simp; omega))
      have bwG := Lib.hid bn
      clear bn
      clear bp bwE
      clear hbwG
      clear bx_awE
      clear rd_a0wE
      clear r1wE
      clear bx_wwE
      clear rxwE
      clear oxwE
      clear at_xwE
      clear ogwE
      clear bx_gwE
      clear hbwT hcwT hfwT hcwG hfwG
      have kat_x0 := at_xwG.cell 0 rfl
      have lat_x := at_xwG.lt
      go_wp2_with fail
      clear kat_x0 lat_x
      refine (markRing_any (some ⟨gX, 0, none⟩) a0l.length 1 a0l.length (wC.heap.size + 1) (cellsF cPt a0l) _ (by omega) (by omega) (by repeat' (first | with_reducible assumption | (with_reducible refine own_drew ?_) | (with_reducible refine own_stays ?_ (by with_reducible assumption)) | (with_reducible refine World.ownsRow.alloc ?_ _)))).mono ?_
      rw [← HM1.out]
      rintro e wH ⟨rfl, omwH, hg⟩
      have zwH := hg.size
      have qwH : w.heap.size ≤ wH.heap.size := by omega
      have bp := bwG.out
      have bn : Below w.heap.size w wH := by exact below_of_grown (by repeat' (first | with_reducible assumption | with_reducible exact Below.refl _ _ | (with_reducible refine Below.setCell ?_ ?_ _) | (with_reducible refine Below.alloc ?_ ?_ _) | (with_reducible refine Below.drew ?_) | (with_reducible refine below_dr ?_ _) | (with_reducible refine Below.trans ?_ (Below.mono (by with_reducible assumption) ?_)) | omega | (simp; done) | (simp; omega))) hg (by omega) (fun q hq => by have := ROWX.out q hq; omega)
      have bwH := Lib.hid bn
      clear bn
      clear bp bwG
      have bx_awH : AtL (w.heap.size) [.slice a0A a0l.length a0c] wH := AtL.grown (bx_awG) hg (fun q hq => by have := ROWX.out q hq; omega)
      have rd_a0wH : Rd cPt 2 wH (w.heap.size) a0A a0l := Rd.grown2 rd_a0wG hg (by omega) (fun q hq => by have := ROWX.out q hq; omega)
      have r1wH : Rd cPt 2 wH (wC.heap.size) Aw l2 := Rd.grown2 r1wG hg (by omega) (fun q hq => by have := ROWX.out q hq; omega)
      have bx_wwH : AtL (wC.heap.size) [.slice Aw l2.length cw] wH := AtL.grown (bx_wwG) hg (fun q hq => by have := ROWX.out q hq; omega)
      have at_xwH : AtL (wX.heap.size) [.slice (some ⟨gX, 0, none⟩) a0l.length a0l.length] wH := AtL.grown (at_xwG) hg (fun q hq => by have := ROWX.out q hq; omega)
      have ogwH : wH.ownsRow (wX.heap.size + 1) 52 2 (.slice Ag l2.length cg) l2.length (cellsF cPt l2) := own_grown ogwG hg (fun q h1 h2 => by have h3 := ROWX.out q h2; have h4 := own_block ogwG h1; omega)
      have bx_gwH : AtL (wD.heap.size) [.slice Ag l2.length cg] wH := AtL.grown (bx_gwG) hg (fun q hq => by have := ROWX.out q hq; omega)
      clear hg bx_awG rd_a0wG r1wG bx_wwG rxwG oxwG at_xwG ogwG bx_gwG
      clear omwH
      clear at_xwH
      have ROWG := Lib.hid (fun q (hq : (Value.slice Ag l2.length cg).ownBlock = some q) => (⟨(own_block ogwH hq).1, (OBg.out q hq).2⟩ : wX.heap.size + 1 ≤ q ∧ q < wD.heap.size))
      have kbx_g0 := bx_gwH.cell 0 rfl
      have lbx_g := bx_gwH.lt
      have kbx_w0 := bx_wwH.cell 0 rfl
      have lbx_w := bx_wwH.lt
      go_wp2_with fail
      clear kbx_g0 lbx_g
      clear kbx_w0 lbx_w
      refine (eqRing_same Ag cg l2 Aw cw _ (by omega) ?_ ?_).mono ?_
      · refine Rd.of_own (fun a => cPt_len a) (by omega) (base := wX.heap.size + 1) (e := 52) (n := l2.length) (c := cg) ?_ (Nat.le_refl _); (repeat' (first | with_reducible assumption | (with_reducible refine own_drew ?_) | (with_reducible refine own_stays ?_ (by with_reducible assumption)) | (with_reducible refine World.ownsRow.alloc ?_ _)))
      · refine Rd.more (B := wC.heap.size) ?_ (by (try simp only [World.size_drew]); (try simp only [World.size_alloc]); omega)
        repeat' (first | with_reducible assumption | (with_reducible refine Rd.drew ?_) | (with_reducible refine Rd.carry ?_ (by with_reducible assumption) ?_) | (with_reducible refine Rd.alloc ?_ ?_ _) | (with_reducible refine Rd.setCell ?_ ?_ _) | omega | (simp; done) | (simp; omega))
      rintro e wJ ⟨rfl, hbwJ⟩
      have zwJ := hbwJ.size
      (try simp only [World.size_setCell] at zwJ)
      (try simp only [World.size_drew] at zwJ)
      (try simp only [World.size_alloc] at zwJ)
      have qwJ : w.heap.size ≤ wJ.heap.size := by omega
      have bx_awJ : AtL (w.heap.size) [.slice a0A a0l.length a0c] wJ := by repeat' (first | with_reducible assumption | with_reducible exact AtL.new _ _ _ | ((with_reducible refine AtL.newAt ?_); (first | rfl | (simp; done))) | (with_reducible refine AtL.drew ?_) | (with_reducible refine AtL.below ?_ (by with_reducible assumption)) | (with_reducible refine AtL.alloc ?_ _) | (with_reducible refine AtL.far ?_ ?_ _ _) | omega | (simp; done) | (simp; omega))
      have rd_a0wJ : Rd cPt 2 wJ (w.heap.size) a0A a0l := by repeat' (first | with_reducible assumption | (with_reducible refine Rd.drew ?_) | (with_reducible refine Rd.carry ?_ (by with_reducible assumption) ?_) | (with_reducible refine Rd.alloc ?_ ?_ _) | (with_reducible refine Rd.setCell ?_ ?_ _) | omega | (simp; done) | (simp; omega))
      have r1wJ : Rd cPt 2 wJ (wC.heap.size) Aw l2 := by repeat' (first | with_reducible assumption | (with_reducible refine Rd.drew ?_) | (with_reducible refine Rd.carry ?_ (by with_reducible assumption) ?_) | (with_reducible refine Rd.alloc ?_ ?_ _) | (with_reducible refine Rd.setCell ?_ ?_ _) | omega | (simp; done) | (simp; omega))
      have bx_wwJ : AtL (wC.heap.size) [.slice Aw l2.length cw] wJ := by repeat' (first | with_reducible assumption | with_reducible exact AtL.new _ _ _ | ((with_reducible refine AtL.newAt ?_); (first | rfl | (simp; done))) | (with_reducible refine AtL.drew ?_) | (with_reducible refine AtL.below ?_ (by with_reducible assumption)) | (with_reducible refine AtL.alloc ?_ _) | (with_reducible refine AtL.far ?_ ?_ _ _) | omega | (simp; done) | (simp; omega))
      have ogwJ : wJ.ownsRow (wX.heap.size + 1) 52 2 (.slice Ag l2.length cg) l2.length (cellsF cPt l2) := by repeat' (first | with_reducible assumption | (with_reducible refine own_drew ?_) | (with_reducible refine own_stays ?_ (by with_reducible assumption)) | (with_reducible refine World.ownsRow.alloc ?_ _))
      have bx_gwJ : AtL (wD.heap.size) [.slice Ag l2.length cg] wJ := by repeat' (first | with_reducible assumption | with_reducible exact AtL.new _ _ _ | ((with_reducible refine AtL.newAt ?_); (first | rfl | (simp; done))) | (with_reducible refine AtL.drew ?_) | (with_reducible refine AtL.below ?_ (by with_reducible assumption)) | (with_reducible refine AtL.alloc ?_ _) | (with_reducible refine AtL.far ?_ ?_ _ _) | omega | (simp; done) | (simp; omega))
      have bp := bwH.out
      have bn : Below w.heap.size w wJ := by repeat' (first | with_reducible assumption | with_reducible exact Below.refl _ _ | (with_reducible refine Below.setCell ?_ ?_ _) | (with_reducible refine Below.alloc ?_ ?_ _) | (with_reducible refine Below.drew ?_) | (with_reducible refine below_dr ?_ _) | (with_reducible refine Below.trans ?_ (Below.mono (by with_reducible assumption) ?_)) | omega | (simp; done) | (simp; omega))
      have bwJ := Lib.hid bn
      clear bn
      clear bp bwH
      clear hbwJ
      clear bx_awH
      clear rd_a0wH
      clear r1wH
      clear bx_wwH
      clear ogwH
      clear bx_gwH
      have kbx_g0 := bx_gwJ.cell 0 rfl
      have lbx_g := bx_gwJ.lt
      go_wp2_with fail
      clear kbx_g0 lbx_g
      refine (markRing_any Ag cg 1 l2.length (wX.heap.size + 1) (cellsF cPt l2) _ (by omega) (by omega) (by repeat' (first | with_reducible assumption | (with_reducible refine own_drew ?_) | (with_reducible refine own_stays ?_ (by with_reducible assumption)) | (with_reducible refine World.ownsRow.alloc ?_ _)))).mono ?_
      rw [← HM.out]
      rintro e wK ⟨rfl, omwK, hg⟩
      have zwK := hg.size
      have qwK : w.heap.size ≤ wK.heap.size := by omega
      have bp := bwJ.out
      have bn : Below w.heap.size w wK := by exact below_of_grown (by repeat' (first | with_reducible assumption | with_reducible exact Below.refl _ _ | (with_reducible refine Below.setCell ?_ ?_ _) | (with_reducible refine Below.alloc ?_ ?_ _) | (with_reducible refine Below.drew ?_) | (with_reducible refine below_dr ?_ _) | (with_reducible refine Below.trans ?_ (Below.mono (by with_reducible assumption) ?_)) | omega | (simp; done) | (simp; omega))) hg (by omega) (fun q hq => by have := ROWG.out q hq; omega)
      have bwK := Lib.hid bn
      clear bn
      clear bp bwJ
      have bx_awK : AtL (w.heap.size) [.slice a0A a0l.length a0c] wK := AtL.grown (bx_awJ) hg (fun q hq => by have := ROWG.out q hq; omega)
      have rd_a0wK : Rd cPt 2 wK (w.heap.size) a0A a0l := Rd.grown2 rd_a0wJ hg (by omega) (fun q hq => by have := ROWG.out q hq; omega)
      have r1wK : Rd cPt 2 wK (wC.heap.size) Aw l2 := Rd.grown2 r1wJ hg (by omega) (fun q hq => by have := ROWG.out q hq; omega)
      have bx_wwK : AtL (wC.heap.size) [.slice Aw l2.length cw] wK := AtL.grown (bx_wwJ) hg (fun q hq => by have := ROWG.out q hq; omega)
      have bx_gwK : AtL (wD.heap.size) [.slice Ag l2.length cg] wK := AtL.grown (bx_gwJ) hg (fun q hq => by have := ROWG.out q hq; omega)
      clear hg bx_awJ rd_a0wJ r1wJ bx_wwJ ogwJ bx_gwJ
      have kbx_g0 := bx_gwK.cell 0 rfl
      have lbx_g := bx_gwK.lt
      go_wp2_with fail
      clear kbx_g0 lbx_g
      refine (heldRing_any Ag cg 1 l2.length _ (by omega) (by omega) ?_).mono ?_
      · refine Rd.of_own (fun a => cPt_len a) (by omega) (base := wX.heap.size + 1) (e := 52) (n := l2.length) (c := cg) ?_ (Nat.le_refl _); (repeat' (first | with_reducible assumption | (with_reducible refine own_drew ?_) | (with_reducible refine own_stays ?_ (by with_reducible assumption)) | (with_reducible refine World.ownsRow.alloc ?_ _)))
      rw [← HM.out]
      rintro e wL ⟨rfl, hbwL⟩
      have zwL := hbwL.size
      (try simp only [World.size_setCell] at zwL)
      (try simp only [World.size_drew] at zwL)
      (try simp only [World.size_alloc] at zwL)
      have qwL : w.heap.size ≤ wL.heap.size := by omega
      have bx_awL : AtL (w.heap.size) [.slice a0A a0l.length a0c] wL := by repeat' (first | with_reducible assumption | with_reducible exact AtL.new _ _ _ | ((with_reducible refine AtL.newAt ?_); (first | rfl | (simp; done))) | (with_reducible refine AtL.drew ?_) | (with_reducible refine AtL.below ?_ (by with_reducible assumption)) | (with_reducible refine AtL.alloc ?_ _) | (with_reducible refine AtL.far ?_ ?_ _ _) | omega | (simp; done) | (simp; omega))
      have rd_a0wL : Rd cPt 2 wL (w.heap.size) a0A a0l := by repeat' (first | with_reducible assumption | (with_reducible refine Rd.drew ?_) | (with_reducible refine Rd.carry ?_ (by with_reducible assumption) ?_) | (with_reducible refine Rd.alloc ?_ ?_ _) | (with_reducible refine Rd.setCell ?_ ?_ _) | omega | (simp; done) | (simp; omega))
      have r1wL : Rd cPt 2 wL (wC.heap.size) Aw l2 := by repeat' (first | with_reducible assumption | (with_reducible refine Rd.drew ?_) | (with_reducible refine Rd.carry ?_ (by with_reducible assumption) ?_) | (with_reducible refine Rd.alloc ?_ ?_ _) | (with_reducible refine Rd.setCell ?_ ?_ _) | omega | (simp; done) | (simp; omega))
      have bx_wwL : AtL (wC.heap.size) [.slice Aw l2.length cw] wL := by repeat' (first | with_reducible assumption | with_reducible exact AtL.new _ _ _ | ((with_reducible refine AtL.newAt ?_); (first | rfl | (simp; done))) | (with_reducible refine AtL.drew ?_) | (with_reducible refine AtL.below ?_ (by with_reducible assumption)) | (with_reducible refine AtL.alloc ?_ _) | (with_reducible refine AtL.far ?_ ?_ _ _) | omega | (simp; done) | (simp; omega))
      have bx_gwL : AtL (wD.heap.size) [.slice Ag l2.length cg] wL := by repeat' (first | with_reducible assumption | with_reducible exact AtL.new _ _ _ | ((with_reducible refine AtL.newAt ?_); (first | rfl | (simp; done))) | (with_reducible refine AtL.drew ?_) | (with_reducible refine AtL.below ?_ (by with_reducible assumption)) | (with_reducible refine AtL.alloc ?_ _) | (with_reducible refine AtL.far ?_ ?_ _ _) | omega | (simp; done) | (simp; omega))
      have omwL : wL.ownsRow (wX.heap.size + 1) 52 2 (.slice Ag l2.length cg) l2.length (cellsF cPt (marksPt 1 l2.length)) := by repeat' (first | with_reducible assumption | (with_reducible refine own_drew ?_) | (with_reducible refine own_stays ?_ (by with_reducible assumption)) | (with_reducible refine World.ownsRow.alloc ?_ _))
      have bp := bwK.out
      have bn : Below w.heap.size w wL := by repeat' (first | with_reducible assumption | with_reducible exact Below.refl _ _ | (with_reducible refine Below.setCell ?_ ?_ _) | (with_reducible refine Below.alloc ?_ ?_ _) | (with_reducible refine Below.drew ?_) | (with_reducible refine below_dr ?_ _) | (with_reducible refine Below.trans ?_ (Below.mono (by with_reducible assumption) ?_)) | omega | (simp; done) | (simp; omega))
      have bwL := Lib.hid bn
      clear bn
      clear bp bwK
      clear hbwL
      clear bx_awK
      clear rd_a0wK
      clear r1wK
      clear bx_wwK
      clear bx_gwK
      clear omwK
      have kbx_a0 := bx_awL.cell 0 rfl
      have lbx_a := bx_awL.lt
      go_wp2_with fail
      clear kbx_a0 lbx_a
      refine (toRing_any a0A a0c a0l _ hl_a0 ?_).mono ?_
      · (refine Rd.more (B := w.heap.size) ?_ (by first | omega | ((try simp only [World.size_setCell]); (try simp only [World.size_drew]); (try simp only [World.size_alloc]); omega) | (simp; done) | (simp; omega))); (repeat' (first | with_reducible assumption | (with_reducible refine Rd.drew ?_) | (with_reducible refine Rd.carry ?_ (by with_reducible assumption) ?_) | (with_reducible refine Rd.alloc ?_ ?_ _) | (with_reducible refine Rd.setCell ?_ ?_ _) | omega | (simp; done) | (simp; omega)))
      intro e wP hq
      obtain ⟨gP, rfl, owP, hbwP⟩ := hq
      have zwP := hbwP.size
      (try simp only [World.size_setCell] at zwP)
      (try simp only [World.size_drew] at zwP)
      (try simp only [World.size_alloc] at zwP)
      have qwP : w.heap.size ≤ wP.heap.size := by omega
      have bx_awP : AtL (w.heap.size) [.slice a0A a0l.length a0c] wP := by repeat' (first | with_reducible assumption | with_reducible exact AtL.new _ _ _ | ((with_reducible refine AtL.newAt ?_); (first | rfl | (simp; done))) | (with_reducible refine AtL.drew ?_) | (with_reducible refine AtL.below ?_ (by with_reducible assumption)) | (with_reducible refine AtL.alloc ?_ _) | (with_reducible refine AtL.far ?_ ?_ _ _) | omega | (simp; done) | (simp; omega))
      have rd_a0wP : Rd cPt 2 wP (w.heap.size) a0A a0l := by repeat' (first | with_reducible assumption | (with_reducible refine Rd.drew ?_) | (with_reducible refine Rd.carry ?_ (by with_reducible assumption) ?_) | (with_reducible refine Rd.alloc ?_ ?_ _) | (with_reducible refine Rd.setCell ?_ ?_ _) | omega | (simp; done) | (simp; omega))
      have r1wP : Rd cPt 2 wP (wC.heap.size) Aw l2 := by repeat' (first | with_reducible assumption | (with_reducible refine Rd.drew ?_) | (with_reducible refine Rd.carry ?_ (by with_reducible assumption) ?_) | (with_reducible refine Rd.alloc ?_ ?_ _) | (with_reducible refine Rd.setCell ?_ ?_ _) | omega | (simp; done) | (simp; omega))
      have bx_wwP : AtL (wC.heap.size) [.slice Aw l2.length cw] wP := by repeat' (first | with_reducible assumption | with_reducible exact AtL.new _ _ _ | ((with_reducible refine AtL.newAt ?_); (first | rfl | (simp; done))) | (with_reducible refine AtL.drew ?_) | (with_reducible refine AtL.below ?_ (by with_reducible assumption)) | (with_reducible refine AtL.alloc ?_ _) | (with_reducible refine AtL.far ?_ ?_ _ _) | omega | (simp; done) | (simp; omega))
      have bx_gwP : AtL (wD.heap.size) [.slice Ag l2.length cg] wP := by repeat' (first | with_reducible assumption | with_reducible exact AtL.new _ _ _ | ((with_reducible refine AtL.newAt ?_); (first | rfl | (simp; done))) | (with_reducible refine AtL.drew ?_) | (with_reducible refine AtL.below ?_ (by with_reducible assumption)) | (with_reducible refine AtL.alloc ?_ _) | (with_reducible refine AtL.far ?_ ?_ _ _) | omega | (simp; done) | (simp; omega))
      have omwP : wP.ownsRow (wX.heap.size + 1) 52 2 (.slice Ag l2.length cg) l2.length (cellsF cPt (marksPt 1 l2.length)) := by repeat' (first | with_reducible assumption | (with_reducible refine own_drew ?_) | (with_reducible refine own_stays ?_ (by with_reducible assumption)) | (with_reducible refine World.ownsRow.alloc ?_ _))
      have bp := bwL.out
      have bn : Below w.heap.size w wP := by repeat' (first | with_reducible assumption | with_reducible exact Below.refl _ _ | (with_reducible refine Below.setCell ?_ ?_ _) | (with_reducible refine Below.alloc ?_ ?_ _) | (with_reducible refine Below.drew ?_) | (with_reducible refine below_dr ?_ _) | (with_reducible refine Below.trans ?_ (Below.mono (by with_reducible assumption) ?_)) | omega | (simp; done) | (simp; omega))
      have bwP := Lib.hid bn
      clear bn
      clear bp bwL
      clear hbwP
      clear bx_awL
      clear rd_a0wL
      clear r1wL
      clear bx_wwL
      clear bx_gwL
      clear omwL
      go_wp2_with fail
      refine (C2.out (some ⟨gP, 0, none⟩) a0l.length _ (by have bp := bwP.out; repeat' (first | with_reducible assumption | with_reducible exact Below.refl _ _ | (with_reducible refine Below.setCell ?_ ?_ _) | (with_reducible refine Below.alloc ?_ ?_ _) | (with_reducible refine Below.drew ?_) | (with_reducible refine below_dr ?_ _) | (with_reducible refine Below.trans ?_ (Below.mono (by with_reducible assumption) ?_)) | omega | (simp; done) | (simp; omega))) hl_a0 ?_).mono ?_
      · (first | exact Rd.of_own (fun a => cPt_len a) (by omega) owP (by first | exact Nat.le_refl _ | (simp; done)) | exact Rd.drew (Rd.of_own (fun a => cPt_len a) (by omega) owP (by first | exact Nat.le_refl _ | (simp; done))))
      intro e wQ hq
      obtain ⟨Ah, ch, rfl, owh, hbwQ⟩ := hq
      have zwQ := hbwQ.size
      (try simp only [World.size_setCell] at zwQ)
      (try simp only [World.size_drew] at zwQ)
      (try simp only [World.size_alloc] at zwQ)
      have qwQ : w.heap.size ≤ wQ.heap.size := by omega
      have bx_awQ : AtL (w.heap.size) [.slice a0A a0l.length a0c] wQ := by repeat' (first | with_reducible assumption | with_reducible exact AtL.new _ _ _ | ((with_reducible refine AtL.newAt ?_); (first | rfl | (simp; done))) | (with_reducible refine AtL.drew ?_) | (with_reducible refine AtL.below ?_ (by with_reducible assumption)) | (with_reducible refine AtL.alloc ?_ _) | (with_reducible refine AtL.far ?_ ?_ _ _) | omega | (simp; done) | (simp; omega))
      have rd_a0wQ : Rd cPt 2 wQ (w.heap.size) a0A a0l := by repeat' (first | with_reducible assumption | (with_reducible refine Rd.drew ?_) | (with_reducible refine Rd.carry ?_ (by with_reducible assumption) ?_) | (with_reducible refine Rd.alloc ?_ ?_ _) | (with_reducible refine Rd.setCell ?_ ?_ _) | omega | (simp; done) | (simp; omega))
      have r1wQ : Rd cPt 2 wQ (wC.heap.size) Aw l2 := by repeat' (first | with_reducible assumption | (with_reducible refine Rd.drew ?_) | (with_reducible refine Rd.carry ?_ (by with_reducible assumption) ?_) | (with_reducible refine Rd.alloc ?_ ?_ _) | (with_reducible refine Rd.setCell ?_ ?_ _) | omega | (simp; done) | (simp; omega))
      have bx_wwQ : AtL (wC.heap.size) [.slice Aw l2.length cw] wQ := by repeat' (first | with_reducible assumption | with_reducible exact AtL.new _ _ _ | ((with_reducible refine AtL.newAt ?_); (first | rfl | (simp; done))) | (with_reducible refine AtL.drew ?_) | (with_reducible refine AtL.below ?_ (by with_reducible assumption)) | (with_reducible refine AtL.alloc ?_ _) | (with_reducible refine AtL.far ?_ ?_ _ _) | omega | (simp; done) | (simp; omega))
      have bx_gwQ : AtL (wD.heap.size) [.slice Ag l2.length cg] wQ := by repeat' (first | with_reducible assumption | with_reducible exact AtL.new _ _ _ | ((with_reducible refine AtL.newAt ?_); (first | rfl | (simp; done))) | (with_reducible refine AtL.drew ?_) | (with_reducible refine AtL.below ?_ (by with_reducible assumption)) | (with_reducible refine AtL.alloc ?_ _) | (with_reducible refine AtL.far ?_ ?_ _ _) | omega | (simp; done) | (simp; omega))
      have omwQ : wQ.ownsRow (wX.heap.size + 1) 52 2 (.slice Ag l2.length cg) l2.length (cellsF cPt (marksPt 1 l2.length)) := by repeat' (first | with_reducible assumption | (with_reducible refine own_drew ?_) | (with_reducible refine own_stays ?_ (by with_reducible assumption)) | (with_reducible refine World.ownsRow.alloc ?_ _))
      have bp := bwP.out
      have bn : Below w.heap.size w wQ := by repeat' (first | with_reducible assumption | with_reducible exact Below.refl _ _ | (with_reducible refine Below.setCell ?_ ?_ _) | (with_reducible refine Below.alloc ?_ ?_ _) | (with_reducible refine Below.drew ?_) | (with_reducible refine below_dr ?_ _) | (with_reducible refine Below.trans ?_ (Below.mono (by with_reducible assumption) ?_)) | omega | (simp; done) | (simp; omega))
      have bwQ := Lib.hid bn
      clear bn
      clear bp bwP
      clear hbwQ
      clear bx_awP
      clear rd_a0wP
      clear r1wP
      clear bx_wwP
      clear bx_gwP
      clear omwP
      clear owP
      have ohwQ := own_base (base := 0) owh (Nat.zero_le _)
      clear owh
      have kbx_w0 := bx_wwQ.cell 0 rfl
      have lbx_w := bx_wwQ.lt
      go_wp2_with fail
      clear kbx_w0 lbx_w
      refine (eqRing_same Ah ch l2 Aw cw _ (by omega) ?_ ?_).mono ?_
      · refine Rd.of_own (fun a => cPt_len a) (by omega) (base := 0) (e := 52) (n := l2.length) (c := ch) ?_ (Nat.le_refl _); (repeat' (first | with_reducible assumption | (with_reducible refine own_drew ?_) | (with_reducible refine own_stays ?_ (by with_reducible assumption)) | (with_reducible refine World.ownsRow.alloc ?_ _)))
      · refine Rd.more (B := wC.heap.size) ?_ (by (try simp only [World.size_drew]); (try simp only [World.size_alloc]); omega)
        repeat' (first | with_reducible assumption | (with_reducible refine Rd.drew ?_) | (with_reducible refine Rd.carry ?_ (by with_reducible assumption) ?_) | (with_reducible refine Rd.alloc ?_ ?_ _) | (with_reducible refine Rd.setCell ?_ ?_ _) | omega | (simp; done) | (simp; omega))
      rintro e wR ⟨rfl, hbwR⟩
      have zwR := hbwR.size
      (try simp only [World.size_setCell] at zwR)
      (try simp only [World.size_drew] at zwR)
      (try simp only [World.size_alloc] at zwR)
      have qwR : w.heap.size ≤ wR.heap.size := by omega
      have bx_awR : AtL (w.heap.size) [.slice a0A a0l.length a0c] wR := by repeat' (first | with_reducible assumption | with_reducible exact AtL.new _ _ _ | ((with_reducible refine AtL.newAt ?_); (first | rfl | (simp; done))) | (with_reducible refine AtL.drew ?_) | (with_reducible refine AtL.below ?_ (by with_reducible assumption)) | (with_reducible refine AtL.alloc ?_ _) | (with_reducible refine AtL.far ?_ ?_ _ _) | omega | (simp; done) | (simp; omega))
      have rd_a0wR : Rd cPt 2 wR (w.heap.size) a0A a0l := by repeat' (first | with_reducible assumption | (with_reducible refine Rd.drew ?_) | (with_reducible refine Rd.carry ?_ (by with_reducible assumption) ?_) | (with_reducible refine Rd.alloc ?_ ?_ _) | (with_reducible refine Rd.setCell ?_ ?_ _) | omega | (simp; done) | (simp; omega))
      have r1wR : Rd cPt 2 wR (wC.heap.size) Aw l2 := by repeat' (first | with_reducible assumption | (with_reducible refine Rd.drew ?_) | (with_reducible refine Rd.carry ?_ (by with_reducible assumption) ?_) | (with_reducible refine Rd.alloc ?_ ?_ _) | (with_reducible refine Rd.setCell ?_ ?_ _) | omega | (simp; done) | (simp; omega))
      have bx_wwR : AtL (wC.heap.size) [.slice Aw l2.length cw] wR := by repeat' (first | with_reducible assumption | with_reducible exact AtL.new _ _ _ | ((with_reducible refine AtL.newAt ?_); (first | rfl | (simp; done))) | (with_reducible refine AtL.drew ?_) | (with_reducible refine AtL.below ?_ (by with_reducible assumption)) | (with_reducible refine AtL.alloc ?_ _) | (with_reducible refine AtL.far ?_ ?_ _ _) | omega | (simp; done) | (simp; omega))
      have bx_gwR : AtL (wD.heap.size) [.slice Ag l2.length cg] wR := by repeat' (first | with_reducible assumption | with_reducible exact AtL.new _ _ _ | ((with_reducible refine AtL.newAt ?_); (first | rfl | (simp; done))) | (with_reducible refine AtL.drew ?_) | (with_reducible refine AtL.below ?_ (by with_reducible assumption)) | (with_reducible refine AtL.alloc ?_ _) | (with_reducible refine AtL.far ?_ ?_ _ _) | omega | (simp; done) | (simp; omega))
      have omwR : wR.ownsRow (wX.heap.size + 1) 52 2 (.slice Ag l2.length cg) l2.length (cellsF cPt (marksPt 1 l2.length)) := by repeat' (first | with_reducible assumption | (with_reducible refine own_drew ?_) | (with_reducible refine own_stays ?_ (by with_reducible assumption)) | (with_reducible refine World.ownsRow.alloc ?_ _))
      have ohwR : wR.ownsRow (0) 52 2 (.slice Ah l2.length ch) l2.length (cellsF cPt l2) := by repeat' (first | with_reducible assumption | (with_reducible refine own_drew ?_) | (with_reducible refine own_stays ?_ (by with_reducible assumption)) | (with_reducible refine World.ownsRow.alloc ?_ _))
      have bp := bwQ.out
      have bn : Below w.heap.size w wR := by repeat' (first | with_reducible assumption | with_reducible exact Below.refl _ _ | (with_reducible refine Below.setCell ?_ ?_ _) | (with_reducible refine Below.alloc ?_ ?_ _) | (with_reducible refine Below.drew ?_) | (with_reducible refine below_dr ?_ _) | (with_reducible refine Below.trans ?_ (Below.mono (by with_reducible assumption) ?_)) | omega | (simp; done) | (simp; omega))
      have bwR := Lib.hid bn
      clear bn
      clear bp bwQ
      clear hbwR
      clear bx_awQ
      clear rd_a0wQ
      clear r1wQ
      clear bx_wwQ
      clear bx_gwQ
      clear omwQ
      clear ohwQ
      have kbx_g0 := bx_gwR.cell 0 rfl
      have lbx_g := bx_gwR.lt
      go_wp2_with fail
      clear kbx_g0 lbx_g
      refine (heldRing_any Ag cg 1 l2.length _ (by omega) (by omega) ?_).mono ?_
      · refine Rd.of_own (fun a => cPt_len a) (by omega) (base := wX.heap.size + 1) (e := 52) (n := l2.length) (c := cg) ?_ (Nat.le_refl _); (repeat' (first | with_reducible assumption | (with_reducible refine own_drew ?_) | (with_reducible refine own_stays ?_ (by with_reducible assumption)) | (with_reducible refine World.ownsRow.alloc ?_ _)))
      rw [← HM.out]
      rintro e wV ⟨rfl, hbwV⟩
      have zwV := hbwV.size
      (try simp only [World.size_setCell] at zwV)
      (try simp only [World.size_drew] at zwV)
      (try simp only [World.size_alloc] at zwV)
      have qwV : w.heap.size ≤ wV.heap.size := by omega
      have bx_awV : AtL (w.heap.size) [.slice a0A a0l.length a0c] wV := by repeat' (first | with_reducible assumption | with_reducible exact AtL.new _ _ _ | ((with_reducible refine AtL.newAt ?_); (first | rfl | (simp; done))) | (with_reducible refine AtL.drew ?_) | (with_reducible refine AtL.below ?_ (by with_reducible assumption)) | (with_reducible refine AtL.alloc ?_ _) | (with_reducible refine AtL.far ?_ ?_ _ _) | omega | (simp; done) | (simp; omega))
      have rd_a0wV : Rd cPt 2 wV (w.heap.size) a0A a0l := by repeat' (first | with_reducible assumption | (with_reducible refine Rd.drew ?_) | (with_reducible refine Rd.carry ?_ (by with_reducible assumption) ?_) | (with_reducible refine Rd.alloc ?_ ?_ _) | (with_reducible refine Rd.setCell ?_ ?_ _) | omega | (simp; done) | (simp; omega))
      have r1wV : Rd cPt 2 wV (wC.heap.size) Aw l2 := by repeat' (first | with_reducible assumption | (with_reducible refine Rd.drew ?_) | (with_reducible refine Rd.carry ?_ (by with_reducible assumption) ?_) | (with_reducible refine Rd.alloc ?_ ?_ _) | (with_reducible refine Rd.setCell ?_ ?_ _) | omega | (simp; done) | (simp; omega))
      have bx_wwV : AtL (wC.heap.size) [.slice Aw l2.length cw] wV := by repeat' (first | with_reducible assumption | with_reducible exact AtL.new _ _ _ | ((with_reducible refine AtL.newAt ?_); (first | rfl | (simp; done))) | (with_reducible refine AtL.drew ?_) | (with_reducible refine AtL.below ?_ (by with_reducible assumption)) | (with_reducible refine AtL.alloc ?_ _) | (with_reducible refine AtL.far ?_ ?_ _ _) | omega | (simp; done) | (simp; omega))
      have bx_gwV : AtL (wD.heap.size) [.slice Ag l2.length cg] wV := by repeat' (first | with_reducible assumption | with_reducible exact AtL.new _ _ _ | ((with_reducible refine AtL.newAt ?_); (first | rfl | (simp; done))) | (with_reducible refine AtL.drew ?_) | (with_reducible refine AtL.below ?_ (by with_reducible assumption)) | (with_reducible refine AtL.alloc ?_ _) | (with_reducible refine AtL.far ?_ ?_ _ _) | omega | (simp; done) | (simp; omega))
      have omwV : wV.ownsRow (wX.heap.size + 1) 52 2 (.slice Ag l2.length cg) l2.length (cellsF cPt (marksPt 1 l2.length)) := by repeat' (first | with_reducible assumption | (with_reducible refine own_drew ?_) | (with_reducible refine own_stays ?_ (by with_reducible assumption)) | (with_reducible refine World.ownsRow.alloc ?_ _))
      have ohwV : wV.ownsRow (0) 52 2 (.slice Ah l2.length ch) l2.length (cellsF cPt l2) := by repeat' (first | with_reducible assumption | (with_reducible refine own_drew ?_) | (with_reducible refine own_stays ?_ (by with_reducible assumption)) | (with_reducible refine World.ownsRow.alloc ?_ _))
      have bp := bwR.out
      have bn : Below w.heap.size w wV := by repeat' (first | with_reducible assumption | with_reducible exact Below.refl _ _ | (with_reducible refine Below.setCell ?_ ?_ _) | (with_reducible refine Below.alloc ?_ ?_ _) | (with_reducible refine Below.drew ?_) | (with_reducible refine below_dr ?_ _) | (with_reducible refine Below.trans ?_ (Below.mono (by with_reducible assumption) ?_)) | omega | (simp; done) | (simp; omega))
      have bwV := Lib.hid bn
      clear bn
      clear bp bwR
      clear hbwV
      clear bx_awR
      clear rd_a0wR
      clear r1wR
      clear bx_wwR
      clear bx_gwR
      clear omwR
      clear ohwR
      go_wp2_with fail
      go_ret
      have bp := bwV.out
      exact ⟨rfl, by repeat' (first | with_reducible assumption | with_reducible exact Below.refl _ _ | (with_reducible refine Below.setCell ?_ ?_ _) | (with_reducible refine Below.alloc ?_ ?_ _) | (with_reducible refine Below.drew ?_) | (with_reducible refine below_dr ?_ _) | (with_reducible refine Below.trans ?_ (Below.mono (by with_reducible assumption) ?_)) | omega | (simp; done) | (simp; omega))⟩
end Go.Proofs.YtdeemhfhmgnbgaaDoor
