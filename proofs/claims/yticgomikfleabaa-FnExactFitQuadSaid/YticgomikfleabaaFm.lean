/- Walks: the law on FlattenQuad: it returns true. -/
import Derived.Test.YticgomikfleabaaFl2
namespace Go.Proofs.Yticgomikfleabaa
open Go.RowKit
set_option linter.unusedVariables false
def markC (z : Nat) : Bool := decide (z % 3 = 0)
theorem markC_is (z : Nat) (c : Int) (hc : c = (z : Int)) : (c % 3 == 0) = markC z := by
  subst hc
  unfold markC
  rw [Bool.eq_iff_iff, beq_iff_eq, decide_eq_true_iff]
  omega
def marksPt (k n : Nat) : List APt := (List.range n).map fun i => (((k + 2 * i : Nat) : Int), ((k + 2 * i : Nat) : Int) + 1)
theorem marksPt_len (k n : Nat) : (marksPt k n).length = n := by simp [marksPt]
theorem marksPt_at {k n i : Nat} (h : i < n) : (marksPt k n)[i]? = some (((k + 2 * i : Nat) : Int), ((k + 2 * i : Nat) : Int) + 1) := by simp [marksPt, h]
set_option maxHeartbeats 1600000 in
theorem markPtS_any (k n : Nat) (A : Option Addr) (c base : Nat) (xs : List Value) (w : World) (hk : 1 ≤ k) (hn : k + 2 * n ≤ 4611686018427387904) (h1 : w.ownsRow base 29 2 (.slice A n c) n xs) :
    Calls Try.prog 11 #[.slice A n c, .int .i64 k] w fun e w' => e = .returned (.int .i64 ((k + 2 * n : Nat) : Int)) ∧ w'.ownsRow base 29 2 (.slice A n c) n (cellsF cPt (marksPt k n)) ∧ w.grownBy w' (Value.slice A n c).ownBlock := by
  go_enter Try.func11, Try.ntmps11
  go_wp2_with fail
  go_loopw [1, 5] (fun j i wr => ∃ (m : Nat) (ys : List Value), m ≤ n ∧ i = .int .i64 m ∧ j = .int .i64 ((k + 2 * m : Nat) : Int) ∧ wr.ownsRow base 29 2 (.slice A n c) n ys ∧ Filled cPt 2 (marksPt k n) m ys ∧ w.grownBy wr (Value.slice A n c).ownBlock) (fun _ i _ => n - (intOf i).toNat)
  case atStart => exact ⟨0, _, Nat.zero_le _, rfl, rfl, h1, Filled.zero, World.grownBy.refl _ _⟩
  case round =>
    obtain ⟨m, ys, hm, rfl, rfl, hown, hfil, hg⟩ := hrel
    have hxl : ys.length = n * 2 := hown.1
    have HX := Lib.hid hxl
    clear hxl
    by_cases hlt : m < n
    · obtain ⟨g, cap, hv, _, hgl⟩ := hown.form (by omega)
      obtain rfl : A = some ⟨g, 0, none⟩ := by injection hv
      have hat := marksPt_at (k := k) hlt
      obtain ⟨z, hz⟩ : ∃ z : Nat, z = k + 2 * m := ⟨_, rfl⟩
      rw [← hz] at hat ⊢
      have HZ := Lib.hid hz
      have hz2 : z + 2 ≤ 4611686018427387904 := by omega
      have hz1 : 1 ≤ z := by omega
      clear hz hv h1
      have hstep := Lib.hid (fun h => Filled.step2 hfil hat h (rfl : cPt _ = _))
      have hki : (m : Int) < (n : Int) := by omega
      clear hat hfil
      obtain ⟨yo0, y0⟩ : ∃ v, wr.cell? ⟨g, m * 2, none⟩ = some v := ⟨_, (hown.cellAt (m * 2) (by have := HX.out; omega)).trans (List.getElem?_eq_getElem (by have := HX.out; omega))⟩
      have yf0 : wr.frozen? ⟨g, m * 2, none⟩ = false := hown.frozenAt (m * 2)
      obtain ⟨yo1, y1⟩ : ∃ v, wr.cell? ⟨g, m * 2 + 1, none⟩ = some v := ⟨_, (hown.cellAt (m * 2 + 1) (by have := HX.out; omega)).trans (List.getElem?_eq_getElem (by have := HX.out; omega))⟩
      have yf1 : wr.frozen? ⟨g, m * 2 + 1, none⟩ = false := hown.frozenAt (m * 2 + 1)
      go_wp2_with fail
      go_roundw
      case rel =>
        have hst0 := World.ownsRow.stored (hown) (m * 2) (.int .i64 ((z : Nat) : Int))
        have hst1 := World.ownsRow.stored (hst0.1) (m * 2 + 1) (.int .i64 ((z : Int) + 1))
        exact ⟨m + 1, _, by omega, by go_num, by have := HZ.out; go_num, hst1.1, hstep.out (by have := HX.out; omega), (grownBy_trans (grownBy_trans hg hst0.2) hst1.2)⟩
      case measure => simp [intOf]; omega
    · obtain rfl : m = n := by omega
      go_wp2_with fail
      go_ret
      have hx := Filled.done (fun a => cPt_len a) (by omega) (by rw [marksPt_len]; exact hfil) (by rw [marksPt_len]; exact HX.out)
      rw [hx] at hown
      exact ⟨rfl, hown, hg⟩
set_option maxHeartbeats 1600000 in
theorem heldPtS_any (k n : Nat) (A : Option Addr) (c : Nat) (w : World) (hk : 1 ≤ k) (hn : k + 2 * n ≤ 4611686018427387904) (hr : Rd cPt 2 w w.heap.size A (marksPt k n)) :
    Calls Try.prog 12 #[.slice A n c, .int .i64 k] w fun e w' => e = .returned (.int .i64 ((k + 2 * n : Nat) : Int)) ∧ Below w.heap.size w w' := by
  go_enter Try.func12, Try.ntmps12
  go_wp2_with fail
  go_loopw [1, 5] (fun j i wr => ∃ m : Nat, m ≤ n ∧ i = .int .i64 m ∧ j = .int .i64 ((k + 2 * m : Nat) : Int) ∧ Below w.heap.size w wr) (fun _ i _ => n - (intOf i).toNat)
  case atStart => exact ⟨0, Nat.zero_le _, rfl, rfl, by repeat' (first | with_reducible assumption | with_reducible exact Below.refl _ _ | (with_reducible refine Below.setCell ?_ ?_ _) | (with_reducible refine Below.alloc ?_ ?_ _) | (with_reducible refine Below.drew ?_) | (with_reducible refine below_dr ?_ _) | (with_reducible refine Below.trans ?_ (Below.mono (by with_reducible assumption) ?_)) | omega | (simp; done) | (simp; omega))⟩
  case round =>
    obtain ⟨m, hm, rfl, rfl, hbl⟩ := hrel
    by_cases hlt : m < n
    · have ha := marksPt_at (k := k) hlt
      obtain ⟨g, o, rfl, hgb, hc⟩ := (hr.below hbl).elem ha
      obtain ⟨z, hz⟩ : ∃ z : Nat, z = k + 2 * m := ⟨_, rfl⟩
      rw [← hz] at hc ⊢
      have HZ := Lib.hid hz
      have hz2 : z + 2 ≤ 4611686018427387904 := by omega
      have hz1 : 1 ≤ z := by omega
      clear hz ha hr
      have d0 : (((z : Int)) != ((z : Int))) = false := by simp
      have d1 : (((z : Int) + 1) != ((z : Int) + 1)) = false := by simp
      have c0 : wr.cell? ⟨g, o + m * 2, none⟩ = some (.int .i64 (z : Int)) := hc 0 _ rfl
      have c1 : wr.cell? ⟨g, o + m * 2 + 1, none⟩ = some (.int .i64 ((z : Int) + 1)) := hc 1 _ rfl
      clear hc
      have hzr := hbl.size
      have hgw : g < wr.heap.size := by omega
      have hki : (m : Int) < (n : Int) := by omega
      go_wp2_with fail
      go_roundw
      case rel => exact ⟨m + 1, by omega, by go_num, by have := HZ.out; go_num, by repeat' (first | with_reducible assumption | with_reducible exact Below.refl _ _ | (with_reducible refine Below.setCell ?_ ?_ _) | (with_reducible refine Below.alloc ?_ ?_ _) | (with_reducible refine Below.drew ?_) | (with_reducible refine below_dr ?_ _) | (with_reducible refine Below.trans ?_ (Below.mono (by with_reducible assumption) ?_)) | omega | (simp; done) | (simp; omega))⟩
      case measure => simp [intOf]; omega
    · obtain rfl : m = n := by omega
      go_wp2_with fail
      go_ret
      exact ⟨rfl, hbl⟩
theorem flQl_len (m0 m1 m2 m3 m4 m5 t : Int) : (flQl m0 m1 m2 m3 m4 m5 t).length ≤ 65 := by
  unfold flQl
  rcases flG m0 m1 m2 m3 m4 m5 t with _ | _
  · simp
  · obtain ⟨L0, L6⟩ := levV_in (szQ m0 m1 m2 m3 m4 m5) t
    obtain ⟨N1, N64, SH, SW⟩ := shl_one L0 L6
    simp only [cond_true, upP_len]
    unfold flN; omega
set_option maxRecDepth 100000 in
set_option maxHeartbeats 6400000 in
theorem walk_FlattenQuad (m0 m1 m2 m3 m4 m5 t : Int) (w_m0 : (Lit.int .i64 m0).wf = true) (w_m1 : (Lit.int .i64 m1).wf = true) (w_m2 : (Lit.int .i64 m2).wf = true) (w_m3 : (Lit.int .i64 m3).wf = true) (w_m4 : (Lit.int .i64 m4).wf = true) (w_m5 : (Lit.int .i64 m5).wf = true) (w_t : (Lit.int .i64 t).wf = true) (w : World) :
    Calls Try.prog 3 #[.agg #[.int .i64 m0, .int .i64 m1, .int .i64 m2, .int .i64 m3, .int .i64 m4, .int .i64 m5], .int .i64 t] w fun e w' => e = .returned (.bool true) ∧ Below w.heap.size w w' := by
  have i_t := i64_bounds w_t
  clear w_m0 w_m1 w_m2 w_m3 w_m4 w_m5 w_t
  have C1 := Lib.hid (fun w => specFlattenQuad_any m0 m1 m2 m3 m4 m5 t w i_t)
  have C2 := Lib.hid (fun w => implFlattenQuad_any m0 m1 m2 m3 m4 m5 t w i_t)
  have hlen : (flQl m0 m1 m2 m3 m4 m5 t).length ≤ 1048576 := Nat.le_trans (flQl_len _ _ _ _ _ _ _) (by omega)
  unfold FlRet at C1 C2
  generalize flQl m0 m1 m2 m3 m4 m5 t = l at C1 C2 hlen
  generalize flQc m0 m1 m2 m3 m4 m5 t = cc at C1 C2
  have e_cc : (cc != cc) = false := by simp
  clear i_t
  obtain ⟨M, hM⟩ : ∃ M : Int, M = ((1 + 2 * l.length : Nat) : Int) := ⟨_, rfl⟩
  have hM0 : 0 ≤ M := by omega
  have HM := Lib.hid hM
  have e_M : (M != M) = false := by simp
  clear hM
  go_enter Try.func3, Try.ntmps3
  go_wp2_with fail
  generalize hW : (w.alloc (.cells #[.int .i64 m0, .int .i64 m1, .int .i64 m2, .int .i64 m3, .int .i64 m4, .int .i64 m5] 25)) = W0
  have bx_f0W0 : AtL (w.heap.size) [.int .i64 m0, .int .i64 m1, .int .i64 m2, .int .i64 m3, .int .i64 m4, .int .i64 m5] W0 := by rw [← hW]; repeat' (first | with_reducible assumption | with_reducible exact AtL.new _ _ _ | ((with_reducible refine AtL.newAt ?_); (first | rfl | (simp; done))) | (with_reducible refine AtL.drew ?_) | (with_reducible refine AtL.below ?_ (by with_reducible assumption)) | (with_reducible refine AtL.alloc ?_ _) | (with_reducible refine AtL.far ?_ ?_ _ _) | omega | (simp; done) | (simp; omega))
  have qW0 : w.heap.size ≤ W0.heap.size := by rw [← hW]; first | (simp; done) | (simp; omega)
  have bn : Below w.heap.size w W0 := by rw [← hW]; repeat' (first | with_reducible assumption | with_reducible exact Below.refl _ _ | (with_reducible refine Below.setCell ?_ ?_ _) | (with_reducible refine Below.alloc ?_ ?_ _) | (with_reducible refine Below.drew ?_) | (with_reducible refine below_dr ?_ _) | (with_reducible refine Below.trans ?_ (Below.mono (by with_reducible assumption) ?_)) | omega | (simp; done) | (simp; omega))
  have bW0 := Lib.hid bn
  clear hW bn
  have kbx_f00 := bx_f0W0.cell 0 rfl
  have kbx_f01 := bx_f0W0.cell 1 rfl
  have kbx_f02 := bx_f0W0.cell 2 rfl
  have kbx_f03 := bx_f0W0.cell 3 rfl
  have kbx_f04 := bx_f0W0.cell 4 rfl
  have kbx_f05 := bx_f0W0.cell 5 rfl
  have lbx_f0 := bx_f0W0.lt
  go_wp2_with fail
  clear kbx_f00 kbx_f01 kbx_f02 kbx_f03 kbx_f04 kbx_f05 lbx_f0
  refine (toQuad_any m0 m1 m2 m3 m4 m5 _).mono ?_
  rintro e wA0 ⟨rfl, hbwA0⟩
  have zwA0 := hbwA0.size
  (try simp only [World.size_setCell] at zwA0)
  (try simp only [World.size_drew] at zwA0)
  (try simp only [World.size_alloc] at zwA0)
  have qwA0 : w.heap.size ≤ wA0.heap.size := by omega
  have bx_f0wA0 : AtL (w.heap.size) [.int .i64 m0, .int .i64 m1, .int .i64 m2, .int .i64 m3, .int .i64 m4, .int .i64 m5] wA0 := by repeat' (first | with_reducible assumption | with_reducible exact AtL.new _ _ _ | ((with_reducible refine AtL.newAt ?_); (first | rfl | (simp; done))) | (with_reducible refine AtL.drew ?_) | (with_reducible refine AtL.below ?_ (by with_reducible assumption)) | (with_reducible refine AtL.alloc ?_ _) | (with_reducible refine AtL.far ?_ ?_ _ _) | omega | (simp; done) | (simp; omega))
  have bp := bW0.out
  have bn : Below w.heap.size w wA0 := by repeat' (first | with_reducible assumption | with_reducible exact Below.refl _ _ | (with_reducible refine Below.setCell ?_ ?_ _) | (with_reducible refine Below.alloc ?_ ?_ _) | (with_reducible refine Below.drew ?_) | (with_reducible refine below_dr ?_ _) | (with_reducible refine Below.trans ?_ (Below.mono (by with_reducible assumption) ?_)) | omega | (simp; done) | (simp; omega))
  have bwA0 := Lib.hid bn
  clear bn
  clear bp bW0
  clear hbwA0
  clear bx_f0W0
  go_wp2_with fail
  refine (C1.out _).mono ?_
  intro e wC hq
  obtain ⟨Aw, cw, rfl, oww, hbwC⟩ := hq
  have zwC := hbwC.size
  (try simp only [World.size_setCell] at zwC)
  (try simp only [World.size_drew] at zwC)
  (try simp only [World.size_alloc] at zwC)
  have qwC : w.heap.size ≤ wC.heap.size := by omega
  have bx_f0wC : AtL (w.heap.size) [.int .i64 m0, .int .i64 m1, .int .i64 m2, .int .i64 m3, .int .i64 m4, .int .i64 m5] wC := by repeat' (first | with_reducible assumption | with_reducible exact AtL.new _ _ _ | ((with_reducible refine AtL.newAt ?_); (first | rfl | (simp; done))) | (with_reducible refine AtL.drew ?_) | (with_reducible refine AtL.below ?_ (by with_reducible assumption)) | (with_reducible refine AtL.alloc ?_ _) | (with_reducible refine AtL.far ?_ ?_ _ _) | omega | (simp; done) | (simp; omega))
  have bp := bwA0.out
  have bn : Below w.heap.size w wC := by repeat' (first | with_reducible assumption | with_reducible exact Below.refl _ _ | (with_reducible refine Below.setCell ?_ ?_ _) | (with_reducible refine Below.alloc ?_ ?_ _) | (with_reducible refine Below.drew ?_) | (with_reducible refine below_dr ?_ _) | (with_reducible refine Below.trans ?_ (Below.mono (by with_reducible assumption) ?_)) | omega | (simp; done) | (simp; omega))
  have bwC := Lib.hid bn
  clear bn
  clear bp bwA0
  clear hbwC
  clear bx_f0wA0
  have r1wC : Rd cPt 2 wC (wC.heap.size) Aw l := Rd.of_own (fun a => cPt_len a) (by omega) oww (Nat.le_refl _)
  clear oww
  have kbx_f00 := bx_f0wC.cell 0 rfl
  have kbx_f01 := bx_f0wC.cell 1 rfl
  have kbx_f02 := bx_f0wC.cell 2 rfl
  have kbx_f03 := bx_f0wC.cell 3 rfl
  have kbx_f04 := bx_f0wC.cell 4 rfl
  have kbx_f05 := bx_f0wC.cell 5 rfl
  have lbx_f0 := bx_f0wC.lt
  go_wp2_with fail
  clear kbx_f00 kbx_f01 kbx_f02 kbx_f03 kbx_f04 kbx_f05 lbx_f0
  refine (toQuad_any m0 m1 m2 m3 m4 m5 _).mono ?_
  rintro e wX0 ⟨rfl, hbwX0⟩
  have zwX0 := hbwX0.size
  (try simp only [World.size_setCell] at zwX0)
  (try simp only [World.size_drew] at zwX0)
  (try simp only [World.size_alloc] at zwX0)
  have qwX0 : w.heap.size ≤ wX0.heap.size := by omega
  have bx_f0wX0 : AtL (w.heap.size) [.int .i64 m0, .int .i64 m1, .int .i64 m2, .int .i64 m3, .int .i64 m4, .int .i64 m5] wX0 := by repeat' (first | with_reducible assumption | with_reducible exact AtL.new _ _ _ | ((with_reducible refine AtL.newAt ?_); (first | rfl | (simp; done))) | (with_reducible refine AtL.drew ?_) | (with_reducible refine AtL.below ?_ (by with_reducible assumption)) | (with_reducible refine AtL.alloc ?_ _) | (with_reducible refine AtL.far ?_ ?_ _ _) | omega | (simp; done) | (simp; omega))
  have r1wX0 : Rd cPt 2 wX0 (wC.heap.size) Aw l := by repeat' (first | with_reducible assumption | (with_reducible refine Rd.drew ?_) | (with_reducible refine Rd.carry ?_ (by with_reducible assumption) ?_) | (with_reducible refine Rd.alloc ?_ ?_ _) | (with_reducible refine Rd.setCell ?_ ?_ _) | omega | (simp; done) | (simp; omega))
  have bp := bwC.out
  have bn : Below w.heap.size w wX0 := by repeat' (first | with_reducible assumption | with_reducible exact Below.refl _ _ | (with_reducible refine Below.setCell ?_ ?_ _) | (with_reducible refine Below.alloc ?_ ?_ _) | (with_reducible refine Below.drew ?_) | (with_reducible refine below_dr ?_ _) | (with_reducible refine Below.trans ?_ (Below.mono (by with_reducible assumption) ?_)) | omega | (simp; done) | (simp; omega))
  have bwX0 := Lib.hid bn
  clear bn
  clear bp bwC
  clear hbwX0
  clear bx_f0wC
  clear r1wC
  go_wp2_with fail
  have lt_X := bx_f0wX0.lt
  refine (C2.out _).mono ?_
  intro e wD hq
  obtain ⟨Ag, cg, rfl, owg, hbwD⟩ := hq
  have zwD := hbwD.size
  (try simp only [World.size_setCell] at zwD)
  (try simp only [World.size_drew] at zwD)
  (try simp only [World.size_alloc] at zwD)
  have qwD : w.heap.size ≤ wD.heap.size := by omega
  have bx_f0wD : AtL (w.heap.size) [.int .i64 m0, .int .i64 m1, .int .i64 m2, .int .i64 m3, .int .i64 m4, .int .i64 m5] wD := by repeat' (first | with_reducible assumption | with_reducible exact AtL.new _ _ _ | ((with_reducible refine AtL.newAt ?_); (first | rfl | (simp; done))) | (with_reducible refine AtL.drew ?_) | (with_reducible refine AtL.below ?_ (by with_reducible assumption)) | (with_reducible refine AtL.alloc ?_ _) | (with_reducible refine AtL.far ?_ ?_ _ _) | omega | (simp; done) | (simp; omega))
  have r1wD : Rd cPt 2 wD (wC.heap.size) Aw l := by repeat' (first | with_reducible assumption | (with_reducible refine Rd.drew ?_) | (with_reducible refine Rd.carry ?_ (by with_reducible assumption) ?_) | (with_reducible refine Rd.alloc ?_ ?_ _) | (with_reducible refine Rd.setCell ?_ ?_ _) | omega | (simp; done) | (simp; omega))
  have bp := bwX0.out
  have bn : Below w.heap.size w wD := by repeat' (first | with_reducible assumption | with_reducible exact Below.refl _ _ | (with_reducible refine Below.setCell ?_ ?_ _) | (with_reducible refine Below.alloc ?_ ?_ _) | (with_reducible refine Below.drew ?_) | (with_reducible refine below_dr ?_ _) | (with_reducible refine Below.trans ?_ (Below.mono (by with_reducible assumption) ?_)) | omega | (simp; done) | (simp; omega))
  have bwD := Lib.hid bn
  clear bn
  clear bp bwX0
  clear hbwD
  clear bx_f0wX0
  clear r1wX0
  have ogwD := own_base (base := wX0.heap.size) owg (by first | exact Nat.le_refl _ | (simp; done) | (simp; omega))
  clear owg
  have OBg := Lib.hid (fun r hr => own_block ogwD (q := r) hr)
  go_wp2_with fail
  refine (eqPtS_same l Ag Aw cg cw _ (by omega) ?_ ?_).mono ?_
  · refine Rd.of_own (fun a => cPt_len a) (by omega) (base := wX0.heap.size) (e := 29) (n := l.length) (c := cg) ?_ (Nat.le_refl _); (repeat' (first | with_reducible assumption | (with_reducible refine own_drew ?_) | (with_reducible refine own_stays ?_ (by with_reducible assumption)) | (with_reducible refine World.ownsRow.alloc ?_ _)))
  · refine Rd.more (B := wC.heap.size) ?_ (by (try simp only [World.size_drew]); (try simp only [World.size_alloc]); omega)
    repeat' (first | with_reducible assumption | (with_reducible refine Rd.drew ?_) | (with_reducible refine Rd.carry ?_ (by with_reducible assumption) ?_) | (with_reducible refine Rd.alloc ?_ ?_ _) | (with_reducible refine Rd.setCell ?_ ?_ _) | omega | (simp; done) | (simp; omega))
  rintro e wE ⟨rfl, hbwE⟩
  have zwE := hbwE.size
  (try simp only [World.size_setCell] at zwE)
  (try simp only [World.size_drew] at zwE)
  (try simp only [World.size_alloc] at zwE)
  have qwE : w.heap.size ≤ wE.heap.size := by omega
  have bx_f0wE : AtL (w.heap.size) [.int .i64 m0, .int .i64 m1, .int .i64 m2, .int .i64 m3, .int .i64 m4, .int .i64 m5] wE := by repeat' (first | with_reducible assumption | with_reducible exact AtL.new _ _ _ | ((with_reducible refine AtL.newAt ?_); (first | rfl | (simp; done))) | (with_reducible refine AtL.drew ?_) | (with_reducible refine AtL.below ?_ (by with_reducible assumption)) | (with_reducible refine AtL.alloc ?_ _) | (with_reducible refine AtL.far ?_ ?_ _ _) | omega | (simp; done) | (simp; omega))
  have r1wE : Rd cPt 2 wE (wC.heap.size) Aw l := by repeat' (first | with_reducible assumption | (with_reducible refine Rd.drew ?_) | (with_reducible refine Rd.carry ?_ (by with_reducible assumption) ?_) | (with_reducible refine Rd.alloc ?_ ?_ _) | (with_reducible refine Rd.setCell ?_ ?_ _) | omega | (simp; done) | (simp; omega))
  have ogwE : wE.ownsRow (wX0.heap.size) 29 2 (.slice Ag l.length cg) l.length (cellsF cPt l) := by repeat' (first | with_reducible assumption | (with_reducible refine own_drew ?_) | (with_reducible refine own_stays ?_ (by with_reducible assumption)) | (with_reducible refine World.ownsRow.alloc ?_ _))
  have bp := bwD.out
  have bn : Below w.heap.size w wE := by repeat' (first | with_reducible assumption | with_reducible exact Below.refl _ _ | (with_reducible refine Below.setCell ?_ ?_ _) | (with_reducible refine Below.alloc ?_ ?_ _) | (with_reducible refine Below.drew ?_) | (with_reducible refine below_dr ?_ _) | (with_reducible refine Below.trans ?_ (Below.mono (by with_reducible assumption) ?_)) | omega | (simp; done) | (simp; omega))
  have bwE := Lib.hid bn
  clear bn
  clear bp bwD
  clear hbwE
  clear bx_f0wD
  clear r1wD
  clear ogwD
  go_wp2_with fail
  refine (markPtS_any 1 l.length Ag cg (wX0.heap.size) (cellsF cPt l) _ (by omega) (by omega) (by repeat' (first | with_reducible assumption | (with_reducible refine own_drew ?_) | (with_reducible refine own_stays ?_ (by with_reducible assumption)) | (with_reducible refine World.ownsRow.alloc ?_ _)))).mono ?_
  rw [← HM.out]
  rintro e wK ⟨rfl, omwK, hg⟩
  have zwK := hg.size
  have qwK : w.heap.size ≤ wK.heap.size := by omega
  have bp := bwE.out
  have bn : Below w.heap.size w wK := by exact below_of_grown (by repeat' (first | with_reducible assumption | with_reducible exact Below.refl _ _ | (with_reducible refine Below.setCell ?_ ?_ _) | (with_reducible refine Below.alloc ?_ ?_ _) | (with_reducible refine Below.drew ?_) | (with_reducible refine below_dr ?_ _) | (with_reducible refine Below.trans ?_ (Below.mono (by with_reducible assumption) ?_)) | omega | (simp; done) | (simp; omega))) hg (by omega) (fun q hq => by have := OBg.out q hq; omega)
  have bwK := Lib.hid bn
  clear bn
  clear bp bwE
  have bx_f0wK : AtL (w.heap.size) [.int .i64 m0, .int .i64 m1, .int .i64 m2, .int .i64 m3, .int .i64 m4, .int .i64 m5] wK := AtL.grown (bx_f0wE) hg (fun q hq => by have := OBg.out q hq; omega)
  have r1wK : Rd cPt 2 wK (wC.heap.size) Aw l := Rd.grown2 r1wE hg (by omega) (fun q hq => by have := OBg.out q hq; omega)
  clear hg bx_f0wE r1wE ogwE
  go_wp2_with fail
  refine (heldPtS_any 1 l.length Ag cg _ (by omega) (by omega) ?_).mono ?_
  · refine Rd.of_own (fun a => cPt_len a) (by omega) (base := wX0.heap.size) (e := 29) (n := l.length) (c := cg) ?_ (Nat.le_refl _); (repeat' (first | with_reducible assumption | (with_reducible refine own_drew ?_) | (with_reducible refine own_stays ?_ (by with_reducible assumption)) | (with_reducible refine World.ownsRow.alloc ?_ _)))
  rw [← HM.out]
  rintro e wL ⟨rfl, hbwL⟩
  have zwL := hbwL.size
  (try simp only [World.size_setCell] at zwL)
  (try simp only [World.size_drew] at zwL)
  (try simp only [World.size_alloc] at zwL)
  have qwL : w.heap.size ≤ wL.heap.size := by omega
  have bx_f0wL : AtL (w.heap.size) [.int .i64 m0, .int .i64 m1, .int .i64 m2, .int .i64 m3, .int .i64 m4, .int .i64 m5] wL := by repeat' (first | with_reducible assumption | with_reducible exact AtL.new _ _ _ | ((with_reducible refine AtL.newAt ?_); (first | rfl | (simp; done))) | (with_reducible refine AtL.drew ?_) | (with_reducible refine AtL.below ?_ (by with_reducible assumption)) | (with_reducible refine AtL.alloc ?_ _) | (with_reducible refine AtL.far ?_ ?_ _ _) | omega | (simp; done) | (simp; omega))
  have r1wL : Rd cPt 2 wL (wC.heap.size) Aw l := by repeat' (first | with_reducible assumption | (with_reducible refine Rd.drew ?_) | (with_reducible refine Rd.carry ?_ (by with_reducible assumption) ?_) | (with_reducible refine Rd.alloc ?_ ?_ _) | (with_reducible refine Rd.setCell ?_ ?_ _) | omega | (simp; done) | (simp; omega))
  have omwL : wL.ownsRow (wX0.heap.size) 29 2 (.slice Ag l.length cg) l.length (cellsF cPt (marksPt 1 l.length)) := by repeat' (first | with_reducible assumption | (with_reducible refine own_drew ?_) | (with_reducible refine own_stays ?_ (by with_reducible assumption)) | (with_reducible refine World.ownsRow.alloc ?_ _))
  have bp := bwK.out
  have bn : Below w.heap.size w wL := by repeat' (first | with_reducible assumption | with_reducible exact Below.refl _ _ | (with_reducible refine Below.setCell ?_ ?_ _) | (with_reducible refine Below.alloc ?_ ?_ _) | (with_reducible refine Below.drew ?_) | (with_reducible refine below_dr ?_ _) | (with_reducible refine Below.trans ?_ (Below.mono (by with_reducible assumption) ?_)) | omega | (simp; done) | (simp; omega))
  have bwL := Lib.hid bn
  clear bn
  clear bp bwK
  clear hbwL
  clear bx_f0wK
  clear r1wK
  clear omwK
  have kbx_f00 := bx_f0wL.cell 0 rfl
  have kbx_f01 := bx_f0wL.cell 1 rfl
  have kbx_f02 := bx_f0wL.cell 2 rfl
  have kbx_f03 := bx_f0wL.cell 3 rfl
  have kbx_f04 := bx_f0wL.cell 4 rfl
  have kbx_f05 := bx_f0wL.cell 5 rfl
  have lbx_f0 := bx_f0wL.lt
  go_wp2_with fail
  clear kbx_f00 kbx_f01 kbx_f02 kbx_f03 kbx_f04 kbx_f05 lbx_f0
  refine (toQuad_any m0 m1 m2 m3 m4 m5 _).mono ?_
  rintro e wP0 ⟨rfl, hbwP0⟩
  have zwP0 := hbwP0.size
  (try simp only [World.size_setCell] at zwP0)
  (try simp only [World.size_drew] at zwP0)
  (try simp only [World.size_alloc] at zwP0)
  have qwP0 : w.heap.size ≤ wP0.heap.size := by omega
  have bx_f0wP0 : AtL (w.heap.size) [.int .i64 m0, .int .i64 m1, .int .i64 m2, .int .i64 m3, .int .i64 m4, .int .i64 m5] wP0 := by repeat' (first | with_reducible assumption | with_reducible exact AtL.new _ _ _ | ((with_reducible refine AtL.newAt ?_); (first | rfl | (simp; done))) | (with_reducible refine AtL.drew ?_) | (with_reducible refine AtL.below ?_ (by with_reducible assumption)) | (with_reducible refine AtL.alloc ?_ _) | (with_reducible refine AtL.far ?_ ?_ _ _) | omega | (simp; done) | (simp; omega))
  have r1wP0 : Rd cPt 2 wP0 (wC.heap.size) Aw l := by repeat' (first | with_reducible assumption | (with_reducible refine Rd.drew ?_) | (with_reducible refine Rd.carry ?_ (by with_reducible assumption) ?_) | (with_reducible refine Rd.alloc ?_ ?_ _) | (with_reducible refine Rd.setCell ?_ ?_ _) | omega | (simp; done) | (simp; omega))
  have omwP0 : wP0.ownsRow (wX0.heap.size) 29 2 (.slice Ag l.length cg) l.length (cellsF cPt (marksPt 1 l.length)) := by repeat' (first | with_reducible assumption | (with_reducible refine own_drew ?_) | (with_reducible refine own_stays ?_ (by with_reducible assumption)) | (with_reducible refine World.ownsRow.alloc ?_ _))
  have bp := bwL.out
  have bn : Below w.heap.size w wP0 := by repeat' (first | with_reducible assumption | with_reducible exact Below.refl _ _ | (with_reducible refine Below.setCell ?_ ?_ _) | (with_reducible refine Below.alloc ?_ ?_ _) | (with_reducible refine Below.drew ?_) | (with_reducible refine below_dr ?_ _) | (with_reducible refine Below.trans ?_ (Below.mono (by with_reducible assumption) ?_)) | omega | (simp; done) | (simp; omega))
  have bwP0 := Lib.hid bn
  clear bn
  clear bp bwL
  clear hbwP0
  clear bx_f0wL
  clear r1wL
  clear omwL
  go_wp2_with fail
  refine (C2.out _).mono ?_
  intro e wQ hq
  obtain ⟨Ah, ch, rfl, owh, hbwQ⟩ := hq
  have zwQ := hbwQ.size
  (try simp only [World.size_setCell] at zwQ)
  (try simp only [World.size_drew] at zwQ)
  (try simp only [World.size_alloc] at zwQ)
  have qwQ : w.heap.size ≤ wQ.heap.size := by omega
  have bx_f0wQ : AtL (w.heap.size) [.int .i64 m0, .int .i64 m1, .int .i64 m2, .int .i64 m3, .int .i64 m4, .int .i64 m5] wQ := by repeat' (first | with_reducible assumption | with_reducible exact AtL.new _ _ _ | ((with_reducible refine AtL.newAt ?_); (first | rfl | (simp; done))) | (with_reducible refine AtL.drew ?_) | (with_reducible refine AtL.below ?_ (by with_reducible assumption)) | (with_reducible refine AtL.alloc ?_ _) | (with_reducible refine AtL.far ?_ ?_ _ _) | omega | (simp; done) | (simp; omega))
  have r1wQ : Rd cPt 2 wQ (wC.heap.size) Aw l := by repeat' (first | with_reducible assumption | (with_reducible refine Rd.drew ?_) | (with_reducible refine Rd.carry ?_ (by with_reducible assumption) ?_) | (with_reducible refine Rd.alloc ?_ ?_ _) | (with_reducible refine Rd.setCell ?_ ?_ _) | omega | (simp; done) | (simp; omega))
  have omwQ : wQ.ownsRow (wX0.heap.size) 29 2 (.slice Ag l.length cg) l.length (cellsF cPt (marksPt 1 l.length)) := by repeat' (first | with_reducible assumption | (with_reducible refine own_drew ?_) | (with_reducible refine own_stays ?_ (by with_reducible assumption)) | (with_reducible refine World.ownsRow.alloc ?_ _))
  have bp := bwP0.out
  have bn : Below w.heap.size w wQ := by repeat' (first | with_reducible assumption | with_reducible exact Below.refl _ _ | (with_reducible refine Below.setCell ?_ ?_ _) | (with_reducible refine Below.alloc ?_ ?_ _) | (with_reducible refine Below.drew ?_) | (with_reducible refine below_dr ?_ _) | (with_reducible refine Below.trans ?_ (Below.mono (by with_reducible assumption) ?_)) | omega | (simp; done) | (simp; omega))
  have bwQ := Lib.hid bn
  clear bn
  clear bp bwP0
  clear hbwQ
  clear bx_f0wP0
  clear r1wP0
  clear omwP0
  have ohwQ := own_base (base := 0) owh (Nat.zero_le _)
  clear owh
  go_wp2_with fail
  refine (eqPtS_same l Ah Aw ch cw _ (by omega) ?_ ?_).mono ?_
  · refine Rd.of_own (fun a => cPt_len a) (by omega) (base := 0) (e := 29) (n := l.length) (c := ch) ?_ (Nat.le_refl _); (repeat' (first | with_reducible assumption | (with_reducible refine own_drew ?_) | (with_reducible refine own_stays ?_ (by with_reducible assumption)) | (with_reducible refine World.ownsRow.alloc ?_ _)))
  · refine Rd.more (B := wC.heap.size) ?_ (by (try simp only [World.size_drew]); (try simp only [World.size_alloc]); omega)
    repeat' (first | with_reducible assumption | (with_reducible refine Rd.drew ?_) | (with_reducible refine Rd.carry ?_ (by with_reducible assumption) ?_) | (with_reducible refine Rd.alloc ?_ ?_ _) | (with_reducible refine Rd.setCell ?_ ?_ _) | omega | (simp; done) | (simp; omega))
  rintro e wR ⟨rfl, hbwR⟩
  have zwR := hbwR.size
  (try simp only [World.size_setCell] at zwR)
  (try simp only [World.size_drew] at zwR)
  (try simp only [World.size_alloc] at zwR)
  have qwR : w.heap.size ≤ wR.heap.size := by omega
  have bx_f0wR : AtL (w.heap.size) [.int .i64 m0, .int .i64 m1, .int .i64 m2, .int .i64 m3, .int .i64 m4, .int .i64 m5] wR := by repeat' (first | with_reducible assumption | with_reducible exact AtL.new _ _ _ | ((with_reducible refine AtL.newAt ?_); (first | rfl | (simp; done))) | (with_reducible refine AtL.drew ?_) | (with_reducible refine AtL.below ?_ (by with_reducible assumption)) | (with_reducible refine AtL.alloc ?_ _) | (with_reducible refine AtL.far ?_ ?_ _ _) | omega | (simp; done) | (simp; omega))
  have r1wR : Rd cPt 2 wR (wC.heap.size) Aw l := by repeat' (first | with_reducible assumption | (with_reducible refine Rd.drew ?_) | (with_reducible refine Rd.carry ?_ (by with_reducible assumption) ?_) | (with_reducible refine Rd.alloc ?_ ?_ _) | (with_reducible refine Rd.setCell ?_ ?_ _) | omega | (simp; done) | (simp; omega))
  have omwR : wR.ownsRow (wX0.heap.size) 29 2 (.slice Ag l.length cg) l.length (cellsF cPt (marksPt 1 l.length)) := by repeat' (first | with_reducible assumption | (with_reducible refine own_drew ?_) | (with_reducible refine own_stays ?_ (by with_reducible assumption)) | (with_reducible refine World.ownsRow.alloc ?_ _))
  have ohwR : wR.ownsRow (0) 29 2 (.slice Ah l.length ch) l.length (cellsF cPt l) := by repeat' (first | with_reducible assumption | (with_reducible refine own_drew ?_) | (with_reducible refine own_stays ?_ (by with_reducible assumption)) | (with_reducible refine World.ownsRow.alloc ?_ _))
  have bp := bwQ.out
  have bn : Below w.heap.size w wR := by repeat' (first | with_reducible assumption | with_reducible exact Below.refl _ _ | (with_reducible refine Below.setCell ?_ ?_ _) | (with_reducible refine Below.alloc ?_ ?_ _) | (with_reducible refine Below.drew ?_) | (with_reducible refine below_dr ?_ _) | (with_reducible refine Below.trans ?_ (Below.mono (by with_reducible assumption) ?_)) | omega | (simp; done) | (simp; omega))
  have bwR := Lib.hid bn
  clear bn
  clear bp bwQ
  clear hbwR
  clear bx_f0wQ
  clear r1wQ
  clear omwQ
  clear ohwQ
  go_wp2_with fail
  refine (heldPtS_any 1 l.length Ag cg _ (by omega) (by omega) ?_).mono ?_
  · refine Rd.of_own (fun a => cPt_len a) (by omega) (base := wX0.heap.size) (e := 29) (n := l.length) (c := cg) ?_ (Nat.le_refl _); (repeat' (first | with_reducible assumption | (with_reducible refine own_drew ?_) | (with_reducible refine own_stays ?_ (by with_reducible assumption)) | (with_reducible refine World.ownsRow.alloc ?_ _)))
  rw [← HM.out]
  rintro e wV ⟨rfl, hbwV⟩
  have zwV := hbwV.size
  (try simp only [World.size_setCell] at zwV)
  (try simp only [World.size_drew] at zwV)
  (try simp only [World.size_alloc] at zwV)
  have qwV : w.heap.size ≤ wV.heap.size := by omega
  have bx_f0wV : AtL (w.heap.size) [.int .i64 m0, .int .i64 m1, .int .i64 m2, .int .i64 m3, .int .i64 m4, .int .i64 m5] wV := by repeat' (first | with_reducible assumption | with_reducible exact AtL.new _ _ _ | ((with_reducible refine AtL.newAt ?_); (first | rfl | (simp; done))) | (with_reducible refine AtL.drew ?_) | (with_reducible refine AtL.below ?_ (by with_reducible assumption)) | (with_reducible refine AtL.alloc ?_ _) | (with_reducible refine AtL.far ?_ ?_ _ _) | omega | (simp; done) | (simp; omega))
  have r1wV : Rd cPt 2 wV (wC.heap.size) Aw l := by repeat' (first | with_reducible assumption | (with_reducible refine Rd.drew ?_) | (with_reducible refine Rd.carry ?_ (by with_reducible assumption) ?_) | (with_reducible refine Rd.alloc ?_ ?_ _) | (with_reducible refine Rd.setCell ?_ ?_ _) | omega | (simp; done) | (simp; omega))
  have omwV : wV.ownsRow (wX0.heap.size) 29 2 (.slice Ag l.length cg) l.length (cellsF cPt (marksPt 1 l.length)) := by repeat' (first | with_reducible assumption | (with_reducible refine own_drew ?_) | (with_reducible refine own_stays ?_ (by with_reducible assumption)) | (with_reducible refine World.ownsRow.alloc ?_ _))
  have ohwV : wV.ownsRow (0) 29 2 (.slice Ah l.length ch) l.length (cellsF cPt l) := by repeat' (first | with_reducible assumption | (with_reducible refine own_drew ?_) | (with_reducible refine own_stays ?_ (by with_reducible assumption)) | (with_reducible refine World.ownsRow.alloc ?_ _))
  have bp := bwR.out
  have bn : Below w.heap.size w wV := by repeat' (first | with_reducible assumption | with_reducible exact Below.refl _ _ | (with_reducible refine Below.setCell ?_ ?_ _) | (with_reducible refine Below.alloc ?_ ?_ _) | (with_reducible refine Below.drew ?_) | (with_reducible refine below_dr ?_ _) | (with_reducible refine Below.trans ?_ (Below.mono (by with_reducible assumption) ?_)) | omega | (simp; done) | (simp; omega))
  have bwV := Lib.hid bn
  clear bn
  clear bp bwR
  clear hbwV
  clear bx_f0wR
  clear r1wR
  clear omwR
  clear ohwR
  go_wp2_with fail
  go_ret
  have bp := bwV.out
  exact ⟨rfl, by repeat' (first | with_reducible assumption | with_reducible exact Below.refl _ _ | (with_reducible refine Below.setCell ?_ ?_ _) | (with_reducible refine Below.alloc ?_ ?_ _) | (with_reducible refine Below.drew ?_) | (with_reducible refine below_dr ?_ _) | (with_reducible refine Below.trans ?_ (Below.mono (by with_reducible assumption) ?_)) | omega | (simp; done) | (simp; omega))⟩
end Go.Proofs.Yticgomikfleabaa
