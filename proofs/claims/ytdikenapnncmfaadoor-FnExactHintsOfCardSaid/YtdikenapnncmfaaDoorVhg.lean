/- The laws on ValidHints and HintsOf: the walks. -/
import Derived.Test.YtdikenapnncmfaaDoorVhf
namespace Go.Proofs.YtdikenapnncmfaaDoor
open Go.RowKit
set_option linter.unusedVariables false
set_option maxRecDepth 100000 in
set_option maxHeartbeats 1600000 in
theorem walk_ValidHints (s : ByteArray) (w : World) (hH : HandIs w) :
    Calls Tryd.prog 5 #[.string s] w fun e w' => e = .returned (.bool true) ∧ Below w.heap.size w w' := by
  by_cases hs : 1048576 < s.size
  · clear hH
    go_enter Tryd.func5, Tryd.ntmps5
    go_wp2
    go_ret
    exact ⟨rfl, Below.refl _ _⟩
  · have C1 := Lib.hid (fun w => specValidHints_any s w (by omega))
    have C2 := Lib.hid (fun w1 (hb : Below w.heap.size w w1) => implValidHints_any s w1 (by omega) (hH.stay hb))
    clear hH
    generalize hoB s = b at *
    have e1 : (!(b == b)) = false := by simp
    have e2 : (b != b) = false := by simp
    go_enter Tryd.func5, Tryd.ntmps5
    go_wp2_with fail
    refine (C1.out _).mono ?_
    rintro e w1 ⟨rfl, hb1⟩
    go_wp2_with fail
    refine (C2.out _ hb1).mono ?_
    rintro e w2 ⟨rfl, hb2⟩
    have hz := hb1.size
    go_wp2
    go_ret
    exact ⟨rfl, hb1.trans (hb2.mono hz)⟩
theorem specHintsOf_law (s : ByteArray) (w : World) (hs : s.size ≤ 1048576) : Calls Tryd.prog 17 #[.string s] w fun e w' => ∃ (A : Option Addr) (k : Nat), e = .returned (.tuple #[.slice A (hoL s).length k, .bool (hoB s)]) ∧ w'.ownsRow w.heap.size 68 2 (.slice A (hoL s).length k) (hoL s).length (cellsF cHint (hoL s)) ∧ Below w.heap.size w w' :=
  (specHintsOf_any s w hs).mono (fun e w' h => by obtain ⟨A, k, h1, ⟨-, h2⟩, h3⟩ := h; exact ⟨A, k, h1, h2, h3⟩)
theorem implHintsOf_law (s : ByteArray) (w : World) (hs : s.size ≤ 1048576) (hH : HandIs w) : Calls Tryd.prog 18 #[.string s] w fun e w' => ∃ (A : Option Addr) (k : Nat), e = .returned (.tuple #[.slice A (hoL s).length k, .bool (hoB s)]) ∧ w'.ownsRow w.heap.size 68 2 (.slice A (hoL s).length k) (hoL s).length (cellsF cHint (hoL s)) ∧ Below w.heap.size w w' :=
  (implHintsOf_any s w hs hH).mono (fun e w' h => by obtain ⟨A, k, h1, ⟨-, h2⟩, h3⟩ := h; exact ⟨A, k, h1, h2, h3⟩)
def markC (z : Nat) : Bool := decide (z % 3 = 0)
theorem markC_is (z : Nat) (c : Int) (hc : c = (z : Int)) : (c % 3 == 0) = markC z := by
  subst hc
  unfold markC
  rw [Bool.eq_iff_iff, beq_iff_eq, decide_eq_true_iff]
  omega
def marksHint (k n : Nat) : List AHint := (List.range n).map fun i => (((k + 2 * i : Nat) : Int), ((k + 2 * i : Nat) : Int) + 1)
theorem marksHint_len (k n : Nat) : (marksHint k n).length = n := by simp [marksHint]
theorem marksHint_at {k n i : Nat} (h : i < n) : (marksHint k n)[i]? = some (((k + 2 * i : Nat) : Int), ((k + 2 * i : Nat) : Int) + 1) := by simp [marksHint, h]
set_option maxHeartbeats 1600000 in
theorem markHintS_any (k n : Nat) (A : Option Addr) (c base : Nat) (xs : List Value) (w : World) (hk : 1 ≤ k) (hn : k + 2 * n ≤ 4611686018427387904) (h1 : w.ownsRow base 68 2 (.slice A n c) n xs) :
    Calls Tryd.prog 20 #[.slice A n c, .int .i64 k] w fun e w' => e = .returned (.int .i64 ((k + 2 * n : Nat) : Int)) ∧ w'.ownsRow base 68 2 (.slice A n c) n (cellsF cHint (marksHint k n)) ∧ w.grownBy w' (Value.slice A n c).ownBlock := by
  go_enter Tryd.func20, Tryd.ntmps20
  go_wp2_with fail
  go_loopw [1, 5] (fun j i wr => ∃ (m : Nat) (ys : List Value), m ≤ n ∧ i = .int .i64 m ∧ j = .int .i64 ((k + 2 * m : Nat) : Int) ∧ wr.ownsRow base 68 2 (.slice A n c) n ys ∧ Filled cHint 2 (marksHint k n) m ys ∧ w.grownBy wr (Value.slice A n c).ownBlock) (fun _ i _ => n - (intOf i).toNat)
  case atStart => exact ⟨0, _, Nat.zero_le _, rfl, rfl, h1, Filled.zero, World.grownBy.refl _ _⟩
  case round =>
    obtain ⟨m, ys, hm, rfl, rfl, hown, hfil, hg⟩ := hrel
    have hxl : ys.length = n * 2 := hown.1
    have HX := Lib.hid hxl
    clear hxl
    by_cases hlt : m < n
    · obtain ⟨g, cap, hv, _, hgl⟩ := hown.form (by omega)
      obtain rfl : A = some ⟨g, 0, none⟩ := by injection hv
      have hat := marksHint_at (k := k) hlt
      obtain ⟨z, hz⟩ : ∃ z : Nat, z = k + 2 * m := ⟨_, rfl⟩
      rw [← hz] at hat ⊢
      have HZ := Lib.hid hz
      have hz2 : z + 2 ≤ 4611686018427387904 := by omega
      have hz1 : 1 ≤ z := by omega
      clear hz hv h1
      have hstep := Lib.hid (fun h => Filled.step2 hfil hat h (rfl : cHint _ = _))
      have hki : (m : Int) < (n : Int) := by omega
      clear hat hfil
      obtain ⟨yo0, y0⟩ : ∃ v, wr.cell? ⟨g, m * 2, none⟩ = some v := ⟨_, (hown.cellAt (m * 2) (by have := HX.out; omega)).trans (List.getElem?_eq_getElem (by have := HX.out; omega))⟩
      have yf0 : wr.frozen? ⟨g, m * 2, none⟩ = false := hown.frozenAt (m * 2)
      obtain ⟨yo1, y1⟩ : ∃ v, wr.cell? ⟨g, m * 2 + 1, none⟩ = some v := ⟨_, (hown.cellAt (m * 2 + 1) (by have := HX.out; omega)).trans (List.getElem?_eq_getElem (by have := HX.out; omega))⟩
      have yf1 : wr.frozen? ⟨g, m * 2 + 1, none⟩ = false := hown.frozenAt (m * 2 + 1)
      go_wp2_with fail
      go_roundw
      case rel =>
        have hst0 := World.ownsRow.stored (hown) (m * 2) (.int .i64 ((z : Nat) : Int))
        have hst1 := World.ownsRow.stored (hst0.1) (m * 2 + 1) (.int .i64 ((z : Int) + 1))
        exact ⟨m + 1, _, by omega, by go_num, by have := HZ.out; go_num, hst1.1, hstep.out (by have := HX.out; omega), (grownBy_trans (grownBy_trans hg hst0.2) hst1.2)⟩
      case measure => simp [intOf]; omega
    · obtain rfl : m = n := by omega
      go_wp2_with fail
      go_ret
      have hx := Filled.done (fun a => cHint_len a) (by omega) (by rw [marksHint_len]; exact hfil) (by rw [marksHint_len]; exact HX.out)
      rw [hx] at hown
      exact ⟨rfl, hown, hg⟩
set_option maxHeartbeats 1600000 in
theorem heldHintS_any (k n : Nat) (A : Option Addr) (c : Nat) (w : World) (hk : 1 ≤ k) (hn : k + 2 * n ≤ 4611686018427387904) (hr : Rd cHint 2 w w.heap.size A (marksHint k n)) :
    Calls Tryd.prog 21 #[.slice A n c, .int .i64 k] w fun e w' => e = .returned (.int .i64 ((k + 2 * n : Nat) : Int)) ∧ Below w.heap.size w w' := by
  go_enter Tryd.func21, Tryd.ntmps21
  go_wp2_with fail
  go_loopw [1, 5] (fun j i wr => ∃ m : Nat, m ≤ n ∧ i = .int .i64 m ∧ j = .int .i64 ((k + 2 * m : Nat) : Int) ∧ Below w.heap.size w wr) (fun _ i _ => n - (intOf i).toNat)
  case atStart => exact ⟨0, Nat.zero_le _, rfl, rfl, by repeat' (first | with_reducible assumption | with_reducible exact Below.refl _ _ | (with_reducible refine Below.setCell ?_ ?_ _) | (with_reducible refine Below.alloc ?_ ?_ _) | (with_reducible refine Below.drew ?_) | (with_reducible refine below_dr ?_ _) | (with_reducible refine Below.trans ?_ (Below.mono (by with_reducible assumption) ?_)) | omega | (simp; done) | (simp; omega))⟩
  case round =>
    obtain ⟨m, hm, rfl, rfl, hbl⟩ := hrel
    by_cases hlt : m < n
    · have ha := marksHint_at (k := k) hlt
      obtain ⟨g, o, rfl, hgb, hc⟩ := (hr.below hbl).elem ha
      obtain ⟨z, hz⟩ : ∃ z : Nat, z = k + 2 * m := ⟨_, rfl⟩
      rw [← hz] at hc ⊢
      have HZ := Lib.hid hz
      have hz2 : z + 2 ≤ 4611686018427387904 := by omega
      have hz1 : 1 ≤ z := by omega
      clear hz ha hr
      have d0 : (((z : Int)) != ((z : Int))) = false := by simp
      have d1 : (((z : Int) + 1) != ((z : Int) + 1)) = false := by simp
      have c0 : wr.cell? ⟨g, o + m * 2, none⟩ = some (.int .i64 (z : Int)) := hc 0 _ rfl
      have c1 : wr.cell? ⟨g, o + m * 2 + 1, none⟩ = some (.int .i64 ((z : Int) + 1)) := hc 1 _ rfl
      clear hc
      have hzr := hbl.size
      have hgw : g < wr.heap.size := by omega
      have hki : (m : Int) < (n : Int) := by omega
      go_wp2_with fail
      go_roundw
      case rel => exact ⟨m + 1, by omega, by go_num, by have := HZ.out; go_num, by repeat' (first | with_reducible assumption | with_reducible exact Below.refl _ _ | (with_reducible refine Below.setCell ?_ ?_ _) | (with_reducible refine Below.alloc ?_ ?_ _) | (with_reducible refine Below.drew ?_) | (with_reducible refine below_dr ?_ _) | (with_reducible refine Below.trans ?_ (Below.mono (by with_reducible assumption) ?_)) | omega | (simp; done) | (simp; omega))⟩
      case measure => simp [intOf]; omega
    · obtain rfl : m = n := by omega
      go_wp2_with fail
      go_ret
      exact ⟨rfl, hbl⟩
theorem hoL_len (s : ByteArray) (h : s.size ≤ 1048576) : (hoL s).length ≤ 1048576 := by
  unfold hoL
  split
  · have := decW_len s.data.toList; rw [size_list] at this; omega
  · simp
set_option maxRecDepth 100000 in
set_option maxHeartbeats 6400000 in
theorem walk_HintsOf (s : ByteArray) (w : World) (hH : HandIs w) :
    Calls Tryd.prog 4 #[.string s] w fun e w' => e = .returned (.bool true) ∧ Below w.heap.size w w' := by
  by_cases hs : 1048576 < s.size
  case pos =>
    clear hH
    go_enter Tryd.func4, Tryd.ntmps4
    go_wp2
    go_ret
    exact ⟨rfl, Below.refl _ _⟩
  case neg =>
    have hlen : (hoL s).length ≤ 1048576 := hoL_len s (by omega)
    have C1 := Lib.hid (fun w => specHintsOf_law s w (by omega))
    have C2 := Lib.hid (fun w1 (hb : Below w.heap.size w w1) => implHintsOf_law s w1 (by omega) (hH.stay hb))
    clear hH
    generalize hoL s = l at C1 C2 hlen
    generalize hoB s = b at C1 C2
    have e1 : (!(b == b)) = false := by simp
    have e2 : (b != b) = false := by simp
    obtain ⟨M, hM⟩ : ∃ M : Int, M = ((1 + 2 * l.length : Nat) : Int) := ⟨_, rfl⟩
    have hM0 : 0 ≤ M := by omega
    have HM := Lib.hid hM
    have e_M : (M != M) = false := by simp
    clear hM
    go_enter Tryd.func4, Tryd.ntmps4
    go_wp2_with fail
    refine (C1.out _).mono ?_
    intro e wC hq
    obtain ⟨Aw, cw, rfl, oww, hbwC⟩ := hq
    have zwC := hbwC.size
    (try simp only [World.size_setCell] at zwC)
    (try simp only [World.size_drew] at zwC)
    (try simp only [World.size_alloc] at zwC)
    have qwC : w.heap.size ≤ wC.heap.size := by omega
    have bn : Below w.heap.size w wC := by repeat' (first | with_reducible assumption | with_reducible exact Below.refl _ _ | (with_reducible refine Below.setCell ?_ ?_ _) | (with_reducible refine Below.alloc ?_ ?_ _) | (with_reducible refine Below.drew ?_) | (with_reducible refine below_dr ?_ _) | (with_reducible refine Below.trans ?_ (Below.mono (by with_reducible assumption) ?_)) | omega | (simp; done) | (simp; omega))
    have bwC := Lib.hid bn
    clear bn
    clear hbwC
    have r1wC : Rd cHint 2 wC (wC.heap.size) Aw l := Rd.of_own (fun a => cHint_len a) (by omega) oww (Nat.le_refl _)
    clear oww
    go_wp2_with fail
    refine (C2.out _ bwC.out).mono ?_
    intro e wD hq
    obtain ⟨Ag, cg, rfl, owg, hbwD⟩ := hq
    have zwD := hbwD.size
    (try simp only [World.size_setCell] at zwD)
    (try simp only [World.size_drew] at zwD)
    (try simp only [World.size_alloc] at zwD)
    have qwD : w.heap.size ≤ wD.heap.size := by omega
    have r1wD : Rd cHint 2 wD (wC.heap.size) Aw l := by repeat' (first | with_reducible assumption | (with_reducible refine Rd.drew ?_) | (with_reducible refine Rd.carry ?_ (by with_reducible assumption) ?_) | (with_reducible refine Rd.alloc ?_ ?_ _) | (with_reducible refine Rd.setCell ?_ ?_ _) | omega | (simp; done) | (simp; omega))
    have bp := bwC.out
    have bn : Below w.heap.size w wD := by repeat' (first | with_reducible assumption | with_reducible exact Below.refl _ _ | (with_reducible refine Below.setCell ?_ ?_ _) | (with_reducible refine Below.alloc ?_ ?_ _) | (with_reducible refine Below.drew ?_) | (with_reducible refine below_dr ?_ _) | (with_reducible refine Below.trans ?_ (Below.mono (by with_reducible assumption) ?_)) | omega | (simp; done) | (simp; omega))
    have bwD := Lib.hid bn
    clear bn
    clear bp bwC
    clear hbwD
    clear r1wC
    have ogwD := own_base (base := wC.heap.size) owg (by first | exact Nat.le_refl _ | (simp; done) | (simp; omega))
    clear owg
    have OBg := Lib.hid (fun r hr => own_block ogwD (q := r) hr)
    go_wp2_with fail
    refine (eqHintS_same l Ag Aw cg cw _ (by omega) ?_ ?_).mono ?_
    · refine Rd.of_own (fun a => cHint_len a) (by omega) (base := wC.heap.size) (e := 68) (n := l.length) (c := cg) ?_ (Nat.le_refl _); (repeat' (first | with_reducible assumption | (with_reducible refine own_drew ?_) | (with_reducible refine own_stays ?_ (by with_reducible assumption)) | (with_reducible refine World.ownsRow.alloc ?_ _)))
    · refine Rd.more (B := wC.heap.size) ?_ (by (try simp only [World.size_drew]); (try simp only [World.size_alloc]); omega)
      repeat' (first | with_reducible assumption | (with_reducible refine Rd.drew ?_) | (with_reducible refine Rd.carry ?_ (by with_reducible assumption) ?_) | (with_reducible refine Rd.alloc ?_ ?_ _) | (with_reducible refine Rd.setCell ?_ ?_ _) | omega | (simp; done) | (simp; omega))
    rintro e wE ⟨rfl, hbwE⟩
    have zwE := hbwE.size
    (try simp only [World.size_setCell] at zwE)
    (try simp only [World.size_drew] at zwE)
    (try simp only [World.size_alloc] at zwE)
    have qwE : w.heap.size ≤ wE.heap.size := by omega
    have r1wE : Rd cHint 2 wE (wC.heap.size) Aw l := by repeat' (first | with_reducible assumption | (with_reducible refine Rd.drew ?_) | (with_reducible refine Rd.carry ?_ (by with_reducible assumption) ?_) | (with_reducible refine Rd.alloc ?_ ?_ _) | (with_reducible refine Rd.setCell ?_ ?_ _) | omega | (simp; done) | (simp; omega))
    have ogwE : wE.ownsRow (wC.heap.size) 68 2 (.slice Ag l.length cg) l.length (cellsF cHint l) := by repeat' (first | with_reducible assumption | (with_reducible refine own_drew ?_) | (with_reducible refine own_stays ?_ (by with_reducible assumption)) | (with_reducible refine World.ownsRow.alloc ?_ _))
    have bp := bwD.out
    have bn : Below w.heap.size w wE := by repeat' (first | with_reducible assumption | with_reducible exact Below.refl _ _ | (with_reducible refine Below.setCell ?_ ?_ _) | (with_reducible refine Below.alloc ?_ ?_ _) | (with_reducible refine Below.drew ?_) | (with_reducible refine below_dr ?_ _) | (with_reducible refine Below.trans ?_ (Below.mono (by with_reducible assumption) ?_)) | omega | (simp; done) | (simp; omega))
    have bwE := Lib.hid bn
    clear bn
    clear bp bwD
    clear hbwE
    clear r1wD
    clear ogwD
    go_wp2_with fail
    refine (markHintS_any 1 l.length Ag cg (wC.heap.size) (cellsF cHint l) _ (by omega) (by omega) (by repeat' (first | with_reducible assumption | (with_reducible refine own_drew ?_) | (with_reducible refine own_stays ?_ (by with_reducible assumption)) | (with_reducible refine World.ownsRow.alloc ?_ _)))).mono ?_
    rw [← HM.out]
    rintro e wK ⟨rfl, omwK, hg⟩
    have zwK := hg.size
    have qwK : w.heap.size ≤ wK.heap.size := by omega
    have bp := bwE.out
    have bn : Below w.heap.size w wK := by exact below_of_grown (by repeat' (first | with_reducible assumption | with_reducible exact Below.refl _ _ | (with_reducible refine Below.setCell ?_ ?_ _) | (with_reducible refine Below.alloc ?_ ?_ _) | (with_reducible refine Below.drew ?_) | (with_reducible refine below_dr ?_ _) | (with_reducible refine Below.trans ?_ (Below.mono (by with_reducible assumption) ?_)) | omega | (simp; done) | (simp; omega))) hg (by omega) (fun q hq => by have := OBg.out q hq; omega)
    have bwK := Lib.hid bn
    clear bn
    clear bp bwE
    have r1wK : Rd cHint 2 wK (wC.heap.size) Aw l := Rd.grown2 r1wE hg (by omega) (fun q hq => by have := OBg.out q hq; omega)
    clear hg r1wE ogwE
    go_wp2_with fail
    refine (heldHintS_any 1 l.length Ag cg _ (by omega) (by omega) ?_).mono ?_
    · refine Rd.of_own (fun a => cHint_len a) (by omega) (base := wC.heap.size) (e := 68) (n := l.length) (c := cg) ?_ (Nat.le_refl _); (repeat' (first | with_reducible assumption | (with_reducible refine own_drew ?_) | (with_reducible refine own_stays ?_ (by with_reducible assumption)) | (with_reducible refine World.ownsRow.alloc ?_ _)))
    rw [← HM.out]
    rintro e wL ⟨rfl, hbwL⟩
    have zwL := hbwL.size
    (try simp only [World.size_setCell] at zwL)
    (try simp only [World.size_drew] at zwL)
    (try simp only [World.size_alloc] at zwL)
    have qwL : w.heap.size ≤ wL.heap.size := by omega
    have r1wL : Rd cHint 2 wL (wC.heap.size) Aw l := by repeat' (first | with_reducible assumption | (with_reducible refine Rd.drew ?_) | (with_reducible refine Rd.carry ?_ (by with_reducible assumption) ?_) | (with_reducible refine Rd.alloc ?_ ?_ _) | (with_reducible refine Rd.setCell ?_ ?_ _) | omega | (simp; done) | (simp; omega))
    have omwL : wL.ownsRow (wC.heap.size) 68 2 (.slice Ag l.length cg) l.length (cellsF cHint (marksHint 1 l.length)) := by repeat' (first | with_reducible assumption | (with_reducible refine own_drew ?_) | (with_reducible refine own_stays ?_ (by with_reducible assumption)) | (with_reducible refine World.ownsRow.alloc ?_ _))
    have bp := bwK.out
    have bn : Below w.heap.size w wL := by repeat' (first | with_reducible assumption | with_reducible exact Below.refl _ _ | (with_reducible refine Below.setCell ?_ ?_ _) | (with_reducible refine Below.alloc ?_ ?_ _) | (with_reducible refine Below.drew ?_) | (with_reducible refine below_dr ?_ _) | (with_reducible refine Below.trans ?_ (Below.mono (by with_reducible assumption) ?_)) | omega | (simp; done) | (simp; omega))
    have bwL := Lib.hid bn
    clear bn
    clear bp bwK
    clear hbwL
    clear r1wK
    clear omwK
    go_wp2_with fail
    refine (C2.out _ bwL.out).mono ?_
    intro e wQ hq
    obtain ⟨Ah, ch, rfl, owh, hbwQ⟩ := hq
    have zwQ := hbwQ.size
    (try simp only [World.size_setCell] at zwQ)
    (try simp only [World.size_drew] at zwQ)
    (try simp only [World.size_alloc] at zwQ)
    have qwQ : w.heap.size ≤ wQ.heap.size := by omega
    have r1wQ : Rd cHint 2 wQ (wC.heap.size) Aw l := by repeat' (first | with_reducible assumption | (with_reducible refine Rd.drew ?_) | (with_reducible refine Rd.carry ?_ (by with_reducible assumption) ?_) | (with_reducible refine Rd.alloc ?_ ?_ _) | (with_reducible refine Rd.setCell ?_ ?_ _) | omega | (simp; done) | (simp; omega))
    have omwQ : wQ.ownsRow (wC.heap.size) 68 2 (.slice Ag l.length cg) l.length (cellsF cHint (marksHint 1 l.length)) := by repeat' (first | with_reducible assumption | (with_reducible refine own_drew ?_) | (with_reducible refine own_stays ?_ (by with_reducible assumption)) | (with_reducible refine World.ownsRow.alloc ?_ _))
    have bp := bwL.out
    have bn : Below w.heap.size w wQ := by repeat' (first | with_reducible assumption | with_reducible exact Below.refl _ _ | (with_reducible refine Below.setCell ?_ ?_ _) | (with_reducible refine Below.alloc ?_ ?_ _) | (with_reducible refine Below.drew ?_) | (with_reducible refine below_dr ?_ _) | (with_reducible refine Below.trans ?_ (Below.mono (by with_reducible assumption) ?_)) | omega | (simp; done) | (simp; omega))
    have bwQ := Lib.hid bn
    clear bn
    clear bp bwL
    clear hbwQ
    clear r1wL
    clear omwL
    have ohwQ := own_base (base := 0) owh (Nat.zero_le _)
    clear owh
    go_wp2_with fail
    refine (eqHintS_same l Ah Aw ch cw _ (by omega) ?_ ?_).mono ?_
    · refine Rd.of_own (fun a => cHint_len a) (by omega) (base := 0) (e := 68) (n := l.length) (c := ch) ?_ (Nat.le_refl _); (repeat' (first | with_reducible assumption | (with_reducible refine own_drew ?_) | (with_reducible refine own_stays ?_ (by with_reducible assumption)) | (with_reducible refine World.ownsRow.alloc ?_ _)))
    · refine Rd.more (B := wC.heap.size) ?_ (by (try simp only [World.size_drew]); (try simp only [World.size_alloc]); omega)
      repeat' (first | with_reducible assumption | (with_reducible refine Rd.drew ?_) | (with_reducible refine Rd.carry ?_ (by with_reducible assumption) ?_) | (with_reducible refine Rd.alloc ?_ ?_ _) | (with_reducible refine Rd.setCell ?_ ?_ _) | omega | (simp; done) | (simp; omega))
    rintro e wR ⟨rfl, hbwR⟩
    have zwR := hbwR.size
    (try simp only [World.size_setCell] at zwR)
    (try simp only [World.size_drew] at zwR)
    (try simp only [World.size_alloc] at zwR)
    have qwR : w.heap.size ≤ wR.heap.size := by omega
    have r1wR : Rd cHint 2 wR (wC.heap.size) Aw l := by repeat' (first | with_reducible assumption | (with_reducible refine Rd.drew ?_) | (with_reducible refine Rd.carry ?_ (by with_reducible assumption) ?_) | (with_reducible refine Rd.alloc ?_ ?_ _) | (with_reducible refine Rd.setCell ?_ ?_ _) | omega | (simp; done) | (simp; omega))
    have omwR : wR.ownsRow (wC.heap.size) 68 2 (.slice Ag l.length cg) l.length (cellsF cHint (marksHint 1 l.length)) := by repeat' (first | with_reducible assumption | (with_reducible refine own_drew ?_) | (with_reducible refine own_stays ?_ (by with_reducible assumption)) | (with_reducible refine World.ownsRow.alloc ?_ _))
    have ohwR : wR.ownsRow (0) 68 2 (.slice Ah l.length ch) l.length (cellsF cHint l) := by repeat' (first | with_reducible assumption | (with_reducible refine own_drew ?_) | (with_reducible refine own_stays ?_ (by with_reducible assumption)) | (with_reducible refine World.ownsRow.alloc ?_ _))
    have bp := bwQ.out
    have bn : Below w.heap.size w wR := by repeat' (first | with_reducible assumption | with_reducible exact Below.refl _ _ | (with_reducible refine Below.setCell ?_ ?_ _) | (with_reducible refine Below.alloc ?_ ?_ _) | (with_reducible refine Below.drew ?_) | (with_reducible refine below_dr ?_ _) | (with_reducible refine Below.trans ?_ (Below.mono (by with_reducible assumption) ?_)) | omega | (simp; done) | (simp; omega))
    have bwR := Lib.hid bn
    clear bn
    clear bp bwQ
    clear hbwR
    clear r1wQ
    clear omwQ
    clear ohwQ
    go_wp2_with fail
    refine (heldHintS_any 1 l.length Ag cg _ (by omega) (by omega) ?_).mono ?_
    · refine Rd.of_own (fun a => cHint_len a) (by omega) (base := wC.heap.size) (e := 68) (n := l.length) (c := cg) ?_ (Nat.le_refl _); (repeat' (first | with_reducible assumption | (with_reducible refine own_drew ?_) | (with_reducible refine own_stays ?_ (by with_reducible assumption)) | (with_reducible refine World.ownsRow.alloc ?_ _)))
    rw [← HM.out]
    rintro e wV ⟨rfl, hbwV⟩
    have zwV := hbwV.size
    (try simp only [World.size_setCell] at zwV)
    (try simp only [World.size_drew] at zwV)
    (try simp only [World.size_alloc] at zwV)
    have qwV : w.heap.size ≤ wV.heap.size := by omega
    have r1wV : Rd cHint 2 wV (wC.heap.size) Aw l := by repeat' (first | with_reducible assumption | (with_reducible refine Rd.drew ?_) | (with_reducible refine Rd.carry ?_ (by with_reducible assumption) ?_) | (with_reducible refine Rd.alloc ?_ ?_ _) | (with_reducible refine Rd.setCell ?_ ?_ _) | omega | (simp; done) | (simp; omega))
    have omwV : wV.ownsRow (wC.heap.size) 68 2 (.slice Ag l.length cg) l.length (cellsF cHint (marksHint 1 l.length)) := by repeat' (first | with_reducible assumption | (with_reducible refine own_drew ?_) | (with_reducible refine own_stays ?_ (by with_reducible assumption)) | (with_reducible refine World.ownsRow.alloc ?_ _))
    have ohwV : wV.ownsRow (0) 68 2 (.slice Ah l.length ch) l.length (cellsF cHint l) := by repeat' (first | with_reducible assumption | (with_reducible refine own_drew ?_) | (with_reducible refine own_stays ?_ (by with_reducible assumption)) | (with_reducible refine World.ownsRow.alloc ?_ _))
    have bp := bwR.out
    have bn : Below w.heap.size w wV := by repeat' (first | with_reducible assumption | with_reducible exact Below.refl _ _ | (with_reducible refine Below.setCell ?_ ?_ _) | (with_reducible refine Below.alloc ?_ ?_ _) | (with_reducible refine Below.drew ?_) | (with_reducible refine below_dr ?_ _) | (with_reducible refine Below.trans ?_ (Below.mono (by with_reducible assumption) ?_)) | omega | (simp; done) | (simp; omega))
    have bwV := Lib.hid bn
    clear bn
    clear bp bwR
    clear hbwV
    clear r1wR
    clear omwR
    clear ohwR
    go_wp2_with fail
    go_ret
    have bp := bwV.out
    exact ⟨rfl, by repeat' (first | with_reducible assumption | with_reducible exact Below.refl _ _ | (with_reducible refine Below.setCell ?_ ?_ _) | (with_reducible refine Below.alloc ?_ ?_ _) | (with_reducible refine Below.drew ?_) | (with_reducible refine below_dr ?_ _) | (with_reducible refine Below.trans ?_ (Below.mono (by with_reducible assumption) ?_)) | omega | (simp; done) | (simp; omega))⟩
end Go.Proofs.YtdikenapnncmfaaDoor
