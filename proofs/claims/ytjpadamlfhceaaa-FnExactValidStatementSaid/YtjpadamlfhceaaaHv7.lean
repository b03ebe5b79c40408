/- Walks: which statements are valid, the reference's side. -/
import Derived.Test.YtjpadamlfhceaaaHv6
import Derived.Deep.QuietTactic
import Derived.BigQuiet
namespace Go.Proofs.Ytjpadamlfhceaaa
open Go.RowKit
set_option linter.unusedVariables false
set_option maxHeartbeats 1600000 in
theorem l00In_same (x lo hi : Int) (w : World) : Calls Try.prog 30 #[.int .i64 x, .int .i64 lo, .int .i64 hi] w fun e w' => e = .returned (.bool (inB x lo hi)) ∧ w' = w := by
  unfold inB
  by_cases h1 : lo ≤ x
  case pos =>
    have e1 : decide (lo ≤ x) = true := decide_eq_true h1
    have e1' : decide (x ≥ lo) = true := decide_eq_true h1
    rw [e1]
    clear h1
    go_enter Try.func30, Try.ntmps30
    go_wp2_with fail
    go_ret
    exact ⟨ret_bool (by simp), rfl⟩
  case neg =>
    have e1 : decide (lo ≤ x) = false := decide_eq_false h1
    have e1' : decide (x ≥ lo) = false := decide_eq_false h1
    rw [e1]
    clear h1
    go_enter Try.func30, Try.ntmps30
    go_wp2_with fail
    go_ret
    exact ⟨ret_bool (by simp), rfl⟩
def tailB (k np : Int) (cv cl : Bool) : Bool := if k = 4 then (!cl || decide (2 < np)) else (!cv && !cl)
def shOk (k : Int) (nm ot : ByteArray) (sd : Bool) (pts : List DString) (nums : List DInt64) (tl : Bool) : Option (Int × Int × Int × Int × Int) → Bool
  | none => false
  | some (p0, p1, p2, p3, p4) => namesB p0 nm ot && (sd && ((inB pts.length p1 p2 && inB nums.length p3 p4) && (pts.all ptB && (nums.all numB && tl))))
def vStB (a0 : Int) (a1 : ByteArray) (a2 : ByteArray) (a3 : Int) (a4 : Int) (a5A : Option Addr) (a5c : Nat) (a5l : List DTerm) (a6 : Int) (a7 : Int) (a8A : Option Addr) (a8c : Nat) (a8l : List DTerm) (a9A : Option Addr) (a9c : Nat) (a9l : List DString) (a10A : Option Addr) (a10c : Nat) (a10l : List DInt64) (a11 : Bool) (a12 : Bool) : Bool := shOk a0 a1 a2 (sidesB a0 a3 a4 a5l a6 a7 a8l) a9l a10l (tailB a0 a9l.length a11 a12) (shp a0)
set_option maxRecDepth 100000 in
set_option maxHeartbeats 12800000 in
theorem l07Ok_st (a0 : Int) (a1 : ByteArray) (a2 : ByteArray) (a3 : Int) (a4 : Int) (a5A : Option Addr) (a5c : Nat) (a5l : List DTerm) (a6 : Int) (a7 : Int) (a8A : Option Addr) (a8c : Nat) (a8l : List DTerm) (a9A : Option Addr) (a9c : Nat) (a9l : List DString) (a10A : Option Addr) (a10c : Nat) (a10l : List DInt64) (a11 : Bool) (a12 : Bool) (b : Nat) (w : World) (at0 : AtL b [.int .i64 a0, .string a1, .string a2, .int .i64 a3, .int .i64 a4, .slice a5A a5l.length a5c, .int .i64 a6, .int .i64 a7, .slice a8A a8l.length a8c, .slice a9A a9l.length a9c, .slice a10A a10l.length a10c, .bool a11, .bool a12] w) (i_a3 : (-9223372036854775808 ≤ a3 ∧ a3 ≤ 9223372036854775807)) (i_a4 : (-9223372036854775808 ≤ a4 ∧ a4 ≤ 9223372036854775807)) (i_a6 : (-9223372036854775808 ≤ a6 ∧ a6 ≤ 9223372036854775807)) (i_a7 : (-9223372036854775808 ≤ a7 ∧ a7 ≤ 9223372036854775807)) (hl_a5 : a5l.length ≤ 1048576) (hl_a8 : a8l.length ≤ 1048576) (r_a5 : Row RvTerm 3 w w.heap.size a5A a5l) (r_a8 : Row RvTerm 3 w w.heap.size a8A a8l) (ok_a5 : (∀ (w2 : World) (B : Nat) (i : Nat) (b : ATerm), a5l[i]? = some b → okTerm w2 B b)) (ok_a8 : (∀ (w2 : World) (B : Nat) (i : Nat) (b : ATerm), a8l[i]? = some b → okTerm w2 B b)) (hl_a9 : a9l.length ≤ 1048576) (hl_a10 : a10l.length ≤ 1048576) (r_a9 : Row RvString 1 w w.heap.size a9A a9l) (r_a10 : Row RvInt64 1 w w.heap.size a10A a10l) (hz_a9 : ∀ (k : Nat) (s : DString), a9l[k]? = some s → s.size ≤ 4611686018427387904) (h1 : a1.size ≤ 9223372036854775807) (h2 : a2.size ≤ 9223372036854775807) : Calls Try.prog 12 #[.pointer (some ⟨b, 0, none⟩)] w fun e w' => e = .returned (.bool (vStB a0 a1 a2 a3 a4 a5A a5c a5l a6 a7 a8A a8c a8l a9A a9c a9l a10A a10c a10l a11 a12)) ∧ Below w.heap.size w w' := by
  have HC := Lib.hid (fun (wr : World) (hb : Below w.heap.size w wr) => at0.below hb)
  have CN := Lib.hid (fun m (wr : World) (hb : Below w.heap.size w wr) => l07Names_any m a0 a1 a2 a3 a4 a5A a5c a5l a6 a7 a8A a8c a8l a9A a9c a9l a10A a10c a10l a11 a12 b wr (HC.out wr hb) h1 h2)
  have CS := Lib.hid (fun (wr : World) (hb : Below w.heap.size w wr) => l07Sides_any a0 a1 a2 a3 a4 a5A a5c a5l a6 a7 a8A a8c a8l a9A a9c a9l a10A a10c a10l a11 a12 b wr (HC.out wr hb) i_a3 i_a4 i_a6 i_a7 hl_a5 hl_a8 ((r_a5.carry hb (Nat.le_refl _)).more hb.size) ((r_a8.carry hb (Nat.le_refl _)).more hb.size) ok_a5 ok_a8)
  have CH := Lib.hid (l07Shape_any a0 w)
  have RP := Lib.hid (fun (wr : World) (hb : Below w.heap.size w wr) => r_a9.carry hb (Nat.le_refl _))
  have RN := Lib.hid (fun (wr : World) (hb : Below w.heap.size w wr) => r_a10.carry hb (Nat.le_refl _))
  have HZ := Lib.hid hz_a9
  have k0 := at0.cell 0 rfl
  have lb := at0.lt
  unfold vStB
  clear i_a3 i_a4 i_a6 i_a7 r_a5 r_a8 ok_a5 ok_a8 r_a9 r_a10 hz_a9 h1 h2 at0
  generalize sidesB a0 a3 a4 a5l a6 a7 a8l = sd at CS ⊢
  obtain ⟨np, hnp⟩ : ∃ n, n = a9l.length := ⟨_, rfl⟩
  obtain ⟨nn, hnn⟩ : ∃ n, n = a10l.length := ⟨_, rfl⟩
  have HNP := Lib.hid hnp
  have HNN := Lib.hid hnn
  rcases hs : shp a0 with _ | ⟨p0, p1, p2, p3, p4⟩
  case none =>
    rw [hs] at CH
    clear CN CS hs
    unfold shOk
    go_enter Try.func12, Try.ntmps12
    go_wp2_with fail
    refine CH.out.mono ?_
    intro e w1 hq
    obtain ⟨rfl, rfl⟩ := hq
    go_wp2_with fail
    go_ret
    exact ⟨ret_bool (by simp), by repeat' (first | with_reducible assumption | with_reducible exact Below.refl _ _ | (with_reducible refine Below.setCell ?_ ?_ _) | (with_reducible refine Below.alloc ?_ ?_ _) | (with_reducible refine Below.drew ?_) | (with_reducible refine below_dr ?_ _) | (with_reducible refine Below.trans ?_ (Below.mono (by with_reducible assumption) ?_)) | omega | (simp; done) | (simp; omega))⟩
  case some =>
    have HSH := Lib.hid hs
    rw [hs] at CH
    clear hs
    simp only [shOk]
    have HC2 := Lib.hid (fun (wr : World) (hb : Below w.heap.size w wr) => (show AtL b [.int .i64 a0, .string a1, .string a2, .int .i64 a3, .int .i64 a4, .slice a5A a5l.length a5c, .int .i64 a6, .int .i64 a7, .slice a8A a8l.length a8c, .slice a9A np a9c, .slice a10A nn a10c, .bool a11, .bool a12] wr by rw [HNP.out, HNN.out]; exact HC.out wr hb))
    clear HC
    rw [← hnp, ← hnn]
    rw [← hnp] at hl_a9
    rw [← hnn] at hl_a10
    clear hnp hnn
    have CI1 := Lib.hid (fun w => l00In_same (np : Int) p1 p2 w)
    have CI2 := Lib.hid (fun w => l00In_same (nn : Int) p3 p4 w)
    have CN1 := Lib.hid (fun wr hb => CN.out p0 wr hb)
    clear CN
    generalize namesB p0 a1 a2 = v1 at CN1 ⊢
    generalize inB (np : Int) p1 p2 = v3 at CI1 ⊢
    generalize inB (nn : Int) p3 p4 = v4 at CI2 ⊢
    go_enter Try.func12, Try.ntmps12
    go_wp2_with fail
    refine CH.out.mono ?_
    intro e w1 hq
    obtain ⟨q, rfl, at1, hb1⟩ := hq
    have g1 : Below w.heap.size w w1 := hb1
    have z1 := g1.size
    have HQ := Lib.hid (fun (wr : World) (hb : Below w1.heap.size w1 wr) => at1.below hb)
    have m0 := at1.cell 0 rfl
    have m1 := at1.cell 1 rfl
    have m2 := at1.cell 2 rfl
    have m3 := at1.cell 3 rfl
    have m4 := at1.cell 4 rfl
    have lq := at1.lt
    clear at1 hb1 k0 lb
    go_wp2_with fail
    refine (CN1.out _ g1).mono ?_
    rintro e w2 ⟨rfl, hb2⟩
    have g2 : Below w.heap.size w w2 := by repeat' (first | with_reducible assumption | with_reducible exact Below.refl _ _ | (with_reducible refine Below.setCell ?_ ?_ _) | (with_reducible refine Below.alloc ?_ ?_ _) | (with_reducible refine Below.drew ?_) | (with_reducible refine below_dr ?_ _) | (with_reducible refine Below.trans ?_ (Below.mono (by with_reducible assumption) ?_)) | omega | (simp; done) | (simp; omega))
    have x2 : Below w1.heap.size w1 w2 := hb2
    have z2 := hb2.size
    clear hb2 m0 m1 m2 m3 m4 lq
    cases v1
    case false =>
      go_wp2_with fail
      go_ret
      exact ⟨ret_bool (by simp), by repeat' (first | with_reducible assumption | with_reducible exact Below.refl _ _ | (with_reducible refine Below.setCell ?_ ?_ _) | (with_reducible refine Below.alloc ?_ ?_ _) | (with_reducible refine Below.drew ?_) | (with_reducible refine below_dr ?_ _) | (with_reducible refine Below.trans ?_ (Below.mono (by with_reducible assumption) ?_)) | omega | (simp; done) | (simp; omega))⟩
    case true =>
      go_wp2_with fail
      refine (CS.out _ g2).mono ?_
      rintro e w3 ⟨rfl, hb3⟩
      have g3 : Below w.heap.size w w3 := by repeat' (first | with_reducible assumption | with_reducible exact Below.refl _ _ | (with_reducible refine Below.setCell ?_ ?_ _) | (with_reducible refine Below.alloc ?_ ?_ _) | (with_reducible refine Below.drew ?_) | (with_reducible refine below_dr ?_ _) | (with_reducible refine Below.trans ?_ (Below.mono (by with_reducible assumption) ?_)) | omega | (simp; done) | (simp; omega))
      have x3 : Below w1.heap.size w1 w3 := x2.trans (hb3.mono (by omega))
      have z3 := hb3.size
      clear hb3
      cases sd
      case false =>
        go_wp2_with fail
        go_ret
        exact ⟨ret_bool (by simp), by repeat' (first | with_reducible assumption | with_reducible exact Below.refl _ _ | (with_reducible refine Below.setCell ?_ ?_ _) | (with_reducible refine Below.alloc ?_ ?_ _) | (with_reducible refine Below.drew ?_) | (with_reducible refine below_dr ?_ _) | (with_reducible refine Below.trans ?_ (Below.mono (by with_reducible assumption) ?_)) | omega | (simp; done) | (simp; omega))⟩
      case true =>
        have atq := HQ.out _ x3
        have m0 := atq.cell 0 rfl
        have m1 := atq.cell 1 rfl
        have m2 := atq.cell 2 rfl
        have m3 := atq.cell 3 rfl
        have m4 := atq.cell 4 rfl
        have lq := atq.lt
        clear atq
        have at3 := HC2.out _ g3
        have j0 := at3.cell 0 rfl
        have j1 := at3.cell 1 rfl
        have j2 := at3.cell 2 rfl
        have j3 := at3.cell 3 rfl
        have j4 := at3.cell 4 rfl
        have j5 := at3.cell 5 rfl
        have j6 := at3.cell 6 rfl
        have j7 := at3.cell 7 rfl
        have j8 := at3.cell 8 rfl
        have j9 := at3.cell 9 rfl
        have j10 := at3.cell 10 rfl
        have j11 := at3.cell 11 rfl
        have j12 := at3.cell 12 rfl
        have lbb := at3.lt
        clear at3
        cases v3
        case false =>
          go_wp2_with fail
          go_quiet (first | (go_at_call 30; with_reducible exact Calls.quiet_of_same ((CI1.out _).mono fun _ _ h => ⟨h.1, h.2⟩)) | (go_at_call 30; with_reducible exact Calls.quiet_of_same ((CI2.out _).mono fun _ _ h => ⟨h.1, h.2⟩)))
          go_wp2_with fail
          go_ret
          exact ⟨ret_bool (by simp), by repeat' (first | with_reducible assumption | with_reducible exact Below.refl _ _ | (with_reducible refine Below.setCell ?_ ?_ _) | (with_reducible refine Below.alloc ?_ ?_ _) | (with_reducible refine Below.drew ?_) | (with_reducible refine below_dr ?_ _) | (with_reducible refine Below.trans ?_ (Below.mono (by with_reducible assumption) ?_)) | omega | (simp; done) | (simp; omega))⟩
        case true =>
          cases v4
          case false =>
            go_wp2_with fail
            go_quiet (first | (go_at_call 30; with_reducible exact Calls.quiet_of_same ((CI1.out _).mono fun _ _ h => ⟨h.1, h.2⟩)) | (go_at_call 30; with_reducible exact Calls.quiet_of_same ((CI2.out _).mono fun _ _ h => ⟨h.1, h.2⟩)))
            go_wp2_with fail
            go_ret
            exact ⟨ret_bool (by simp), by repeat' (first | with_reducible assumption | with_reducible exact Below.refl _ _ | (with_reducible refine Below.setCell ?_ ?_ _) | (with_reducible refine Below.alloc ?_ ?_ _) | (with_reducible refine Below.drew ?_) | (with_reducible refine below_dr ?_ _) | (with_reducible refine Below.trans ?_ (Below.mono (by with_reducible assumption) ?_)) | omega | (simp; done) | (simp; omega))⟩
          case true =>
            go_wp2_with fail
            go_quiet (first | (go_at_call 30; with_reducible exact Calls.quiet_of_same ((CI1.out _).mono fun _ _ h => ⟨h.1, h.2⟩)) | (go_at_call 30; with_reducible exact Calls.quiet_of_same ((CI2.out _).mono fun _ _ h => ⟨h.1, h.2⟩)))
            go_wp2_with fail
            clear j0 j1 j2 j3 j4 j5 j6 j7 j8 j9 j10 j11 j12 lbb CI1 CI2 CN1 CS CH m0 m1 m2 m3 m4 lq
            go_loopw [4] (fun i wr => ∃ k : Nat, k ≤ np ∧ i = .int .i64 (k : Int) ∧ allUp ptB a9l k = true ∧ Below w3.heap.size w3 wr) (fun i _ => np - (intOf i).toNat)
            case atStart => exact ⟨0, Nat.zero_le _, rfl, rfl, by first | exact Below.refl _ _ | repeat' (first | with_reducible assumption | with_reducible exact Below.refl _ _ | (with_reducible refine Below.setCell ?_ ?_ _) | (with_reducible refine Below.alloc ?_ ?_ _) | (with_reducible refine Below.drew ?_) | (with_reducible refine below_dr ?_ _) | (with_reducible refine Below.trans ?_ (Below.mono (by with_reducible assumption) ?_)) | omega | (simp; done) | (simp; omega))⟩
            case round =>
              obtain ⟨k, hk, rfl, hup, hbl⟩ := hrel
              have HUP := Lib.hid hup
              clear hup
              have zr := hbl.size
              have g5 : Below w.heap.size w wr := by repeat' (first | with_reducible assumption | with_reducible exact Below.refl _ _ | (with_reducible refine Below.setCell ?_ ?_ _) | (with_reducible refine Below.alloc ?_ ?_ _) | (with_reducible refine Below.drew ?_) | (with_reducible refine below_dr ?_ _) | (with_reducible refine Below.trans ?_ (Below.mono (by with_reducible assumption) ?_)) | omega | (simp; done) | (simp; omega))
              by_cases hlt : k < np
              case pos =>
                obtain ⟨x0, ha⟩ : ∃ a : ByteArray, a9l[k]? = some a := ⟨a9l[k]'(by have := HNP.out; omega), List.getElem?_eq_getElem (by have := HNP.out; omega)⟩
                obtain ⟨g, o, row, rfl, hg, rfl, hc⟩ := (RP.out _ g5).elem ha
                have c0 : wr.cell? ⟨g, o + k, none⟩ = some (.string x0) := by have h := hc 0 _ rfl; rw [Nat.mul_one] at h; exact h
                have HA := Lib.hid ha
                have hsx := HZ.out k x0 ha
                clear hc ha
                have hki : (k : Int) < (np : Int) := by omega
                have CF := Lib.hid (fun w => spec_free x0 w (by omega))
                clear hsx
                have at5 := HC2.out _ g5
                have j9 := at5.cell 9 rfl
                have lbb := at5.lt
                clear at5
                rcases hf : fnB x0 with _ | _
                case false =>
                  rw [hf] at CF
                  have HX := Lib.hid (show ptB x0 = false from by unfold ptB; rw [hf]; rfl)
                  clear hf
                  go_wp2_with fail
                  refine (CF.out _).mono ?_
                  rintro e w6 ⟨rfl, hb6⟩
                  have g6 : Below w.heap.size w w6 := by repeat' (first | with_reducible assumption | with_reducible exact Below.refl _ _ | (with_reducible refine Below.setCell ?_ ?_ _) | (with_reducible refine Below.alloc ?_ ?_ _) | (with_reducible refine Below.drew ?_) | (with_reducible refine below_dr ?_ _) | (with_reducible refine Below.trans ?_ (Below.mono (by with_reducible assumption) ?_)) | omega | (simp; done) | (simp; omega))
                  have c6 : w6.cell? ⟨g, o + k, none⟩ = some (.string x0) := (hb6.cell (p := ⟨g, o + k, none⟩) (show g < wr.heap.size by omega)).trans c0
                  have at6 := HC2.out _ g6
                  have i9 := at6.cell 9 rfl
                  have l6 := at6.lt
                  have z6 := hb6.size
                  clear at6 j9 lbb c0
                  go_wp2_with fail
                  go_ret
                  exact ⟨ret_bool (by rw [allUp_no HA.out HX.out]; simp), by repeat' (first | with_reducible assumption | with_reducible exact Below.refl _ _ | (with_reducible refine Below.setCell ?_ ?_ _) | (with_reducible refine Below.alloc ?_ ?_ _) | (with_reducible refine Below.drew ?_) | (with_reducible refine below_dr ?_ _) | (with_reducible refine Below.trans ?_ (Below.mono (by with_reducible assumption) ?_)) | omega | (simp; done) | (simp; omega))⟩
                case true =>
                  rw [hf] at CF
                  by_cases hg1 : 10 < (x0.size : Int)
                  case pos =>
                    have f1 : decide (10 < (x0.size : Int)) = true := decide_eq_true hg1
                    have HX := Lib.hid (show ptB x0 = false from by unfold ptB; rw [decide_eq_false (p := (x0.size : Int) ≤ 10) (by omega)]; simp)
                    clear hf hg1
                    go_wp2_with fail
                    refine (CF.out _).mono ?_
                    rintro e w6 ⟨rfl, hb6⟩
                    have g6 : Below w.heap.size w w6 := by repeat' (first | with_reducible assumption | with_reducible exact Below.refl _ _ | (with_reducible refine Below.setCell ?_ ?_ _) | (with_reducible refine Below.alloc ?_ ?_ _) | (with_reducible refine Below.drew ?_) | (with_reducible refine below_dr ?_ _) | (with_reducible refine Below.trans ?_ (Below.mono (by with_reducible assumption) ?_)) | omega | (simp; done) | (simp; omega))
                    have c6 : w6.cell? ⟨g, o + k, none⟩ = some (.string x0) := (hb6.cell (p := ⟨g, o + k, none⟩) (show g < wr.heap.size by omega)).trans c0
                    have at6 := HC2.out _ g6
                    have i9 := at6.cell 9 rfl
                    have l6 := at6.lt
                    have z6 := hb6.size
                    clear at6 j9 lbb c0
                    go_wp2_with fail
                    go_ret
                    exact ⟨ret_bool (by rw [allUp_no HA.out HX.out]; simp), by repeat' (first | with_reducible assumption | with_reducible exact Below.refl _ _ | (with_reducible refine Below.setCell ?_ ?_ _) | (with_reducible refine Below.alloc ?_ ?_ _) | (with_reducible refine Below.drew ?_) | (with_reducible refine below_dr ?_ _) | (with_reducible refine Below.trans ?_ (Below.mono (by with_reducible assumption) ?_)) | omega | (simp; done) | (simp; omega))⟩
                  case neg =>
                    have f1 : decide (10 < (x0.size : Int)) = false := decide_eq_false hg1
                    have HX := Lib.hid (show ptB x0 = true from by unfold ptB; rw [hf, decide_eq_true (p := (x0.size : Int) ≤ 10) (by omega)]; rfl)
                    clear hf hg1
                    go_wp2_with fail
                    refine (CF.out _).mono ?_
                    rintro e w6 ⟨rfl, hb6⟩
                    have g6 : Below w.heap.size w w6 := by repeat' (first | with_reducible assumption | with_reducible exact Below.refl _ _ | (with_reducible refine Below.setCell ?_ ?_ _) | (with_reducible refine Below.alloc ?_ ?_ _) | (with_reducible refine Below.drew ?_) | (with_reducible refine below_dr ?_ _) | (with_reducible refine Below.trans ?_ (Below.mono (by with_reducible assumption) ?_)) | omega | (simp; done) | (simp; omega))
                    have c6 : w6.cell? ⟨g, o + k, none⟩ = some (.string x0) := (hb6.cell (p := ⟨g, o + k, none⟩) (show g < wr.heap.size by omega)).trans c0
                    have at6 := HC2.out _ g6
                    have i9 := at6.cell 9 rfl
                    have l6 := at6.lt
                    have z6 := hb6.size
                    clear at6 j9 lbb c0
                    go_wp2_with fail
                    go_roundw
                    case rel => exact ⟨k + 1, by omega, by go_num, allUp_succ HUP.out HA.out HX.out, hbl.trans (hb6.mono zr)⟩
                    case measure => simp [intOf]; omega
              case neg =>
                obtain rfl : k = np := by omega
                have HP1 := Lib.hid (show a9l.all ptB = true from allUp_yes (HNP.out ▸ HUP.out))
                clear HUP hk hlt
                obtain ⟨w5, hw5⟩ : ∃ w5, w5 = wr := ⟨_, rfl⟩
                subst hw5
                have at5 := HC2.out _ g5
                have j9 := at5.cell 9 rfl
                have lbb := at5.lt
                clear at5
                go_wp2_with fail
                clear j9 lbb
                go_loopw [5] (fun i wr => ∃ k2 : Nat, k2 ≤ nn ∧ i = .int .i64 (k2 : Int) ∧ allUp numB a10l k2 = true ∧ Below w5.heap.size w5 wr) (fun i _ => nn - (intOf i).toNat)
                case atStart => exact ⟨0, Nat.zero_le _, rfl, rfl, Below.refl _ _⟩
                case round =>
                  obtain ⟨k2, hk2, rfl, hup2, hbs⟩ := hrel
                  have HUP2 := Lib.hid hup2
                  clear hup2
                  have zs := hbs.size
                  have g7 : Below w.heap.size w wr := by repeat' (first | with_reducible assumption | with_reducible exact Below.refl _ _ | (with_reducible refine Below.setCell ?_ ?_ _) | (with_reducible refine Below.alloc ?_ ?_ _) | (with_reducible refine Below.drew ?_) | (with_reducible refine below_dr ?_ _) | (with_reducible refine Below.trans ?_ (Below.mono (by with_reducible assumption) ?_)) | omega | (simp; done) | (simp; omega))
                  by_cases hlt2 : k2 < nn
                  case pos =>
                    obtain ⟨x0, ha⟩ : ∃ a : Int, a10l[k2]? = some a := ⟨a10l[k2]'(by have := HNN.out; omega), List.getElem?_eq_getElem (by have := HNN.out; omega)⟩
                    obtain ⟨g, o, row, rfl, hg, rfl, hc⟩ := (RN.out _ g7).elem ha
                    have c0 : wr.cell? ⟨g, o + k2, none⟩ = some (.int .i64 x0) := by have h := hc 0 _ rfl; rw [Nat.mul_one] at h; exact h
                    have HA := Lib.hid ha
                    clear hc ha
                    have hki : (k2 : Int) < (nn : Int) := by omega
                    have CI := Lib.hid (fun w => l00In_same x0 (-1000000000) 1000000000 w)
                    have at7 := HC2.out _ g7
                    have j10 := at7.cell 10 rfl
                    have lbb := at7.lt
                    clear at7
                    rcases hf : inB x0 (-1000000000) 1000000000 with _ | _
                    case false =>
                      rw [hf] at CI
                      have HX := Lib.hid (show numB x0 = false from hf)
                      clear hf
                      go_wp2_with fail
                      refine (CI.out _).mono ?_
                      rintro e w8 hq8
                      obtain ⟨rfl, hw8⟩ := hq8
                      subst hw8
                      go_wp2_with fail
                      go_ret
                      exact ⟨ret_bool (by rw [allUp_no HA.out HX.out]; simp), by repeat' (first | with_reducible assumption | with_reducible exact Below.refl _ _ | (with_reducible refine Below.setCell ?_ ?_ _) | (with_reducible refine Below.alloc ?_ ?_ _) | (with_reducible refine Below.drew ?_) | (with_reducible refine below_dr ?_ _) | (with_reducible refine Below.trans ?_ (Below.mono (by with_reducible assumption) ?_)) | omega | (simp; done) | (simp; omega))⟩
                    case true =>
                      rw [hf] at CI
                      have HX := Lib.hid (show numB x0 = true from hf)
                      clear hf
                      go_wp2_with fail
                      refine (CI.out _).mono ?_
                      rintro e w8 hq8
                      obtain ⟨rfl, hw8⟩ := hq8
                      subst hw8
                      go_wp2_with fail
                      go_roundw
                      case rel => exact ⟨k2 + 1, by omega, by go_num, allUp_succ HUP2.out HA.out HX.out, by repeat' (first | with_reducible assumption | with_reducible exact Below.refl _ _ | (with_reducible refine Below.setCell ?_ ?_ _) | (with_reducible refine Below.alloc ?_ ?_ _) | (with_reducible refine Below.drew ?_) | (with_reducible refine below_dr ?_ _) | (with_reducible refine Below.trans ?_ (Below.mono (by with_reducible assumption) ?_)) | omega | (simp; done) | (simp; omega))⟩
                      case measure => simp [intOf]; omega
                  case neg =>
                    obtain rfl : k2 = nn := by omega
                    have HP2 := Lib.hid (show a10l.all numB = true from allUp_yes (HNN.out ▸ HUP2.out))
                    clear HUP2 hk2 hlt2
                    have at7 := HC2.out _ g7
                    have j0 := at7.cell 0 rfl
                    have j9 := at7.cell 9 rfl
                    have j10 := at7.cell 10 rfl
                    have j11 := at7.cell 11 rfl
                    have j12 := at7.cell 12 rfl
                    have lbb := at7.lt
                    clear at7
                    by_cases h4 : a0 = 4
                    case pos =>
                      have H4 := Lib.hid h4
                      subst h4
                      obtain ⟨d, hd⟩ : ∃ d, d = decide ((2 : Int) < (k : Int)) := ⟨_, rfl⟩
                      replace hd := hd.symm
                      cases a12
                      case false =>
                        go_wp2_with fail
                        go_ret
                        exact ⟨ret_bool (by rw [HP1.out, HP2.out]; unfold tailB; rw [if_pos (rfl : (4 : Int) = 4)]; simp), by repeat' (first | with_reducible assumption | with_reducible exact Below.refl _ _ | (with_reducible refine Below.setCell ?_ ?_ _) | (with_reducible refine Below.alloc ?_ ?_ _) | (with_reducible refine Below.drew ?_) | (with_reducible refine below_dr ?_ _) | (with_reducible refine Below.trans ?_ (Below.mono (by with_reducible assumption) ?_)) | omega | (simp; done) | (simp; omega))⟩
                      case true =>
                        cases d
                        case false =>
                          go_wp2_with fail
                          go_ret
                          exact ⟨ret_bool (by rw [HP1.out, HP2.out]; unfold tailB; rw [if_pos (rfl : (4 : Int) = 4), hd]; simp), by repeat' (first | with_reducible assumption | with_reducible exact Below.refl _ _ | (with_reducible refine Below.setCell ?_ ?_ _) | (with_reducible refine Below.alloc ?_ ?_ _) | (with_reducible refine Below.drew ?_) | (with_reducible refine below_dr ?_ _) | (with_reducible refine Below.trans ?_ (Below.mono (by with_reducible assumption) ?_)) | omega | (simp; done) | (simp; omega))⟩
                        case true =>
                          go_wp2_with fail
                          go_ret
                          exact ⟨ret_bool (by rw [HP1.out, HP2.out]; unfold tailB; rw [if_pos (rfl : (4 : Int) = 4), hd]; simp), by repeat' (first | with_reducible assumption | with_reducible exact Below.refl _ _ | (with_reducible refine Below.setCell ?_ ?_ _) | (with_reducible refine Below.alloc ?_ ?_ _) | (with_reducible refine Below.drew ?_) | (with_reducible refine below_dr ?_ _) | (with_reducible refine Below.trans ?_ (Below.mono (by with_reducible assumption) ?_)) | omega | (simp; done) | (simp; omega))⟩
                    case neg =>
                      have H4 := Lib.hid h4
                      have f4 : ((a0 : Int) != 4) = true := by simp [h4]
                      have f5 : ((a0 : Int) == 4) = false := by simp [h4]
                      clear h4
                      cases a11
                      case false =>
                        cases a12
                        case false =>
                          go_wp2_with fail
                          go_ret
                          exact ⟨ret_bool (by rw [HP1.out, HP2.out]; unfold tailB; rw [if_neg H4.out]; simp), by repeat' (first | with_reducible assumption | with_reducible exact Below.refl _ _ | (with_reducible refine Below.setCell ?_ ?_ _) | (with_reducible refine Below.alloc ?_ ?_ _) | (with_reducible refine Below.drew ?_) | (with_reducible refine below_dr ?_ _) | (with_reducible refine Below.trans ?_ (Below.mono (by with_reducible assumption) ?_)) | omega | (simp; done) | (simp; omega))⟩
                        case true =>
                          go_wp2_with fail
                          go_ret
                          exact ⟨ret_bool (by rw [HP1.out, HP2.out]; unfold tailB; rw [if_neg H4.out]; simp), by repeat' (first | with_reducible assumption | with_reducible exact Below.refl _ _ | (with_reducible refine Below.setCell ?_ ?_ _) | (with_reducible refine Below.alloc ?_ ?_ _) | (with_reducible refine Below.drew ?_) | (with_reducible refine below_dr ?_ _) | (with_reducible refine Below.trans ?_ (Below.mono (by with_reducible assumption) ?_)) | omega | (simp; done) | (simp; omega))⟩
                      case true =>
                        go_wp2_with fail
                        go_ret
                        exact ⟨ret_bool (by rw [HP1.out, HP2.out]; unfold tailB; rw [if_neg H4.out]; simp), by repeat' (first | with_reducible assumption | with_reducible exact Below.refl _ _ | (with_reducible refine Below.setCell ?_ ?_ _) | (with_reducible refine Below.alloc ?_ ?_ _) | (with_reducible refine Below.drew ?_) | (with_reducible refine below_dr ?_ _) | (with_reducible refine Below.trans ?_ (Below.mono (by with_reducible assumption) ?_)) | omega | (simp; done) | (simp; omega))⟩
end Go.Proofs.Ytjpadamlfhceaaa
