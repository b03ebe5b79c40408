/- Walks: lists of points are marked and looked at again. -/
import Derived.Test.YtdeemhfhmgnbgaaVp
namespace Go.Proofs.Ytdeemhfhmgnbgaa
open Go.RowKit
set_option linter.unusedVariables false
def markC (z : Nat) : Bool := decide (z % 3 = 0)
theorem markC_is (z : Nat) (c : Int) (hc : c = (z : Int)) : (c % 3 == 0) = markC z := by
  subst hc
  unfold markC
  rw [Bool.eq_iff_iff, beq_iff_eq, decide_eq_true_iff]
  omega
def marksPt (k n : Nat) : List APt := (List.range n).map fun i => (((k + 2 * i : Nat) : Int), ((k + 2 * i : Nat) : Int) + 1)
theorem marksPt_len (k n : Nat) : (marksPt k n).length = n := by simp [marksPt]
theorem marksPt_at {k n i : Nat} (h : i < n) : (marksPt k n)[i]? = some (((k + 2 * i : Nat) : Int), ((k + 2 * i : Nat) : Int) + 1) := by simp [marksPt, h]
set_option maxHeartbeats 1600000 in
theorem markPtS_any (k n : Nat) (A : Option Addr) (c base : Nat) (xs : List Value) (w : World) (hk : 1 ≤ k) (hn : k + 2 * n ≤ 4611686018427387904) (h1 : w.ownsRow base 26 2 (.slice A n c) n xs) :
    Calls Try.prog 68 #[.slice A n c, .int .i64 k] w fun e w' => e = .returned (.int .i64 ((k + 2 * n : Nat) : Int)) ∧ w'.ownsRow base 26 2 (.slice A n c) n (cellsF cPt (marksPt k n)) ∧ w.grownBy w' (Value.slice A n c).ownBlock := by
  go_enter Try.func68, Try.ntmps68
  go_wp2_with fail
  go_loopw [1, 5] (fun j i wr => ∃ (m : Nat) (ys : List Value), m ≤ n ∧ i = .int .i64 m ∧ j = .int .i64 ((k + 2 * m : Nat) : Int) ∧ wr.ownsRow base 26 2 (.slice A n c) n ys ∧ Filled cPt 2 (marksPt k n) m ys ∧ w.grownBy wr (Value.slice A n c).ownBlock) (fun _ i _ => n - (intOf i).toNat)
  case atStart => exact ⟨0, _, Nat.zero_le _, rfl, rfl, h1, Filled.zero, World.grownBy.refl _ _⟩
  case round =>
    obtain ⟨m, ys, hm, rfl, rfl, hown, hfil, hg⟩ := hrel
    have hxl : ys.length = n * 2 := hown.1
    have HX := Lib.hid hxl
    clear hxl
    by_cases hlt : m < n
    · obtain ⟨g, cap, hv, _, hgl⟩ := hown.form (by omega)
      obtain rfl : A = some ⟨g, 0, none⟩ := by injection hv
      have hat := marksPt_at (k := k) hlt
      obtain ⟨z, hz⟩ : ∃ z : Nat, z = k + 2 * m := ⟨_, rfl⟩
      rw [← hz] at hat ⊢
      have HZ := Lib.hid hz
      have hz2 : z + 2 ≤ 4611686018427387904 := by omega
      have hz1 : 1 ≤ z := by omega
      clear hz hv h1
      have hstep := Lib.hid (fun h => Filled.step2 hfil hat h (rfl : cPt _ = _))
      have hki : (m : Int) < (n : Int) := by omega
      clear hat hfil
      obtain ⟨yo0, y0⟩ : ∃ v, wr.cell? ⟨g, m * 2, none⟩ = some v := ⟨_, (hown.cellAt (m * 2) (by have := HX.out; omega)).trans (List.getElem?_eq_getElem (by have := HX.out; omega))⟩
      have yf0 : wr.frozen? ⟨g, m * 2, none⟩ = false := hown.frozenAt (m * 2)
      obtain ⟨yo1, y1⟩ : ∃ v, wr.cell? ⟨g, m * 2 + 1, none⟩ = some v := ⟨_, (hown.cellAt (m * 2 + 1) (by have := HX.out; omega)).trans (List.getElem?_eq_getElem (by have := HX.out; omega))⟩
      have yf1 : wr.frozen? ⟨g, m * 2 + 1, none⟩ = false := hown.frozenAt (m * 2 + 1)
      go_wp2_with fail
      go_roundw
      case rel =>
        have hst0 := World.ownsRow.stored (hown) (m * 2) (.int .i64 ((z : Nat) : Int))
        have hst1 := World.ownsRow.stored (hst0.1) (m * 2 + 1) (.int .i64 ((z : Int) + 1))
        exact ⟨m + 1, _, by omega, by go_num, by have := HZ.out; go_num, hst1.1, hstep.out (by have := HX.out; omega), (grownBy_trans (grownBy_trans hg hst0.2) hst1.2)⟩
      case measure => simp [intOf]; omega
    · obtain rfl : m = n := by omega
      go_wp2_with fail
      go_ret
      have hx := Filled.done (fun a => cPt_len a) (by omega) (by rw [marksPt_len]; exact hfil) (by rw [marksPt_len]; exact HX.out)
      rw [hx] at hown
      exact ⟨rfl, hown, hg⟩
set_option maxHeartbeats 1600000 in
theorem heldPtS_any (k n : Nat) (A : Option Addr) (c : Nat) (w : World) (hk : 1 ≤ k) (hn : k + 2 * n ≤ 4611686018427387904) (hr : Rd cPt 2 w w.heap.size A (marksPt k n)) :
    Calls Try.prog 69 #[.slice A n c, .int .i64 k] w fun e w' => e = .returned (.int .i64 ((k + 2 * n : Nat) : Int)) ∧ Below w.heap.size w w' := by
  go_enter Try.func69, Try.ntmps69
  go_wp2_with fail
  go_loopw [1, 5] (fun j i wr => ∃ m : Nat, m ≤ n ∧ i = .int .i64 m ∧ j = .int .i64 ((k + 2 * m : Nat) : Int) ∧ Below w.heap.size w wr) (fun _ i _ => n - (intOf i).toNat)
  case atStart => exact ⟨0, Nat.zero_le _, rfl, rfl, by repeat' (first | with_reducible assumption | with_reducible exact Below.refl _ _ | (with_reducible refine Below.setCell ?_ ?_ _) | (with_reducible refine Below.alloc ?_ ?_ _) | (with_reducible refine Below.drew ?_) | (with_reducible refine below_dr ?_ _) | (with_reducible refine Below.trans ?_ (Below.mono (by with_reducible assumption) ?_)) | omega | (simp; done) | (simp; omega))⟩
  case round =>
    obtain ⟨m, hm, rfl, rfl, hbl⟩ := hrel
    by_cases hlt : m < n
    · have ha := marksPt_at (k := k) hlt
      obtain ⟨g, o, rfl, hgb, hc⟩ := (hr.below hbl).elem ha
      obtain ⟨z, hz⟩ : ∃ z : Nat, z = k + 2 * m := ⟨_, rfl⟩
      rw [← hz] at hc ⊢
      have HZ := Lib.hid hz
      have hz2 : z + 2 ≤ 4611686018427387904 := by omega
      have hz1 : 1 ≤ z := by omega
      clear hz ha hr
      have d0 : (((z : Int)) != ((z : Int))) = false := by simp
      have d1 : (((z : Int) + 1) != ((z : Int) + 1)) = false := by simp
      have c0 : wr.cell? ⟨g, o + m * 2, none⟩ = some (.int .i64 (z : Int)) := hc 0 _ rfl
      have c1 : wr.cell? ⟨g, o + m * 2 + 1, none⟩ = some (.int .i64 ((z : Int) + 1)) := hc 1 _ rfl
      clear hc
      have hzr := hbl.size
      have hgw : g < wr.heap.size := by omega
      have hki : (m : Int) < (n : Int) := by omega
      go_wp2_with fail
      go_roundw
      case rel => exact ⟨m + 1, by omega, by go_num, by have := HZ.out; go_num, by repeat' (first | with_reducible assumption | with_reducible exact Below.refl _ _ | (with_reducible refine Below.setCell ?_ ?_ _) | (with_reducible refine Below.alloc ?_ ?_ _) | (with_reducible refine Below.drew ?_) | (with_reducible refine below_dr ?_ _) | (with_reducible refine Below.trans ?_ (Below.mono (by with_reducible assumption) ?_)) | omega | (simp; done) | (simp; omega))⟩
      case measure => simp [intOf]; omega
    · obtain rfl : m = n := by omega
      go_wp2_with fail
      go_ret
      exact ⟨rfl, hbl⟩
end Go.Proofs.Ytdeemhfhmgnbgaa
