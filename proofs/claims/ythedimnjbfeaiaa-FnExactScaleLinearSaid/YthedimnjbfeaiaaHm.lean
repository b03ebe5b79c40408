/- Walks: lists of terms are marked and looked at again. -/
import Derived.Test.YthedimnjbfeaiaaHt
namespace Go.Proofs.Ythedimnjbfeaiaa
open Go.RowKit
set_option linter.unusedVariables false
def marksTerm (k n : Nat) : List ATerm := (List.range n).map fun i => (markB (k + 3 * i), ((k + 3 * i : Nat) : Int) + 1, ((k + 3 * i : Nat) : Int) + 2)
theorem marksTerm_len (k n : Nat) : (marksTerm k n).length = n := by simp [marksTerm]
theorem marksTerm_at {k n i : Nat} (h : i < n) : (marksTerm k n)[i]? = some (markB (k + 3 * i), ((k + 3 * i : Nat) : Int) + 1, ((k + 3 * i : Nat) : Int) + 2) := by simp [marksTerm, h]
set_option maxHeartbeats 1600000 in
theorem markTermS_any (k n : Nat) (A : Option Addr) (c base : Nat) (xs : List Value) (w : World) (hk : 1 ≤ k) (hn : k + 3 * n ≤ 4611686018427387904) (h1 : w.ownsRow base 109 3 (.slice A n c) n xs) :
    Calls Try.prog 83 #[.slice A n c, .int .i64 k] w fun e w' => e = .returned (.int .i64 ((k + 3 * n : Nat) : Int)) ∧ w'.ownsRow base 109 3 (.slice A n c) n (cellsF cTerm (marksTerm k n)) ∧ w.grownBy w' (Value.slice A n c).ownBlock := by
  go_enter Try.func83, Try.ntmps83
  go_wp2_with fail
  go_loopw [1, 5] (fun j i wr => ∃ (m : Nat) (ys : List Value), m ≤ n ∧ i = .int .i64 m ∧ j = .int .i64 ((k + 3 * m : Nat) : Int) ∧ wr.ownsRow base 109 3 (.slice A n c) n ys ∧ Filled cTerm 3 (marksTerm k n) m ys ∧ w.grownBy wr (Value.slice A n c).ownBlock) (fun _ i _ => n - (intOf i).toNat)
  case atStart => exact ⟨0, _, Nat.zero_le _, rfl, rfl, h1, Filled.zero, World.grownBy.refl _ _⟩
  case round =>
    obtain ⟨m, ys, hm, rfl, rfl, hown, hfil, hg⟩ := hrel
    have hxl : ys.length = n * 3 := hown.1
    have HX := Lib.hid hxl
    clear hxl
    by_cases hlt : m < n
    · obtain ⟨g, cap, hv, _, hgl⟩ := hown.form (by omega)
      obtain rfl : A = some ⟨g, 0, none⟩ := by injection hv
      have hat := marksTerm_at (k := k) hlt
      obtain ⟨z, hz⟩ : ∃ z : Nat, z = k + 3 * m := ⟨_, rfl⟩
      rw [← hz] at hat ⊢
      have HZ := Lib.hid hz
      have hz2 : z + 3 ≤ 4611686018427387904 := by omega
      have hz1 : 1 ≤ z := by omega
      clear hz hv h1
      have CM0 := Lib.hid fun w => markText_any (z) w (by omega) (by omega)
      generalize markB (z) = s0 at CM0 hat
      have hstep := Lib.hid (fun h => Filled.step3 hfil hat h (rfl : cTerm _ = _))
      have hki : (m : Int) < (n : Int) := by omega
      clear hat hfil
      go_wp2_with fail
      refine (CM0.out _).mono ?_
      rintro e wA ⟨rfl, hbA⟩
      have hownA := own_stays hown hbA
      have hzA := hbA.size
      obtain ⟨yo0, y0⟩ : ∃ v, wA.cell? ⟨g, m * 3, none⟩ = some v := ⟨_, (hownA.cellAt (m * 3) (by have := HX.out; omega)).trans (List.getElem?_eq_getElem (by have := HX.out; omega))⟩
      have yf0 : wA.frozen? ⟨g, m * 3, none⟩ = false := hownA.frozenAt (m * 3)
      obtain ⟨yo1, y1⟩ : ∃ v, wA.cell? ⟨g, m * 3 + 1, none⟩ = some v := ⟨_, (hownA.cellAt (m * 3 + 1) (by have := HX.out; omega)).trans (List.getElem?_eq_getElem (by have := HX.out; omega))⟩
      have yf1 : wA.frozen? ⟨g, m * 3 + 1, none⟩ = false := hownA.frozenAt (m * 3 + 1)
      obtain ⟨yo2, y2⟩ : ∃ v, wA.cell? ⟨g, m * 3 + 2, none⟩ = some v := ⟨_, (hownA.cellAt (m * 3 + 2) (by have := HX.out; omega)).trans (List.getElem?_eq_getElem (by have := HX.out; omega))⟩
      have yf2 : wA.frozen? ⟨g, m * 3 + 2, none⟩ = false := hownA.frozenAt (m * 3 + 2)
      clear hown
      go_wp2_with fail
      go_roundw
      case rel =>
        have hst0 := World.ownsRow.stored (hownA) (m * 3) (.string s0)
        have hst1 := World.ownsRow.stored (hst0.1) (m * 3 + 1) (.int .i64 ((z : Int) + 1))
        have hst2 := World.ownsRow.stored (hst1.1) (m * 3 + 2) (.int .i64 ((z : Int) + 2))
        exact ⟨m + 1, _, by omega, by go_num, by have := HZ.out; go_num, hst2.1, hstep.out (by have := HX.out; omega), (grownBy_trans (grownBy_trans (grownBy_trans (grownBy_trans hg (grownBy_of_below hbA _)) hst0.2) hst1.2) hst2.2)⟩
      case measure => simp [intOf]; omega
    · obtain rfl : m = n := by omega
      go_wp2_with fail
      go_ret
      have hx := Filled.done (fun a => cTerm_len a) (by omega) (by rw [marksTerm_len]; exact hfil) (by rw [marksTerm_len]; exact HX.out)
      rw [hx] at hown
      exact ⟨rfl, hown, hg⟩
set_option maxHeartbeats 1600000 in
theorem heldTermS_any (k n : Nat) (A : Option Addr) (c : Nat) (w : World) (hk : 1 ≤ k) (hn : k + 3 * n ≤ 4611686018427387904) (hr : Rd cTerm 3 w w.heap.size A (marksTerm k n)) :
    Calls Try.prog 84 #[.slice A n c, .int .i64 k] w fun e w' => e = .returned (.int .i64 ((k + 3 * n : Nat) : Int)) ∧ Below w.heap.size w w' := by
  go_enter Try.func84, Try.ntmps84
  go_wp2_with fail
  go_loopw [1, 5] (fun j i wr => ∃ m : Nat, m ≤ n ∧ i = .int .i64 m ∧ j = .int .i64 ((k + 3 * m : Nat) : Int) ∧ Below w.heap.size w wr) (fun _ i _ => n - (intOf i).toNat)
  case atStart => exact ⟨0, Nat.zero_le _, rfl, rfl, by repeat' (first | with_reducible assumption | with_reducible exact Below.refl _ _ | (with_reducible refine Below.setCell ?_ ?_ _) | (with_reducible refine Below.alloc ?_ ?_ _) | (with_reducible refine Below.drew ?_) | (with_reducible refine below_dr ?_ _) | (with_reducible refine Below.trans ?_ (Below.mono (by with_reducible assumption) ?_)) | omega | (simp; done) | (simp; omega))⟩
  case round =>
    obtain ⟨m, hm, rfl, rfl, hbl⟩ := hrel
    by_cases hlt : m < n
    · have ha := marksTerm_at (k := k) hlt
      obtain ⟨g, o, rfl, hgb, hc⟩ := (hr.below hbl).elem ha
      obtain ⟨z, hz⟩ : ∃ z : Nat, z = k + 3 * m := ⟨_, rfl⟩
      rw [← hz] at hc ⊢
      have HZ := Lib.hid hz
      have hz2 : z + 3 ≤ 4611686018427387904 := by omega
      have hz1 : 1 ≤ z := by omega
      clear hz ha hr
      have CM0 := Lib.hid fun w => markText_any (z) w (by omega) (by omega)
      generalize markB (z) = s0 at CM0 hc
      have e0 : (s0.toList == s0.toList) = true := by simp
      have d0 : (s0.toList != s0.toList) = false := by simp
      have d1 : (((z : Int) + 1) != ((z : Int) + 1)) = false := by simp
      have d2 : (((z : Int) + 2) != ((z : Int) + 2)) = false := by simp
      have c0 : wr.cell? ⟨g, o + m * 3, none⟩ = some (.string s0) := hc 0 _ rfl
      have c1 : wr.cell? ⟨g, o + m * 3 + 1, none⟩ = some (.int .i64 ((z : Int) + 1)) := hc 1 _ rfl
      have c2 : wr.cell? ⟨g, o + m * 3 + 2, none⟩ = some (.int .i64 ((z : Int) + 2)) := hc 2 _ rfl
      clear hc
      have hzr := hbl.size
      have hgw : g < wr.heap.size := by omega
      have hki : (m : Int) < (n : Int) := by omega
      go_wp2_with fail
      go_region_held3 (fun w' => w'.cell? ⟨g, o + m * 3, none⟩ = some (.string s0) ∧ w'.cell? ⟨g, o + m * 3 + 1, none⟩ = some (.int .i64 ((z : Int) + 1)) ∧ w'.cell? ⟨g, o + m * 3 + 2, none⟩ = some (.int .i64 ((z : Int) + 2)) ∧ g < w'.heap.size)
        (first | exact ⟨c0, c1, c2, hgw⟩ | assumption | fail)
        (first
          | (go_at_call 125; (with_reducible refine (CM0.out _).mono ?_); rintro e wA ⟨rfl, hbA⟩; have hzA := hbA.size; (try simp only [World.size_drew] at hzA); have hS : wA.cell? ⟨g, o + m * 3, none⟩ = some (.string s0) ∧ wA.cell? ⟨g, o + m * 3 + 1, none⟩ = some (.int .i64 ((z : Int) + 1)) ∧ wA.cell? ⟨g, o + m * 3 + 2, none⟩ = some (.int .i64 ((z : Int) + 2)) ∧ g < wA.heap.size := ⟨(hbA.cell (p := ⟨g, _, none⟩) (by simp only [World.size_drew]; omega)).trans c0, (hbA.cell (p := ⟨g, _, none⟩) (by simp only [World.size_drew]; omega)).trans c1, (hbA.cell (p := ⟨g, _, none⟩) (by simp only [World.size_drew]; omega)).trans c2, by omega⟩))
      all_goals
        clear c0 c1 c2
        obtain ⟨c0, c1, c2, -⟩ := hS
        go_wp2_with fail
        go_roundw
        case rel => exact ⟨m + 1, by omega, by go_num, by have := HZ.out; go_num, by repeat' (first | with_reducible assumption | with_reducible exact Below.refl _ _ | (with_reducible refine Below.setCell ?_ ?_ _) | (with_reducible refine Below.alloc ?_ ?_ _) | (with_reducible refine Below.drew ?_) | (with_reducible refine below_dr ?_ _) | (with_reducible refine Below.trans ?_ (Below.mono (by with_reducible assumption) ?_)) | omega | (simp; done) | (simp; omega))⟩
        case measure => simp [intOf]; omega
    · obtain rfl : m = n := by omega
      go_wp2_with fail
      go_ret
      exact ⟨rfl, hbl⟩
end Go.Proofs.Ythedimnjbfeaiaa
