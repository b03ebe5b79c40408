/- Walks: the coefficients of an equation of a curve, the reference's side. -/
import Derived.Test.YtcjjmkkphbeoeaaNg
namespace Go.Proofs.Ytcjjmkkphbeoeaa
open Go.RowKit
set_option linter.unusedVariables false
theorem rowL_congr {F G : Nat → Int} {n : Nat} (h : ∀ i, i < n → F i = G i) : rowL F n = rowL G n := by
  unfold rowL
  exact List.map_congr_left (fun i hi => h i (List.mem_range.1 hi))
set_option maxRecDepth 100000 in
theorem made0 : ∀ n, n ≤ 10 → (madeCells (Value.cells (.int .i64 0)) (n * 1)).toList = cellsF cI (rowL (fun _ => 0) n)
  | 0, _ => by kernel_rfl
  | 1, _ => by kernel_rfl
  | 2, _ => by kernel_rfl
  | 3, _ => by kernel_rfl
  | 4, _ => by kernel_rfl
  | 5, _ => by kernel_rfl
  | 6, _ => by kernel_rfl
  | 7, _ => by kernel_rfl
  | 8, _ => by kernel_rfl
  | 9, _ => by kernel_rfl
  | 10, _ => by kernel_rfl
  | n + 11, h => absurd h (by omega)
/-- A row of n integers of one's own. -/
def IB (w : World) (base g n : Nat) (f : Nat → Int) : Prop := w.ownsRow base 2 1 (.slice (some ⟨g, 0, none⟩) n n) n (cellsF cI (rowL f n))
theorem rowL_get {F : Nat → Int} {n k : Nat} (h : k < n) : (rowL F n)[k]? = some (F k) := by unfold rowL; rw [List.getElem?_map, List.getElem?_range h]; rfl
theorem IB.cell {w : World} {base g n : Nat} {f : Nat → Int} (h : IB w base g n f) {i : Nat} (hi : i < n) : w.cell? ⟨g, i, none⟩ = some (.int .i64 (f i)) := by
  have h2 := h.cellAt i (by omega)
  rw [h2, cellsI_at, rowL_get hi]; rfl
theorem IB.set_ {w : World} {base g n : Nat} {f : Nat → Int} (h : IB w base g n f) (i : Nat) (v : Int) : IB (w.setCell ⟨g, i, none⟩ (.int .i64 v)) base g n (setF f i v) := by
  have h2 := (World.ownsRow.stored h i (.int .i64 v)).1
  unfold IB
  have e : (cellsF cI (rowL f n)).set i (.int .i64 v) = cellsF cI (rowL (setF f i v) n) := by
    apply List.ext_getElem?
    intro j
    rw [cellsI_at, List.getElem?_set, cellsF_len (fun a => cI_len a), rowL_len]
    rcases Nat.lt_or_ge j n with hj | hj
    · rw [rowL_get hj]
      unfold setF
      by_cases e : i = j
      · subst e; rw [if_pos rfl, if_pos (by omega), if_pos rfl]; rfl
      · rw [if_neg e, if_neg (fun e2 => e e2.symm), cellsI_at, rowL_get hj]
    · rw [List.getElem?_eq_none (l := rowL (setF f i v) n) (by rw [rowL_len]; exact hj)]
      by_cases e : i = j
      · subst e; rw [if_pos rfl, if_neg (by omega)]; rfl
      · rw [if_neg e, cellsI_at, List.getElem?_eq_none (by rw [rowL_len]; exact hj)]
  rwa [e] at h2
section
variable {l : List APt} {cl ff fl : Bool} {fx fy lx ly : Int} {k : Nat}
theorem row_in (h10 : l.length ≤ 10) (h : inB cl l.length k = true) : rowL (setF (setF (setF (fun _ => 0) ((k + l.length - 1) % l.length) 1) k 4) ((k + 1) % l.length) 1) l.length = rowL (eqnF l cl ff fl fx fy lx ly k) l.length := by
  rw [← eqn_in h]
  apply rowL_congr
  intro i hi
  unfold z12 setF
  simp only [show ¬ i = 10 by omega, show ¬ i = 11 by omega, if_false]
theorem row_first_t (h10 : l.length ≤ 10) (h : inB cl l.length 0 = false) : rowL (setF (fun _ => 0) 0 1) l.length = rowL (eqnF l cl true fl fx fy lx ly 0) l.length := by
  rw [← eqn_first_t h]
  apply rowL_congr
  intro i hi
  unfold z12 setF
  simp only [show ¬ i = 10 by omega, show ¬ i = 11 by omega, if_false]
theorem row_first_f (h10 : l.length ≤ 10) (h : inB cl l.length 0 = false) : rowL (setF (setF (fun _ => 0) 0 2) 1 1) l.length = rowL (eqnF l cl false fl fx fy lx ly 0) l.length := by
  rw [← eqn_first_f h]
  apply rowL_congr
  intro i hi
  unfold z12 setF
  simp only [show ¬ i = 10 by omega, show ¬ i = 11 by omega, if_false]
theorem row_last_t (h10 : l.length ≤ 10) (h : inB cl l.length k = false) (hk : ¬ k = 0) : rowL (setF (fun _ => 0) k 1) l.length = rowL (eqnF l cl ff true fx fy lx ly k) l.length := by
  rw [← eqn_last_t h hk]
  apply rowL_congr
  intro i hi
  unfold z12 setF
  simp only [show ¬ i = 10 by omega, show ¬ i = 11 by omega, if_false]
theorem row_last_f (h10 : l.length ≤ 10) (h : inB cl l.length k = false) (hk : ¬ k = 0) : rowL (setF (setF (fun _ => 0) (k - 1) 1) k 2) l.length = rowL (eqnF l cl ff false fx fy lx ly k) l.length := by
  rw [← eqn_last_f h hk]
  apply rowL_congr
  intro i hi
  unfold z12 setF
  simp only [show ¬ i = 10 by omega, show ¬ i = 11 by omega, if_false]
  by_cases e1 : i = k
  · rw [if_pos e1, if_neg (by omega), if_pos e1]
  · rw [if_neg e1, if_neg e1]
end
set_option maxRecDepth 100000 in
set_option maxHeartbeats 6400000 in
theorem l06Row_in_t (l : List APt) (A : Option Addr) (c : Nat) (t : Int) (ff : Bool) (fl : Bool) (fx fy lx ly : Int) (k : Nat) (b : Nat) (w : World) (h2 : 2 ≤ l.length) (h10 : l.length ≤ 10) (hk : k < l.length) (h3 : 3 ≤ l.length) (at0 : AtL b [.slice A l.length c, .bool true, .int .i64 t, .bool ff, .bool fl, .int .i64 fx, .int .i64 fy, .int .i64 lx, .int .i64 ly] w) :
    Calls Try.prog 46 #[.pointer (some ⟨b, 0, none⟩), .int .i64 k] w fun e w' => ∃ (A' : Option Addr) (c' : Nat), e = .returned (.slice A' l.length c') ∧ w'.ownsRow w.heap.size 2 1 (.slice A' l.length c') l.length (cellsF cI (rowL (eqnF l true ff fl fx fy lx ly k) l.length)) ∧ Below w.heap.size w w' := by
  rw [← row_in (l := l) (cl := true) (ff := ff) (fl := fl) (fx := fx) (fy := fy) (lx := lx) (ly := ly) (k := k) h10 (rfl)]
  obtain ⟨p, hpp⟩ : ∃ p, p = (k + l.length - 1) % l.length := ⟨_, rfl⟩
  obtain ⟨q, hq⟩ : ∃ q, q = (k + 1) % l.length := ⟨_, rfl⟩
  rw [← hpp, ← hq]
  have hpv : (p = k - 1 ∧ 1 ≤ k) ∨ (p = l.length - 1 ∧ k = 0) := by
    rcases Nat.eq_zero_or_pos k with h | h
    · right; refine ⟨?_, h⟩; rw [hpp, h]; rw [Nat.mod_eq_of_lt (by omega)]; omega
    · left; refine ⟨?_, h⟩; rw [hpp, show k + l.length - 1 = (k - 1) + l.length by omega, Nat.add_mod_right, Nat.mod_eq_of_lt (by omega)]
  have hqv : (q = k + 1 ∧ k + 1 < l.length) ∨ (q = 0 ∧ k + 1 = l.length) := by
    rcases Nat.lt_or_ge (k + 1) l.length with h | h
    · left; exact ⟨by rw [hq, Nat.mod_eq_of_lt h], h⟩
    · right; have h' : k + 1 = l.length := by omega
      exact ⟨by rw [hq, h', Nat.mod_self], h'⟩
  have e3 : ((k : Int) + (l.length : Int) - 1).tmod (l.length : Int) = (p : Int) := by rw [hpp, show ((k : Int) + (l.length : Int) - 1) = ((k + l.length - 1 : Nat) : Int) by omega]; exact (Int.ofNat_tmod _ _).symm
  have e4 : ((k : Int) + 1).tmod (l.length : Int) = (q : Int) := by rw [hq, show ((k : Int) + 1) = ((k + 1 : Nat) : Int) by omega]; exact (Int.ofNat_tmod _ _).symm
  clear hpp hq
  have hpl : p < l.length := by omega
  have hql : q < l.length := by omega
  have d1 : ¬ p = k := by omega
  have d2 : ¬ p = q := by omega
  have d3 : ¬ k = q := by omega
  have d1' : ¬ k = p := by omega
  have d2' : ¬ q = p := by omega
  have d3' : ¬ q = k := by omega
  have i1 : (p : Int) < (l.length : Int) := by omega
  have i2 : (k : Int) < (l.length : Int) := by omega
  have i3 : (q : Int) < (l.length : Int) := by omega
  clear hpv hqv
  generalize l.length = n at *
  have lb := at0.lt
  have k0 := at0.cell 0 rfl
  have k1 := at0.cell 1 rfl
  have k2 := at0.cell 2 rfl
  have k3 := at0.cell 3 rfl
  have k4 := at0.cell 4 rfl
  have k5 := at0.cell 5 rfl
  have k6 := at0.cell 6 rfl
  have k7 := at0.cell 7 rfl
  have k8 := at0.cell 8 rfl
  obtain ⟨i0, hi0, hz0, hz1, hz2⟩ := info_parts infoI
  have hmk := fun W => run_make_rowN (P := Try.prog) 41 2 i0 _ Try.underlying41 hi0 hz0 .i64 .i64 n n (Nat.le_refl _) (by rw [hz2]; omega) (by omega) W
  rw [hz1] at hmk
  have hZ0 := made0 n h10
  have hsz : (madeCells (Value.cells (.int .i64 0)) (n * 1)).size = n * 1 := size_madeCells _ _
  generalize madeCells (Value.cells (.int .i64 0)) (n * 1) = Z at hmk hZ0 hsz
  have HZ0 := Lib.hid hZ0
  have HSZ := Lib.hid hsz
  clear hi0 hz0 hz1 hz2 hZ0 hsz
  have e0 : IntKind.i64.wrap ((n : Int) - 2) = (n : Int) - 2 := IntWalk.i64_in _ (by omega)
  have e1 : IntKind.i64.wrap ((k : Int) + (n : Int)) = (k : Int) + (n : Int) := IntWalk.i64_in _ (by omega)
  have e2 : IntKind.i64.wrap ((k : Int) + (n : Int) - 1) = (k : Int) + (n : Int) - 1 := IntWalk.i64_in _ (by omega)
  have e5 : IntKind.i64.wrap ((k : Int) + 1) = (k : Int) + 1 := IntWalk.i64_in _ (by omega)
  have en0 : ((n : Int) == 0) = false := by simp; omega
  have en1 : ¬ (n : Int) = 0 := by omega
  have en2 : ¬ n = 0 := by omega
  go_enter Try.func46, Try.ntmps46
  go_upto_region 5 with fail
  clear hmk k0 k1 k2 k3 k4 k5 k6 k7 k8
  have ib0 : IB (w.alloc (.cells Z 2)) w.heap.size w.heap.size n (fun _ => 0) := by unfold IB; rw [← HZ0.out]; exact own_made w w.heap.size 2 1 n Z (Nat.le_refl _) (by unfold maxLen; omega) HSZ.out
  have b0 : Below w.heap.size w (w.alloc (.cells Z 2)) := by repeat' (first | with_reducible assumption | with_reducible exact Below.refl _ _ | (with_reducible refine Below.setCell ?_ ?_ _) | (with_reducible refine Below.alloc ?_ ?_ _) | (with_reducible refine Below.drew ?_) | (with_reducible refine below_dr ?_ _) | (with_reducible refine Below.trans ?_ (Below.mono (by with_reducible assumption) ?_)) | omega | (simp; done) | (simp; omega))
  have at1 := at0.alloc (.cells Z 2)
  generalize w.alloc (.cells Z 2) = W0 at *
  have zb := b0.size
  have lb2 := at1.lt
  have k0 := at1.cell 0 rfl
  have k1 := at1.cell 1 rfl
  have k2 := at1.cell 2 rfl
  have k3 := at1.cell 3 rfl
  have k4 := at1.cell 4 rfl
  have k5 := at1.cell 5 rfl
  have k6 := at1.cell 6 rfl
  have k7 := at1.cell 7 rfl
  have k8 := at1.cell 8 rfl
  have y0 : W0.cell? ⟨w.heap.size, p, none⟩ = some (.int .i64 0) := ib0.cell (by omega)
  have y1 : W0.cell? ⟨w.heap.size, k, none⟩ = some (.int .i64 0) := ib0.cell (by omega)
  have y2 : W0.cell? ⟨w.heap.size, q, none⟩ = some (.int .i64 0) := ib0.cell (by omega)
  have u0 : W0.frozen? ⟨w.heap.size, p, none⟩ = false := World.ownsRow.frozenAt ib0 p
  have u1 : W0.frozen? ⟨w.heap.size, k, none⟩ = false := World.ownsRow.frozenAt ib0 k
  have u2 : W0.frozen? ⟨w.heap.size, q, none⟩ = false := World.ownsRow.frozenAt ib0 q
  go_wp2_with fail
  go_ret
  exact ⟨_, _, rfl, (((ib0.set_ p 1).set_ k 4).set_ q 1), by repeat' (first | with_reducible assumption | with_reducible exact Below.refl _ _ | (with_reducible refine Below.setCell ?_ ?_ _) | (with_reducible refine Below.alloc ?_ ?_ _) | (with_reducible refine Below.drew ?_) | (with_reducible refine below_dr ?_ _) | (with_reducible refine Below.trans ?_ (Below.mono (by with_reducible assumption) ?_)) | omega | (simp; done) | (simp; omega))⟩
set_option maxRecDepth 100000 in
set_option maxHeartbeats 6400000 in
theorem l06Row_in_f (l : List APt) (A : Option Addr) (c : Nat) (t : Int) (ff : Bool) (fl : Bool) (fx fy lx ly : Int) (k : Nat) (b : Nat) (w : World) (h2 : 2 ≤ l.length) (h10 : l.length ≤ 10) (hk : k < l.length) (h1 : 1 ≤ k) (h3 : k + 2 ≤ l.length) (at0 : AtL b [.slice A l.length c, .bool false, .int .i64 t, .bool ff, .bool fl, .int .i64 fx, .int .i64 fy, .int .i64 lx, .int .i64 ly] w) :
    Calls Try.prog 46 #[.pointer (some ⟨b, 0, none⟩), .int .i64 k] w fun e w' => ∃ (A' : Option Addr) (c' : Nat), e = .returned (.slice A' l.length c') ∧ w'.ownsRow w.heap.size 2 1 (.slice A' l.length c') l.length (cellsF cI (rowL (eqnF l false ff fl fx fy lx ly k) l.length)) ∧ Below w.heap.size w w' := by
  rw [← row_in (l := l) (cl := false) (ff := ff) (fl := fl) (fx := fx) (fy := fy) (lx := lx) (ly := ly) (k := k) h10 (by unfold inB; simp; omega)]
  obtain ⟨p, hpp⟩ : ∃ p, p = (k + l.length - 1) % l.length := ⟨_, rfl⟩
  obtain ⟨q, hq⟩ : ∃ q, q = (k + 1) % l.length := ⟨_, rfl⟩
  rw [← hpp, ← hq]
  have hpv : (p = k - 1 ∧ 1 ≤ k) ∨ (p = l.length - 1 ∧ k = 0) := by
    rcases Nat.eq_zero_or_pos k with h | h
    · right; refine ⟨?_, h⟩; rw [hpp, h]; rw [Nat.mod_eq_of_lt (by omega)]; omega
    · left; refine ⟨?_, h⟩; rw [hpp, show k + l.length - 1 = (k - 1) + l.length by omega, Nat.add_mod_right, Nat.mod_eq_of_lt (by omega)]
  have hqv : (q = k + 1 ∧ k + 1 < l.length) ∨ (q = 0 ∧ k + 1 = l.length) := by
    rcases Nat.lt_or_ge (k + 1) l.length with h | h
    · left; exact ⟨by rw [hq, Nat.mod_eq_of_lt h], h⟩
    · right; have h' : k + 1 = l.length := by omega
      exact ⟨by rw [hq, h', Nat.mod_self], h'⟩
  have e3 : ((k : Int) + (l.length : Int) - 1).tmod (l.length : Int) = (p : Int) := by rw [hpp, show ((k : Int) + (l.length : Int) - 1) = ((k + l.length - 1 : Nat) : Int) by omega]; exact (Int.ofNat_tmod _ _).symm
  have e4 : ((k : Int) + 1).tmod (l.length : Int) = (q : Int) := by rw [hq, show ((k : Int) + 1) = ((k + 1 : Nat) : Int) by omega]; exact (Int.ofNat_tmod _ _).symm
  clear hpp hq
  have hpl : p < l.length := by omega
  have hql : q < l.length := by omega
  have d1 : ¬ p = k := by omega
  have d2 : ¬ p = q := by omega
  have d3 : ¬ k = q := by omega
  have d1' : ¬ k = p := by omega
  have d2' : ¬ q = p := by omega
  have d3' : ¬ q = k := by omega
  have i1 : (p : Int) < (l.length : Int) := by omega
  have i2 : (k : Int) < (l.length : Int) := by omega
  have i3 : (q : Int) < (l.length : Int) := by omega
  clear hpv hqv
  generalize l.length = n at *
  have lb := at0.lt
  have k0 := at0.cell 0 rfl
  have k1 := at0.cell 1 rfl
  have k2 := at0.cell 2 rfl
  have k3 := at0.cell 3 rfl
  have k4 := at0.cell 4 rfl
  have k5 := at0.cell 5 rfl
  have k6 := at0.cell 6 rfl
  have k7 := at0.cell 7 rfl
  have k8 := at0.cell 8 rfl
  obtain ⟨i0, hi0, hz0, hz1, hz2⟩ := info_parts infoI
  have hmk := fun W => run_make_rowN (P := Try.prog) 41 2 i0 _ Try.underlying41 hi0 hz0 .i64 .i64 n n (Nat.le_refl _) (by rw [hz2]; omega) (by omega) W
  rw [hz1] at hmk
  have hZ0 := made0 n h10
  have hsz : (madeCells (Value.cells (.int .i64 0)) (n * 1)).size = n * 1 := size_madeCells _ _
  generalize madeCells (Value.cells (.int .i64 0)) (n * 1) = Z at hmk hZ0 hsz
  have HZ0 := Lib.hid hZ0
  have HSZ := Lib.hid hsz
  clear hi0 hz0 hz1 hz2 hZ0 hsz
  have e0 : IntKind.i64.wrap ((n : Int) - 2) = (n : Int) - 2 := IntWalk.i64_in _ (by omega)
  have e1 : IntKind.i64.wrap ((k : Int) + (n : Int)) = (k : Int) + (n : Int) := IntWalk.i64_in _ (by omega)
  have e2 : IntKind.i64.wrap ((k : Int) + (n : Int) - 1) = (k : Int) + (n : Int) - 1 := IntWalk.i64_in _ (by omega)
  have e5 : IntKind.i64.wrap ((k : Int) + 1) = (k : Int) + 1 := IntWalk.i64_in _ (by omega)
  have en0 : ((n : Int) == 0) = false := by simp; omega
  have en1 : ¬ (n : Int) = 0 := by omega
  have en2 : ¬ n = 0 := by omega
  go_enter Try.func46, Try.ntmps46
  go_upto_region 5 with fail
  clear hmk k0 k1 k2 k3 k4 k5 k6 k7 k8
  have ib0 : IB (w.alloc (.cells Z 2)) w.heap.size w.heap.size n (fun _ => 0) := by unfold IB; rw [← HZ0.out]; exact own_made w w.heap.size 2 1 n Z (Nat.le_refl _) (by unfold maxLen; omega) HSZ.out
  have b0 : Below w.heap.size w (w.alloc (.cells Z 2)) := by repeat' (first | with_reducible assumption | with_reducible exact Below.refl _ _ | (with_reducible refine Below.setCell ?_ ?_ _) | (with_reducible refine Below.alloc ?_ ?_ _) | (with_reducible refine Below.drew ?_) | (with_reducible refine below_dr ?_ _) | (with_reducible refine Below.trans ?_ (Below.mono (by with_reducible assumption) ?_)) | omega | (simp; done) | (simp; omega))
  have at1 := at0.alloc (.cells Z 2)
  generalize w.alloc (.cells Z 2) = W0 at *
  have zb := b0.size
  have lb2 := at1.lt
  have k0 := at1.cell 0 rfl
  have k1 := at1.cell 1 rfl
  have k2 := at1.cell 2 rfl
  have k3 := at1.cell 3 rfl
  have k4 := at1.cell 4 rfl
  have k5 := at1.cell 5 rfl
  have k6 := at1.cell 6 rfl
  have k7 := at1.cell 7 rfl
  have k8 := at1.cell 8 rfl
  have y0 : W0.cell? ⟨w.heap.size, p, none⟩ = some (.int .i64 0) := ib0.cell (by omega)
  have y1 : W0.cell? ⟨w.heap.size, k, none⟩ = some (.int .i64 0) := ib0.cell (by omega)
  have y2 : W0.cell? ⟨w.heap.size, q, none⟩ = some (.int .i64 0) := ib0.cell (by omega)
  have u0 : W0.frozen? ⟨w.heap.size, p, none⟩ = false := World.ownsRow.frozenAt ib0 p
  have u1 : W0.frozen? ⟨w.heap.size, k, none⟩ = false := World.ownsRow.frozenAt ib0 k
  have u2 : W0.frozen? ⟨w.heap.size, q, none⟩ = false := World.ownsRow.frozenAt ib0 q
  go_wp2_with fail
  refine (l00In_yes _ _ _ _ (by omega) (by omega)).mono ?_
  rintro e w1 ⟨rfl, rfl⟩
  go_wp2_with fail
  go_ret
  exact ⟨_, _, rfl, (((ib0.set_ p 1).set_ k 4).set_ q 1), by repeat' (first | with_reducible assumption | with_reducible exact Below.refl _ _ | (with_reducible refine Below.setCell ?_ ?_ _) | (with_reducible refine Below.alloc ?_ ?_ _) | (with_reducible refine Below.drew ?_) | (with_reducible refine below_dr ?_ _) | (with_reducible refine Below.trans ?_ (Below.mono (by with_reducible assumption) ?_)) | omega | (simp; done) | (simp; omega))⟩
set_option maxRecDepth 100000 in
set_option maxHeartbeats 6400000 in
theorem l06Row_first_t (l : List APt) (A : Option Addr) (c : Nat) (t : Int) (fl : Bool) (fx fy lx ly : Int) (b : Nat) (w : World) (h2 : 2 ≤ l.length) (h10 : l.length ≤ 10)   (at0 : AtL b [.slice A l.length c, .bool false, .int .i64 t, .bool true, .bool fl, .int .i64 fx, .int .i64 fy, .int .i64 lx, .int .i64 ly] w) :
    Calls Try.prog 46 #[.pointer (some ⟨b, 0, none⟩), .int .i64 0] w fun e w' => ∃ (A' : Option Addr) (c' : Nat), e = .returned (.slice A' l.length c') ∧ w'.ownsRow w.heap.size 2 1 (.slice A' l.length c') l.length (cellsF cI (rowL (eqnF l false true fl fx fy lx ly 0) l.length)) ∧ Below w.heap.size w w' := by
  rw [← row_first_t (l := l) (cl := false) (fl := fl) (fx := fx) (fy := fy) (lx := lx) (ly := ly) h10 (by unfold inB; simp)]
  have i1 : (0 : Int) < (l.length : Int) := by omega
  have i2 : (1 : Int) < (l.length : Int) := by omega
  have i3 : 0 < l.length := by omega
  have i4 : 1 < l.length := by omega
  generalize l.length = n at *
  have lb := at0.lt
  have k0 := at0.cell 0 rfl
  have k1 := at0.cell 1 rfl
  have k2 := at0.cell 2 rfl
  have k3 := at0.cell 3 rfl
  have k4 := at0.cell 4 rfl
  have k5 := at0.cell 5 rfl
  have k6 := at0.cell 6 rfl
  have k7 := at0.cell 7 rfl
  have k8 := at0.cell 8 rfl
  obtain ⟨i0, hi0, hz0, hz1, hz2⟩ := info_parts infoI
  have hmk := fun W => run_make_rowN (P := Try.prog) 41 2 i0 _ Try.underlying41 hi0 hz0 .i64 .i64 n n (Nat.le_refl _) (by rw [hz2]; omega) (by omega) W
  rw [hz1] at hmk
  have hZ0 := made0 n h10
  have hsz : (madeCells (Value.cells (.int .i64 0)) (n * 1)).size = n * 1 := size_madeCells _ _
  generalize madeCells (Value.cells (.int .i64 0)) (n * 1) = Z at hmk hZ0 hsz
  have HZ0 := Lib.hid hZ0
  have HSZ := Lib.hid hsz
  clear hi0 hz0 hz1 hz2 hZ0 hsz
  have e0 : IntKind.i64.wrap ((n : Int) - 2) = (n : Int) - 2 := IntWalk.i64_in _ (by omega)
  go_enter Try.func46, Try.ntmps46
  go_upto_region 5 with fail
  clear hmk k0 k1 k2 k3 k4 k5 k6 k7 k8
  have ib0 : IB (w.alloc (.cells Z 2)) w.heap.size w.heap.size n (fun _ => 0) := by unfold IB; rw [← HZ0.out]; exact own_made w w.heap.size 2 1 n Z (Nat.le_refl _) (by unfold maxLen; omega) HSZ.out
  have b0 : Below w.heap.size w (w.alloc (.cells Z 2)) := by repeat' (first | with_reducible assumption | with_reducible exact Below.refl _ _ | (with_reducible refine Below.setCell ?_ ?_ _) | (with_reducible refine Below.alloc ?_ ?_ _) | (with_reducible refine Below.drew ?_) | (with_reducible refine below_dr ?_ _) | (with_reducible refine Below.trans ?_ (Below.mono (by with_reducible assumption) ?_)) | omega | (simp; done) | (simp; omega))
  have at1 := at0.alloc (.cells Z 2)
  generalize w.alloc (.cells Z 2) = W0 at *
  have zb := b0.size
  have lb2 := at1.lt
  have k0 := at1.cell 0 rfl
  have k1 := at1.cell 1 rfl
  have k2 := at1.cell 2 rfl
  have k3 := at1.cell 3 rfl
  have k4 := at1.cell 4 rfl
  have k5 := at1.cell 5 rfl
  have k6 := at1.cell 6 rfl
  have k7 := at1.cell 7 rfl
  have k8 := at1.cell 8 rfl
  have y0 : W0.cell? ⟨w.heap.size, 0, none⟩ = some (.int .i64 0) := ib0.cell (by omega)
  have u0 : W0.frozen? ⟨w.heap.size, 0, none⟩ = false := World.ownsRow.frozenAt ib0 0
  go_wp2_with fail
  refine (l00In_no _ _ _ _ (by omega)).mono ?_
  rintro e w1 ⟨rfl, rfl⟩
  go_wp2_with fail
  go_ret
  exact ⟨_, _, rfl, (ib0.set_ 0 1), by repeat' (first | with_reducible assumption | with_reducible exact Below.refl _ _ | (with_reducible refine Below.setCell ?_ ?_ _) | (with_reducible refine Below.alloc ?_ ?_ _) | (with_reducible refine Below.drew ?_) | (with_reducible refine below_dr ?_ _) | (with_reducible refine Below.trans ?_ (Below.mono (by with_reducible assumption) ?_)) | omega | (simp; done) | (simp; omega))⟩
set_option maxRecDepth 100000 in
set_option maxHeartbeats 6400000 in
theorem l06Row_first_f (l : List APt) (A : Option Addr) (c : Nat) (t : Int) (fl : Bool) (fx fy lx ly : Int) (b : Nat) (w : World) (h2 : 2 ≤ l.length) (h10 : l.length ≤ 10)   (at0 : AtL b [.slice A l.length c, .bool false, .int .i64 t, .bool false, .bool fl, .int .i64 fx, .int .i64 fy, .int .i64 lx, .int .i64 ly] w) :
    Calls Try.prog 46 #[.pointer (some ⟨b, 0, none⟩), .int .i64 0] w fun e w' => ∃ (A' : Option Addr) (c' : Nat), e = .returned (.slice A' l.length c') ∧ w'.ownsRow w.heap.size 2 1 (.slice A' l.length c') l.length (cellsF cI (rowL (eqnF l false false fl fx fy lx ly 0) l.length)) ∧ Below w.heap.size w w' := by
  rw [← row_first_f (l := l) (cl := false) (fl := fl) (fx := fx) (fy := fy) (lx := lx) (ly := ly) h10 (by unfold inB; simp)]
  have i1 : (0 : Int) < (l.length : Int) := by omega
  have i2 : (1 : Int) < (l.length : Int) := by omega
  have i3 : 0 < l.length := by omega
  have i4 : 1 < l.length := by omega
  generalize l.length = n at *
  have lb := at0.lt
  have k0 := at0.cell 0 rfl
  have k1 := at0.cell 1 rfl
  have k2 := at0.cell 2 rfl
  have k3 := at0.cell 3 rfl
  have k4 := at0.cell 4 rfl
  have k5 := at0.cell 5 rfl
  have k6 := at0.cell 6 rfl
  have k7 := at0.cell 7 rfl
  have k8 := at0.cell 8 rfl
  obtain ⟨i0, hi0, hz0, hz1, hz2⟩ := info_parts infoI
  have hmk := fun W => run_make_rowN (P := Try.prog) 41 2 i0 _ Try.underlying41 hi0 hz0 .i64 .i64 n n (Nat.le_refl _) (by rw [hz2]; omega) (by omega) W
  rw [hz1] at hmk
  have hZ0 := made0 n h10
  have hsz : (madeCells (Value.cells (.int .i64 0)) (n * 1)).size = n * 1 := size_madeCells _ _
  generalize madeCells (Value.cells (.int .i64 0)) (n * 1) = Z at hmk hZ0 hsz
  have HZ0 := Lib.hid hZ0
  have HSZ := Lib.hid hsz
  clear hi0 hz0 hz1 hz2 hZ0 hsz
  have e0 : IntKind.i64.wrap ((n : Int) - 2) = (n : Int) - 2 := IntWalk.i64_in _ (by omega)
  go_enter Try.func46, Try.ntmps46
  go_upto_region 5 with fail
  clear hmk k0 k1 k2 k3 k4 k5 k6 k7 k8
  have ib0 : IB (w.alloc (.cells Z 2)) w.heap.size w.heap.size n (fun _ => 0) := by unfold IB; rw [← HZ0.out]; exact own_made w w.heap.size 2 1 n Z (Nat.le_refl _) (by unfold maxLen; omega) HSZ.out
  have b0 : Below w.heap.size w (w.alloc (.cells Z 2)) := by repeat' (first | with_reducible assumption | with_reducible exact Below.refl _ _ | (with_reducible refine Below.setCell ?_ ?_ _) | (with_reducible refine Below.alloc ?_ ?_ _) | (with_reducible refine Below.drew ?_) | (with_reducible refine below_dr ?_ _) | (with_reducible refine Below.trans ?_ (Below.mono (by with_reducible assumption) ?_)) | omega | (simp; done) | (simp; omega))
  have at1 := at0.alloc (.cells Z 2)
  generalize w.alloc (.cells Z 2) = W0 at *
  have zb := b0.size
  have lb2 := at1.lt
  have k0 := at1.cell 0 rfl
  have k1 := at1.cell 1 rfl
  have k2 := at1.cell 2 rfl
  have k3 := at1.cell 3 rfl
  have k4 := at1.cell 4 rfl
  have k5 := at1.cell 5 rfl
  have k6 := at1.cell 6 rfl
  have k7 := at1.cell 7 rfl
  have k8 := at1.cell 8 rfl
  have y0 : W0.cell? ⟨w.heap.size, 0, none⟩ = some (.int .i64 0) := ib0.cell (by omega)
  have y1 : W0.cell? ⟨w.heap.size, 1, none⟩ = some (.int .i64 0) := ib0.cell (by omega)
  have u0 : W0.frozen? ⟨w.heap.size, 0, none⟩ = false := World.ownsRow.frozenAt ib0 0
  have u1 : W0.frozen? ⟨w.heap.size, 1, none⟩ = false := World.ownsRow.frozenAt ib0 1
  go_wp2_with fail
  refine (l00In_no _ _ _ _ (by omega)).mono ?_
  rintro e w1 ⟨rfl, rfl⟩
  go_wp2_with fail
  go_ret
  exact ⟨_, _, rfl, ((ib0.set_ 0 2).set_ 1 1), by repeat' (first | with_reducible assumption | with_reducible exact Below.refl _ _ | (with_reducible refine Below.setCell ?_ ?_ _) | (with_reducible refine Below.alloc ?_ ?_ _) | (with_reducible refine Below.drew ?_) | (with_reducible refine below_dr ?_ _) | (with_reducible refine Below.trans ?_ (Below.mono (by with_reducible assumption) ?_)) | omega | (simp; done) | (simp; omega))⟩
set_option maxRecDepth 100000 in
set_option maxHeartbeats 6400000 in
theorem l06Row_last_t (l : List APt) (A : Option Addr) (c : Nat) (t : Int) (ff : Bool) (fx fy lx ly : Int) (k : Nat) (b : Nat) (w : World) (h2 : 2 ≤ l.length) (h10 : l.length ≤ 10) (hk : k < l.length) (h1 : 1 ≤ k) (h3 : k + 1 = l.length) (at0 : AtL b [.slice A l.length c, .bool false, .int .i64 t, .bool ff, .bool true, .int .i64 fx, .int .i64 fy, .int .i64 lx, .int .i64 ly] w) :
    Calls Try.prog 46 #[.pointer (some ⟨b, 0, none⟩), .int .i64 k] w fun e w' => ∃ (A' : Option Addr) (c' : Nat), e = .returned (.slice A' l.length c') ∧ w'.ownsRow w.heap.size 2 1 (.slice A' l.length c') l.length (cellsF cI (rowL (eqnF l false ff true fx fy lx ly k) l.length)) ∧ Below w.heap.size w w' := by
  rw [← row_last_t (l := l) (cl := false) (ff := ff) (fx := fx) (fy := fy) (lx := lx) (ly := ly) (k := k) h10 (by unfold inB; simp; omega) (by omega)]
  have i2 : (k : Int) < (l.length : Int) := by omega
  generalize l.length = n at *
  have lb := at0.lt
  have k0 := at0.cell 0 rfl
  have k1 := at0.cell 1 rfl
  have k2 := at0.cell 2 rfl
  have k3 := at0.cell 3 rfl
  have k4 := at0.cell 4 rfl
  have k5 := at0.cell 5 rfl
  have k6 := at0.cell 6 rfl
  have k7 := at0.cell 7 rfl
  have k8 := at0.cell 8 rfl
  obtain ⟨i0, hi0, hz0, hz1, hz2⟩ := info_parts infoI
  have hmk := fun W => run_make_rowN (P := Try.prog) 41 2 i0 _ Try.underlying41 hi0 hz0 .i64 .i64 n n (Nat.le_refl _) (by rw [hz2]; omega) (by omega) W
  rw [hz1] at hmk
  have hZ0 := made0 n h10
  have hsz : (madeCells (Value.cells (.int .i64 0)) (n * 1)).size = n * 1 := size_madeCells _ _
  generalize madeCells (Value.cells (.int .i64 0)) (n * 1) = Z at hmk hZ0 hsz
  have HZ0 := Lib.hid hZ0
  have HSZ := Lib.hid hsz
  clear hi0 hz0 hz1 hz2 hZ0 hsz
  have e0 : IntKind.i64.wrap ((n : Int) - 2) = (n : Int) - 2 := IntWalk.i64_in _ (by omega)
  have e7 : ((k : Int) == 0) = false := by simp; omega
  have e8 : 0 < k := by omega
  have e9 : ¬ k = 0 := by omega
  go_enter Try.func46, Try.ntmps46
  go_upto_region 5 with fail
  clear hmk k0 k1 k2 k3 k4 k5 k6 k7 k8
  have ib0 : IB (w.alloc (.cells Z 2)) w.heap.size w.heap.size n (fun _ => 0) := by unfold IB; rw [← HZ0.out]; exact own_made w w.heap.size 2 1 n Z (Nat.le_refl _) (by unfold maxLen; omega) HSZ.out
  have b0 : Below w.heap.size w (w.alloc (.cells Z 2)) := by repeat' (first | with_reducible assumption | with_reducible exact Below.refl _ _ | (with_reducible refine Below.setCell ?_ ?_ _) | (with_reducible refine Below.alloc ?_ ?_ _) | (with_reducible refine Below.drew ?_) | (with_reducible refine below_dr ?_ _) | (with_reducible refine Below.trans ?_ (Below.mono (by with_reducible assumption) ?_)) | omega | (simp; done) | (simp; omega))
  have at1 := at0.alloc (.cells Z 2)
  generalize w.alloc (.cells Z 2) = W0 at *
  have zb := b0.size
  have lb2 := at1.lt
  have k0 := at1.cell 0 rfl
  have k1 := at1.cell 1 rfl
  have k2 := at1.cell 2 rfl
  have k3 := at1.cell 3 rfl
  have k4 := at1.cell 4 rfl
  have k5 := at1.cell 5 rfl
  have k6 := at1.cell 6 rfl
  have k7 := at1.cell 7 rfl
  have k8 := at1.cell 8 rfl
  have y0 : W0.cell? ⟨w.heap.size, k, none⟩ = some (.int .i64 0) := ib0.cell (by omega)
  have u0 : W0.frozen? ⟨w.heap.size, k, none⟩ = false := World.ownsRow.frozenAt ib0 k
  go_wp2_with fail
  refine (l00In_no _ _ _ _ (by omega)).mono ?_
  rintro e w1 ⟨rfl, rfl⟩
  go_wp2_with fail
  go_ret
  exact ⟨_, _, rfl, (ib0.set_ k 1), by repeat' (first | with_reducible assumption | with_reducible exact Below.refl _ _ | (with_reducible refine Below.setCell ?_ ?_ _) | (with_reducible refine Below.alloc ?_ ?_ _) | (with_reducible refine Below.drew ?_) | (with_reducible refine below_dr ?_ _) | (with_reducible refine Below.trans ?_ (Below.mono (by with_reducible assumption) ?_)) | omega | (simp; done) | (simp; omega))⟩
set_option maxRecDepth 100000 in
set_option maxHeartbeats 6400000 in
theorem l06Row_last_f (l : List APt) (A : Option Addr) (c : Nat) (t : Int) (ff : Bool) (fx fy lx ly : Int) (k : Nat) (b : Nat) (w : World) (h2 : 2 ≤ l.length) (h10 : l.length ≤ 10) (hk : k < l.length) (h1 : 1 ≤ k) (h3 : k + 1 = l.length) (at0 : AtL b [.slice A l.length c, .bool false, .int .i64 t, .bool ff, .bool false, .int .i64 fx, .int .i64 fy, .int .i64 lx, .int .i64 ly] w) :
    Calls Try.prog 46 #[.pointer (some ⟨b, 0, none⟩), .int .i64 k] w fun e w' => ∃ (A' : Option Addr) (c' : Nat), e = .returned (.slice A' l.length c') ∧ w'.ownsRow w.heap.size 2 1 (.slice A' l.length c') l.length (cellsF cI (rowL (eqnF l false ff false fx fy lx ly k) l.length)) ∧ Below w.heap.size w w' := by
  rw [← row_last_f (l := l) (cl := false) (ff := ff) (fx := fx) (fy := fy) (lx := lx) (ly := ly) (k := k) h10 (by unfold inB; simp; omega) (by omega)]
  obtain ⟨j, hj⟩ : ∃ j, j = k - 1 := ⟨_, rfl⟩
  rw [← hj]
  have e3 : IntKind.i64.wrap ((k : Int) - 1) = (j : Int) := (IntWalk.i64_in _ (by omega)).trans (by omega)
  have e3b : (k : Int) - 1 = (j : Int) := by omega
  have e3c : IntKind.i64.wrap ((k - 1 : Nat) : Int) = (j : Int) := (IntWalk.i64_in _ (by omega)).trans (by omega)
  have e3d : IntKind.i64.wrap (j : Int) = (j : Int) := IntWalk.i64_in _ (by omega)
  have hjl : j < l.length := by omega
  have d1 : ¬ j = k := by omega
  have d1' : ¬ k = j := by omega
  have i1 : (j : Int) < (l.length : Int) := by omega
  have i2 : (k : Int) < (l.length : Int) := by omega
  clear hj
  generalize l.length = n at *
  have lb := at0.lt
  have k0 := at0.cell 0 rfl
  have k1 := at0.cell 1 rfl
  have k2 := at0.cell 2 rfl
  have k3 := at0.cell 3 rfl
  have k4 := at0.cell 4 rfl
  have k5 := at0.cell 5 rfl
  have k6 := at0.cell 6 rfl
  have k7 := at0.cell 7 rfl
  have k8 := at0.cell 8 rfl
  obtain ⟨i0, hi0, hz0, hz1, hz2⟩ := info_parts infoI
  have hmk := fun W => run_make_rowN (P := Try.prog) 41 2 i0 _ Try.underlying41 hi0 hz0 .i64 .i64 n n (Nat.le_refl _) (by rw [hz2]; omega) (by omega) W
  rw [hz1] at hmk
  have hZ0 := made0 n h10
  have hsz : (madeCells (Value.cells (.int .i64 0)) (n * 1)).size = n * 1 := size_madeCells _ _
  generalize madeCells (Value.cells (.int .i64 0)) (n * 1) = Z at hmk hZ0 hsz
  have HZ0 := Lib.hid hZ0
  have HSZ := Lib.hid hsz
  clear hi0 hz0 hz1 hz2 hZ0 hsz
  have e0 : IntKind.i64.wrap ((n : Int) - 2) = (n : Int) - 2 := IntWalk.i64_in _ (by omega)
  have e7 : ((k : Int) == 0) = false := by simp; omega
  have e8 : 0 < k := by omega
  have e9 : ¬ k = 0 := by omega
  go_enter Try.func46, Try.ntmps46
  go_upto_region 5 with fail
  clear hmk k0 k1 k2 k3 k4 k5 k6 k7 k8
  have ib0 : IB (w.alloc (.cells Z 2)) w.heap.size w.heap.size n (fun _ => 0) := by unfold IB; rw [← HZ0.out]; exact own_made w w.heap.size 2 1 n Z (Nat.le_refl _) (by unfold maxLen; omega) HSZ.out
  have b0 : Below w.heap.size w (w.alloc (.cells Z 2)) := by repeat' (first | with_reducible assumption | with_reducible exact Below.refl _ _ | (with_reducible refine Below.setCell ?_ ?_ _) | (with_reducible refine Below.alloc ?_ ?_ _) | (with_reducible refine Below.drew ?_) | (with_reducible refine below_dr ?_ _) | (with_reducible refine Below.trans ?_ (Below.mono (by with_reducible assumption) ?_)) | omega | (simp; done) | (simp; omega))
  have at1 := at0.alloc (.cells Z 2)
  generalize w.alloc (.cells Z 2) = W0 at *
  have zb := b0.size
  have lb2 := at1.lt
  have k0 := at1.cell 0 rfl
  have k1 := at1.cell 1 rfl
  have k2 := at1.cell 2 rfl
  have k3 := at1.cell 3 rfl
  have k4 := at1.cell 4 rfl
  have k5 := at1.cell 5 rfl
  have k6 := at1.cell 6 rfl
  have k7 := at1.cell 7 rfl
  have k8 := at1.cell 8 rfl
  have y0 : W0.cell? ⟨w.heap.size, j, none⟩ = some (.int .i64 0) := ib0.cell (by omega)
  have y1 : W0.cell? ⟨w.heap.size, k, none⟩ = some (.int .i64 0) := ib0.cell (by omega)
  have u0 : W0.frozen? ⟨w.heap.size, j, none⟩ = false := World.ownsRow.frozenAt ib0 j
  have u1 : W0.frozen? ⟨w.heap.size, k, none⟩ = false := World.ownsRow.frozenAt ib0 k
  go_wp2_with fail
  refine (l00In_no _ _ _ _ (by omega)).mono ?_
  rintro e w1 ⟨rfl, rfl⟩
  go_wp2_with fail
  go_ret
  exact ⟨_, _, rfl, ((ib0.set_ j 1).set_ k 2), by repeat' (first | with_reducible assumption | with_reducible exact Below.refl _ _ | (with_reducible refine Below.setCell ?_ ?_ _) | (with_reducible refine Below.alloc ?_ ?_ _) | (with_reducible refine Below.drew ?_) | (with_reducible refine below_dr ?_ _) | (with_reducible refine Below.trans ?_ (Below.mono (by with_reducible assumption) ?_)) | omega | (simp; done) | (simp; omega))⟩
end Go.Proofs.Ytcjjmkkphbeoeaa
