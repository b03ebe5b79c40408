/- Walks: lists of integers in the laws: compared, marked, held. -/
import Derived.Test.YtcjjmkkphbeoeaaKt
import Derived.Deep.QuietTactic
namespace Go.Proofs.Ytcjjmkkphbeoeaa
open Go.RowKit
set_option linter.unusedVariables false
def cI (x : Int) : List Value := [.int .i64 x]
theorem cI_len (x : Int) : (cI x).length = 1 := rfl
theorem cI_one (x : Int) : ∀ u ∈ cI x, u.oneCell' = true := by intro u hu; simp only [cI, List.mem_singleton] at hu; subst hu; rfl
theorem Filled.step1 {α : Type} {f : α → List Value} {l : List α} {k : Nat} {xs : List Value} (h : Filled f 1 l k xs) {a : α} {u0 : Value} (ha : l[k]? = some a) (hx : k * 1 + 1 ≤ xs.length) (hfa : f a = [u0]) :
    Filled f 1 l (k + 1) (xs.set (k * 1) u0) := by
  intro j b hj hb i hi
  rcases Nat.lt_or_ge j k with hlt | hge
  · rw [List.getElem?_set_ne (by omega)]
    exact h j b hlt hb i hi
  · obtain rfl : j = k := by omega
    obtain rfl : a = b := Option.some.inj (ha.symm.trans hb)
    rw [hfa]
    match i, hi with
    | 0, _ =>
      show (xs.set (j * 1) u0)[j * 1]? = some u0
      rw [List.getElem?_set_self (by (try simp only [List.length_set]); omega)]
def marksI (k n : Nat) : List Int := (List.range n).map fun i => ((k + i : Nat) : Int)
theorem marksI_len (k n : Nat) : (marksI k n).length = n := by simp [marksI]
theorem marksI_at {k n i : Nat} (h : i < n) : (marksI k n)[i]? = some ((k + i : Nat) : Int) := by simp [marksI, h]
theorem neq_int {a b : Int} (w : World) : (Go.binOp BinOp.neq 2 (.int .i64 a) (.int .i64 b)).run Try.prog w = Result.ok (.bool (a != b)) w := by simp [go_sem]
set_option maxHeartbeats 1600000 in
theorem eqInt64S_same (l : List Int) (A A' : Option Addr) (c c' : Nat) (w : World) (hl : l.length ≤ 4611686018427387904) (hr : Rd cI 1 w w.heap.size A l) (hr' : Rd cI 1 w w.heap.size A' l) :
    Calls Try.prog 20 #[.slice A l.length c, .slice A' l.length c'] w fun e w' => e = .returned (.bool true) ∧ Below w.heap.size w w' := by
  obtain ⟨n, hn⟩ : ∃ n, n = l.length := ⟨_, rfl⟩
  rw [← hn] at hl ⊢
  have HN := Lib.hid hn
  clear hn
  have e0 : ((n : Int) != (n : Int)) = false := by simp
  go_enter Try.func20, Try.ntmps20
  go_wp2_with fail
  go_loopw [5] (fun i wr => ∃ k q : Nat, k ≤ n ∧ i = .int .i64 k ∧ wr = w.drewN q) (fun i _ => n - (intOf i).toNat)
  case atStart => exact ⟨0, 0, Nat.zero_le _, rfl, rfl⟩
  case round =>
    obtain ⟨k, q, hk, rfl, rfl⟩ := hrel
    by_cases hlt : k < n
    · obtain ⟨x0, ha⟩ : ∃ a, l[k]? = some a := ⟨l[k]'(by have := HN.out; omega), List.getElem?_eq_getElem (by have := HN.out; omega)⟩
      obtain ⟨g, o, rfl, _, hc⟩ := hr.elem ha
      obtain ⟨g', o', rfl, _, hc'⟩ := hr'.elem ha
      have c0 : w.cell? ⟨g, o + k * 1, none⟩ = some (.int .i64 x0) := hc 0 _ rfl
      have d0 : w.cell? ⟨g', o' + k * 1, none⟩ = some (.int .i64 x0) := hc' 0 _ rfl
      rw [Nat.mul_one] at c0 d0
      have hki : (k : Int) < (n : Int) := by omega
      have e1 : (x0 != x0) = false := by simp
      clear hc hc' ha hr hr'
      go_wp2_with fail
      go_quiet (fail)
      go_wp2_with fail
      go_roundw
      case rel => exact ⟨k + 1, q + nq, by omega, by go_num, rfl⟩
      case measure => simp [intOf]; omega
    · obtain rfl : k = n := by omega
      go_wp2_with fail
      go_ret
      exact ⟨rfl, Joins.below_draws _ _ _⟩
set_option maxHeartbeats 1600000 in
theorem markInt64S_any (k n : Nat) (A : Option Addr) (c base : Nat) (xs : List Value) (w : World) (hk : 1 ≤ k) (hn : k + n ≤ 4611686018427387904) (h1 : w.ownsRow base 2 1 (.slice A n c) n xs) :
    Calls Try.prog 22 #[.slice A n c, .int .i64 k] w fun e w' => e = .returned (.int .i64 ((k + n : Nat) : Int)) ∧ w'.ownsRow base 2 1 (.slice A n c) n (cellsF cI (marksI k n)) ∧ w.grownBy w' (Value.slice A n c).ownBlock := by
  go_enter Try.func22, Try.ntmps22
  go_wp2_with fail
  go_loopw [1, 5] (fun j i wr => ∃ (m : Nat) (ys : List Value), m ≤ n ∧ i = .int .i64 m ∧ j = .int .i64 ((k + m : Nat) : Int) ∧ wr.ownsRow base 2 1 (.slice A n c) n ys ∧ Filled cI 1 (marksI k n) m ys ∧ w.grownBy wr (Value.slice A n c).ownBlock) (fun _ i _ => n - (intOf i).toNat)
  case atStart => exact ⟨0, _, Nat.zero_le _, rfl, rfl, h1, Filled.zero, World.grownBy.refl _ _⟩
  case round =>
    obtain ⟨m, ys, hm, rfl, rfl, hown, hfil, hg⟩ := hrel
    have hxl : ys.length = n * 1 := hown.1
    have HX := Lib.hid hxl
    clear hxl
    by_cases hlt : m < n
    · obtain ⟨g, cap, hv, _, hgl⟩ := hown.form (by omega)
      obtain rfl : A = some ⟨g, 0, none⟩ := by injection hv
      have hat := marksI_at (k := k) hlt
      obtain ⟨z, hz⟩ : ∃ z : Nat, z = k + m := ⟨_, rfl⟩
      rw [← hz] at hat ⊢
      have HZ := Lib.hid hz
      have hz2 : z + 1 ≤ 4611686018427387904 := by omega
      clear hz hv h1
      have hstep := Lib.hid (fun h => Filled.step1 hfil hat h (rfl : cI _ = _))
      have hki : (m : Int) < (n : Int) := by omega
      clear hat hfil
      obtain ⟨yo0, y0⟩ : ∃ v, wr.cell? ⟨g, m, none⟩ = some v := ⟨_, (hown.cellAt m (by have := HX.out; omega)).trans (List.getElem?_eq_getElem (by have := HX.out; omega))⟩
      have yf0 : wr.frozen? ⟨g, m, none⟩ = false := hown.frozenAt m
      go_wp2_with fail
      go_roundw
      case rel =>
        have hst0 := World.ownsRow.stored (hown) m (.int .i64 ((z : Nat) : Int))
        have hs := hstep.out (by have := HX.out; omega)
        rw [Nat.mul_one] at hs
        exact ⟨m + 1, _, by omega, by go_num, by have := HZ.out; go_num, hst0.1, hs, grownBy_trans hg hst0.2⟩
      case measure => simp [intOf]; omega
    · obtain rfl : m = n := by omega
      go_wp2_with fail
      go_ret
      have hx := Filled.done (fun a => cI_len a) (by omega) (by rw [marksI_len]; exact hfil) (by rw [marksI_len]; exact HX.out)
      rw [hx] at hown
      exact ⟨rfl, hown, hg⟩
set_option maxHeartbeats 1600000 in
theorem heldInt64S_any (k n : Nat) (A : Option Addr) (c : Nat) (w : World) (hk : 1 ≤ k) (hn : k + n ≤ 4611686018427387904) (hr : Rd cI 1 w w.heap.size A (marksI k n)) :
    Calls Try.prog 23 #[.slice A n c, .int .i64 k] w fun e w' => e = .returned (.int .i64 ((k + n : Nat) : Int)) ∧ Below w.heap.size w w' := by
  go_enter Try.func23, Try.ntmps23
  go_wp2_with fail
  go_loopw [1, 5] (fun j i wr => ∃ m : Nat, m ≤ n ∧ i = .int .i64 m ∧ j = .int .i64 ((k + m : Nat) : Int) ∧ Below w.heap.size w wr) (fun _ i _ => n - (intOf i).toNat)
  case atStart => exact ⟨0, Nat.zero_le _, rfl, rfl, by repeat' (first | with_reducible assumption | with_reducible exact Below.refl _ _ | (with_reducible refine Below.setCell ?_ ?_ _) | (with_reducible refine Below.alloc ?_ ?_ _) | (with_reducible refine Below.drew ?_) | (with_reducible refine below_dr ?_ _) | (with_reducible refine Below.trans ?_ (Below.mono (by with_reducible assumption) ?_)) | omega | (simp; done) | (simp; omega))⟩
  case round =>
    obtain ⟨m, hm, rfl, rfl, hbl⟩ := hrel
    by_cases hlt : m < n
    · have ha := marksI_at (k := k) hlt
      obtain ⟨g, o, rfl, hgb, hc⟩ := (hr.below hbl).elem ha
      obtain ⟨z, hz⟩ : ∃ z : Nat, z = k + m := ⟨_, rfl⟩
      rw [← hz] at hc ⊢
      have HZ := Lib.hid hz
      have hz2 : z + 1 ≤ 4611686018427387904 := by omega
      clear hz ha hr
      have d0 : (((z : Int)) != ((z : Int))) = false := by simp
      have c0 : wr.cell? ⟨g, o + m * 1, none⟩ = some (.int .i64 (z : Int)) := hc 0 _ rfl
      rw [Nat.mul_one] at c0
      clear hc
      have hzr := hbl.size
      have hgw : g < wr.heap.size := by omega
      have hki : (m : Int) < (n : Int) := by omega
      go_wp2_with fail
      go_roundw
      case rel => exact ⟨m + 1, by omega, by go_num, by have := HZ.out; go_num, by repeat' (first | with_reducible assumption | with_reducible exact Below.refl _ _ | (with_reducible refine Below.setCell ?_ ?_ _) | (with_reducible refine Below.alloc ?_ ?_ _) | (with_reducible refine Below.drew ?_) | (with_reducible refine below_dr ?_ _) | (with_reducible refine Below.trans ?_ (Below.mono (by with_reducible assumption) ?_)) | omega | (simp; done) | (simp; omega))⟩
      case measure => simp [intOf]; omega
    · obtain rfl : m = n := by omega
      go_wp2_with fail
      go_ret
      exact ⟨rfl, hbl⟩
end Go.Proofs.Ytcjjmkkphbeoeaa
