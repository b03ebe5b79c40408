/- The equations for the slopes of a curve: plain facts; arrays of twelve integers. -/
import Derived.Test.YtcjjmkkphbeoeaaKv
import Derived.Test.YtcjjmkkphbeoeaaBk
namespace Go.Proofs.Ytcjjmkkphbeoeaa
open Go.RowKit
set_option linter.unusedVariables false
/-- The knot k. -/
def kt (l : List APt) (k : Nat) : APt := (l[k]?).getD (0, 0)
/-- Is equation k that of a knot between two others? -/
def inB (cl : Bool) (n k : Nat) : Bool := cl || (decide (1 ≤ k) && decide (k + 2 ≤ n))
def way3 (l : List APt) (i j : Nat) : APt := (3 * ((kt l j).1 - (kt l i).1), 3 * ((kt l j).2 - (kt l i).2))
/-- The right-hand side of equation k. -/
def sideP (l : List APt) (cl ff fl : Bool) (fx fy lx ly : Int) (k : Nat) : APt :=
  if inB cl l.length k = true then way3 l ((k + l.length - 1) % l.length) ((k + 1) % l.length)
  else if k = 0 then (if ff = true then (fx, fy) else way3 l 0 1) else (if fl = true then (lx, ly) else way3 l (k - 1) k)
def setF (f : Nat → Int) (i : Nat) (v : Int) : Nat → Int := fun j => if j = i then v else f j
/-- The coefficients of equation k, behind them zeros and the right-hand side. -/
def rowF (cl ff fl : Bool) (n k : Nat) (s : APt) : Nat → Int :=
  let z : Nat → Int := setF (setF (fun _ => 0) 10 s.1) 11 s.2
  if inB cl n k = true then setF (setF (setF z ((k + n - 1) % n) 1) k 4) ((k + 1) % n) 1
  else if k = 0 then (if ff = true then setF z 0 1 else setF (setF z 0 2) 1 1) else (if fl = true then setF z k 1 else setF (setF z k 2) (k - 1) 1)
def eqnF (l : List APt) (cl ff fl : Bool) (fx fy lx ly : Int) (k : Nat) : Nat → Int := rowF cl ff fl l.length k (sideP l cl ff fl fx fy lx ly k)
def codeC (v : Bool) (n : Nat) (k : Int) : Int := if v = true then (if 0 ≤ k ∧ k < (n : Int) then 0 else 2) else 1
/-- Twelve integers in a row. -/
def arr12 (f : Nat → Int) : Array Value := #[.int .i64 (f 0), .int .i64 (f 1), .int .i64 (f 2), .int .i64 (f 3), .int .i64 (f 4), .int .i64 (f 5), .int .i64 (f 6), .int .i64 (f 7), .int .i64 (f 8), .int .i64 (f 9), .int .i64 (f 10), .int .i64 (f 11)]
theorem arr12_at (f : Nat → Int) {i : Nat} (h : i < 12) : (arr12 f)[i]? = some (.int .i64 (f i)) := by
  match i, h with
  | 0, _ => rfl
  | 1, _ => rfl
  | 2, _ => rfl
  | 3, _ => rfl
  | 4, _ => rfl
  | 5, _ => rfl
  | 6, _ => rfl
  | 7, _ => rfl
  | 8, _ => rfl
  | 9, _ => rfl
  | 10, _ => rfl
  | 11, _ => rfl
theorem arr12_size (f : Nat → Int) : (arr12 f).size = 12 := rfl
theorem arr12_set (f : Nat → Int) (i : Nat) (v : Int) : (arr12 f).setIfInBounds i (.int .i64 v) = arr12 (setF f i v) := by
  apply Array.ext_getElem?
  intro j
  by_cases hj : j < 12
  · rw [arr12_at _ hj, Array.getElem?_setIfInBounds, arr12_size]
    unfold setF
    by_cases h : i = j
    · subst h; simp [hj]
    · rw [if_neg h, arr12_at _ hj, if_neg (fun e => h e.symm)]
  · rw [Array.getElem?_eq_none (by rw [Array.size_setIfInBounds, arr12_size]; omega), Array.getElem?_eq_none (by rw [arr12_size]; omega)]
/-- The array behind a block of twelve integers, cell by cell. -/
theorem Blk.ints {w : World} {g : Nat} {t : TypeId} {f : Nat → Int} (h : Blk w g t (arr12 f)) {i : Nat} (hi : i < 12) : w.cell? ⟨g, i, none⟩ = some (.int .i64 (f i)) := h.cell i (arr12_at f hi)
theorem Blk.set12 {w : World} {g : Nat} {t : TypeId} {f : Nat → Int} (h : Blk w g t (arr12 f)) (i : Nat) (v : Int) : Blk (w.setCell ⟨g, i, none⟩ (.int .i64 v)) g t (arr12 (setF f i v)) := by
  have := h.set_ i (.int .i64 v)
  rwa [arr12_set] at this
section
variable {l : List APt} {cl ff fl : Bool} {t fx fy lx ly : Int} {k : Nat}
theorem kt_of {x y : Int} (h : l[k]? = some (x, y)) : kt l k = (x, y) := by unfold kt; rw [h]; rfl
theorem kt_at (h : k < l.length) : l[k]? = some (kt l k) := by unfold kt; rw [List.getElem?_eq_getElem h]; rfl
theorem kt_ok (h : ptsUp l l.length = true) (hk : k < l.length) : okB (kt l k).1 (kt l k).2 = true := pts_all h (x := (kt l k).1) (y := (kt l k).2) (kt_at hk)
theorem way3_bounds (h : ptsUp l l.length = true) {i j : Nat} (hi : i < l.length) (hj : j < l.length) : -1572864 ≤ (way3 l i j).1 ∧ (way3 l i j).1 ≤ 1572864 ∧ -1572864 ≤ (way3 l i j).2 ∧ (way3 l i j).2 ≤ 1572864 := by
  obtain ⟨a1, a2, a3, a4⟩ := okB_bounds (kt_ok h hi)
  obtain ⟨b1, b2, b3, b4⟩ := okB_bounds (kt_ok h hj)
  unfold way3
  simp only
  omega
theorem side_in (h : inB cl l.length k = true) : sideP l cl ff fl fx fy lx ly k = way3 l ((k + l.length - 1) % l.length) ((k + 1) % l.length) := by unfold sideP; rw [if_pos h]
theorem side_first (h : inB cl l.length 0 = false) : sideP l cl ff fl fx fy lx ly 0 = if ff = true then (fx, fy) else way3 l 0 1 := by unfold sideP; rw [if_neg (by rw [h]; simp), if_pos rfl]
theorem side_last (h : inB cl l.length k = false) (hk : ¬ k = 0) : sideP l cl ff fl fx fy lx ly k = if fl = true then (lx, ly) else way3 l (k - 1) k := by unfold sideP; rw [if_neg (by rw [h]; simp), if_neg hk]
end
/-- The right-hand side stands behind the coefficients. -/
theorem rowF_side {cl ff fl : Bool} {n k : Nat} {s : APt} (hn : 2 ≤ n) (hn2 : n ≤ 10) (hk : k < n) : rowF cl ff fl n k s 10 = s.1 ∧ rowF cl ff fl n k s 11 = s.2 := by
  have h1 := Nat.mod_lt (k + n - 1) (show n > 0 by omega)
  have h2 := Nat.mod_lt (k + 1) (show n > 0 by omega)
  unfold rowF setF
  simp only
  generalize (k + n - 1) % n = p at h1
  generalize (k + 1) % n = q at h2
  have a1 : ¬ 10 = p := by omega
  have a2 : ¬ 10 = q := by omega
  have a3 : ¬ 10 = k := by omega
  have a4 : ¬ 10 = k - 1 := by omega
  have b1 : ¬ 11 = p := by omega
  have b2 : ¬ 11 = q := by omega
  have b3 : ¬ 11 = k := by omega
  have b4 : ¬ 11 = k - 1 := by omega
  clear h1 h2 hn hn2 hk
  constructor <;> (split <;> (try split) <;> (try split)) <;> simp [a1, a2, a3, a4, b1, b2, b3, b4]
end Go.Proofs.Ytcjjmkkphbeoeaa
