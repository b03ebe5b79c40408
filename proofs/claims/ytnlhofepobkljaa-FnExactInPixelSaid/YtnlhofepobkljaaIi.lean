/- Walks: the span of a segment in a pixel, the reference's side. -/
import Derived.Test.YtnlhofepobkljaaId
import Derived.Test.YtnlhofepobkljaaPs
namespace Go.Proofs.Ytnlhofepobkljaa
open Go.RowKit
set_option linter.unusedVariables false
def insA (ax ay bx ey px py : Int) : Bool :=
  (clK (2 * ax) (2 * (bx - ax)) (2 * px - 1) (2 * px + 1) && clK (2 * ay) (2 * (ey - ay)) (2 * py - 1) (2 * py + 1)) &&
  meetB (clL (2 * ax) (2 * (bx - ax)) (2 * px - 1) (2 * px + 1)) (clB (2 * (bx - ax))) (clH (2 * ax) (2 * (bx - ax)) (2 * px - 1) (2 * px + 1)) (clL (2 * ay) (2 * (ey - ay)) (2 * py - 1) (2 * py + 1)) (clB (2 * (ey - ay))) (clH (2 * ay) (2 * (ey - ay)) (2 * py - 1) (2 * py + 1)) (clF (2 * (bx - ax))) (clG (2 * (bx - ax))) (clF (2 * (ey - ay))) (clG (2 * (ey - ay)))
theorem clL_m (a d p : Int) : clL (2 * a) d (2 * p - 1) (2 * p + 1) = clL 0 d (2 * (p - a) - 1) (2 * (p - a) + 1) := by unfold clL; split <;> (try split) <;> omega
theorem clH_m (a d p : Int) : clH (2 * a) d (2 * p - 1) (2 * p + 1) = clH 0 d (2 * (p - a) - 1) (2 * (p - a) + 1) := by unfold clH; split <;> (try split) <;> omega
theorem clK_m (a d p : Int) : clK (2 * a) d (2 * p - 1) (2 * p + 1) = clK 0 d (2 * (p - a) - 1) (2 * (p - a) + 1) := by
  unfold clK
  split
  · rfl
  · split
    · rfl
    · rw [decide_eq_decide]; omega
theorem insA_is (ax ay bx ey px py : Int) : insA ax ay bx ey px py = pixB (bx - ax) (ey - ay) (px - ax) (py - ay) := by
  rw [← ins_pix]
  unfold insA insB
  rw [clL_m, clL_m, clH_m, clH_m, clK_m, clK_m]
theorem clL_b {fr d lo hi : Int} (h1 : -2000000 ≤ fr ∧ fr ≤ 2000000) (h3 : -2000000 ≤ lo ∧ lo ≤ 2000000) (h4 : -2000000 ≤ hi ∧ hi ≤ 2000000) : -4194304 ≤ clL fr d lo hi ∧ clL fr d lo hi ≤ 4194304 := by unfold clL; split <;> (try split) <;> omega
theorem clH_b {fr d lo hi : Int} (h1 : -2000000 ≤ fr ∧ fr ≤ 2000000) (h3 : -2000000 ≤ lo ∧ lo ≤ 2000000) (h4 : -2000000 ≤ hi ∧ hi ≤ 2000000) : -4194304 ≤ clH fr d lo hi ∧ clH fr d lo hi ≤ 4194304 := by unfold clH; split <;> (try split) <;> omega
theorem clB_b {d : Int} (h1 : -2000000 ≤ d ∧ d ≤ 2000000) : -4194304 ≤ clB d ∧ clB d ≤ 4194304 := by unfold clB; split <;> (try split) <;> omega
theorem bif_if {α : Type} (t : Bool) (a b : α) : (bif t then a else b) = if t = true then a else b := by cases t <;> rfl
/-- What the second meeting hands on: the common part of three spans. -/
theorem meetB_bif (lx bx hx ly by_ hy : Int) (fx gx fy gy : Bool) : meetB lx bx hx ly by_ hy fx gx fy gy =
    (decide ((bif takeLo (bif takeLo 0 1 lx bx fx then lx else 0) (bif takeLo 0 1 lx bx fx then bx else 1) ly by_ fy then ly else (bif takeLo 0 1 lx bx fx then lx else 0)) * (bif takeHi (bif takeHi 1 1 hx bx gx then hx else 1) (bif takeHi 1 1 hx bx gx then bx else 1) hy by_ gy then by_ else (bif takeHi 1 1 hx bx gx then bx else 1)) - (bif takeHi (bif takeHi 1 1 hx bx gx then hx else 1) (bif takeHi 1 1 hx bx gx then bx else 1) hy by_ gy then hy else (bif takeHi 1 1 hx bx gx then hx else 1)) * (bif takeLo (bif takeLo 0 1 lx bx fx then lx else 0) (bif takeLo 0 1 lx bx fx then bx else 1) ly by_ fy then by_ else (bif takeLo 0 1 lx bx fx then bx else 1)) < 0) ||
     (decide ((bif takeLo (bif takeLo 0 1 lx bx fx then lx else 0) (bif takeLo 0 1 lx bx fx then bx else 1) ly by_ fy then ly else (bif takeLo 0 1 lx bx fx then lx else 0)) * (bif takeHi (bif takeHi 1 1 hx bx gx then hx else 1) (bif takeHi 1 1 hx bx gx then bx else 1) hy by_ gy then by_ else (bif takeHi 1 1 hx bx gx then bx else 1)) - (bif takeHi (bif takeHi 1 1 hx bx gx then hx else 1) (bif takeHi 1 1 hx bx gx then bx else 1) hy by_ gy then hy else (bif takeHi 1 1 hx bx gx then hx else 1)) * (bif takeLo (bif takeLo 0 1 lx bx fx then lx else 0) (bif takeLo 0 1 lx bx fx then bx else 1) ly by_ fy then by_ else (bif takeLo 0 1 lx bx fx then bx else 1)) = 0) && ((bif takeLo (bif takeLo 0 1 lx bx fx then lx else 0) (bif takeLo 0 1 lx bx fx then bx else 1) ly by_ fy then fy else (bif takeLo 0 1 lx bx fx then fx else true)) && (bif takeHi (bif takeHi 1 1 hx bx gx then hx else 1) (bif takeHi 1 1 hx bx gx then bx else 1) hy by_ gy then gy else (bif takeHi 1 1 hx bx gx then gx else true))))) := by
  simp only [bif_if]
  rfl
end Go.Proofs.Ytnlhofepobkljaa
