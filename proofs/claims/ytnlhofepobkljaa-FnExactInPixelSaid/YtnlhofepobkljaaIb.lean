/- Pixels and segments: the spans of both coordinates meet exactly if no side of the line has all corners. -/
import Derived.Test.YtnlhofepobkljaaIa
import Derived.Test.YtnlhofepobkljaaPg
namespace Go.Proofs.Ytnlhofepobkljaa
set_option linter.unusedVariables false
def clL (fr by_ lo hi : Int) : Int := if 0 < by_ then lo - fr else if by_ < 0 then fr - hi else 0
def clB (by_ : Int) : Int := if 0 < by_ then by_ else if by_ < 0 then -by_ else 1
def clH (fr by_ lo hi : Int) : Int := if 0 < by_ then hi - fr else if by_ < 0 then fr - lo else 1
def clF (by_ : Int) : Bool := if 0 < by_ then true else if by_ < 0 then false else true
def clG (by_ : Int) : Bool := if 0 < by_ then false else true
def clK (fr by_ lo hi : Int) : Bool := if 0 < by_ then true else if by_ < 0 then true else decide (lo ≤ fr ∧ fr < hi)
theorem clB_pos (by_ : Int) : 0 < clB by_ := by unfold clB; split <;> (try split) <;> omega
section
variable (lx bx hx ly by_ hy : Int) (fx gx fy gy : Bool)
def t1 : Bool := takeLo 0 1 lx bx fx
def l1 : Int := if t1 lx bx fx = true then lx else 0
def b1 : Int := if t1 lx bx fx = true then bx else 1
def f1 : Bool := if t1 lx bx fx = true then fx else true
def s1 : Bool := takeHi 1 1 hx bx gx
def h1 : Int := if s1 bx hx gx = true then hx else 1
def c1 : Int := if s1 bx hx gx = true then bx else 1
def g1 : Bool := if s1 bx hx gx = true then gx else true
end
/-- Do three spans meet: all, that of x, that of y? -/
def meetB (lx bx hx ly by_ hy : Int) (fx gx fy gy : Bool) : Bool :=
  let a := l1 lx bx fx; let b := b1 lx bx fx; let f := f1 lx bx fx
  let h := h1 bx hx gx; let c := c1 bx hx gx; let g := g1 bx hx gx
  let t := takeLo a b ly by_ fy; let s := takeHi h c hy by_ gy
  let A := if t = true then ly else a; let B := if t = true then by_ else b; let F := if t = true then fy else f
  let H := if s = true then hy else h; let C := if s = true then by_ else c; let G := if s = true then gy else g
  decide (A * C - H * B < 0) || (decide (A * C - H * B = 0) && (F && G))
theorem meetB_iff {lx bx hx ly by_ hy : Int} {fx gx fy gy : Bool} (h1_ : 0 < bx) (h2_ : 0 < by_) :
    meetB lx bx hx ly by_ hy fx gx fy gy = true ↔
      (((okL 0 1 true 1 1 true ∧ okL 0 1 true hx bx gx) ∧ okL 0 1 true hy by_ gy) ∧ ((okL lx bx fx 1 1 true ∧ okL lx bx fx hx bx gx) ∧ okL lx bx fx hy by_ gy)) ∧ ((okL ly by_ fy 1 1 true ∧ okL ly by_ fy hx bx gx) ∧ okL ly by_ fy hy by_ gy) := by
  have e : meetB lx bx hx ly by_ hy fx gx fy gy = true ↔ okL (if takeLo (l1 lx bx fx) (b1 lx bx fx) ly by_ fy = true then ly else l1 lx bx fx) (if takeLo (l1 lx bx fx) (b1 lx bx fx) ly by_ fy = true then by_ else b1 lx bx fx) (if takeLo (l1 lx bx fx) (b1 lx bx fx) ly by_ fy = true then fy else f1 lx bx fx)
      (if takeHi (h1 bx hx gx) (c1 bx hx gx) hy by_ gy = true then hy else h1 bx hx gx) (if takeHi (h1 bx hx gx) (c1 bx hx gx) hy by_ gy = true then by_ else c1 bx hx gx) (if takeHi (h1 bx hx gx) (c1 bx hx gx) hy by_ gy = true then gy else g1 bx hx gx) := by
    unfold meetB okL
    simp only [Bool.or_eq_true, Bool.and_eq_true, decide_eq_true_eq]
  have pb1 : 0 < b1 lx bx fx := by unfold b1; split <;> omega
  have pc1 : 0 < c1 bx hx gx := by unfold c1; split <;> omega
  have pC : 0 < (if takeHi (h1 bx hx gx) (c1 bx hx gx) hy by_ gy = true then by_ else c1 bx hx gx) := by split <;> assumption
  have hh : ∀ {l b : Int} {f : Bool}, 0 < b → (okL l b f (if takeHi (h1 bx hx gx) (c1 bx hx gx) hy by_ gy = true then hy else h1 bx hx gx) (if takeHi (h1 bx hx gx) (c1 bx hx gx) hy by_ gy = true then by_ else c1 bx hx gx) (if takeHi (h1 bx hx gx) (c1 bx hx gx) hy by_ gy = true then gy else g1 bx hx gx) ↔ (okL l b f 1 1 true ∧ okL l b f hx bx gx) ∧ okL l b f hy by_ gy) := by
    intro l b f hb
    rw [okL_hi hb pc1 h2_]
    have := okL_hi (l := l) (f := f) (h1 := 1) (c1 := 1) (h2 := hx) (c2 := bx) (g1 := true) (g2 := gx) hb (by omega) h1_
    unfold h1 c1 g1 s1
    rw [this]
  rw [e, okL_lo pb1 h2_ pC, hh h2_]
  have := okL_lo (l1 := 0) (b1 := 1) (l2 := lx) (b2 := bx) (f1 := true) (f2 := fx) (h := if takeHi (h1 bx hx gx) (c1 bx hx gx) hy by_ gy = true then hy else h1 bx hx gx) (c := if takeHi (h1 bx hx gx) (c1 bx hx gx) hy by_ gy = true then by_ else c1 bx hx gx) (g := if takeHi (h1 bx hx gx) (c1 bx hx gx) hy by_ gy = true then gy else g1 bx hx gx) (by omega) h1_ pC
  unfold l1 b1 f1 t1
  rw [this, hh (by omega), hh h1_]
/-- One corner's side: that of a point a little inside, if the line leads through it. -/
def cornS (dx dy qx qy cx cy : Int) : Int := if sgnI (dx * (2 * qy + cy) - dy * (2 * qx + cx)) = 0 then sgnI (dx * (-1 - cy) - dy * (-1 - cx)) else sgnI (dx * (2 * qy + cy) - dy * (2 * qx + cx))
def sides (dx dy qx qy : Int) : Int := cornS dx dy qx qy (-1) (-1) + cornS dx dy qx qy 1 (-1) + cornS dx dy qx qy 1 1 + cornS dx dy qx qy (-1) 1
def midB (d q : Int) : Bool := decide ((0 ≤ q ∧ q ≤ d) ∨ (d ≤ q ∧ q ≤ 0))
def pixB (dx dy qx qy : Int) : Bool := midB dx qx && (midB dy qy && decide (-4 < sides dx dy qx qy ∧ sides dx dy qx qy < 4))
def insB (dx dy qx qy : Int) : Bool :=
  (clK 0 (2 * dx) (2 * qx - 1) (2 * qx + 1) && clK 0 (2 * dy) (2 * qy - 1) (2 * qy + 1)) &&
  meetB (clL 0 (2 * dx) (2 * qx - 1) (2 * qx + 1)) (clB (2 * dx)) (clH 0 (2 * dx) (2 * qx - 1) (2 * qx + 1)) (clL 0 (2 * dy) (2 * qy - 1) (2 * qy + 1)) (clB (2 * dy)) (clH 0 (2 * dy) (2 * qy - 1) (2 * qy + 1)) (clF (2 * dx)) (clG (2 * dx)) (clF (2 * dy)) (clG (2 * dy))
theorem cornS_is (dx dy qx qy cx cy U V X Y : Int) (hU : qx * dy = U) (hV : qy * dx = V) (hX : dx * cy = X) (hY : dy * cx = Y) :
    let v := 2 * V + X - (2 * U + Y); let t := -dx - X - (-dy - Y)
    (0 < v ∧ cornS dx dy qx qy cx cy = 1) ∨ (v < 0 ∧ cornS dx dy qx qy cx cy = -1) ∨ (v = 0 ∧ ((0 < t ∧ cornS dx dy qx qy cx cy = 1) ∨ (t < 0 ∧ cornS dx dy qx qy cx cy = -1) ∨ (t = 0 ∧ cornS dx dy qx qy cx cy = 0))) := by
  have e1 : dx * (2 * qy + cy) - dy * (2 * qx + cx) = 2 * V + X - (2 * U + Y) := by rw [← hU, ← hV, ← hX, ← hY]; grind
  have e2 : dx * (-1 - cy) - dy * (-1 - cx) = -dx - X - (-dy - Y) := by rw [← hX, ← hY]; grind
  unfold cornS
  rw [e1, e2]
  generalize 2 * V + X - (2 * U + Y) = v
  generalize -dx - X - (-dy - Y) = t
  unfold sgnI
  simp only
  split <;> (try split) <;> (try split) <;> (try split) <;> omega
end Go.Proofs.Ytnlhofepobkljaa
