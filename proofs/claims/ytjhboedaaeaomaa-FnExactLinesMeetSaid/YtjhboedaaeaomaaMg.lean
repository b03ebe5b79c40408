/- Plain facts on points of a line and on segments that meet; no program in sight. -/
import Derived.Test.YtjhboedaaeaomaaPg
namespace Go.Proofs.Ytjhboedaaeaomaa

/-- Points upwards, and those in the same height from left to right: the order's key. -/
def keyI (x y : Int) : Int := y * 1048576 + x
theorem key_inj {x y u v : Int} (h1 : okB x y = true) (h2 : okB u v = true) (h : keyI x y = keyI u v) : x = u ∧ y = v := by
  have h1 := okB_bounds h1
  have h2 := okB_bounds h2
  unfold keyI at h
  omega
theorem btw_iff (a b c : Int) : (mnI a b ≤ c ∧ c ≤ mxI a b) ↔ (a ≤ c ∧ c ≤ b) ∨ (b ≤ c ∧ c ≤ a) := by
  unfold mnI mxI; split <;> omega
theorem line_le {u v s t : Int} (hu : 0 < u) (h0 : 0 ≤ s) (h1 : s ≤ u) (e : u * t = v * s) : (0 ≤ v → 0 ≤ t ∧ t ≤ v) ∧ (v ≤ 0 → v ≤ t ∧ t ≤ 0) := by
  have e2 : u * (v - t) = v * (u - s) := by grind
  constructor
  · intro hv
    have a1 := Int.mul_nonneg hv h0
    have a2 := Int.mul_nonneg hv (show 0 ≤ u - s by omega)
    constructor
    · apply Classical.byContradiction; intro h
      have := Int.mul_neg_of_pos_of_neg hu (show t < 0 by omega); omega
    · apply Classical.byContradiction; intro h
      have := Int.mul_neg_of_pos_of_neg hu (show v - t < 0 by omega); omega
  · intro hv
    have a1 := Int.mul_nonneg (show 0 ≤ -v by omega) h0
    have a2 := Int.mul_nonneg (show 0 ≤ -v by omega) (show 0 ≤ u - s by omega)
    have b1 : -v * s = -(v * s) := Int.neg_mul _ _
    have b2 : -v * (u - s) = -(v * (u - s)) := Int.neg_mul _ _
    constructor
    · apply Classical.byContradiction; intro h
      have := Int.mul_pos hu (show 0 < v - t by omega); omega
    · apply Classical.byContradiction; intro h
      have := Int.mul_pos hu (show 0 < t by omega); omega
theorem line_eq {u t v : Int} (hu : ¬ u = 0) (e : u * t = v * 0) : t = 0 := by
  have : u * t = 0 := by omega
  rcases Int.mul_eq_zero.1 this with h | h
  · exact absurd h hu
  · exact h
theorem line_end {u t v : Int} (hu : ¬ u = 0) (e : u * t = v * u) : t = v := by
  have : u * (t - v) = 0 := by grind
  rcases Int.mul_eq_zero.1 this with h | h
  · exact absurd h hu
  · omega
def keyX (x y : Int) : Int := x * 1048576 + y
theorem box_keyX {ax ay bx ey px py : Int} (va : okB ax ay = true) (vb : okB bx ey = true) (vp : okB px py = true) (h : turnI ax ay bx ey px py = 0) :
    boxB ax ay bx ey px py = btwB (keyX ax ay) (keyX bx ey) (keyX px py) := by
  have va := okB_bounds va
  have vb := okB_bounds vb
  have vp := okB_bounds vp
  have e : (bx - ax) * (py - ay) = (ey - ay) * (px - ax) := by unfold turnI at h; omega
  clear h
  rw [Bool.eq_iff_iff]
  simp only [boxB, btwB, Bool.and_eq_true, decide_eq_true_eq, btw_iff, keyX]
  by_cases hx : ax = bx
  · subst hx
    have : ey = ay ∨ px = ax := by
      have e : (ey - ay) * (px - ax) = 0 := by rw [← e]; simp
      rcases Int.mul_eq_zero.1 e with h | h <;> omega
    omega
  · by_cases hs : ax ≤ px ∧ px ≤ bx
    · obtain ⟨L1, L2⟩ := line_le (u := bx - ax) (v := ey - ay) (s := px - ax) (t := py - ay) (by omega) (by omega) (by omega) e
      have E1 : px = ax → py = ay := fun q => by
        have := line_eq (u := bx - ax) (t := py - ay) (v := ey - ay) (by omega) (by rw [e, q]; simp); omega
      have E2 : px = bx → py = ey := fun q => by
        have := line_end (u := bx - ax) (t := py - ay) (v := ey - ay) (by omega) (by rw [e, q]); omega
      omega
    · by_cases hs2 : bx ≤ px ∧ px ≤ ax
      · have e' : (ax - bx) * (ay - py) = (ay - ey) * (ax - px) := by grind
        obtain ⟨L1, L2⟩ := line_le (u := ax - bx) (v := ay - ey) (s := ax - px) (t := ay - py) (by omega) (by omega) (by omega) e'
        have E1 : px = ax → py = ay := fun q => by
          have := line_eq (u := bx - ax) (t := py - ay) (v := ey - ay) (by omega) (by rw [e, q]; simp); omega
        have E2 : px = bx → py = ey := fun q => by
          have := line_end (u := bx - ax) (t := py - ay) (v := ey - ay) (by omega) (by rw [e, q]); omega
        omega
      · omega
theorem okB_swap {x y : Int} (h : okB x y = true) : okB y x = true := by
  have h := okB_bounds h
  exact (okB_yes h.2.2.1 h.2.2.2 h.1 h.2.1).symm
/-- On a line, a point is in the box of two others if its key is between theirs. -/
theorem box_key {ax ay bx ey px py : Int} (va : okB ax ay = true) (vb : okB bx ey = true) (vp : okB px py = true) (h : turnI ax ay bx ey px py = 0) :
    boxB ax ay bx ey px py = btwB (keyI ax ay) (keyI bx ey) (keyI px py) := by
  have t : turnI ay ax ey bx py px = 0 := by
    have e : turnI ay ax ey bx py px = -(turnI ax ay bx ey px py) := by unfold turnI; grind
    omega
  have := box_keyX (okB_swap va) (okB_swap vb) (okB_swap vp) t
  rw [show keyX ay ax = keyI ax ay from rfl, show keyX ey bx = keyI bx ey from rfl, show keyX py px = keyI px py from rfl] at this
  rw [← this]
  unfold boxB
  rw [Bool.and_comm]
/-- A point of a segment divides the turns of its ends. -/
theorem turn_mid {ax ay bx ey cx cy dx dy px py : Int} (h : turnI cx cy dx dy px py = 0) :
    (dx - cx) * turnI ax ay bx ey px py = (dx - px) * turnI ax ay bx ey cx cy + (px - cx) * turnI ax ay bx ey dx dy ∧
    (dy - cy) * turnI ax ay bx ey px py = (dy - py) * turnI ax ay bx ey cx cy + (py - cy) * turnI ax ay bx ey dx dy := by
  unfold turnI at *
  constructor <;> grind
theorem conv_pos {e f g p q : Int} (hp : 0 < p) (hq : 0 < q) (h0 : 0 ≤ f) (h1 : 0 ≤ g) (he : 0 < f + g) (h : (f + g) * e = f * p + g * q) : 0 < e := by
  apply Classical.byContradiction; intro hn
  have h2 : 0 ≤ (f + g) * -e := Int.mul_nonneg (by omega) (by omega)
  have h3 := Int.mul_nonneg h0 (show 0 ≤ p by omega)
  have h4 := Int.mul_nonneg h1 (show 0 ≤ q by omega)
  have h5 : (f + g) * -e = -((f + g) * e) := Int.mul_neg _ _
  have h6 : 0 < f ∨ 0 < g := by omega
  rcases h6 with h6 | h6
  · have := Int.mul_pos h6 hp; omega
  · have := Int.mul_pos h6 hq; omega
/-- Where both ends of a segment lie on the same side of a line, so do all of its points. -/
theorem side_pos {ax ay bx ey cx cy dx dy px py : Int} (hc : 0 < turnI ax ay bx ey cx cy) (hd : 0 < turnI ax ay bx ey dx dy) (h : onB cx cy dx dy px py = true) : 0 < turnI ax ay bx ey px py := by
  simp only [onB, boxB, btwB, Bool.and_eq_true, decide_eq_true_eq, btw_iff] at h
  obtain ⟨h0, hx, hy⟩ := h
  obtain ⟨e1, e2⟩ := turn_mid (ax := ax) (ay := ay) (bx := bx) (ey := ey) h0
  clear h0
  by_cases k : cx = dx
  · by_cases l : cy = dy
    · have : px = cx := by omega
      have : py = cy := by omega
      subst px; subst py; exact hc
    · rcases Int.lt_or_gt_of_ne l with l | l
      · exact conv_pos hc hd (f := dy - py) (g := py - cy) (by omega) (by omega) (by omega) (by rw [← e2, show dy - py + (py - cy) = dy - cy by omega])
      · exact conv_pos hc hd (f := py - dy) (g := cy - py) (by omega) (by omega) (by omega) (by grind)
  · rcases Int.lt_or_gt_of_ne k with l | l
    · exact conv_pos hc hd (f := dx - px) (g := px - cx) (by omega) (by omega) (by omega) (by rw [← e1, show dx - px + (px - cx) = dx - cx by omega])
    · exact conv_pos hc hd (f := px - dx) (g := cx - px) (by omega) (by omega) (by omega) (by grind)
theorem turn_neg (ax ay bx ey px py : Int) : turnI bx ey ax ay px py = -(turnI ax ay bx ey px py) := by unfold turnI; grind
theorem side_neg {ax ay bx ey cx cy dx dy px py : Int} (hc : turnI ax ay bx ey cx cy < 0) (hd : turnI ax ay bx ey dx dy < 0) (h : onB cx cy dx dy px py = true) : turnI ax ay bx ey px py < 0 := by
  have := side_pos (ax := bx) (ay := ey) (bx := ax) (ey := ay) (by rw [turn_neg]; omega) (by rw [turn_neg]; omega) h
  rw [turn_neg] at this; omega
end Go.Proofs.Ytjhboedaaeaomaa
