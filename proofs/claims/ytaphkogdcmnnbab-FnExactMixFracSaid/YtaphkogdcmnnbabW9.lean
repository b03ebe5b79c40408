/- Walks: MixFrac on both sides. -/
import Derived.Test.YtaphkogdcmnnbabW5
import Derived.Test.YtaphkogdcmnnbabWAdd
import Derived.Test.YtaphkogdcmnnbabWSub
import Derived.Test.YtaphkogdcmnnbabWMul
namespace Go.Proofs.Ytaphkogdcmnnbab
open Go.RowKit

/-- A struct of two integers in block g, which may be written. -/
def Blk2 (g : Nat) (a b : Int) (wx : World) : Prop := At2 g a b wx ∧ wx.frozen? ⟨g, 0, none⟩ = false ∧ wx.frozen? ⟨g, 1, none⟩ = false
theorem Blk2.below {g : Nat} {a b : Int} {wx wy : World} (h : Blk2 g a b wx) (hb : Below wx.heap.size wx wy) : Blk2 g a b wy := by
  obtain ⟨h1, h2, h3⟩ := h
  obtain ⟨_, hf⟩ := bcell hb
  exact ⟨h1.below hb, (hf _ _ h1.lt).trans h2, (hf _ _ h1.lt).trans h3⟩
theorem Blk2.alloc {g : Nat} {a b : Int} {wx : World} (h : Blk2 g a b wx) (o : Obj) : Blk2 g a b (wx.alloc o) := h.below ((Below.refl _ _).alloc (Nat.le_refl _) o)
theorem Blk2.drewN {g : Nat} {a b : Int} {wx : World} (h : Blk2 g a b wx) (n : Nat) : Blk2 g a b (wx.drewN n) := h
theorem Blk2.new (wx : World) (a b : Int) (t : TypeId) : Blk2 wx.heap.size a b (wx.alloc (.cells #[.int .i64 a, .int .i64 b] t)) := ⟨At2.new _ _ _ _, by simp [go_sem], by simp [go_sem]⟩

theorem Blk2.far {g h : Nat} {a b : Int} {wx : World} (k : Blk2 g a b wx) (hg : g < h) (u v : Value) : Blk2 g a b ((wx.setCell ⟨h, 0, none⟩ u).setCell ⟨h, 1, none⟩ v) := by
  obtain ⟨h1, h2, h3⟩ := k
  exact ⟨h1.far hg _ _, by simpa [go_sem] using h2, by simpa [go_sem] using h3⟩
/-- What an operation on two fractions gives, as three numbers. -/
def opN (ok : Bool) (x y : Int) : Int := bif ok then mkNum x y else 0
def opD (ok : Bool) (x y : Int) : Int := bif ok then mkDen x y else 0
def opC (ok : Bool) (x y : Int) : Int := bif ok then mkCode x y else 1
theorem mk_bounds (n d : Int) : (-1000000000 ≤ mkNum n d ∧ mkNum n d ≤ 1000000000) ∧ (0 ≤ mkDen n d ∧ mkDen n d ≤ 1000000) := by
  unfold mkNum mkDen
  generalize n.natAbs / Nat.gcd n.natAbs d.natAbs = q1
  generalize d.natAbs / Nat.gcd n.natAbs d.natAbs = q2
  constructor
  · split
    · omega
    · split
      · omega
      · split <;> omega
  · split
    · omega
    · split <;> omega
theorem op_bounds (ok : Bool) (n d : Int) : (-1000000000 ≤ opN ok n d ∧ opN ok n d ≤ 1000000000) ∧ (0 ≤ opD ok n d ∧ opD ok n d ≤ 1000000) := by
  cases ok
  · exact ⟨⟨by simp [opN], by simp [opN]⟩, ⟨by simp [opD], by simp [opD]⟩⟩
  · exact mk_bounds n d

def TriRet (a b c : Int) (w : World) (e : Ending) (w' : World) : Prop := e = .returned (.tuple #[.agg #[.int .i64 a, .int .i64 b], .int .i64 c]) ∧ Below w.heap.size w w'


set_option maxHeartbeats 3200000 in
theorem specMix_sub (n1 d1 n2 d2 n3 d3 a b c : Int) (w : World) (h1 : -9223372036854775808 ≤ n1 ∧ n1 ≤ 9223372036854775807) (h2 : -9223372036854775808 ≤ d1 ∧ d1 ≤ 9223372036854775807) (h3 : -9223372036854775808 ≤ n2 ∧ n2 ≤ 9223372036854775807) (h4 : -9223372036854775808 ≤ d2 ∧ d2 ≤ 9223372036854775807) (h5 : -9223372036854775808 ≤ n3 ∧ n3 ≤ 9223372036854775807) (h6 : -9223372036854775808 ≤ d3 ∧ d3 ≤ 9223372036854775807) (v1 : validB n1 d1 = true) (v2 : validB n2 d2 = true) (v3 : validB n3 d3 = true)
    (cs : ∀ w, Calls Try.prog 37 #[.agg #[.int .i64 n2, .int .i64 d2], .agg #[.int .i64 n1, .int .i64 d1]] w (TriRet a b c w)) (hc : ¬ c = 0) :
    Calls Try.prog 24 #[.agg #[.int .i64 n1, .int .i64 d1], .agg #[.int .i64 n2, .int .i64 d2], .agg #[.int .i64 n3, .int .i64 d3]] w (TriRet 0 0 c w) := by
  have V1 := Lib.hid v1
  have V2 := Lib.hid v2
  have V3 := Lib.hid v3
  clear v1 v2 v3
  have CS := Lib.hid cs
  clear cs
  unfold TriRet at CS
  have e1 : (c != 0) = true := by rw [bne_iff_ne]; exact hc
  clear hc
  go_enter Try.func24, Try.ntmps24
  go_wp2_with fail
  refine (l02Ok_val _ h1 h2 V1.out).mono ?_
  rintro e w1 ⟨rfl, k1, rfl⟩
  go_wp2_with fail
  refine (l02Ok_val _ h3 h4 V2.out).mono ?_
  rintro e w1 ⟨rfl, k2, rfl⟩
  go_wp2_with fail
  refine (l02Ok_val _ h5 h6 V3.out).mono ?_
  rintro e w1 ⟨rfl, k3, rfl⟩
  go_wp2_with fail
  refine (CS.out _).mono ?_
  rintro e w4 ⟨rfl, hb4⟩
  have f0 : Blk2 w.heap.size n1 d1 w4 := Blk2.below ⟨⟨by simp [go_sem], by simp [go_sem], by first | (simp; done) | (simp; omega)⟩, by simp [go_sem], by simp [go_sem]⟩ hb4
  have f1 : Blk2 (w.heap.size + 1) n2 d2 w4 := Blk2.below ⟨⟨by simp [go_sem], by simp [go_sem], by first | (simp; done) | (simp; omega)⟩, by simp [go_sem], by simp [go_sem]⟩ hb4
  have f2 : Blk2 (w.heap.size + 1 + 1) n3 d3 w4 := Blk2.below ⟨⟨by simp [go_sem], by simp [go_sem], by first | (simp; done) | (simp; omega)⟩, by simp [go_sem], by simp [go_sem]⟩ hb4
  have f3 : Blk2 (w.heap.size + 1 + 1 + 1) 0 0 w4 := Blk2.below ⟨⟨by simp [go_sem], by simp [go_sem], by first | (simp; done) | (simp; omega)⟩, by simp [go_sem], by simp [go_sem]⟩ hb4
  have hz4 : w.heap.size + 1 + 1 + 1 < w4.heap.size := f3.1.lt
  have g4 : Below w.heap.size w w4 := by
    refine Below.trans ?_ (hb4.mono (by simp; omega))
    repeat' (first | exact Below.refl _ _ | (refine Below.setCell ?_ ?_ _) | (refine Below.alloc ?_ ?_ _) | (refine below_dr ?_ _) | exact Nat.le_refl _ | (simp; done) | (simp; omega))
  clear hb4
  obtain ⟨⟨p1, p2, _⟩, p3, p4⟩ := f3
  go_wp2
  refine bodyPost_ret (v := .tuple #[.agg #[.int .i64 0, .int .i64 0], .int .i64 c]) (by simp [results, Try.results24, go_sem, World.cell?_alloc_lt, hz4, p1, p2]) rfl ⟨rfl, ?_⟩
  have z : w.heap.size ≤ w.heap.size + 1 + 1 + 1 := by omega
  exact ((g4.setCell z _).setCell z _).alloc (by have := g4.size; simpa using this) _


set_option maxHeartbeats 3200000 in
theorem specMix_mul (n1 d1 n2 d2 n3 d3 a b a2 b2 c : Int) (w : World) (h1 : -9223372036854775808 ≤ n1 ∧ n1 ≤ 9223372036854775807) (h2 : -9223372036854775808 ≤ d1 ∧ d1 ≤ 9223372036854775807) (h3 : -9223372036854775808 ≤ n2 ∧ n2 ≤ 9223372036854775807) (h4 : -9223372036854775808 ≤ d2 ∧ d2 ≤ 9223372036854775807) (h5 : -9223372036854775808 ≤ n3 ∧ n3 ≤ 9223372036854775807) (h6 : -9223372036854775808 ≤ d3 ∧ d3 ≤ 9223372036854775807) (v1 : validB n1 d1 = true) (v2 : validB n2 d2 = true) (v3 : validB n3 d3 = true)
    (cs : ∀ w, Calls Try.prog 37 #[.agg #[.int .i64 n2, .int .i64 d2], .agg #[.int .i64 n1, .int .i64 d1]] w (TriRet a b 0 w))
    (cm : ∀ w, Calls Try.prog 10 #[.agg #[.int .i64 n3, .int .i64 d3], .agg #[.int .i64 a, .int .i64 b]] w (TriRet a2 b2 c w)) (hc : ¬ c = 0) :
    Calls Try.prog 24 #[.agg #[.int .i64 n1, .int .i64 d1], .agg #[.int .i64 n2, .int .i64 d2], .agg #[.int .i64 n3, .int .i64 d3]] w (TriRet 0 0 c w) := by
  have V1 := Lib.hid v1
  have V2 := Lib.hid v2
  have V3 := Lib.hid v3
  clear v1 v2 v3
  have CS := Lib.hid cs
  have CM := Lib.hid cm
  clear cs cm
  unfold TriRet at CS CM
  have e1 : (c != 0) = true := by rw [bne_iff_ne]; exact hc
  clear hc
  go_enter Try.func24, Try.ntmps24
  go_wp2_with fail
  refine (l02Ok_val _ h1 h2 V1.out).mono ?_
  rintro e w1 ⟨rfl, k1, rfl⟩
  go_wp2_with fail
  refine (l02Ok_val _ h3 h4 V2.out).mono ?_
  rintro e w1 ⟨rfl, k2, rfl⟩
  go_wp2_with fail
  refine (l02Ok_val _ h5 h6 V3.out).mono ?_
  rintro e w1 ⟨rfl, k3, rfl⟩
  go_wp2_with fail
  refine (CS.out _).mono ?_
  rintro e w4 ⟨rfl, hb4⟩
  have f0 : Blk2 w.heap.size n1 d1 w4 := Blk2.below ⟨⟨by simp [go_sem], by simp [go_sem], by first | (simp; done) | (simp; omega)⟩, by simp [go_sem], by simp [go_sem]⟩ hb4
  have f1 : Blk2 (w.heap.size + 1) n2 d2 w4 := Blk2.below ⟨⟨by simp [go_sem], by simp [go_sem], by first | (simp; done) | (simp; omega)⟩, by simp [go_sem], by simp [go_sem]⟩ hb4
  have f2 : Blk2 (w.heap.size + 1 + 1) n3 d3 w4 := Blk2.below ⟨⟨by simp [go_sem], by simp [go_sem], by first | (simp; done) | (simp; omega)⟩, by simp [go_sem], by simp [go_sem]⟩ hb4
  have f3 : Blk2 (w.heap.size + 1 + 1 + 1) 0 0 w4 := Blk2.below ⟨⟨by simp [go_sem], by simp [go_sem], by first | (simp; done) | (simp; omega)⟩, by simp [go_sem], by simp [go_sem]⟩ hb4
  have hz4 : w.heap.size + 1 + 1 + 1 < w4.heap.size := f3.1.lt
  have g4 : Below w.heap.size w w4 := by
    refine Below.trans ?_ (hb4.mono (by simp; omega))
    repeat' (first | exact Below.refl _ _ | (refine Below.setCell ?_ ?_ _) | (refine Below.alloc ?_ ?_ _) | (refine below_dr ?_ _) | exact Nat.le_refl _ | (simp; done) | (simp; omega))
  clear hb4
  have y0 := f0
  have y1 := f1
  have y2 := f2
  have y3 := f3
  obtain ⟨⟨p1, p2, _⟩, p3, p4⟩ := y3
  obtain ⟨⟨p5, p6, _⟩, p7, p8⟩ := y2
  obtain ⟨⟨p9, p10, _⟩, _, _⟩ := y0
  clear y1
  go_wp2_with fail
  refine (CM.out _).mono ?_
  rintro e w5 ⟨rfl, hb5⟩
  have x0 : Blk2 w.heap.size n1 d1 w5 := (f0.alloc _).below hb5
  have x1 : Blk2 (w.heap.size + 1) n2 d2 w5 := (f1.alloc _).below hb5
  have x2 : Blk2 (w.heap.size + 1 + 1) n3 d3 w5 := (f2.alloc _).below hb5
  have x3 : Blk2 (w.heap.size + 1 + 1 + 1) 0 0 w5 := (f3.alloc _).below hb5
  have x4 : Blk2 w4.heap.size a b w5 := (Blk2.new w4 a b _).below hb5
  have hz5 : w4.heap.size < w5.heap.size := x4.1.lt
  have g5 : Below w.heap.size w w5 := (g4.alloc g4.size _).trans (hb5.mono (by have := g4.size; simp; omega))
  clear hb5 p1 p2 p3 p4 p5 p6 p7 p8 p9 p10
  obtain ⟨⟨p1, p2, _⟩, p3, p4⟩ := x3
  obtain ⟨⟨p5, p6, _⟩, p7, p8⟩ := x4
  have hz6 : w.heap.size + 1 + 1 + 1 < w5.heap.size := by omega
  go_wp2
  refine bodyPost_ret (v := .tuple #[.agg #[.int .i64 0, .int .i64 0], .int .i64 c]) (by simp [results, Try.results24, go_sem, p1, p2]) rfl ⟨rfl, ?_⟩
  have z : w.heap.size ≤ w.heap.size + 1 + 1 + 1 := by omega
  have z2 : w.heap.size ≤ w4.heap.size := by omega
  exact (((g5.setCell z2 _).setCell z2 _).setCell z _).setCell z _


set_option maxHeartbeats 3200000 in
theorem specMix_add (n1 d1 n2 d2 n3 d3 a b a2 b2 a3 b3 c : Int) (w : World) (h1 : -9223372036854775808 ≤ n1 ∧ n1 ≤ 9223372036854775807) (h2 : -9223372036854775808 ≤ d1 ∧ d1 ≤ 9223372036854775807) (h3 : -9223372036854775808 ≤ n2 ∧ n2 ≤ 9223372036854775807) (h4 : -9223372036854775808 ≤ d2 ∧ d2 ≤ 9223372036854775807) (h5 : -9223372036854775808 ≤ n3 ∧ n3 ≤ 9223372036854775807) (h6 : -9223372036854775808 ≤ d3 ∧ d3 ≤ 9223372036854775807) (v1 : validB n1 d1 = true) (v2 : validB n2 d2 = true) (v3 : validB n3 d3 = true)
    (cs : ∀ w, Calls Try.prog 37 #[.agg #[.int .i64 n2, .int .i64 d2], .agg #[.int .i64 n1, .int .i64 d1]] w (TriRet a b 0 w))
    (cm : ∀ w, Calls Try.prog 10 #[.agg #[.int .i64 n3, .int .i64 d3], .agg #[.int .i64 a, .int .i64 b]] w (TriRet a2 b2 0 w))
    (ca : ∀ w, Calls Try.prog 38 #[.agg #[.int .i64 n1, .int .i64 d1], .agg #[.int .i64 a2, .int .i64 b2]] w (TriRet a3 b3 c w)) :
    Calls Try.prog 24 #[.agg #[.int .i64 n1, .int .i64 d1], .agg #[.int .i64 n2, .int .i64 d2], .agg #[.int .i64 n3, .int .i64 d3]] w (TriRet a3 b3 c w) := by
  have V1 := Lib.hid v1
  have V2 := Lib.hid v2
  have V3 := Lib.hid v3
  clear v1 v2 v3
  have CS := Lib.hid cs
  have CM := Lib.hid cm
  have CA := Lib.hid ca
  clear cs cm ca
  unfold TriRet at CS CM CA
  go_enter Try.func24, Try.ntmps24
  go_wp2_with fail
  refine (l02Ok_val _ h1 h2 V1.out).mono ?_
  rintro e w1 ⟨rfl, k1, rfl⟩
  go_wp2_with fail
  refine (l02Ok_val _ h3 h4 V2.out).mono ?_
  rintro e w1 ⟨rfl, k2, rfl⟩
  go_wp2_with fail
  refine (l02Ok_val _ h5 h6 V3.out).mono ?_
  rintro e w1 ⟨rfl, k3, rfl⟩
  go_wp2_with fail
  refine (CS.out _).mono ?_
  rintro e w4 ⟨rfl, hb4⟩
  have f0 : Blk2 w.heap.size n1 d1 w4 := Blk2.below ⟨⟨by simp [go_sem], by simp [go_sem], by first | (simp; done) | (simp; omega)⟩, by simp [go_sem], by simp [go_sem]⟩ hb4
  have f1 : Blk2 (w.heap.size + 1) n2 d2 w4 := Blk2.below ⟨⟨by simp [go_sem], by simp [go_sem], by first | (simp; done) | (simp; omega)⟩, by simp [go_sem], by simp [go_sem]⟩ hb4
  have f2 : Blk2 (w.heap.size + 1 + 1) n3 d3 w4 := Blk2.below ⟨⟨by simp [go_sem], by simp [go_sem], by first | (simp; done) | (simp; omega)⟩, by simp [go_sem], by simp [go_sem]⟩ hb4
  have f3 : Blk2 (w.heap.size + 1 + 1 + 1) 0 0 w4 := Blk2.below ⟨⟨by simp [go_sem], by simp [go_sem], by first | (simp; done) | (simp; omega)⟩, by simp [go_sem], by simp [go_sem]⟩ hb4
  have hz4 : w.heap.size + 1 + 1 + 1 < w4.heap.size := f3.1.lt
  have g4 : Below w.heap.size w w4 := by
    refine Below.trans ?_ (hb4.mono (by simp; omega))
    repeat' (first | exact Below.refl _ _ | (refine Below.setCell ?_ ?_ _) | (refine Below.alloc ?_ ?_ _) | (refine below_dr ?_ _) | exact Nat.le_refl _ | (simp; done) | (simp; omega))
  clear hb4
  have y0 := f0
  have y1 := f1
  have y2 := f2
  have y3 := f3
  obtain ⟨⟨p1, p2, _⟩, p3, p4⟩ := y3
  obtain ⟨⟨p5, p6, _⟩, p7, p8⟩ := y2
  obtain ⟨⟨p9, p10, _⟩, _, _⟩ := y0
  clear y1
  go_wp2_with fail
  refine (CM.out _).mono ?_
  rintro e w5 ⟨rfl, hb5⟩
  have x0 : Blk2 w.heap.size n1 d1 w5 := (f0.alloc _).below hb5
  have x1 : Blk2 (w.heap.size + 1) n2 d2 w5 := (f1.alloc _).below hb5
  have x2 : Blk2 (w.heap.size + 1 + 1) n3 d3 w5 := (f2.alloc _).below hb5
  have x3 : Blk2 (w.heap.size + 1 + 1 + 1) 0 0 w5 := (f3.alloc _).below hb5
  have x4 : Blk2 w4.heap.size a b w5 := (Blk2.new w4 a b _).below hb5
  have hz5 : w4.heap.size < w5.heap.size := x4.1.lt
  have g5 : Below w.heap.size w w5 := (g4.alloc g4.size _).trans (hb5.mono (by have := g4.size; simp; omega))
  clear hb5 p1 p2 p3 p4 p5 p6 p7 p8 p9 p10
  have y0 := x0
  have y4 := x4
  obtain ⟨⟨p1, p2, _⟩, p3, p4⟩ := y4
  obtain ⟨⟨p5, p6, _⟩, _, _⟩ := y0
  go_wp2_with fail
  refine (CA.out _).mono ?_
  rintro e w6 ⟨rfl, hb6⟩
  have hz7 : w.heap.size + 1 + 1 + 1 < w6.heap.size := by have := hb6.size; simp at this; omega
  have u3 : Blk2 (w.heap.size + 1 + 1 + 1) 0 0 w6 := Blk2.below ((x3.far (show w.heap.size + 1 + 1 + 1 < w4.heap.size by omega) _ _)) hb6
  have g6 : Below w.heap.size w w6 := Below.trans ((g5.setCell (show w.heap.size ≤ w4.heap.size by omega) _).setCell (show w.heap.size ≤ w4.heap.size by omega) _) (hb6.mono (by have := g5.size; simp; omega))
  clear hb6 p1 p2 p3 p4 p5 p6
  obtain ⟨⟨p1, p2, _⟩, p3, p4⟩ := u3
  go_wp2
  refine bodyPost_ret (v := .tuple #[.agg #[.int .i64 a3, .int .i64 b3], .int .i64 c]) (by simp [results, Try.results24, go_sem, p1, p2]) rfl ⟨rfl, ?_⟩
  have z : w.heap.size ≤ w.heap.size + 1 + 1 + 1 := by omega
  exact (g6.setCell z _).setCell z _


set_option maxHeartbeats 3200000 in
theorem implMix_sub (n1 d1 n2 d2 n3 d3 a b c : Int) (w : World) (h5 : -9223372036854775808 ≤ n3 ∧ n3 ≤ 9223372036854775807) (h6 : -9223372036854775808 ≤ d3 ∧ d3 ≤ 9223372036854775807) (v3 : validB n3 d3 = true)
    (cs : ∀ w, Calls Try.prog 39 #[.agg #[.int .i64 n2, .int .i64 d2], .agg #[.int .i64 n1, .int .i64 d1]] w (TriRet a b c w)) (hc : ¬ c = 0) :
    Calls Try.prog 25 #[.agg #[.int .i64 n1, .int .i64 d1], .agg #[.int .i64 n2, .int .i64 d2], .agg #[.int .i64 n3, .int .i64 d3]] w (TriRet 0 0 c w) := by
  have V3 := Lib.hid v3
  clear v3
  have CS := Lib.hid cs
  clear cs
  unfold TriRet at CS
  have e1 : (c != 0) = true := by rw [bne_iff_ne]; exact hc
  clear hc
  go_enter Try.func25, Try.ntmps25
  go_wp2_with fail
  refine (implValidFrac_val _ h5 h6 V3.out).mono ?_
  rintro e w1 ⟨rfl, k3, rfl⟩
  go_wp2_with fail
  refine (CS.out _).mono ?_
  rintro e w4 ⟨rfl, hb4⟩
  have f0 : Blk2 w.heap.size n1 d1 w4 := Blk2.below ⟨⟨by simp [go_sem], by simp [go_sem], by first | (simp; done) | (simp; omega)⟩, by simp [go_sem], by simp [go_sem]⟩ hb4
  have f1 : Blk2 (w.heap.size + 1) n2 d2 w4 := Blk2.below ⟨⟨by simp [go_sem], by simp [go_sem], by first | (simp; done) | (simp; omega)⟩, by simp [go_sem], by simp [go_sem]⟩ hb4
  have f2 : Blk2 (w.heap.size + 1 + 1) n3 d3 w4 := Blk2.below ⟨⟨by simp [go_sem], by simp [go_sem], by first | (simp; done) | (simp; omega)⟩, by simp [go_sem], by simp [go_sem]⟩ hb4
  have f3 : Blk2 (w.heap.size + 1 + 1 + 1) 0 0 w4 := Blk2.below ⟨⟨by simp [go_sem], by simp [go_sem], by first | (simp; done) | (simp; omega)⟩, by simp [go_sem], by simp [go_sem]⟩ hb4
  have hz4 : w.heap.size + 1 + 1 + 1 < w4.heap.size := f3.1.lt
  have g4 : Below w.heap.size w w4 := by
    refine Below.trans ?_ (hb4.mono (by simp; omega))
    repeat' (first | exact Below.refl _ _ | (refine Below.setCell ?_ ?_ _) | (refine Below.alloc ?_ ?_ _) | (refine below_dr ?_ _) | exact Nat.le_refl _ | (simp; done) | (simp; omega))
  clear hb4
  obtain ⟨⟨p1, p2, _⟩, p3, p4⟩ := f3
  go_wp2
  refine bodyPost_ret (v := .tuple #[.agg #[.int .i64 0, .int .i64 0], .int .i64 c]) (by simp [results, Try.results25, go_sem, World.cell?_alloc_lt, hz4, p1, p2]) rfl ⟨rfl, ?_⟩
  have z : w.heap.size ≤ w.heap.size + 1 + 1 + 1 := by omega
  exact ((g4.setCell z _).setCell z _).alloc (by have := g4.size; simpa using this) _


set_option maxHeartbeats 3200000 in
theorem implMix_mul (n1 d1 n2 d2 n3 d3 a b a2 b2 c : Int) (w : World) (h5 : -9223372036854775808 ≤ n3 ∧ n3 ≤ 9223372036854775807) (h6 : -9223372036854775808 ≤ d3 ∧ d3 ≤ 9223372036854775807) (v3 : validB n3 d3 = true)
    (cs : ∀ w, Calls Try.prog 39 #[.agg #[.int .i64 n2, .int .i64 d2], .agg #[.int .i64 n1, .int .i64 d1]] w (TriRet a b 0 w))
    (cm : ∀ w, Calls Try.prog 12 #[.agg #[.int .i64 n3, .int .i64 d3], .agg #[.int .i64 a, .int .i64 b]] w (TriRet a2 b2 c w)) (hc : ¬ c = 0) :
    Calls Try.prog 25 #[.agg #[.int .i64 n1, .int .i64 d1], .agg #[.int .i64 n2, .int .i64 d2], .agg #[.int .i64 n3, .int .i64 d3]] w (TriRet 0 0 c w) := by
  have V3 := Lib.hid v3
  clear v3
  have CS := Lib.hid cs
  have CM := Lib.hid cm
  clear cs cm
  unfold TriRet at CS CM
  have e1 : (c != 0) = true := by rw [bne_iff_ne]; exact hc
  clear hc
  go_enter Try.func25, Try.ntmps25
  go_wp2_with fail
  refine (implValidFrac_val _ h5 h6 V3.out).mono ?_
  rintro e w1 ⟨rfl, k3, rfl⟩
  go_wp2_with fail
  refine (CS.out _).mono ?_
  rintro e w4 ⟨rfl, hb4⟩
  have f0 : Blk2 w.heap.size n1 d1 w4 := Blk2.below ⟨⟨by simp [go_sem], by simp [go_sem], by first | (simp; done) | (simp; omega)⟩, by simp [go_sem], by simp [go_sem]⟩ hb4
  have f1 : Blk2 (w.heap.size + 1) n2 d2 w4 := Blk2.below ⟨⟨by simp [go_sem], by simp [go_sem], by first | (simp; done) | (simp; omega)⟩, by simp [go_sem], by simp [go_sem]⟩ hb4
  have f2 : Blk2 (w.heap.size + 1 + 1) n3 d3 w4 := Blk2.below ⟨⟨by simp [go_sem], by simp [go_sem], by first | (simp; done) | (simp; omega)⟩, by simp [go_sem], by simp [go_sem]⟩ hb4
  have f3 : Blk2 (w.heap.size + 1 + 1 + 1) 0 0 w4 := Blk2.below ⟨⟨by simp [go_sem], by simp [go_sem], by first | (simp; done) | (simp; omega)⟩, by simp [go_sem], by simp [go_sem]⟩ hb4
  have hz4 : w.heap.size + 1 + 1 + 1 < w4.heap.size := f3.1.lt
  have g4 : Below w.heap.size w w4 := by
    refine Below.trans ?_ (hb4.mono (by simp; omega))
    repeat' (first | exact Below.refl _ _ | (refine Below.setCell ?_ ?_ _) | (refine Below.alloc ?_ ?_ _) | (refine below_dr ?_ _) | exact Nat.le_refl _ | (simp; done) | (simp; omega))
  clear hb4
  have y0 := f0
  have y1 := f1
  have y2 := f2
  have y3 := f3
  obtain ⟨⟨p1, p2, _⟩, p3, p4⟩ := y3
  obtain ⟨⟨p5, p6, _⟩, p7, p8⟩ := y2
  obtain ⟨⟨p9, p10, _⟩, _, _⟩ := y0
  clear y1
  go_wp2_with fail
  refine (CM.out _).mono ?_
  rintro e w5 ⟨rfl, hb5⟩
  have x0 : Blk2 w.heap.size n1 d1 w5 := (f0.alloc _).below hb5
  have x1 : Blk2 (w.heap.size + 1) n2 d2 w5 := (f1.alloc _).below hb5
  have x2 : Blk2 (w.heap.size + 1 + 1) n3 d3 w5 := (f2.alloc _).below hb5
  have x3 : Blk2 (w.heap.size + 1 + 1 + 1) 0 0 w5 := (f3.alloc _).below hb5
  have x4 : Blk2 w4.heap.size a b w5 := (Blk2.new w4 a b _).below hb5
  have hz5 : w4.heap.size < w5.heap.size := x4.1.lt
  have g5 : Below w.heap.size w w5 := (g4.alloc g4.size _).trans (hb5.mono (by have := g4.size; simp; omega))
  clear hb5 p1 p2 p3 p4 p5 p6 p7 p8 p9 p10
  obtain ⟨⟨p1, p2, _⟩, p3, p4⟩ := x3
  obtain ⟨⟨p5, p6, _⟩, p7, p8⟩ := x4
  have hz6 : w.heap.size + 1 + 1 + 1 < w5.heap.size := by omega
  go_wp2
  refine bodyPost_ret (v := .tuple #[.agg #[.int .i64 0, .int .i64 0], .int .i64 c]) (by simp [results, Try.results25, go_sem, World.cell?_alloc_lt, hz6, p1, p2]) rfl ⟨rfl, ?_⟩
  have z : w.heap.size ≤ w.heap.size + 1 + 1 + 1 := by omega
  have z2 : w.heap.size ≤ w4.heap.size := by omega
  exact ((g5.setCell z _).setCell z _).alloc (by have := g5.size; simpa using this) _


set_option maxHeartbeats 3200000 in
theorem implMix_add (n1 d1 n2 d2 n3 d3 a b a2 b2 a3 b3 c : Int) (w : World) (h5 : -9223372036854775808 ≤ n3 ∧ n3 ≤ 9223372036854775807) (h6 : -9223372036854775808 ≤ d3 ∧ d3 ≤ 9223372036854775807) (v3 : validB n3 d3 = true)
    (cs : ∀ w, Calls Try.prog 39 #[.agg #[.int .i64 n2, .int .i64 d2], .agg #[.int .i64 n1, .int .i64 d1]] w (TriRet a b 0 w))
    (cm : ∀ w, Calls Try.prog 12 #[.agg #[.int .i64 n3, .int .i64 d3], .agg #[.int .i64 a, .int .i64 b]] w (TriRet a2 b2 0 w))
    (ca : ∀ w, Calls Try.prog 40 #[.agg #[.int .i64 n1, .int .i64 d1], .agg #[.int .i64 a2, .int .i64 b2]] w (TriRet a3 b3 c w)) :
    Calls Try.prog 25 #[.agg #[.int .i64 n1, .int .i64 d1], .agg #[.int .i64 n2, .int .i64 d2], .agg #[.int .i64 n3, .int .i64 d3]] w (TriRet a3 b3 c w) := by
  have V3 := Lib.hid v3
  clear v3
  have CS := Lib.hid cs
  have CM := Lib.hid cm
  have CA := Lib.hid ca
  clear cs cm ca
  unfold TriRet at CS CM CA
  go_enter Try.func25, Try.ntmps25
  go_wp2_with fail
  refine (implValidFrac_val _ h5 h6 V3.out).mono ?_
  rintro e w1 ⟨rfl, k3, rfl⟩
  go_wp2_with fail
  refine (CS.out _).mono ?_
  rintro e w4 ⟨rfl, hb4⟩
  have f0 : Blk2 w.heap.size n1 d1 w4 := Blk2.below ⟨⟨by simp [go_sem], by simp [go_sem], by first | (simp; done) | (simp; omega)⟩, by simp [go_sem], by simp [go_sem]⟩ hb4
  have f1 : Blk2 (w.heap.size + 1) n2 d2 w4 := Blk2.below ⟨⟨by simp [go_sem], by simp [go_sem], by first | (simp; done) | (simp; omega)⟩, by simp [go_sem], by simp [go_sem]⟩ hb4
  have f2 : Blk2 (w.heap.size + 1 + 1) n3 d3 w4 := Blk2.below ⟨⟨by simp [go_sem], by simp [go_sem], by first | (simp; done) | (simp; omega)⟩, by simp [go_sem], by simp [go_sem]⟩ hb4
  have f3 : Blk2 (w.heap.size + 1 + 1 + 1) 0 0 w4 := Blk2.below ⟨⟨by simp [go_sem], by simp [go_sem], by first | (simp; done) | (simp; omega)⟩, by simp [go_sem], by simp [go_sem]⟩ hb4
  have hz4 : w.heap.size + 1 + 1 + 1 < w4.heap.size := f3.1.lt
  have g4 : Below w.heap.size w w4 := by
    refine Below.trans ?_ (hb4.mono (by simp; omega))
    repeat' (first | exact Below.refl _ _ | (refine Below.setCell ?_ ?_ _) | (refine Below.alloc ?_ ?_ _) | (refine below_dr ?_ _) | exact Nat.le_refl _ | (simp; done) | (simp; omega))
  clear hb4
  have y0 := f0
  have y1 := f1
  have y2 := f2
  have y3 := f3
  obtain ⟨⟨p1, p2, _⟩, p3, p4⟩ := y3
  obtain ⟨⟨p5, p6, _⟩, p7, p8⟩ := y2
  obtain ⟨⟨p9, p10, _⟩, _, _⟩ := y0
  clear y1
  go_wp2_with fail
  refine (CM.out _).mono ?_
  rintro e w5 ⟨rfl, hb5⟩
  have x0 : Blk2 w.heap.size n1 d1 w5 := (f0.alloc _).below hb5
  have x1 : Blk2 (w.heap.size + 1) n2 d2 w5 := (f1.alloc _).below hb5
  have x2 : Blk2 (w.heap.size + 1 + 1) n3 d3 w5 := (f2.alloc _).below hb5
  have x3 : Blk2 (w.heap.size + 1 + 1 + 1) 0 0 w5 := (f3.alloc _).below hb5
  have x4 : Blk2 w4.heap.size a b w5 := (Blk2.new w4 a b _).below hb5
  have hz5 : w4.heap.size < w5.heap.size := x4.1.lt
  have g5 : Below w.heap.size w w5 := (g4.alloc g4.size _).trans (hb5.mono (by have := g4.size; simp; omega))
  clear hb5 p1 p2 p3 p4 p5 p6 p7 p8 p9 p10
  have y0 := x0
  have y4 := x4
  obtain ⟨⟨p1, p2, _⟩, p3, p4⟩ := y4
  obtain ⟨⟨p5, p6, _⟩, _, _⟩ := y0
  go_wp2_with fail
  refine (CA.out _).mono ?_
  rintro e w6 ⟨rfl, hb6⟩
  have hz7 : w.heap.size + 1 + 1 + 1 < w6.heap.size := by have := hb6.size; simp at this; omega
  have u3 : Blk2 (w.heap.size + 1 + 1 + 1) 0 0 w6 := Blk2.below (x3.alloc _) hb6
  have g6 : Below w.heap.size w w6 := Below.trans (g5.alloc g5.size _) (hb6.mono (by have := g5.size; simp; omega))
  clear hb6 p1 p2 p3 p4 p5 p6
  obtain ⟨⟨p1, p2, _⟩, p3, p4⟩ := u3
  go_wp2
  refine bodyPost_ret (v := .tuple #[.agg #[.int .i64 a3, .int .i64 b3], .int .i64 c]) (by simp [results, Try.results25, go_sem, p1, p2]) rfl ⟨rfl, ?_⟩
  have z : w.heap.size ≤ w.heap.size + 1 + 1 + 1 := by omega
  exact (g6.setCell z _).setCell z _


set_option maxHeartbeats 1600000 in
theorem specMix_bad1 (n1 d1 n2 d2 n3 d3 : Int) (w : World) (h1 : -9223372036854775808 ≤ n1 ∧ n1 ≤ 9223372036854775807) (h2 : -9223372036854775808 ≤ d1 ∧ d1 ≤ 9223372036854775807) (v1 : validB n1 d1 = false) :
    Calls Try.prog 24 #[.agg #[.int .i64 n1, .int .i64 d1], .agg #[.int .i64 n2, .int .i64 d2], .agg #[.int .i64 n3, .int .i64 d3]] w (TriRet 0 0 1 w) := by
  have V1 := Lib.hid v1
  clear v1
  go_enter Try.func24, Try.ntmps24
  go_wp2_with fail
  refine (l02Ok_val _ h1 h2 V1.out).mono ?_
  rintro e w1 ⟨rfl, kkV1, rfl⟩
  go_wp2
  refine bodyPost_ret (v := .tuple #[.agg #[.int .i64 0, .int .i64 0], .int .i64 1]) (by simp [results, Try.results24, go_sem]) rfl ⟨rfl, ?_⟩
  repeat' (first | exact Below.refl _ _ | (refine Below.setCell ?_ ?_ _) | (refine Below.alloc ?_ ?_ _) | (refine below_dr ?_ _) | exact Nat.le_refl _ | (simp; done) | (simp; omega))


set_option maxHeartbeats 1600000 in
theorem specMix_bad2 (n1 d1 n2 d2 n3 d3 : Int) (w : World) (h1 : -9223372036854775808 ≤ n1 ∧ n1 ≤ 9223372036854775807) (h2 : -9223372036854775808 ≤ d1 ∧ d1 ≤ 9223372036854775807) (h3 : -9223372036854775808 ≤ n2 ∧ n2 ≤ 9223372036854775807) (h4 : -9223372036854775808 ≤ d2 ∧ d2 ≤ 9223372036854775807) (v1 : validB n1 d1 = true) (v2 : validB n2 d2 = false) :
    Calls Try.prog 24 #[.agg #[.int .i64 n1, .int .i64 d1], .agg #[.int .i64 n2, .int .i64 d2], .agg #[.int .i64 n3, .int .i64 d3]] w (TriRet 0 0 1 w) := by
  have V1 := Lib.hid v1; have V2 := Lib.hid v2
  clear v1 v2
  go_enter Try.func24, Try.ntmps24
  go_wp2_with fail
  refine (l02Ok_val _ h1 h2 V1.out).mono ?_
  rintro e w1 ⟨rfl, kkV1, rfl⟩
  go_wp2_with fail
  refine (l02Ok_val _ h3 h4 V2.out).mono ?_
  rintro e w1 ⟨rfl, kkV2, rfl⟩
  go_wp2
  refine bodyPost_ret (v := .tuple #[.agg #[.int .i64 0, .int .i64 0], .int .i64 1]) (by simp [results, Try.results24, go_sem]) rfl ⟨rfl, ?_⟩
  repeat' (first | exact Below.refl _ _ | (refine Below.setCell ?_ ?_ _) | (refine Below.alloc ?_ ?_ _) | (refine below_dr ?_ _) | exact Nat.le_refl _ | (simp; done) | (simp; omega))


set_option maxHeartbeats 1600000 in
theorem specMix_bad3 (n1 d1 n2 d2 n3 d3 : Int) (w : World) (h1 : -9223372036854775808 ≤ n1 ∧ n1 ≤ 9223372036854775807) (h2 : -9223372036854775808 ≤ d1 ∧ d1 ≤ 9223372036854775807) (h3 : -9223372036854775808 ≤ n2 ∧ n2 ≤ 9223372036854775807) (h4 : -9223372036854775808 ≤ d2 ∧ d2 ≤ 9223372036854775807) (h5 : -9223372036854775808 ≤ n3 ∧ n3 ≤ 9223372036854775807) (h6 : -9223372036854775808 ≤ d3 ∧ d3 ≤ 9223372036854775807) (v1 : validB n1 d1 = true) (v2 : validB n2 d2 = true) (v3 : validB n3 d3 = false) :
    Calls Try.prog 24 #[.agg #[.int .i64 n1, .int .i64 d1], .agg #[.int .i64 n2, .int .i64 d2], .agg #[.int .i64 n3, .int .i64 d3]] w (TriRet 0 0 1 w) := by
  have V1 := Lib.hid v1; have V2 := Lib.hid v2; have V3 := Lib.hid v3
  clear v1 v2 v3
  go_enter Try.func24, Try.ntmps24
  go_wp2_with fail
  refine (l02Ok_val _ h1 h2 V1.out).mono ?_
  rintro e w1 ⟨rfl, kkV1, rfl⟩
  go_wp2_with fail
  refine (l02Ok_val _ h3 h4 V2.out).mono ?_
  rintro e w1 ⟨rfl, kkV2, rfl⟩
  go_wp2_with fail
  refine (l02Ok_val _ h5 h6 V3.out).mono ?_
  rintro e w1 ⟨rfl, kkV3, rfl⟩
  go_wp2
  refine bodyPost_ret (v := .tuple #[.agg #[.int .i64 0, .int .i64 0], .int .i64 1]) (by simp [results, Try.results24, go_sem]) rfl ⟨rfl, ?_⟩
  repeat' (first | exact Below.refl _ _ | (refine Below.setCell ?_ ?_ _) | (refine Below.alloc ?_ ?_ _) | (refine below_dr ?_ _) | exact Nat.le_refl _ | (simp; done) | (simp; omega))


set_option maxHeartbeats 1600000 in
theorem implMix_bad3 (n1 d1 n2 d2 n3 d3 : Int) (w : World) (h5 : -9223372036854775808 ≤ n3 ∧ n3 ≤ 9223372036854775807) (h6 : -9223372036854775808 ≤ d3 ∧ d3 ≤ 9223372036854775807) (v3 : validB n3 d3 = false) :
    Calls Try.prog 25 #[.agg #[.int .i64 n1, .int .i64 d1], .agg #[.int .i64 n2, .int .i64 d2], .agg #[.int .i64 n3, .int .i64 d3]] w (TriRet 0 0 1 w) := by
  have V3 := Lib.hid v3
  clear v3
  go_enter Try.func25, Try.ntmps25
  go_wp2_with fail
  refine (implValidFrac_val _ h5 h6 V3.out).mono ?_
  rintro e w1 ⟨rfl, kkV3, rfl⟩
  go_wp2
  refine bodyPost_ret (v := .tuple #[.agg #[.int .i64 0, .int .i64 0], .int .i64 1]) (by simp [results, Try.results25, go_sem]) rfl ⟨rfl, ?_⟩
  repeat' (first | exact Below.refl _ _ | (refine Below.setCell ?_ ?_ _) | (refine Below.alloc ?_ ?_ _) | (refine below_dr ?_ _) | exact Nat.le_refl _ | (simp; done) | (simp; omega))


theorem specMix_bad (n1 d1 n2 d2 n3 d3 : Int) (h1 : -9223372036854775808 ≤ n1 ∧ n1 ≤ 9223372036854775807) (h2 : -9223372036854775808 ≤ d1 ∧ d1 ≤ 9223372036854775807) (h3 : -9223372036854775808 ≤ n2 ∧ n2 ≤ 9223372036854775807) (h4 : -9223372036854775808 ≤ d2 ∧ d2 ≤ 9223372036854775807) (h5 : -9223372036854775808 ≤ n3 ∧ n3 ≤ 9223372036854775807) (h6 : -9223372036854775808 ≤ d3 ∧ d3 ≤ 9223372036854775807) (h : ¬ (validB n1 d1 = true ∧ validB n2 d2 = true ∧ validB n3 d3 = true)) (w : World) :
    Calls Try.prog 24 #[.agg #[.int .i64 n1, .int .i64 d1], .agg #[.int .i64 n2, .int .i64 d2], .agg #[.int .i64 n3, .int .i64 d3]] w (TriRet 0 0 1 w) := by
  cases v1 : validB n1 d1
  · exact specMix_bad1 n1 d1 n2 d2 n3 d3 w h1 h2 v1
  cases v2 : validB n2 d2
  · exact specMix_bad2 n1 d1 n2 d2 n3 d3 w h1 h2 h3 h4 v1 v2
  cases v3 : validB n3 d3
  · exact specMix_bad3 n1 d1 n2 d2 n3 d3 w h1 h2 h3 h4 h5 h6 v1 v2 v3
  · exact absurd ⟨v1, v2, v3⟩ h
theorem opC_false (x y : Int) : opC false x y = 1 := rfl

/-- Both sides give the same three numbers. -/
theorem mix_both (n1 d1 n2 d2 n3 d3 : Int) (h1 : -9223372036854775808 ≤ n1 ∧ n1 ≤ 9223372036854775807) (h2 : -9223372036854775808 ≤ d1 ∧ d1 ≤ 9223372036854775807) (h3 : -9223372036854775808 ≤ n2 ∧ n2 ≤ 9223372036854775807) (h4 : -9223372036854775808 ≤ d2 ∧ d2 ≤ 9223372036854775807) (h5 : -9223372036854775808 ≤ n3 ∧ n3 ≤ 9223372036854775807) (h6 : -9223372036854775808 ≤ d3 ∧ d3 ≤ 9223372036854775807) : ∃ x y z : Int,
    (∀ w, Calls Try.prog 24 #[.agg #[.int .i64 n1, .int .i64 d1], .agg #[.int .i64 n2, .int .i64 d2], .agg #[.int .i64 n3, .int .i64 d3]] w (TriRet x y z w)) ∧ (∀ w, Calls Try.prog 25 #[.agg #[.int .i64 n1, .int .i64 d1], .agg #[.int .i64 n2, .int .i64 d2], .agg #[.int .i64 n3, .int .i64 d3]] w (TriRet x y z w)) := by
  cases v3 : validB n3 d3
  · exact ⟨0, 0, 1, specMix_bad n1 d1 n2 d2 n3 d3 h1 h2 h3 h4 h5 h6 (fun h => by rw [v3] at h; exact absurd h.2.2 (by simp)), fun w => implMix_bad3 n1 d1 n2 d2 n3 d3 w h5 h6 v3⟩
  have cs1 : ∀ w, Calls Try.prog 37 #[.agg #[.int .i64 n2, .int .i64 d2], .agg #[.int .i64 n1, .int .i64 d1]] w (TriRet (opN (validB n2 d2 && validB n1 d1) (n2 * d1 - n1 * d2) (d2 * d1)) (opD (validB n2 d2 && validB n1 d1) (n2 * d1 - n1 * d2) (d2 * d1)) (opC (validB n2 d2 && validB n1 d1) (n2 * d1 - n1 * d2) (d2 * d1)) w) := fun w => specSub_any n2 d2 n1 d1 w h3 h4 h1 h2
  have cs2 : ∀ w, Calls Try.prog 39 #[.agg #[.int .i64 n2, .int .i64 d2], .agg #[.int .i64 n1, .int .i64 d1]] w (TriRet (opN (validB n2 d2 && validB n1 d1) (n2 * d1 - n1 * d2) (d2 * d1)) (opD (validB n2 d2 && validB n1 d1) (n2 * d1 - n1 * d2) (d2 * d1)) (opC (validB n2 d2 && validB n1 d1) (n2 * d1 - n1 * d2) (d2 * d1)) w) := fun w => implSub_any n2 d2 n1 d1 w h3 h4 h1 h2
  have ob := op_bounds (validB n2 d2 && validB n1 d1) (n2 * d1 - n1 * d2) (d2 * d1)
  have hbad : ¬ (validB n1 d1 = true ∧ validB n2 d2 = true) → opC (validB n2 d2 && validB n1 d1) (n2 * d1 - n1 * d2) (d2 * d1) = 1 := by
    intro h
    have : (validB n2 d2 && validB n1 d1) = false := by
      cases e1 : validB n1 d1 <;> cases e2 : validB n2 d2 <;> simp_all
    rw [this]; rfl
  generalize opN (validB n2 d2 && validB n1 d1) (n2 * d1 - n1 * d2) (d2 * d1) = a at cs1 cs2 ob
  generalize opD (validB n2 d2 && validB n1 d1) (n2 * d1 - n1 * d2) (d2 * d1) = b at cs1 cs2 ob
  generalize opC (validB n2 d2 && validB n1 d1) (n2 * d1 - n1 * d2) (d2 * d1) = c at cs1 cs2 hbad
  by_cases hv : validB n1 d1 = true ∧ validB n2 d2 = true
  · obtain ⟨v1, v2⟩ := hv
    by_cases hc : c = 0
    · subst hc
      have cm1 : ∀ w, Calls Try.prog 10 #[.agg #[.int .i64 n3, .int .i64 d3], .agg #[.int .i64 a, .int .i64 b]] w (TriRet (opN (validB n3 d3 && validB a b) (n3 * a) (d3 * b)) (opD (validB n3 d3 && validB a b) (n3 * a) (d3 * b)) (opC (validB n3 d3 && validB a b) (n3 * a) (d3 * b)) w) := fun w => specMul_any n3 d3 a b w h5 h6 (by omega) (by omega)
      have cm2 : ∀ w, Calls Try.prog 12 #[.agg #[.int .i64 n3, .int .i64 d3], .agg #[.int .i64 a, .int .i64 b]] w (TriRet (opN (validB n3 d3 && validB a b) (n3 * a) (d3 * b)) (opD (validB n3 d3 && validB a b) (n3 * a) (d3 * b)) (opC (validB n3 d3 && validB a b) (n3 * a) (d3 * b)) w) := fun w => implMul_any n3 d3 a b w h5 h6 (by omega) (by omega)
      have ob2 := op_bounds (validB n3 d3 && validB a b) (n3 * a) (d3 * b)
      generalize opN (validB n3 d3 && validB a b) (n3 * a) (d3 * b) = a2 at cm1 cm2 ob2
      generalize opD (validB n3 d3 && validB a b) (n3 * a) (d3 * b) = b2 at cm1 cm2 ob2
      generalize opC (validB n3 d3 && validB a b) (n3 * a) (d3 * b) = c2 at cm1 cm2
      by_cases hc2 : c2 = 0
      · subst hc2
        exact ⟨_, _, _, fun w => specMix_add n1 d1 n2 d2 n3 d3 a b a2 b2 _ _ _ w h1 h2 h3 h4 h5 h6 v1 v2 v3 cs1 cm1 (fun w => specAdd_any n1 d1 a2 b2 w h1 h2 (by omega) (by omega)),
          fun w => implMix_add n1 d1 n2 d2 n3 d3 a b a2 b2 _ _ _ w h5 h6 v3 cs2 cm2 (fun w => implAdd_any n1 d1 a2 b2 w h1 h2 (by omega) (by omega))⟩
      · exact ⟨0, 0, c2, fun w => specMix_mul n1 d1 n2 d2 n3 d3 a b a2 b2 c2 w h1 h2 h3 h4 h5 h6 v1 v2 v3 cs1 cm1 hc2, fun w => implMix_mul n1 d1 n2 d2 n3 d3 a b a2 b2 c2 w h5 h6 v3 cs2 cm2 hc2⟩
    · exact ⟨0, 0, c, fun w => specMix_sub n1 d1 n2 d2 n3 d3 a b c w h1 h2 h3 h4 h5 h6 v1 v2 v3 cs1 hc, fun w => implMix_sub n1 d1 n2 d2 n3 d3 a b c w h5 h6 v3 cs2 hc⟩
  · have e := hbad hv
    subst e
    exact ⟨0, 0, 1, specMix_bad n1 d1 n2 d2 n3 d3 h1 h2 h3 h4 h5 h6 (fun h => hv ⟨h.1, h.2.1⟩), fun w => implMix_sub n1 d1 n2 d2 n3 d3 a b 1 w h5 h6 v3 cs2 (by omega)⟩

end Go.Proofs.Ytaphkogdcmnnbab
