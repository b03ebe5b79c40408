/- Contracts: a row times a column, said with numbers; the function that multiplies; negatives; the program's determinant. -/
import Derived.Test.YtjlmoadnbbeloaaCl
import Derived.Test.YtjlmoadnbbeloaaQf2
namespace Go.Proofs.Ytjlmoadnbbeloaa
open Go.RowKit

theorem frozen_drew_at (w : World) (a : Addr) : w.drew.frozen? a = w.frozen? a := rfl
theorem frozen_alloc_at (w : World) (o : Obj) {b i : Nat} (h : b < w.heap.size) : (w.alloc o).frozen? ⟨b, i, none⟩ = w.frozen? ⟨b, i, none⟩ := World.frozen?_alloc_old _ _ _ (by simp only; omega)
theorem row_lt {g : Nat} (W : World) (o o' : Obj) (h : g = W.heap.size) : g < ((W.alloc o).alloc o').drew.heap.size := by
  subst h; simp only [World.size_drew, World.size_alloc]; omega
section
variable {g : Nat} {a0 a1 a2 a3 a4 a5 : Value} {t : TypeId}
theorem row_c0 (W : World) (o : Obj) (h : g = W.heap.size) : ((W.alloc (.cells #[a0, a1, a2, a3, a4, a5] t)).alloc o).drew.cell? ⟨g, 0, none⟩ = some a0 := by
  subst h; simp [go_sem]
theorem row_c1 (W : World) (o : Obj) (h : g = W.heap.size) : ((W.alloc (.cells #[a0, a1, a2, a3, a4, a5] t)).alloc o).drew.cell? ⟨g, 1, none⟩ = some a1 := by
  subst h; simp [go_sem]
theorem row_c2 (W : World) (o : Obj) (h : g = W.heap.size) : ((W.alloc (.cells #[a0, a1, a2, a3, a4, a5] t)).alloc o).drew.cell? ⟨g, 2, none⟩ = some a2 := by
  subst h; simp [go_sem]
theorem row_c3 (W : World) (o : Obj) (h : g = W.heap.size) : ((W.alloc (.cells #[a0, a1, a2, a3, a4, a5] t)).alloc o).drew.cell? ⟨g, 3, none⟩ = some a3 := by
  subst h; simp [go_sem]
theorem row_c4 (W : World) (o : Obj) (h : g = W.heap.size) : ((W.alloc (.cells #[a0, a1, a2, a3, a4, a5] t)).alloc o).drew.cell? ⟨g, 4, none⟩ = some a4 := by
  subst h; simp [go_sem]
theorem row_c5 (W : World) (o : Obj) (h : g = W.heap.size) : ((W.alloc (.cells #[a0, a1, a2, a3, a4, a5] t)).alloc o).drew.cell? ⟨g, 5, none⟩ = some a5 := by
  subst h; simp [go_sem]
end
theorem over1_v (n0 d0 n1 d1 n2 d2 x0 y0 x1 y1 x2 y2 : Int) (rb : Nat) (w : World) (v0 : validB n0 d0 = true) (v1 : validB n1 d1 = true) (v2 : validB n2 d2 = true) (u0 : validB x0 y0 = true) (u1 : validB x1 y1 = true) (u2 : validB x2 y2 = true) (hb : rb < w.heap.size) (c0 : w.cell? ⟨rb, 0, none⟩ = some (.int .i64 n0)) (c1 : w.cell? ⟨rb, 1, none⟩ = some (.int .i64 d0)) (c2 : w.cell? ⟨rb, 2, none⟩ = some (.int .i64 n1)) (c3 : w.cell? ⟨rb, 3, none⟩ = some (.int .i64 d1)) (c4 : w.cell? ⟨rb, 4, none⟩ = some (.int .i64 n2)) (c5 : w.cell? ⟨rb, 5, none⟩ = some (.int .i64 d2)) :
    Calls Try.prog 68 #[.agg #[.int .i64 x0, .int .i64 y0, .int .i64 x1, .int .i64 y1, .int .i64 x2, .int .i64 y2], .pointer (some ⟨rb, 0, none⟩)] w (FRet (plusF (twoF n0 d0 x0 y0 n1 d1 x1 y1) (mulF n2 d2 x2 y2)) w) := by
  have h := over1_any (fun i => [n0, n1, n2].getD i 0) (fun i => [d0, d1, d2].getD i 0) (fun i => [x0, x1, x2].getD i 0) (fun i => [y0, y1, y2].getD i 0) rb w (by
    intro i hi
    match i, hi with
    | 0, _ => exact v0
    | 1, _ => exact v1
    | 2, _ => exact v2) (by
    intro i hi
    match i, hi with
    | 0, _ => exact u0
    | 1, _ => exact u1
    | 2, _ => exact u2) hb c0 c1 c2 c3 c4 c5
  rw [accF_three] at h
  exact h
theorem overRow_x (n0 d0 n1 d1 n2 d2 : Int) (w : World) :
    Calls Try.prog 40 #[.agg #[.int .i64 n0, .int .i64 d0, .int .i64 n1, .int .i64 d1, .int .i64 n2, .int .i64 d2]] w fun e w' => e = .returned (.func (.func 68) #[] #[.pointer (some ⟨w.heap.size, 0, none⟩)]) ∧ w' = w.alloc (.cells #[.int .i64 n0, .int .i64 d0, .int .i64 n1, .int .i64 d1, .int .i64 n2, .int .i64 d2] 66) := by
  go_enter Try.func40, Try.ntmps40
  go_wp2
  go_ret
  exact ⟨rfl, rfl⟩
set_option maxHeartbeats 800000 in
theorem l04Neg_x (a b : Int) (w : World) (h : validB a b = true) :
    Calls Try.prog 31 #[.agg #[.int .i64 a, .int .i64 b]] w fun e w' => e = .returned (.agg #[.int .i64 (-a), .int .i64 b]) ∧ w' = (w.alloc (.cells #[.int .i64 a, .int .i64 b] 26)).alloc (.cells #[.int .i64 (-a), .int .i64 b] 26) := by
  obtain ⟨_, _, h3, h4, _⟩ := validB_bounds h
  clear h
  go_enter Try.func31, Try.ntmps31
  go_wp2
  exact bodyPost_ret (v := .agg #[.int .i64 (-a), .int .i64 b]) (by simp [results, Try.results31, go_sem]) rfl ⟨rfl, rfl⟩
set_option maxHeartbeats 800000 in
theorem negative_x (a b : Int) (w : World) (h : validB a b = true) :
    Calls Try.prog 38 #[.agg #[.int .i64 a, .int .i64 b]] w fun e w' => e = .returned (.agg #[.int .i64 (-a), .int .i64 b]) ∧ w' = (w.alloc (.cells #[.int .i64 a, .int .i64 b] 26)).alloc (.cells #[.int .i64 (-a), .int .i64 b] 26) := by
  obtain ⟨_, _, h3, h4, _⟩ := validB_bounds h
  clear h
  go_enter Try.func38, Try.ntmps38
  go_wp2
  exact bodyPost_ret (v := .agg #[.int .i64 (-a), .int .i64 b]) (by simp [results, Try.results38, go_sem]) rfl ⟨rfl, rfl⟩
/-- A fraction and a code are handed back; ErrInvalid where an argument is not valid. -/
def GRet (v : Bool) (o : OF) (w : World) (e : Ending) (w' : World) : Prop := e = .returned (.tuple #[.agg #[.int .i64 (bif v then oN o else 0), .int .i64 (bif v then oD o else 0)], .int .i64 (bif v then oC o else 1)]) ∧ Below w.heap.size w w'
theorem GRet.no {v : Bool} {o : OF} {w w' : World} (h : v = false) (hb : Below w.heap.size w w') : GRet v o w (.returned (.tuple #[.agg #[.int .i64 0, .int .i64 0], .int .i64 1])) w' := by
  subst h; exact ⟨rfl, hb⟩
theorem GRet.yes {v : Bool} {o : OF} {a b c : Int} {w w' : World} (h : v = true) (h1 : oN o = a) (h2 : oD o = b) (h3 : oC o = c) (hb : Below w.heap.size w w') : GRet v o w (.returned (.tuple #[.agg #[.int .i64 a, .int .i64 b], .int .i64 c])) w' := by
  subst h; subst h1; subst h2; subst h3; exact ⟨rfl, hb⟩
theorem validA_parts {m0 m1 m2 m3 m4 m5 m6 m7 m8 m9 m10 m11 : Int} (h : validA m0 m1 m2 m3 m4 m5 m6 m7 m8 m9 m10 m11 = true) : validB m0 m1 = true ∧ validB m2 m3 = true ∧ validB m4 m5 = true ∧ validB m6 m7 = true ∧ validB m8 m9 = true ∧ validB m10 m11 = true := by
  simpa [validA, and_assoc] using h
theorem det_three (a b c d e f g h : Int) : plusF (twoF a b c d e f g h) (mulF 0 1 0 1) = twoF a b c d e f g h := by
  rw [mulF_zero_r (by decide), plusF_zero_r (plusF_ok2 _ _ _ _ _ _ _ _)]
def detF (m0 m1 m2 m3 m4 m5 m6 m7 : Int) : OF := twoF m0 m1 m6 m7 (-m2) m3 m4 m5
set_option maxHeartbeats 6400000 in
theorem implDet_any (m0 m1 m2 m3 m4 m5 m6 m7 m8 m9 m10 m11 : Int) (w : World) (h0 : -9223372036854775808 ≤ m0 ∧ m0 ≤ 9223372036854775807) (h1 : -9223372036854775808 ≤ m1 ∧ m1 ≤ 9223372036854775807) (h2 : -9223372036854775808 ≤ m2 ∧ m2 ≤ 9223372036854775807) (h3 : -9223372036854775808 ≤ m3 ∧ m3 ≤ 9223372036854775807) (h4 : -9223372036854775808 ≤ m4 ∧ m4 ≤ 9223372036854775807) (h5 : -9223372036854775808 ≤ m5 ∧ m5 ≤ 9223372036854775807) (h6 : -9223372036854775808 ≤ m6 ∧ m6 ≤ 9223372036854775807) (h7 : -9223372036854775808 ≤ m7 ∧ m7 ≤ 9223372036854775807) (h8 : -9223372036854775808 ≤ m8 ∧ m8 ≤ 9223372036854775807) (h9 : -9223372036854775808 ≤ m9 ∧ m9 ≤ 9223372036854775807) (h10 : -9223372036854775808 ≤ m10 ∧ m10 ≤ 9223372036854775807) (h11 : -9223372036854775808 ≤ m11 ∧ m11 ≤ 9223372036854775807) :
    Calls Try.prog 35 #[.agg #[.int .i64 m0, .int .i64 m1, .int .i64 m2, .int .i64 m3, .int .i64 m4, .int .i64 m5, .int .i64 m6, .int .i64 m7, .int .i64 m8, .int .i64 m9, .int .i64 m10, .int .i64 m11]] w (GRet (validA m0 m1 m2 m3 m4 m5 m6 m7 m8 m9 m10 m11) (detF m0 m1 m2 m3 m4 m5 m6 m7) w) := by
  have C := Lib.hid (fun w => implValidAffine_any m0 m1 m2 m3 m4 m5 m6 m7 m8 m9 m10 m11 w h0 h1 h2 h3 h4 h5 h6 h7 h8 h9 h10 h11)
  clear h0 h1 h2 h3 h4 h5 h6 h7 h8 h9 h10 h11
  rcases hv : validA m0 m1 m2 m3 m4 m5 m6 m7 m8 m9 m10 m11 with _ | _
  · rw [hv] at C
    clear hv
    go_enter Try.func35, Try.ntmps35
    go_wp2_with fail
    refine (C.out _).mono ?_
    rintro e w1 ⟨rfl, hb1⟩
    obtain ⟨hc1, hf1⟩ := bcell hb1
    have hz1 := hb1.size
    simp only [World.size_alloc] at hz1
    go_wp2
    refine bodyPost_ret (v := .tuple #[.agg #[.int .i64 0, .int .i64 0], .int .i64 1]) (by simp [results, Try.results35, go_sem, hc1]) rfl (GRet.no rfl ?_)
    repeat' (first | with_reducible assumption | with_reducible exact Below.refl _ _ | (with_reducible refine Below.setCell ?_ ?_ _) | (with_reducible refine Below.alloc ?_ ?_ _) | (with_reducible refine Below.drew ?_) | (with_reducible refine below_dr ?_ _) | (with_reducible refine Below.trans ?_ (Below.mono (by with_reducible assumption) ?_)) | omega | (simp; done) | (simp; omega))
  · obtain ⟨p0, p1, p2, p3, p4, p5⟩ := validA_parts hv
    have CN := Lib.hid (fun w => negative_x m2 m3 w p1)
    have CO := Lib.hid (fun rb w hb c0 c1 c2 c3 c4 c5 => over1_v m0 m1 (-m2) m3 0 1 m6 m7 m4 m5 0 1 rb w p0 (neg_valid p1) (by decide) p3 p2 (by decide) hb c0 c1 c2 c3 c4 c5)
    simp only [det_three] at CO
    unfold FRet at CO
    unfold detF
    rw [hv] at C
    clear hv p0 p1 p2 p3 p4 p5
    generalize hon : oN (twoF m0 m1 m6 m7 (-m2) m3 m4 m5) = an at CO
    generalize hod : oD (twoF m0 m1 m6 m7 (-m2) m3 m4 m5) = ad at CO
    generalize hoc : oC (twoF m0 m1 m6 m7 (-m2) m3 m4 m5) = ac at CO
    have HX := Lib.hid (And.intro hon (And.intro hod hoc))
    clear hon hod hoc
    go_enter Try.func35, Try.ntmps35
    go_wp2_with fail
    refine (C.out _).mono ?_
    rintro e w1 ⟨rfl, hbw1⟩
    have g1 : Below w.heap.size w w1 := (by repeat' (first | with_reducible assumption | with_reducible exact Below.refl _ _ | (with_reducible refine Below.setCell ?_ ?_ _) | (with_reducible refine Below.alloc ?_ ?_ _) | (with_reducible refine Below.drew ?_) | (with_reducible refine below_dr ?_ _) | (with_reducible refine Below.trans ?_ (Below.mono (by with_reducible assumption) ?_)) | omega | (simp; done) | (simp; omega)))
    obtain ⟨hcw1, hfw1⟩ := bcell hbw1
    have hzw1 := hbw1.size
    (try simp only [World.size_alloc] at hcw1 hfw1 hzw1)
    have s1 : w1.cell? ⟨w.heap.size, 0, none⟩ = some (.int .i64 m0) := (hcw1 _ _ (by omega)).trans (by first | assumption | (refine (cell_alloc_at _ _ ?_).trans ?_; omega; assumption) | (simp [go_sem]; done) | (simp [go_sem, *]; done))
    have s2 : w1.cell? ⟨w.heap.size, 1, none⟩ = some (.int .i64 m1) := (hcw1 _ _ (by omega)).trans (by first | assumption | (refine (cell_alloc_at _ _ ?_).trans ?_; omega; assumption) | (simp [go_sem]; done) | (simp [go_sem, *]; done))
    have s3 : w1.cell? ⟨w.heap.size, 2, none⟩ = some (.int .i64 m2) := (hcw1 _ _ (by omega)).trans (by first | assumption | (refine (cell_alloc_at _ _ ?_).trans ?_; omega; assumption) | (simp [go_sem]; done) | (simp [go_sem, *]; done))
    have s4 : w1.cell? ⟨w.heap.size, 3, none⟩ = some (.int .i64 m3) := (hcw1 _ _ (by omega)).trans (by first | assumption | (refine (cell_alloc_at _ _ ?_).trans ?_; omega; assumption) | (simp [go_sem]; done) | (simp [go_sem, *]; done))
    have s5 : w1.cell? ⟨w.heap.size, 4, none⟩ = some (.int .i64 m4) := (hcw1 _ _ (by omega)).trans (by first | assumption | (refine (cell_alloc_at _ _ ?_).trans ?_; omega; assumption) | (simp [go_sem]; done) | (simp [go_sem, *]; done))
    have s6 : w1.cell? ⟨w.heap.size, 5, none⟩ = some (.int .i64 m5) := (hcw1 _ _ (by omega)).trans (by first | assumption | (refine (cell_alloc_at _ _ ?_).trans ?_; omega; assumption) | (simp [go_sem]; done) | (simp [go_sem, *]; done))
    have s7 : w1.cell? ⟨w.heap.size, 6, none⟩ = some (.int .i64 m6) := (hcw1 _ _ (by omega)).trans (by first | assumption | (refine (cell_alloc_at _ _ ?_).trans ?_; omega; assumption) | (simp [go_sem]; done) | (simp [go_sem, *]; done))
    have s8 : w1.cell? ⟨w.heap.size, 7, none⟩ = some (.int .i64 m7) := (hcw1 _ _ (by omega)).trans (by first | assumption | (refine (cell_alloc_at _ _ ?_).trans ?_; omega; assumption) | (simp [go_sem]; done) | (simp [go_sem, *]; done))
    have s9 : w1.cell? ⟨w.heap.size, 8, none⟩ = some (.int .i64 m8) := (hcw1 _ _ (by omega)).trans (by first | assumption | (refine (cell_alloc_at _ _ ?_).trans ?_; omega; assumption) | (simp [go_sem]; done) | (simp [go_sem, *]; done))
    have s10 : w1.cell? ⟨w.heap.size, 9, none⟩ = some (.int .i64 m9) := (hcw1 _ _ (by omega)).trans (by first | assumption | (refine (cell_alloc_at _ _ ?_).trans ?_; omega; assumption) | (simp [go_sem]; done) | (simp [go_sem, *]; done))
    have s11 : w1.cell? ⟨w.heap.size, 10, none⟩ = some (.int .i64 m10) := (hcw1 _ _ (by omega)).trans (by first | assumption | (refine (cell_alloc_at _ _ ?_).trans ?_; omega; assumption) | (simp [go_sem]; done) | (simp [go_sem, *]; done))
    have s12 : w1.cell? ⟨w.heap.size, 11, none⟩ = some (.int .i64 m11) := (hcw1 _ _ (by omega)).trans (by first | assumption | (refine (cell_alloc_at _ _ ?_).trans ?_; omega; assumption) | (simp [go_sem]; done) | (simp [go_sem, *]; done))
    have s13 : w1.cell? ⟨w.heap.size + 1, 0, none⟩ = some (.int .i64 0) := (hcw1 _ _ (by omega)).trans (by first | assumption | (refine (cell_alloc_at _ _ ?_).trans ?_; omega; assumption) | (simp [go_sem]; done) | (simp [go_sem, *]; done))
    have s14 : w1.cell? ⟨w.heap.size + 1, 1, none⟩ = some (.int .i64 0) := (hcw1 _ _ (by omega)).trans (by first | assumption | (refine (cell_alloc_at _ _ ?_).trans ?_; omega; assumption) | (simp [go_sem]; done) | (simp [go_sem, *]; done))
    have szq0 : w.heap.size < w1.heap.size := (by omega)
    have sz : w.heap.size + 1 < w1.heap.size := (by omega)
    have fs10 : w1.frozen? ⟨w.heap.size + 1, 0, none⟩ = false := (hfw1 _ _ (by omega)).trans (by first | assumption | (refine (World.frozen?_alloc_old _ _ _ ?_).trans ?_; (simp; omega); assumption) | (simp [go_sem]; done) | (simp [go_sem, *]; done))
    have fs11 : w1.frozen? ⟨w.heap.size + 1, 1, none⟩ = false := (hfw1 _ _ (by omega)).trans (by first | assumption | (refine (World.frozen?_alloc_old _ _ _ ?_).trans ?_; (simp; omega); assumption) | (simp [go_sem]; done) | (simp [go_sem, *]; done))
    clear hcw1 hfw1 hzw1
    go_upto_region 3 with fail
    go_region_held3 (fun w' => (∀ b o, b < w.heap.size + 1 → w'.cell? ⟨b, o, none⟩ = w1.cell? ⟨b, o, none⟩) ∧ (∀ b o, b < w1.heap.size → w'.frozen? ⟨b, o, none⟩ = w1.frozen? ⟨b, o, none⟩) ∧ w1.heap.size ≤ w'.heap.size)
      (first | ((try dsimp only); exact ⟨fun b o h => (by (repeat (first | with_reducible exact rfl | (with_reducible refine (cell_drew_at _ _).trans ?_) | (with_reducible refine (cell_set_at _ _ (by first | omega | (simp; done) | (simp; omega))).trans ?_) | (with_reducible refine (cell_alloc_at _ _ (by first | omega | (simp; done) | (simp; omega))).trans ?_) | (with_reducible refine (hcwF b o (by first | omega | (simp; done) | (simp; omega))).trans ?_)))), fun b o h => (by (repeat (first | with_reducible exact rfl | (with_reducible refine (frozen_drew_at _ _).trans ?_) | (with_reducible refine (World.frozen?_setCell _ _ _ _).trans ?_) | (with_reducible refine (frozen_alloc_at _ _ (by first | omega | (simp; done) | (simp; omega))).trans ?_) | (with_reducible refine (hfwF b o (by first | omega | (simp; done) | (simp; omega))).trans ?_)))), (by first | omega | (simp; done) | (simp; omega))⟩) | fail)
      (first
        | (go_at_call 38; (with_reducible refine (CN.out _).mono ?_); rintro e wN ⟨rfl, rfl⟩)
        | (go_at_call 36; (with_reducible refine (whole_any _ _).mono ?_); rintro e wW ⟨rfl, rfl⟩)
        | (go_at_call 40; (with_reducible refine (overRow_x _ _ _ _ _ _ _).mono ?_); rintro e wO ⟨rfl, rfl⟩)
        | (go_at_call 68; (with_reducible refine (CO.out _ _ ?_ ?_ ?_ ?_ ?_ ?_ ?_).mono ?_); (with_reducible exact row_lt _ _ _ (by simp only [World.size_alloc])); (with_reducible exact row_c0 _ _ (by simp only [World.size_alloc])); (with_reducible exact row_c1 _ _ (by simp only [World.size_alloc])); (with_reducible exact row_c2 _ _ (by simp only [World.size_alloc])); (with_reducible exact row_c3 _ _ (by simp only [World.size_alloc])); (with_reducible exact row_c4 _ _ (by simp only [World.size_alloc])); (with_reducible exact row_c5 _ _ (by simp only [World.size_alloc])); rintro e wF ⟨rfl, hbF⟩; obtain ⟨hcwF, hfwF⟩ := bcell hbF; have hzF := hbF.size; (try simp only [World.size_drew] at hcwF hfwF hzF); (try simp only [World.size_alloc] at hcwF hfwF hzF); have ywF0 : wF.cell? ⟨w.heap.size + 1, 0, none⟩ = some (.int .i64 0) := (by (repeat (first | with_reducible assumption | (with_reducible refine (cell_drew_at _ _).trans ?_) | (with_reducible refine (cell_set_at _ _ (by first | omega | (simp; done) | (simp; omega))).trans ?_) | (with_reducible refine (cell_alloc_at _ _ (by first | omega | (simp; done) | (simp; omega))).trans ?_) | (with_reducible refine (hcwF _ _ (by first | omega | (simp; done) | (simp; omega))).trans ?_)))); have ywF1 : wF.cell? ⟨w.heap.size + 1, 1, none⟩ = some (.int .i64 0) := (by (repeat (first | with_reducible assumption | (with_reducible refine (cell_drew_at _ _).trans ?_) | (with_reducible refine (cell_set_at _ _ (by first | omega | (simp; done) | (simp; omega))).trans ?_) | (with_reducible refine (cell_alloc_at _ _ (by first | omega | (simp; done) | (simp; omega))).trans ?_) | (with_reducible refine (hcwF _ _ (by first | omega | (simp; done) | (simp; omega))).trans ?_)))); have yfwF0 : wF.frozen? ⟨w.heap.size + 1, 0, none⟩ = false := (by (repeat (first | with_reducible assumption | (with_reducible refine (frozen_drew_at _ _).trans ?_) | (with_reducible refine (World.frozen?_setCell _ _ _ _).trans ?_) | (with_reducible refine (frozen_alloc_at _ _ (by first | omega | (simp; done) | (simp; omega))).trans ?_) | (with_reducible refine (hfwF _ _ (by first | omega | (simp; done) | (simp; omega))).trans ?_)))); have yfwF1 : wF.frozen? ⟨w.heap.size + 1, 1, none⟩ = false := (by (repeat (first | with_reducible assumption | (with_reducible refine (frozen_drew_at _ _).trans ?_) | (with_reducible refine (World.frozen?_setCell _ _ _ _).trans ?_) | (with_reducible refine (frozen_alloc_at _ _ (by first | omega | (simp; done) | (simp; omega))).trans ?_) | (with_reducible refine (hfwF _ _ (by first | omega | (simp; done) | (simp; omega))).trans ?_))))))
    all_goals
      have ra := AtL.of2 ywF0 ywF1 (by omega)
      have rb := ra.store2 (a := .int .i64 an) (b := .int .i64 ad)
      have r0 := rb.cell 0 rfl
      have r1 := rb.cell 1 rfl
      go_wp2
    all_goals refine bodyPost_ret (v := .tuple #[.agg #[.int .i64 an, .int .i64 ad], .int .i64 ac]) (by simp [results, Try.results35, go_sem, r0, r1]) rfl (GRet.yes rfl HX.out.1 HX.out.2.1 HX.out.2.2 ?_)
    all_goals repeat' (first | with_reducible assumption | with_reducible exact Below.refl _ _ | (with_reducible refine Below.setCell ?_ ?_ _) | (with_reducible refine Below.alloc ?_ ?_ _) | (with_reducible refine Below.drew ?_) | (with_reducible refine below_dr ?_ _) | (with_reducible refine Below.trans ?_ (Below.mono (by with_reducible assumption) ?_)) | omega | (simp; done) | (simp; omega))
end Go.Proofs.Ytjlmoadnbbeloaa
