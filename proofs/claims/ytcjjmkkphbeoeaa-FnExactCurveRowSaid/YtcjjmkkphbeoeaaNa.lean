/- Walks: the equations for the slopes of a curve, the program's side: the parts. -/
import Derived.Test.YtcjjmkkphbeoeaaKd
import Derived.Test.YtcjjmkkphbeoeaaKv2
import Derived.Test.YtcjjmkkphbeoeaaPv
namespace Go.Proofs.Ytcjjmkkphbeoeaa
open Go.RowKit
set_option linter.unusedVariables false
def z12 (s : APt) : Nat → Int := setF (setF (fun _ => 0) 10 s.1) 11 s.2
set_option maxRecDepth 100000 in
set_option maxHeartbeats 3200000 in
theorem threeTimes_any (l : List APt) (A : Option Addr) (c : Nat) (cl : Bool) (t : Int) (ff fl : Bool) (fx fy lx ly : Int) (i j : Nat) (w : World) (hp : ptsUp l l.length = true) (hi : i < l.length) (hj : j < l.length) (h10 : l.length ≤ 10) (r : Rd cPt 2 w w.heap.size A l) :
    Calls Try.prog 98 #[.agg #[.slice A l.length c, .bool cl, .int .i64 t, .bool ff, .bool fl, .int .i64 fx, .int .i64 fy, .int .i64 lx, .int .i64 ly], .int .i64 i, .int .i64 j] w fun e w' => e = .returned (.agg #[.int .i64 (way3 l i j).1, .int .i64 (way3 l i j).2]) ∧ Below w.heap.size w w' := by
  obtain ⟨⟨x0, x1⟩, hx⟩ : ∃ a, kt l i = a := ⟨_, rfl⟩
  obtain ⟨⟨y0, y1⟩, hy⟩ : ∃ a, kt l j = a := ⟨_, rfl⟩
  have bi := okB_bounds (kt_ok hp hi)
  have bj := okB_bounds (kt_ok hp hj)
  have ei := kt_at hi
  have ej := kt_at hj
  rw [hx] at bi ei
  rw [hy] at bj ej
  simp only at bi bj
  unfold way3
  rw [hx, hy]
  simp only
  clear hx hy hp
  obtain ⟨a1, a2, a3, a4⟩ := bi
  obtain ⟨d1, d2, d3, d4⟩ := bj
  have CM := Lib.hid (fun w => minus_any y0 y1 x0 x1 w ⟨by omega, by omega⟩ ⟨by omega, by omega⟩ ⟨by omega, by omega⟩ ⟨by omega, by omega⟩)
  have CTM := Lib.hid (fun w => times_g (y0 - x0) (y1 - x1) 3 w (by omega) (by omega))
  clear a1 a2 a3 a4 d1 d2 d3 d4
  obtain ⟨g, o, rfl, hg, hc⟩ := r.elem ei
  obtain ⟨g', o', hA', hg', hc'⟩ := r.elem ej
  obtain ⟨rfl, rfl⟩ : g = g' ∧ o = o' := by injection hA' with h; injection h with h1 h2; exact ⟨h1, h2⟩
  have p0 : w.cell? ⟨g, o + i * 2, none⟩ = some (.int .i64 x0) := hc 0 _ rfl
  have p1 : w.cell? ⟨g, o + i * 2 + 1, none⟩ = some (.int .i64 x1) := hc 1 _ rfl
  have q0 : w.cell? ⟨g, o + j * 2, none⟩ = some (.int .i64 y0) := hc' 0 _ rfl
  have q1 : w.cell? ⟨g, o + j * 2 + 1, none⟩ = some (.int .i64 y1) := hc' 1 _ rfl
  clear hc hc' hA' hg' ei ej r
  have hii : (i : Int) < (l.length : Int) := by omega
  have hjj : (j : Int) < (l.length : Int) := by omega
  generalize l.length = n at hii hjj ⊢
  clear hi hj h10
  go_enter Try.func98, Try.ntmps98
  go_wp2_with fail
  generalize hW : (w.alloc (.cells #[.slice (some ⟨g, o, none⟩) n c, .bool cl, .int .i64 t, .bool ff, .bool fl, .int .i64 fx, .int .i64 fy, .int .i64 lx, .int .i64 ly] 37)).alloc (.cells #[.int .i64 0, .int .i64 0] 24) = W0
  have k0 : W0.cell? ⟨w.heap.size, 0, none⟩ = some (.slice (some ⟨g, o, none⟩) n c) := by rw [← hW]; simp [go_sem]
  have p0' : W0.cell? ⟨g, o + i * 2, none⟩ = some (.int .i64 x0) := by rw [← hW]; exact (cell_alloc_at _ _ (by simp; omega)).trans ((cell_alloc_at _ _ hg).trans p0)
  have p1' : W0.cell? ⟨g, o + i * 2 + 1, none⟩ = some (.int .i64 x1) := by rw [← hW]; exact (cell_alloc_at _ _ (by simp; omega)).trans ((cell_alloc_at _ _ hg).trans p1)
  have q0' : W0.cell? ⟨g, o + j * 2, none⟩ = some (.int .i64 y0) := by rw [← hW]; exact (cell_alloc_at _ _ (by simp; omega)).trans ((cell_alloc_at _ _ hg).trans q0)
  have q1' : W0.cell? ⟨g, o + j * 2 + 1, none⟩ = some (.int .i64 y1) := by rw [← hW]; exact (cell_alloc_at _ _ (by simp; omega)).trans ((cell_alloc_at _ _ hg).trans q1)
  have bk : Blk W0 (w.heap.size + 1) 24 #[.int .i64 0, .int .i64 0] := by rw [← hW]; exact Blk.newAt _ _ _ (by simp)
  have g0 : Below w.heap.size w W0 := by rw [← hW]; repeat' (first | with_reducible assumption | with_reducible exact Below.refl _ _ | (with_reducible refine Below.setCell ?_ ?_ _) | (with_reducible refine Below.alloc ?_ ?_ _) | (with_reducible refine Below.drew ?_) | (with_reducible refine below_dr ?_ _) | (with_reducible refine Below.trans ?_ (Below.mono (by with_reducible assumption) ?_)) | omega | (simp; done) | (simp; omega))
  have n0 : W0.cell? ⟨w.heap.size + 1, 0, none⟩ = some (.int .i64 0) := bk.cell 0 rfl
  have n1 : W0.cell? ⟨w.heap.size + 1, 1, none⟩ = some (.int .i64 0) := bk.cell 1 rfl
  have lk := bk.lt
  have lg : g < W0.heap.size := by omega
  have lw : w.heap.size < W0.heap.size := by omega
  clear hW p0 p1 q0 q1
  go_region_held3 (fun w' => (∀ b o, b < w.heap.size + 1 → w'.cell? ⟨b, o, none⟩ = W0.cell? ⟨b, o, none⟩) ∧ W0.heap.size ≤ w'.heap.size)
    (first | ((try dsimp only); exact ⟨fun b o h => (by (repeat (first | with_reducible exact rfl | (with_reducible refine (cell_drew_at _ _).trans ?_) | (with_reducible refine (cell_set_at _ _ (by first | omega | (simp; done) | (simp; omega))).trans ?_) | (with_reducible refine (cell_alloc_at _ _ (by first | omega | (simp; done) | (simp; omega))).trans ?_) | (with_reducible refine (hcwM b o (by first | omega | (simp; done) | (simp; omega))).trans ?_) | (with_reducible refine (hcwT b o (by first | omega | (simp; done) | (simp; omega))).trans ?_)))), (by first | omega | (simp; done) | (simp; omega))⟩) | fail)
    (first
      | (go_at_call 84; (with_reducible refine (CM.out _).mono ?_); rintro e wM ⟨rfl, hbwM⟩; obtain ⟨hcwM, hfwM⟩ := bcell hbwM; have hzwM := hbwM.size; (try simp only [World.size_drew] at hcwM hfwM hzwM); (try simp only [World.size_alloc] at hcwM hfwM hzwM); (try have qM : W0.heap.size < wM.heap.size := (by omega)))
      | (go_at_call 85; (with_reducible refine (CTM.out _).mono ?_); rintro e wT ⟨rfl, hbwT⟩; obtain ⟨hcwT, hfwT⟩ := bcell hbwT; have hzwT := hbwT.size; (try simp only [World.size_drew] at hcwT hfwT hzwT); (try simp only [World.size_alloc] at hcwT hfwT hzwT); have qT : W0.heap.size < wT.heap.size ∨ W0.heap.size ≤ wT.heap.size := (by omega); have bkT : Blk wT (w.heap.size + 1) 24 #[.int .i64 0, .int .i64 0] := (by repeat' (first | with_reducible assumption | (with_reducible refine Blk.drew ?_) | (with_reducible refine Blk.carry ?_ (by with_reducible assumption)) | (with_reducible refine Blk.alloc ?_ _) | (with_reducible refine Blk.far ?_ ?_ _) | omega | (simp; done) | (simp; omega))); have u0 := bkT.frozen 0; have u1 := bkT.frozen 1; have v0 : wT.cell? ⟨w.heap.size + 1, 0, none⟩ = some (.int .i64 0) := bkT.cell 0 rfl; have v1 : wT.cell? ⟨w.heap.size + 1, 1, none⟩ = some (.int .i64 0) := bkT.cell 1 rfl; have lk2 := bkT.lt))
  all_goals
    have HC := Lib.hid hcwM
    have HF := Lib.hid hfwM
    clear hcwM hfwM hcwT hfwT
    go_wp2_with fail
    refine bodyPost_ret (v := .agg #[.int .i64 (3 * (y0 - x0)), .int .i64 (3 * (y1 - x1))]) (by simp [results, Try.results98, go_sem, *]) rfl ⟨rfl, ?_⟩
    repeat' (first | with_reducible assumption | with_reducible exact Below.refl _ _ | (with_reducible refine Below.setCell ?_ ?_ _) | (with_reducible refine Below.alloc ?_ ?_ _) | (with_reducible refine Below.drew ?_) | (with_reducible refine below_dr ?_ _) | (with_reducible refine Below.trans ?_ (Below.mono (by with_reducible assumption) ?_)) | omega | (simp; done) | (simp; omega))
set_option maxRecDepth 100000 in
set_option maxHeartbeats 3200000 in
theorem innerEquation_any (l : List APt) (A : Option Addr) (c : Nat) (cl : Bool) (t : Int) (ff fl : Bool) (fx fy lx ly : Int) (p k q : Nat) (w : World) (hp : ptsUp l l.length = true) (h1 : p < l.length) (h2 : k < l.length) (h3 : q < l.length) (d1 : ¬ p = k) (d2 : ¬ p = q) (d3 : ¬ k = q) (h10 : l.length ≤ 10) (r : Rd cPt 2 w w.heap.size A l) :
    Calls Try.prog 96 #[.agg #[.slice A l.length c, .bool cl, .int .i64 t, .bool ff, .bool fl, .int .i64 fx, .int .i64 fy, .int .i64 lx, .int .i64 ly], .int .i64 p, .int .i64 k, .int .i64 q] w fun e w' => e = .returned (.agg (arr12 (setF (setF (setF (z12 (way3 l p q)) p 1) k 4) q 1))) ∧ Below w.heap.size w w' := by
  have CT := Lib.hid (fun w r => threeTimes_any l A c cl t ff fl fx fy lx ly p q w hp h1 h3 h10 r)
  obtain ⟨F, hF⟩ : ∃ F, F = (setF (setF (setF (z12 (way3 l p q)) p 1) k 4) q 1) := ⟨_, rfl⟩
  rw [← hF]
  have HF := Lib.hid hF
  obtain ⟨⟨s0, s1⟩, hs⟩ : ∃ s, s = way3 l p q := ⟨_, rfl⟩
  rw [← hs] at HF CT
  simp only at CT
  clear hF hs hp
  have g1 : (p : Int) < 12 := by omega
  have g2 : (k : Int) < 12 := by omega
  have g3 : (q : Int) < 12 := by omega
  have hp12 : p < 12 := by omega
  have hk12 : k < 12 := by omega
  have hq12 : q < 12 := by omega
  clear h1 h2 h3 h10
  generalize l.length = n at CT ⊢
  go_enter Try.func96, Try.ntmps96
  go_wp2_with fail
  generalize hW : (w.alloc (.cells #[.slice A n c, .bool cl, .int .i64 t, .bool ff, .bool fl, .int .i64 fx, .int .i64 fy, .int .i64 lx, .int .i64 ly] 37)).alloc (.cells #[.int .i64 0, .int .i64 0, .int .i64 0, .int .i64 0, .int .i64 0, .int .i64 0, .int .i64 0, .int .i64 0, .int .i64 0, .int .i64 0, .int .i64 0, .int .i64 0] 78) = W0
  have at0 : AtL w.heap.size [.slice A n c, .bool cl, .int .i64 t, .bool ff, .bool fl, .int .i64 fx, .int .i64 fy, .int .i64 lx, .int .i64 ly] W0 := by rw [← hW]; exact (AtL.new w _ _).alloc _
  have bk0 : Blk W0 (w.heap.size + 1) 78 (arr12 (fun _ => 0)) := by rw [← hW]; exact Blk.newAt _ _ _ (by simp)
  have r0 : Rd cPt 2 W0 w.heap.size A l := by rw [← hW]; exact (r.alloc (Nat.le_refl _) _).alloc (by simp) _
  have b0 : Below w.heap.size w W0 := by rw [← hW]; repeat' (first | with_reducible assumption | with_reducible exact Below.refl _ _ | (with_reducible refine Below.setCell ?_ ?_ _) | (with_reducible refine Below.alloc ?_ ?_ _) | (with_reducible refine Below.drew ?_) | (with_reducible refine below_dr ?_ _) | (with_reducible refine Below.trans ?_ (Below.mono (by with_reducible assumption) ?_)) | omega | (simp; done) | (simp; omega))
  clear hW r
  have lk := bk0.lt
  have lw := at0.lt
  have k0 := at0.cell 0 rfl
  have k1 := at0.cell 1 rfl
  have k2 := at0.cell 2 rfl
  have k3 := at0.cell 3 rfl
  have k4 := at0.cell 4 rfl
  have k5 := at0.cell 5 rfl
  have k6 := at0.cell 6 rfl
  have k7 := at0.cell 7 rfl
  have k8 := at0.cell 8 rfl
  refine (CT.out _ ?_).mono ?_
  · (refine Rd.more (B := w.heap.size) ?_ (by first | omega | ((try simp only [World.size_setCell]); (try simp only [World.size_drew]); (try simp only [World.size_alloc]); omega) | (simp; done) | (simp; omega))); (repeat' (first | with_reducible assumption | (with_reducible refine Rd.drew ?_) | (with_reducible refine Rd.carry ?_ (by with_reducible assumption) ?_) | (with_reducible refine Rd.alloc ?_ ?_ _) | (with_reducible refine Rd.setCell ?_ ?_ _) | omega | (simp; done) | (simp; omega)))
  rintro e w1 ⟨rfl, hb1⟩
  clear k0 k1 k2 k3 k4 k5 k6 k7 k8 CT r0
  replace bk0 := bk0.carry hb1
  replace b0 : Below w.heap.size w w1 := by repeat' (first | with_reducible assumption | with_reducible exact Below.refl _ _ | (with_reducible refine Below.setCell ?_ ?_ _) | (with_reducible refine Below.alloc ?_ ?_ _) | (with_reducible refine Below.drew ?_) | (with_reducible refine below_dr ?_ _) | (with_reducible refine Below.trans ?_ (Below.mono (by with_reducible assumption) ?_)) | omega | (simp; done) | (simp; omega))
  have z1 := hb1.size
  have zb := b0.size
  clear at0 hb1 lw
  go_upto_region 3 with fail
  generalize hW : w1.alloc (.cells #[.int .i64 s0, .int .i64 s1] 24) = W2
  have bk2 : Blk W2 (w.heap.size + 1) 78 (arr12 (fun _ => 0)) := by rw [← hW]; exact bk0.alloc _
  have b2 : Below w.heap.size w W2 := by rw [← hW]; repeat' (first | with_reducible assumption | with_reducible exact Below.refl _ _ | (with_reducible refine Below.setCell ?_ ?_ _) | (with_reducible refine Below.alloc ?_ ?_ _) | (with_reducible refine Below.drew ?_) | (with_reducible refine below_dr ?_ _) | (with_reducible refine Below.trans ?_ (Below.mono (by with_reducible assumption) ?_)) | omega | (simp; done) | (simp; omega))
  have z2 : W2.heap.size = w1.heap.size + 1 := by rw [← hW]; simp
  clear hW bk0 b0
  generalize hW : W2.alloc (.cells #[.int .i64 0, .int .i64 0, .int .i64 0, .int .i64 0, .int .i64 0, .int .i64 0, .int .i64 0, .int .i64 0, .int .i64 0, .int .i64 0, .int .i64 s0, .int .i64 s1] 78) = W3
  have bk3 : Blk W3 (w.heap.size + 1) 78 (arr12 (fun _ => 0)) := by rw [← hW]; exact bk2.alloc _
  have bn3 : Blk W3 W2.heap.size 78 (arr12 (z12 (s0, s1))) := by rw [← hW]; exact Blk.new _ _ _
  rw [z2] at bn3
  have zb2 := b2.size
  have b3 : Below w.heap.size w W3 := by rw [← hW]; repeat' (first | with_reducible assumption | with_reducible exact Below.refl _ _ | (with_reducible refine Below.setCell ?_ ?_ _) | (with_reducible refine Below.alloc ?_ ?_ _) | (with_reducible refine Below.drew ?_) | (with_reducible refine below_dr ?_ _) | (with_reducible refine Below.trans ?_ (Below.mono (by with_reducible assumption) ?_)) | omega | (simp; done) | (simp; omega))
  clear hW bk2 b2
  have y1 := bn3.ints hp12
  have y2 := bn3.ints hk12
  have y3 := bn3.ints hq12
  have u1 := bn3.frozen p
  have u2 := bn3.frozen k
  have u3 := bn3.frozen q
  have d1' : ¬ k = p := fun e => d1 e.symm
  have d2' : ¬ q = p := fun e => d2 e.symm
  have d3' : ¬ q = k := fun e => d3 e.symm
  go_upto_region 4 with fail
  generalize hW : ((W3.setCell ⟨w1.heap.size + 1, p, none⟩ (.int .i64 1)).setCell ⟨w1.heap.size + 1, k, none⟩ (.int .i64 4)).setCell ⟨w1.heap.size + 1, q, none⟩ (.int .i64 1) = W4
  have bn4 : Blk W4 (w1.heap.size + 1) 78 (arr12 F) := by rw [← hW, HF.out]; exact ((bn3.set12 p 1).set12 k 4).set12 q 1
  have bk4 : Blk W4 (w.heap.size + 1) 78 (arr12 (fun _ => 0)) := by rw [← hW]; exact Blk.far (Blk.far (Blk.far bk3 (by simp only; omega) _) (by simp only; omega) _) (by simp only; omega) _
  have b4 : Below w.heap.size w W4 := by rw [← hW]; repeat' (first | with_reducible assumption | with_reducible exact Below.refl _ _ | (with_reducible refine Below.setCell ?_ ?_ _) | (with_reducible refine Below.alloc ?_ ?_ _) | (with_reducible refine Below.drew ?_) | (with_reducible refine below_dr ?_ _) | (with_reducible refine Below.trans ?_ (Below.mono (by with_reducible assumption) ?_)) | omega | (simp; done) | (simp; omega))
  clear hW bn3 bk3 b3 y1 y2 y3 u1 u2 u3
  have lk4 := bk4.lt
  have ln4 := bn4.lt
  have y0 : W4.cell? ⟨w1.heap.size + 1, 0, none⟩ = some (.int .i64 (F 0)) := bn4.ints (by omega)
  have y1 : W4.cell? ⟨w1.heap.size + 1, 1, none⟩ = some (.int .i64 (F 1)) := bn4.ints (by omega)
  have y2 : W4.cell? ⟨w1.heap.size + 1, 2, none⟩ = some (.int .i64 (F 2)) := bn4.ints (by omega)
  have y3 : W4.cell? ⟨w1.heap.size + 1, 3, none⟩ = some (.int .i64 (F 3)) := bn4.ints (by omega)
  have y4 : W4.cell? ⟨w1.heap.size + 1, 4, none⟩ = some (.int .i64 (F 4)) := bn4.ints (by omega)
  have y5 : W4.cell? ⟨w1.heap.size + 1, 5, none⟩ = some (.int .i64 (F 5)) := bn4.ints (by omega)
  have y6 : W4.cell? ⟨w1.heap.size + 1, 6, none⟩ = some (.int .i64 (F 6)) := bn4.ints (by omega)
  have y7 : W4.cell? ⟨w1.heap.size + 1, 7, none⟩ = some (.int .i64 (F 7)) := bn4.ints (by omega)
  have y8 : W4.cell? ⟨w1.heap.size + 1, 8, none⟩ = some (.int .i64 (F 8)) := bn4.ints (by omega)
  have y9 : W4.cell? ⟨w1.heap.size + 1, 9, none⟩ = some (.int .i64 (F 9)) := bn4.ints (by omega)
  have y10 : W4.cell? ⟨w1.heap.size + 1, 10, none⟩ = some (.int .i64 (F 10)) := bn4.ints (by omega)
  have y11 : W4.cell? ⟨w1.heap.size + 1, 11, none⟩ = some (.int .i64 (F 11)) := bn4.ints (by omega)
  have j0 : W4.cell? ⟨w.heap.size + 1, 0, none⟩ = some (.int .i64 0) := bk4.ints (f := fun _ => 0) (by omega)
  have j1 : W4.cell? ⟨w.heap.size + 1, 1, none⟩ = some (.int .i64 0) := bk4.ints (f := fun _ => 0) (by omega)
  have j2 : W4.cell? ⟨w.heap.size + 1, 2, none⟩ = some (.int .i64 0) := bk4.ints (f := fun _ => 0) (by omega)
  have j3 : W4.cell? ⟨w.heap.size + 1, 3, none⟩ = some (.int .i64 0) := bk4.ints (f := fun _ => 0) (by omega)
  have j4 : W4.cell? ⟨w.heap.size + 1, 4, none⟩ = some (.int .i64 0) := bk4.ints (f := fun _ => 0) (by omega)
  have j5 : W4.cell? ⟨w.heap.size + 1, 5, none⟩ = some (.int .i64 0) := bk4.ints (f := fun _ => 0) (by omega)
  have j6 : W4.cell? ⟨w.heap.size + 1, 6, none⟩ = some (.int .i64 0) := bk4.ints (f := fun _ => 0) (by omega)
  have j7 : W4.cell? ⟨w.heap.size + 1, 7, none⟩ = some (.int .i64 0) := bk4.ints (f := fun _ => 0) (by omega)
  have j8 : W4.cell? ⟨w.heap.size + 1, 8, none⟩ = some (.int .i64 0) := bk4.ints (f := fun _ => 0) (by omega)
  have j9 : W4.cell? ⟨w.heap.size + 1, 9, none⟩ = some (.int .i64 0) := bk4.ints (f := fun _ => 0) (by omega)
  have j10 : W4.cell? ⟨w.heap.size + 1, 10, none⟩ = some (.int .i64 0) := bk4.ints (f := fun _ => 0) (by omega)
  have j11 : W4.cell? ⟨w.heap.size + 1, 11, none⟩ = some (.int .i64 0) := bk4.ints (f := fun _ => 0) (by omega)
  have u0 := bk4.frozen 0
  have u1 := bk4.frozen 1
  have u2 := bk4.frozen 2
  have u3 := bk4.frozen 3
  have u4 := bk4.frozen 4
  have u5 := bk4.frozen 5
  have u6 := bk4.frozen 6
  have u7 := bk4.frozen 7
  have u8 := bk4.frozen 8
  have u9 := bk4.frozen 9
  have u10 := bk4.frozen 10
  have u11 := bk4.frozen 11
  go_wp2_with fail
  refine bodyPost_ret (v := .agg (arr12 F)) (by simp [results, Try.results96, go_sem, arr12, *]) rfl ⟨rfl, ?_⟩
  repeat' (first | with_reducible assumption | with_reducible exact Below.refl _ _ | (with_reducible refine Below.setCell ?_ ?_ _) | (with_reducible refine Below.alloc ?_ ?_ _) | (with_reducible refine Below.drew ?_) | (with_reducible refine below_dr ?_ _) | (with_reducible refine Below.trans ?_ (Below.mono (by with_reducible assumption) ?_)) | omega | (simp; done) | (simp; omega))
set_option maxRecDepth 100000 in
set_option maxHeartbeats 3200000 in
theorem endEquation_true (ex ey v0 v1 : Int) (k j : Nat) (w : World) (h2 : k < 10) (h3 : j < 10) (d1 : ¬ k = j) :
    Calls Try.prog 97 #[.agg #[.bool true, .int .i64 ex, .int .i64 ey], .int .i64 k, .int .i64 j, .agg #[.int .i64 v0, .int .i64 v1]] w fun e w' => e = .returned (.agg (arr12 (setF (z12 (ex, ey)) k 1))) ∧ Below w.heap.size w w' := by
  obtain ⟨F, hF⟩ : ∃ F, F = (setF (z12 (ex, ey)) k 1) := ⟨_, rfl⟩
  rw [← hF]
  have HF := Lib.hid hF
  clear hF
  have g1 : (k : Int) < 12 := by omega
  have g2 : (j : Int) < 12 := by omega
  have hk12 : k < 12 := by omega
  have hj12 : j < 12 := by omega
  have d1' : ¬ j = k := fun e => d1 e.symm
  go_enter Try.func97, Try.ntmps97
  go_upto_region 3 with fail
  generalize hW : ((w.alloc (.cells #[.bool true, .int .i64 ex, .int .i64 ey] 132)).alloc (.cells #[.int .i64 v0, .int .i64 v1] 24)).alloc (.cells #[.int .i64 0, .int .i64 0, .int .i64 0, .int .i64 0, .int .i64 0, .int .i64 0, .int .i64 0, .int .i64 0, .int .i64 0, .int .i64 0, .int .i64 0, .int .i64 0] 78) = W2
  have bk2 : Blk W2 (w.heap.size + 1 + 1) 78 (arr12 (fun _ => 0)) := by rw [← hW]; exact Blk.newAt _ _ _ (by simp)
  have b2 : Below w.heap.size w W2 := by rw [← hW]; repeat' (first | with_reducible assumption | with_reducible exact Below.refl _ _ | (with_reducible refine Below.setCell ?_ ?_ _) | (with_reducible refine Below.alloc ?_ ?_ _) | (with_reducible refine Below.drew ?_) | (with_reducible refine below_dr ?_ _) | (with_reducible refine Below.trans ?_ (Below.mono (by with_reducible assumption) ?_)) | omega | (simp; done) | (simp; omega))
  have z2 : W2.heap.size = w.heap.size + 1 + 1 + 1 := by rw [← hW]; simp
  clear hW
  generalize hW : W2.alloc (.cells #[.int .i64 0, .int .i64 0, .int .i64 0, .int .i64 0, .int .i64 0, .int .i64 0, .int .i64 0, .int .i64 0, .int .i64 0, .int .i64 0, .int .i64 ex, .int .i64 ey] 78) = W3
  have bk3 : Blk W3 (w.heap.size + 1 + 1) 78 (arr12 (fun _ => 0)) := by rw [← hW]; exact bk2.alloc _
  have bn3 : Blk W3 W2.heap.size 78 (arr12 (z12 (ex, ey))) := by rw [← hW]; exact Blk.new _ _ _
  rw [z2] at bn3
  have b3 : Below w.heap.size w W3 := by rw [← hW]; repeat' (first | with_reducible assumption | with_reducible exact Below.refl _ _ | (with_reducible refine Below.setCell ?_ ?_ _) | (with_reducible refine Below.alloc ?_ ?_ _) | (with_reducible refine Below.drew ?_) | (with_reducible refine below_dr ?_ _) | (with_reducible refine Below.trans ?_ (Below.mono (by with_reducible assumption) ?_)) | omega | (simp; done) | (simp; omega))
  clear hW bk2 b2
  have y1 := bn3.ints hk12
  have y2 := bn3.ints hj12
  have u1 := bn3.frozen k
  have u2 := bn3.frozen j
  go_upto_region 4 with fail
  generalize hW : W3.setCell ⟨w.heap.size + 1 + 1 + 1, k, none⟩ (.int .i64 1) = W4
  have bn4 : Blk W4 (w.heap.size + 1 + 1 + 1) 78 (arr12 F) := by rw [← hW, HF.out]; exact bn3.set12 k 1
  have bk4 : Blk W4 (w.heap.size + 1 + 1) 78 (arr12 (fun _ => 0)) := by rw [← hW]; exact Blk.far bk3 (by simp only; omega) _
  have b4 : Below w.heap.size w W4 := by rw [← hW]; repeat' (first | with_reducible assumption | with_reducible exact Below.refl _ _ | (with_reducible refine Below.setCell ?_ ?_ _) | (with_reducible refine Below.alloc ?_ ?_ _) | (with_reducible refine Below.drew ?_) | (with_reducible refine below_dr ?_ _) | (with_reducible refine Below.trans ?_ (Below.mono (by with_reducible assumption) ?_)) | omega | (simp; done) | (simp; omega))
  clear hW bn3 bk3 b3 y1 y2 u1 u2
  have lk4 := bk4.lt
  have ln4 := bn4.lt
  have y0 : W4.cell? ⟨w.heap.size + 1 + 1 + 1, 0, none⟩ = some (.int .i64 (F 0)) := bn4.ints (by omega)
  have y1 : W4.cell? ⟨w.heap.size + 1 + 1 + 1, 1, none⟩ = some (.int .i64 (F 1)) := bn4.ints (by omega)
  have y2 : W4.cell? ⟨w.heap.size + 1 + 1 + 1, 2, none⟩ = some (.int .i64 (F 2)) := bn4.ints (by omega)
  have y3 : W4.cell? ⟨w.heap.size + 1 + 1 + 1, 3, none⟩ = some (.int .i64 (F 3)) := bn4.ints (by omega)
  have y4 : W4.cell? ⟨w.heap.size + 1 + 1 + 1, 4, none⟩ = some (.int .i64 (F 4)) := bn4.ints (by omega)
  have y5 : W4.cell? ⟨w.heap.size + 1 + 1 + 1, 5, none⟩ = some (.int .i64 (F 5)) := bn4.ints (by omega)
  have y6 : W4.cell? ⟨w.heap.size + 1 + 1 + 1, 6, none⟩ = some (.int .i64 (F 6)) := bn4.ints (by omega)
  have y7 : W4.cell? ⟨w.heap.size + 1 + 1 + 1, 7, none⟩ = some (.int .i64 (F 7)) := bn4.ints (by omega)
  have y8 : W4.cell? ⟨w.heap.size + 1 + 1 + 1, 8, none⟩ = some (.int .i64 (F 8)) := bn4.ints (by omega)
  have y9 : W4.cell? ⟨w.heap.size + 1 + 1 + 1, 9, none⟩ = some (.int .i64 (F 9)) := bn4.ints (by omega)
  have y10 : W4.cell? ⟨w.heap.size + 1 + 1 + 1, 10, none⟩ = some (.int .i64 (F 10)) := bn4.ints (by omega)
  have y11 : W4.cell? ⟨w.heap.size + 1 + 1 + 1, 11, none⟩ = some (.int .i64 (F 11)) := bn4.ints (by omega)
  have j0 : W4.cell? ⟨w.heap.size + 1 + 1, 0, none⟩ = some (.int .i64 0) := bk4.ints (f := fun _ => 0) (by omega)
  have j1 : W4.cell? ⟨w.heap.size + 1 + 1, 1, none⟩ = some (.int .i64 0) := bk4.ints (f := fun _ => 0) (by omega)
  have j2 : W4.cell? ⟨w.heap.size + 1 + 1, 2, none⟩ = some (.int .i64 0) := bk4.ints (f := fun _ => 0) (by omega)
  have j3 : W4.cell? ⟨w.heap.size + 1 + 1, 3, none⟩ = some (.int .i64 0) := bk4.ints (f := fun _ => 0) (by omega)
  have j4 : W4.cell? ⟨w.heap.size + 1 + 1, 4, none⟩ = some (.int .i64 0) := bk4.ints (f := fun _ => 0) (by omega)
  have j5 : W4.cell? ⟨w.heap.size + 1 + 1, 5, none⟩ = some (.int .i64 0) := bk4.ints (f := fun _ => 0) (by omega)
  have j6 : W4.cell? ⟨w.heap.size + 1 + 1, 6, none⟩ = some (.int .i64 0) := bk4.ints (f := fun _ => 0) (by omega)
  have j7 : W4.cell? ⟨w.heap.size + 1 + 1, 7, none⟩ = some (.int .i64 0) := bk4.ints (f := fun _ => 0) (by omega)
  have j8 : W4.cell? ⟨w.heap.size + 1 + 1, 8, none⟩ = some (.int .i64 0) := bk4.ints (f := fun _ => 0) (by omega)
  have j9 : W4.cell? ⟨w.heap.size + 1 + 1, 9, none⟩ = some (.int .i64 0) := bk4.ints (f := fun _ => 0) (by omega)
  have j10 : W4.cell? ⟨w.heap.size + 1 + 1, 10, none⟩ = some (.int .i64 0) := bk4.ints (f := fun _ => 0) (by omega)
  have j11 : W4.cell? ⟨w.heap.size + 1 + 1, 11, none⟩ = some (.int .i64 0) := bk4.ints (f := fun _ => 0) (by omega)
  have u0 := bk4.frozen 0
  have u1 := bk4.frozen 1
  have u2 := bk4.frozen 2
  have u3 := bk4.frozen 3
  have u4 := bk4.frozen 4
  have u5 := bk4.frozen 5
  have u6 := bk4.frozen 6
  have u7 := bk4.frozen 7
  have u8 := bk4.frozen 8
  have u9 := bk4.frozen 9
  have u10 := bk4.frozen 10
  have u11 := bk4.frozen 11
  go_wp2_with fail
  refine bodyPost_ret (v := .agg (arr12 F)) (by simp [results, Try.results97, go_sem, arr12, *]) rfl ⟨rfl, ?_⟩
  repeat' (first | with_reducible assumption | with_reducible exact Below.refl _ _ | (with_reducible refine Below.setCell ?_ ?_ _) | (with_reducible refine Below.alloc ?_ ?_ _) | (with_reducible refine Below.drew ?_) | (with_reducible refine below_dr ?_ _) | (with_reducible refine Below.trans ?_ (Below.mono (by with_reducible assumption) ?_)) | omega | (simp; done) | (simp; omega))
set_option maxRecDepth 100000 in
set_option maxHeartbeats 3200000 in
theorem endEquation_false (ex ey v0 v1 : Int) (k j : Nat) (w : World) (h2 : k < 10) (h3 : j < 10) (d1 : ¬ k = j) :
    Calls Try.prog 97 #[.agg #[.bool false, .int .i64 ex, .int .i64 ey], .int .i64 k, .int .i64 j, .agg #[.int .i64 v0, .int .i64 v1]] w fun e w' => e = .returned (.agg (arr12 (setF (setF (z12 (v0, v1)) k 2) j 1))) ∧ Below w.heap.size w w' := by
  obtain ⟨F, hF⟩ : ∃ F, F = (setF (setF (z12 (v0, v1)) k 2) j 1) := ⟨_, rfl⟩
  rw [← hF]
  have HF := Lib.hid hF
  clear hF
  have g1 : (k : Int) < 12 := by omega
  have g2 : (j : Int) < 12 := by omega
  have hk12 : k < 12 := by omega
  have hj12 : j < 12 := by omega
  have d1' : ¬ j = k := fun e => d1 e.symm
  go_enter Try.func97, Try.ntmps97
  go_upto_region 6 with fail
  generalize hW : ((w.alloc (.cells #[.bool false, .int .i64 ex, .int .i64 ey] 132)).alloc (.cells #[.int .i64 v0, .int .i64 v1] 24)).alloc (.cells #[.int .i64 0, .int .i64 0, .int .i64 0, .int .i64 0, .int .i64 0, .int .i64 0, .int .i64 0, .int .i64 0, .int .i64 0, .int .i64 0, .int .i64 0, .int .i64 0] 78) = W2
  have bk2 : Blk W2 (w.heap.size + 1 + 1) 78 (arr12 (fun _ => 0)) := by rw [← hW]; exact Blk.newAt _ _ _ (by simp)
  have b2 : Below w.heap.size w W2 := by rw [← hW]; repeat' (first | with_reducible assumption | with_reducible exact Below.refl _ _ | (with_reducible refine Below.setCell ?_ ?_ _) | (with_reducible refine Below.alloc ?_ ?_ _) | (with_reducible refine Below.drew ?_) | (with_reducible refine below_dr ?_ _) | (with_reducible refine Below.trans ?_ (Below.mono (by with_reducible assumption) ?_)) | omega | (simp; done) | (simp; omega))
  have z2 : W2.heap.size = w.heap.size + 1 + 1 + 1 := by rw [← hW]; simp
  clear hW
  generalize hW : W2.alloc (.cells #[.int .i64 0, .int .i64 0, .int .i64 0, .int .i64 0, .int .i64 0, .int .i64 0, .int .i64 0, .int .i64 0, .int .i64 0, .int .i64 0, .int .i64 v0, .int .i64 v1] 78) = W3
  have bk3 : Blk W3 (w.heap.size + 1 + 1) 78 (arr12 (fun _ => 0)) := by rw [← hW]; exact bk2.alloc _
  have bn3 : Blk W3 W2.heap.size 78 (arr12 (z12 (v0, v1))) := by rw [← hW]; exact Blk.new _ _ _
  rw [z2] at bn3
  have b3 : Below w.heap.size w W3 := by rw [← hW]; repeat' (first | with_reducible assumption | with_reducible exact Below.refl _ _ | (with_reducible refine Below.setCell ?_ ?_ _) | (with_reducible refine Below.alloc ?_ ?_ _) | (with_reducible refine Below.drew ?_) | (with_reducible refine below_dr ?_ _) | (with_reducible refine Below.trans ?_ (Below.mono (by with_reducible assumption) ?_)) | omega | (simp; done) | (simp; omega))
  clear hW bk2 b2
  have y1 := bn3.ints hk12
  have y2 := bn3.ints hj12
  have u1 := bn3.frozen k
  have u2 := bn3.frozen j
  go_upto_region 7 with fail
  generalize hW : (W3.setCell ⟨w.heap.size + 1 + 1 + 1, k, none⟩ (.int .i64 2)).setCell ⟨w.heap.size + 1 + 1 + 1, j, none⟩ (.int .i64 1) = W4
  have bn4 : Blk W4 (w.heap.size + 1 + 1 + 1) 78 (arr12 F) := by rw [← hW, HF.out]; exact (bn3.set12 k 2).set12 j 1
  have bk4 : Blk W4 (w.heap.size + 1 + 1) 78 (arr12 (fun _ => 0)) := by rw [← hW]; exact Blk.far (Blk.far bk3 (by simp only; omega) _) (by simp only; omega) _
  have b4 : Below w.heap.size w W4 := by rw [← hW]; repeat' (first | with_reducible assumption | with_reducible exact Below.refl _ _ | (with_reducible refine Below.setCell ?_ ?_ _) | (with_reducible refine Below.alloc ?_ ?_ _) | (with_reducible refine Below.drew ?_) | (with_reducible refine below_dr ?_ _) | (with_reducible refine Below.trans ?_ (Below.mono (by with_reducible assumption) ?_)) | omega | (simp; done) | (simp; omega))
  clear hW bn3 bk3 b3 y1 y2 u1 u2
  have lk4 := bk4.lt
  have ln4 := bn4.lt
  have y0 : W4.cell? ⟨w.heap.size + 1 + 1 + 1, 0, none⟩ = some (.int .i64 (F 0)) := bn4.ints (by omega)
  have y1 : W4.cell? ⟨w.heap.size + 1 + 1 + 1, 1, none⟩ = some (.int .i64 (F 1)) := bn4.ints (by omega)
  have y2 : W4.cell? ⟨w.heap.size + 1 + 1 + 1, 2, none⟩ = some (.int .i64 (F 2)) := bn4.ints (by omega)
  have y3 : W4.cell? ⟨w.heap.size + 1 + 1 + 1, 3, none⟩ = some (.int .i64 (F 3)) := bn4.ints (by omega)
  have y4 : W4.cell? ⟨w.heap.size + 1 + 1 + 1, 4, none⟩ = some (.int .i64 (F 4)) := bn4.ints (by omega)
  have y5 : W4.cell? ⟨w.heap.size + 1 + 1 + 1, 5, none⟩ = some (.int .i64 (F 5)) := bn4.ints (by omega)
  have y6 : W4.cell? ⟨w.heap.size + 1 + 1 + 1, 6, none⟩ = some (.int .i64 (F 6)) := bn4.ints (by omega)
  have y7 : W4.cell? ⟨w.heap.size + 1 + 1 + 1, 7, none⟩ = some (.int .i64 (F 7)) := bn4.ints (by omega)
  have y8 : W4.cell? ⟨w.heap.size + 1 + 1 + 1, 8, none⟩ = some (.int .i64 (F 8)) := bn4.ints (by omega)
  have y9 : W4.cell? ⟨w.heap.size + 1 + 1 + 1, 9, none⟩ = some (.int .i64 (F 9)) := bn4.ints (by omega)
  have y10 : W4.cell? ⟨w.heap.size + 1 + 1 + 1, 10, none⟩ = some (.int .i64 (F 10)) := bn4.ints (by omega)
  have y11 : W4.cell? ⟨w.heap.size + 1 + 1 + 1, 11, none⟩ = some (.int .i64 (F 11)) := bn4.ints (by omega)
  have j0 : W4.cell? ⟨w.heap.size + 1 + 1, 0, none⟩ = some (.int .i64 0) := bk4.ints (f := fun _ => 0) (by omega)
  have j1 : W4.cell? ⟨w.heap.size + 1 + 1, 1, none⟩ = some (.int .i64 0) := bk4.ints (f := fun _ => 0) (by omega)
  have j2 : W4.cell? ⟨w.heap.size + 1 + 1, 2, none⟩ = some (.int .i64 0) := bk4.ints (f := fun _ => 0) (by omega)
  have j3 : W4.cell? ⟨w.heap.size + 1 + 1, 3, none⟩ = some (.int .i64 0) := bk4.ints (f := fun _ => 0) (by omega)
  have j4 : W4.cell? ⟨w.heap.size + 1 + 1, 4, none⟩ = some (.int .i64 0) := bk4.ints (f := fun _ => 0) (by omega)
  have j5 : W4.cell? ⟨w.heap.size + 1 + 1, 5, none⟩ = some (.int .i64 0) := bk4.ints (f := fun _ => 0) (by omega)
  have j6 : W4.cell? ⟨w.heap.size + 1 + 1, 6, none⟩ = some (.int .i64 0) := bk4.ints (f := fun _ => 0) (by omega)
  have j7 : W4.cell? ⟨w.heap.size + 1 + 1, 7, none⟩ = some (.int .i64 0) := bk4.ints (f := fun _ => 0) (by omega)
  have j8 : W4.cell? ⟨w.heap.size + 1 + 1, 8, none⟩ = some (.int .i64 0) := bk4.ints (f := fun _ => 0) (by omega)
  have j9 : W4.cell? ⟨w.heap.size + 1 + 1, 9, none⟩ = some (.int .i64 0) := bk4.ints (f := fun _ => 0) (by omega)
  have j10 : W4.cell? ⟨w.heap.size + 1 + 1, 10, none⟩ = some (.int .i64 0) := bk4.ints (f := fun _ => 0) (by omega)
  have j11 : W4.cell? ⟨w.heap.size + 1 + 1, 11, none⟩ = some (.int .i64 0) := bk4.ints (f := fun _ => 0) (by omega)
  have u0 := bk4.frozen 0
  have u1 := bk4.frozen 1
  have u2 := bk4.frozen 2
  have u3 := bk4.frozen 3
  have u4 := bk4.frozen 4
  have u5 := bk4.frozen 5
  have u6 := bk4.frozen 6
  have u7 := bk4.frozen 7
  have u8 := bk4.frozen 8
  have u9 := bk4.frozen 9
  have u10 := bk4.frozen 10
  have u11 := bk4.frozen 11
  go_wp2_with fail
  refine bodyPost_ret (v := .agg (arr12 F)) (by simp [results, Try.results97, go_sem, arr12, *]) rfl ⟨rfl, ?_⟩
  repeat' (first | with_reducible assumption | with_reducible exact Below.refl _ _ | (with_reducible refine Below.setCell ?_ ?_ _) | (with_reducible refine Below.alloc ?_ ?_ _) | (with_reducible refine Below.drew ?_) | (with_reducible refine below_dr ?_ _) | (with_reducible refine Below.trans ?_ (Below.mono (by with_reducible assumption) ?_)) | omega | (simp; done) | (simp; omega))
end Go.Proofs.Ytcjjmkkphbeoeaa
