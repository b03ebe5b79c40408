/- Walks: the right-hand side of an equation of a curve, the reference's side. -/
import Derived.Test.YtcjjmkkphbeoeaaNa
namespace Go.Proofs.Ytcjjmkkphbeoeaa
open Go.RowKit
set_option linter.unusedVariables false
set_option maxHeartbeats 1600000 in
theorem sub_any (a b c d : Int) (w : World) (h1 : -262144 ≤ a ∧ a ≤ 262144) (h2 : -262144 ≤ b ∧ b ≤ 262144) (h3 : -262144 ≤ c ∧ c ≤ 262144) (h4 : -262144 ≤ d ∧ d ≤ 262144) :
    Calls Try.prog 72 #[.agg #[.int .i64 a, .int .i64 b], .agg #[.int .i64 c, .int .i64 d]] w fun e w' => e = .returned (.agg #[.int .i64 (a - c), .int .i64 (b - d)]) ∧ Below w.heap.size w w' := by
  obtain ⟨h1, k1⟩ := h1
  obtain ⟨h2, k2⟩ := h2
  obtain ⟨h3, k3⟩ := h3
  obtain ⟨h4, k4⟩ := h4
  go_enter Try.func72, Try.ntmps72
  go_wp2
  refine bodyPost_ret (v := .agg #[.int .i64 (a - c), .int .i64 (b - d)]) (by simp [results, Try.results72, go_sem]) rfl ⟨rfl, ?_⟩
  repeat' (first | assumption | exact Below.refl _ _ | (refine Below.setCell ?_ ?_ _) | (refine Below.alloc ?_ ?_ _) | (refine below_dr ?_ _) | exact Nat.le_refl _ | (simp; done) | (simp; omega))
set_option maxRecDepth 100000 in
set_option maxHeartbeats 6400000 in
theorem l06Side_in_t (l : List APt) (A : Option Addr) (c : Nat) (t : Int) (ff : Bool) (fl : Bool) (fx fy lx ly : Int) (k : Nat) (b : Nat) (w : World) (hp : ptsUp l l.length = true) (h2 : 2 ≤ l.length) (h10 : l.length ≤ 10) (hk : k < l.length) (h3 : 3 ≤ l.length) (at0 : AtL b [.slice A l.length c, .bool true, .int .i64 t, .bool ff, .bool fl, .int .i64 fx, .int .i64 fy, .int .i64 lx, .int .i64 ly] w) (r : Rd cPt 2 w w.heap.size A l) :
    Calls Try.prog 42 #[.pointer (some ⟨b, 0, none⟩), .int .i64 k] w fun e w' => e = .returned (.agg #[.int .i64 (sideP l true ff fl fx fy lx ly k).1, .int .i64 (sideP l true ff fl fx fy lx ly k).2]) ∧ Below w.heap.size w w' := by
  rw [side_in (l := l) (cl := true) (ff := ff) (fl := fl) (fx := fx) (fy := fy) (lx := lx) (ly := ly) (k := k) (rfl)]
  obtain ⟨p, hpp⟩ : ∃ p, p = (k + l.length - 1) % l.length := ⟨_, rfl⟩
  obtain ⟨q, hq⟩ : ∃ q, q = (k + 1) % l.length := ⟨_, rfl⟩
  rw [← hpp, ← hq]
  have hpl : p < l.length := by rw [hpp]; exact Nat.mod_lt _ (by omega)
  have hql : q < l.length := by rw [hq]; exact Nat.mod_lt _ (by omega)
  have e3 : ((k : Int) + (l.length : Int) - 1).tmod (l.length : Int) = (p : Int) := by rw [hpp, show ((k : Int) + (l.length : Int) - 1) = ((k + l.length - 1 : Nat) : Int) by omega]; exact (Int.ofNat_tmod _ _).symm
  have e4 : ((k : Int) + 1).tmod (l.length : Int) = (q : Int) := by rw [hq, show ((k : Int) + 1) = ((k + 1 : Nat) : Int) by omega]; exact (Int.ofNat_tmod _ _).symm
  clear hpp hq
  obtain ⟨⟨x0, x1⟩, hx⟩ : ∃ a, kt l p = a := ⟨_, rfl⟩
  obtain ⟨⟨y0, y1⟩, hy⟩ : ∃ a, kt l q = a := ⟨_, rfl⟩
  have bi := okB_bounds (kt_ok hp (k := p) (by omega))
  have bj := okB_bounds (kt_ok hp (k := q) (by omega))
  have ei := kt_at (l := l) (k := p) (by omega)
  have ej := kt_at (l := l) (k := q) (by omega)
  rw [hx] at bi ei
  rw [hy] at bj ej
  simp only at bi bj
  unfold way3
  rw [hx, hy]
  simp only
  clear hx hy hp
  obtain ⟨a1, a2, a3, a4⟩ := bi
  obtain ⟨d1, d2, d3, d4⟩ := bj
  have CM := Lib.hid (fun w => sub_any y0 y1 x0 x1 w ⟨by omega, by omega⟩ ⟨by omega, by omega⟩ ⟨by omega, by omega⟩ ⟨by omega, by omega⟩)
  have m1 : IntKind.i64.wrap (3 * (y0 - x0)) = 3 * (y0 - x0) := IntWalk.i64_in _ (by omega)
  have m2 : IntKind.i64.wrap (3 * (y1 - x1)) = 3 * (y1 - x1) := IntWalk.i64_in _ (by omega)
  clear a1 a2 a3 a4 d1 d2 d3 d4
  obtain ⟨g, o, rfl, hg, hc⟩ := r.elem ei
  obtain ⟨g', o', hA', hg', hc'⟩ := r.elem ej
  obtain ⟨rfl, rfl⟩ : g = g' ∧ o = o' := by injection hA' with h; injection h with h1 h2; exact ⟨h1, h2⟩
  have p0 : w.cell? ⟨g, o + p * 2, none⟩ = some (.int .i64 x0) := hc 0 _ rfl
  have p1 : w.cell? ⟨g, o + p * 2 + 1, none⟩ = some (.int .i64 x1) := hc 1 _ rfl
  have q0 : w.cell? ⟨g, o + q * 2, none⟩ = some (.int .i64 y0) := hc' 0 _ rfl
  have q1 : w.cell? ⟨g, o + q * 2 + 1, none⟩ = some (.int .i64 y1) := hc' 1 _ rfl
  clear hc hc' hA' hg' ei ej r
  have hii : ((p : Nat) : Int) < (l.length : Int) := by omega
  have hjj : ((q : Nat) : Int) < (l.length : Int) := by omega
  generalize l.length = n at *
  have e0 : IntKind.i64.wrap ((n : Int) - 2) = (n : Int) - 2 := IntWalk.i64_in _ (by omega)
  have lb := at0.lt
  have k0 := at0.cell 0 rfl
  have k1 := at0.cell 1 rfl
  have k2 := at0.cell 2 rfl
  have k3 := at0.cell 3 rfl
  have k4 := at0.cell 4 rfl
  have k5 := at0.cell 5 rfl
  have k6 := at0.cell 6 rfl
  have k7 := at0.cell 7 rfl
  have k8 := at0.cell 8 rfl
  have e1 : IntKind.i64.wrap ((k : Int) + (n : Int)) = (k : Int) + (n : Int) := IntWalk.i64_in _ (by omega)
  have e2 : IntKind.i64.wrap ((k : Int) + (n : Int) - 1) = (k : Int) + (n : Int) - 1 := IntWalk.i64_in _ (by omega)
  have e5 : IntKind.i64.wrap ((k : Int) + 1) = (k : Int) + 1 := IntWalk.i64_in _ (by omega)
  have en0 : ((n : Int) == 0) = false := by simp; omega
  have en1 : ¬ (n : Int) = 0 := by omega
  have en2 : ¬ n = 0 := by omega
  go_enter Try.func42, Try.ntmps42
  go_wp2_with fail
  clear k0 k1 k2 k3 k4 k5 k6 k7 k8
  generalize hW : (w.alloc (.cells #[.int .i64 0, .int .i64 0] 24)).alloc (.cells #[.int .i64 0, .int .i64 0] 24) = W0
  have at1 : AtL b [.slice (some ⟨g, o, none⟩) n c, .bool true, .int .i64 t, .bool ff, .bool fl, .int .i64 fx, .int .i64 fy, .int .i64 lx, .int .i64 ly] W0 := by rw [← hW]; exact (at0.alloc _).alloc _
  have p0' : W0.cell? ⟨g, o + p * 2, none⟩ = some (.int .i64 x0) := by rw [← hW]; exact (cell_alloc_at _ _ (by simp; omega)).trans ((cell_alloc_at _ _ hg).trans p0)
  have p1' : W0.cell? ⟨g, o + p * 2 + 1, none⟩ = some (.int .i64 x1) := by rw [← hW]; exact (cell_alloc_at _ _ (by simp; omega)).trans ((cell_alloc_at _ _ hg).trans p1)
  have q0' : W0.cell? ⟨g, o + q * 2, none⟩ = some (.int .i64 y0) := by rw [← hW]; exact (cell_alloc_at _ _ (by simp; omega)).trans ((cell_alloc_at _ _ hg).trans q0)
  have q1' : W0.cell? ⟨g, o + q * 2 + 1, none⟩ = some (.int .i64 y1) := by rw [← hW]; exact (cell_alloc_at _ _ (by simp; omega)).trans ((cell_alloc_at _ _ hg).trans q1)
  have bk : Blk W0 w.heap.size 24 #[.int .i64 0, .int .i64 0] := by rw [← hW]; exact (Blk.new _ _ _).alloc _
  have bm : Blk W0 (w.heap.size + 1) 24 #[.int .i64 0, .int .i64 0] := by rw [← hW]; exact Blk.newAt _ _ _ (by simp)
  have b0 : Below w.heap.size w W0 := by rw [← hW]; repeat' (first | with_reducible assumption | with_reducible exact Below.refl _ _ | (with_reducible refine Below.setCell ?_ ?_ _) | (with_reducible refine Below.alloc ?_ ?_ _) | (with_reducible refine Below.drew ?_) | (with_reducible refine below_dr ?_ _) | (with_reducible refine Below.trans ?_ (Below.mono (by with_reducible assumption) ?_)) | omega | (simp; done) | (simp; omega))
  clear hW p0 p1 q0 q1 at0
  have lm := bm.lt
  have lk := bk.lt
  have lg : g < W0.heap.size := by omega
  have lb2 : b < W0.heap.size := by omega
  have lg3 : g < w.heap.size + 1 := by omega
  have lb3 : b < w.heap.size + 1 := by omega
  have k0 := at1.cell 0 rfl
  have k1 := at1.cell 1 rfl
  have k2 := at1.cell 2 rfl
  have k3 := at1.cell 3 rfl
  have k4 := at1.cell 4 rfl
  have k5 := at1.cell 5 rfl
  have k6 := at1.cell 6 rfl
  have k7 := at1.cell 7 rfl
  have k8 := at1.cell 8 rfl
  have v0 : W0.cell? ⟨w.heap.size, 0, none⟩ = some (.int .i64 0) := bk.cell 0 rfl
  have v1 : W0.cell? ⟨w.heap.size, 1, none⟩ = some (.int .i64 0) := bk.cell 1 rfl
  have s0 : W0.cell? ⟨w.heap.size + 1, 0, none⟩ = some (.int .i64 0) := bm.cell 0 rfl
  have s1 : W0.cell? ⟨w.heap.size + 1, 1, none⟩ = some (.int .i64 0) := bm.cell 1 rfl
  have fv0 : W0.frozen? ⟨w.heap.size, 0, none⟩ = false := bk.frozen 0
  have fv1 : W0.frozen? ⟨w.heap.size, 1, none⟩ = false := bk.frozen 1
  have fs0 : W0.frozen? ⟨w.heap.size + 1, 0, none⟩ = false := bm.frozen 0
  have fs1 : W0.frozen? ⟨w.heap.size + 1, 1, none⟩ = false := bm.frozen 1
  go_region_held3 (fun w' => (∀ b o, b < w.heap.size + 1 → w'.cell? ⟨b, o, none⟩ = W0.cell? ⟨b, o, none⟩) ∧ W0.heap.size ≤ w'.heap.size)
    (first | ((try dsimp only); exact ⟨fun b o h => (by (repeat (first | with_reducible exact rfl | (with_reducible refine (cell_drew_at _ _).trans ?_) | (with_reducible refine (cell_set_at _ _ (by first | omega | (simp; done) | (simp; omega))).trans ?_) | (with_reducible refine (cell_alloc_at _ _ (by first | omega | (simp; done) | (simp; omega))).trans ?_) | (with_reducible refine (hcwS b o (by first | omega | (simp; done) | (simp; omega))).trans ?_)))), (by first | omega | (simp; done) | (simp; omega))⟩) | fail)
    (first
      | (go_at_call 72; (with_reducible refine (CM.out _).mono ?_); rintro e wS ⟨rfl, hbwS⟩; obtain ⟨hcwS, hfwS⟩ := bcell hbwS; have hzwS := hbwS.size; (try simp only [World.size_drew] at hcwS hfwS hzwS); (try simp only [World.size_alloc] at hcwS hfwS hzwS); (try have qwS : w.heap.size + 1 < wS.heap.size := (by omega))))
  all_goals
    have b8 : Below w.heap.size w wS := by repeat' (first | with_reducible assumption | with_reducible exact Below.refl _ _ | (with_reducible refine Below.setCell ?_ ?_ _) | (with_reducible refine Below.alloc ?_ ?_ _) | (with_reducible refine Below.drew ?_) | (with_reducible refine below_dr ?_ _) | (with_reducible refine Below.trans ?_ (Below.mono (by with_reducible assumption) ?_)) | omega | (simp; done) | (simp; omega))
    go_wp2_with fail
    refine bodyPost_ret (v := .agg #[.int .i64 (3 * (y0 - x0)), .int .i64 (3 * (y1 - x1))]) (by simp [results, Try.results42, go_sem, *]) rfl ⟨rfl, ?_⟩
    repeat' (first | with_reducible assumption | with_reducible exact Below.refl _ _ | (with_reducible refine Below.setCell ?_ ?_ _) | (with_reducible refine Below.alloc ?_ ?_ _) | (with_reducible refine Below.drew ?_) | (with_reducible refine below_dr ?_ _) | (with_reducible refine Below.trans ?_ (Below.mono (by with_reducible assumption) ?_)) | omega | (simp; done) | (simp; omega))
set_option maxRecDepth 100000 in
set_option maxHeartbeats 6400000 in
theorem l06Side_in_f (l : List APt) (A : Option Addr) (c : Nat) (t : Int) (ff : Bool) (fl : Bool) (fx fy lx ly : Int) (k : Nat) (b : Nat) (w : World) (hp : ptsUp l l.length = true) (h2 : 2 ≤ l.length) (h10 : l.length ≤ 10) (hk : k < l.length) (h1 : 1 ≤ k) (h3 : k + 2 ≤ l.length) (at0 : AtL b [.slice A l.length c, .bool false, .int .i64 t, .bool ff, .bool fl, .int .i64 fx, .int .i64 fy, .int .i64 lx, .int .i64 ly] w) (r : Rd cPt 2 w w.heap.size A l) :
    Calls Try.prog 42 #[.pointer (some ⟨b, 0, none⟩), .int .i64 k] w fun e w' => e = .returned (.agg #[.int .i64 (sideP l false ff fl fx fy lx ly k).1, .int .i64 (sideP l false ff fl fx fy lx ly k).2]) ∧ Below w.heap.size w w' := by
  rw [side_in (l := l) (cl := false) (ff := ff) (fl := fl) (fx := fx) (fy := fy) (lx := lx) (ly := ly) (k := k) (by unfold inB; simp; omega)]
  obtain ⟨p, hpp⟩ : ∃ p, p = (k + l.length - 1) % l.length := ⟨_, rfl⟩
  obtain ⟨q, hq⟩ : ∃ q, q = (k + 1) % l.length := ⟨_, rfl⟩
  rw [← hpp, ← hq]
  have hpl : p < l.length := by rw [hpp]; exact Nat.mod_lt _ (by omega)
  have hql : q < l.length := by rw [hq]; exact Nat.mod_lt _ (by omega)
  have e3 : ((k : Int) + (l.length : Int) - 1).tmod (l.length : Int) = (p : Int) := by rw [hpp, show ((k : Int) + (l.length : Int) - 1) = ((k + l.length - 1 : Nat) : Int) by omega]; exact (Int.ofNat_tmod _ _).symm
  have e4 : ((k : Int) + 1).tmod (l.length : Int) = (q : Int) := by rw [hq, show ((k : Int) + 1) = ((k + 1 : Nat) : Int) by omega]; exact (Int.ofNat_tmod _ _).symm
  clear hpp hq
  obtain ⟨⟨x0, x1⟩, hx⟩ : ∃ a, kt l p = a := ⟨_, rfl⟩
  obtain ⟨⟨y0, y1⟩, hy⟩ : ∃ a, kt l q = a := ⟨_, rfl⟩
  have bi := okB_bounds (kt_ok hp (k := p) (by omega))
  have bj := okB_bounds (kt_ok hp (k := q) (by omega))
  have ei := kt_at (l := l) (k := p) (by omega)
  have ej := kt_at (l := l) (k := q) (by omega)
  rw [hx] at bi ei
  rw [hy] at bj ej
  simp only at bi bj
  unfold way3
  rw [hx, hy]
  simp only
  clear hx hy hp
  obtain ⟨a1, a2, a3, a4⟩ := bi
  obtain ⟨d1, d2, d3, d4⟩ := bj
  have CM := Lib.hid (fun w => sub_any y0 y1 x0 x1 w ⟨by omega, by omega⟩ ⟨by omega, by omega⟩ ⟨by omega, by omega⟩ ⟨by omega, by omega⟩)
  have m1 : IntKind.i64.wrap (3 * (y0 - x0)) = 3 * (y0 - x0) := IntWalk.i64_in _ (by omega)
  have m2 : IntKind.i64.wrap (3 * (y1 - x1)) = 3 * (y1 - x1) := IntWalk.i64_in _ (by omega)
  clear a1 a2 a3 a4 d1 d2 d3 d4
  obtain ⟨g, o, rfl, hg, hc⟩ := r.elem ei
  obtain ⟨g', o', hA', hg', hc'⟩ := r.elem ej
  obtain ⟨rfl, rfl⟩ : g = g' ∧ o = o' := by injection hA' with h; injection h with h1 h2; exact ⟨h1, h2⟩
  have p0 : w.cell? ⟨g, o + p * 2, none⟩ = some (.int .i64 x0) := hc 0 _ rfl
  have p1 : w.cell? ⟨g, o + p * 2 + 1, none⟩ = some (.int .i64 x1) := hc 1 _ rfl
  have q0 : w.cell? ⟨g, o + q * 2, none⟩ = some (.int .i64 y0) := hc' 0 _ rfl
  have q1 : w.cell? ⟨g, o + q * 2 + 1, none⟩ = some (.int .i64 y1) := hc' 1 _ rfl
  clear hc hc' hA' hg' ei ej r
  have hii : ((p : Nat) : Int) < (l.length : Int) := by omega
  have hjj : ((q : Nat) : Int) < (l.length : Int) := by omega
  generalize l.length = n at *
  have e0 : IntKind.i64.wrap ((n : Int) - 2) = (n : Int) - 2 := IntWalk.i64_in _ (by omega)
  have lb := at0.lt
  have k0 := at0.cell 0 rfl
  have k1 := at0.cell 1 rfl
  have k2 := at0.cell 2 rfl
  have k3 := at0.cell 3 rfl
  have k4 := at0.cell 4 rfl
  have k5 := at0.cell 5 rfl
  have k6 := at0.cell 6 rfl
  have k7 := at0.cell 7 rfl
  have k8 := at0.cell 8 rfl
  have e1 : IntKind.i64.wrap ((k : Int) + (n : Int)) = (k : Int) + (n : Int) := IntWalk.i64_in _ (by omega)
  have e2 : IntKind.i64.wrap ((k : Int) + (n : Int) - 1) = (k : Int) + (n : Int) - 1 := IntWalk.i64_in _ (by omega)
  have e5 : IntKind.i64.wrap ((k : Int) + 1) = (k : Int) + 1 := IntWalk.i64_in _ (by omega)
  have en0 : ((n : Int) == 0) = false := by simp; omega
  have en1 : ¬ (n : Int) = 0 := by omega
  have en2 : ¬ n = 0 := by omega
  go_enter Try.func42, Try.ntmps42
  go_wp2_with fail
  refine (l00In_yes _ _ _ _ (by omega) (by omega)).mono ?_
  rintro e w1 ⟨rfl, rfl⟩
  go_wp2_with fail
  clear k0 k1 k2 k3 k4 k5 k6 k7 k8
  generalize hW : (w.alloc (.cells #[.int .i64 0, .int .i64 0] 24)).alloc (.cells #[.int .i64 0, .int .i64 0] 24) = W0
  have at1 : AtL b [.slice (some ⟨g, o, none⟩) n c, .bool false, .int .i64 t, .bool ff, .bool fl, .int .i64 fx, .int .i64 fy, .int .i64 lx, .int .i64 ly] W0 := by rw [← hW]; exact (at0.alloc _).alloc _
  have p0' : W0.cell? ⟨g, o + p * 2, none⟩ = some (.int .i64 x0) := by rw [← hW]; exact (cell_alloc_at _ _ (by simp; omega)).trans ((cell_alloc_at _ _ hg).trans p0)
  have p1' : W0.cell? ⟨g, o + p * 2 + 1, none⟩ = some (.int .i64 x1) := by rw [← hW]; exact (cell_alloc_at _ _ (by simp; omega)).trans ((cell_alloc_at _ _ hg).trans p1)
  have q0' : W0.cell? ⟨g, o + q * 2, none⟩ = some (.int .i64 y0) := by rw [← hW]; exact (cell_alloc_at _ _ (by simp; omega)).trans ((cell_alloc_at _ _ hg).trans q0)
  have q1' : W0.cell? ⟨g, o + q * 2 + 1, none⟩ = some (.int .i64 y1) := by rw [← hW]; exact (cell_alloc_at _ _ (by simp; omega)).trans ((cell_alloc_at _ _ hg).trans q1)
  have bk : Blk W0 w.heap.size 24 #[.int .i64 0, .int .i64 0] := by rw [← hW]; exact (Blk.new _ _ _).alloc _
  have bm : Blk W0 (w.heap.size + 1) 24 #[.int .i64 0, .int .i64 0] := by rw [← hW]; exact Blk.newAt _ _ _ (by simp)
  have b0 : Below w.heap.size w W0 := by rw [← hW]; repeat' (first | with_reducible assumption | with_reducible exact Below.refl _ _ | (with_reducible refine Below.setCell ?_ ?_ _) | (with_reducible refine Below.alloc ?_ ?_ _) | (with_reducible refine Below.drew ?_) | (with_reducible refine below_dr ?_ _) | (with_reducible refine Below.trans ?_ (Below.mono (by with_reducible assumption) ?_)) | omega | (simp; done) | (simp; omega))
  clear hW p0 p1 q0 q1 at0
  have lm := bm.lt
  have lk := bk.lt
  have lg : g < W0.heap.size := by omega
  have lb2 : b < W0.heap.size := by omega
  have lg3 : g < w.heap.size + 1 := by omega
  have lb3 : b < w.heap.size + 1 := by omega
  have k0 := at1.cell 0 rfl
  have k1 := at1.cell 1 rfl
  have k2 := at1.cell 2 rfl
  have k3 := at1.cell 3 rfl
  have k4 := at1.cell 4 rfl
  have k5 := at1.cell 5 rfl
  have k6 := at1.cell 6 rfl
  have k7 := at1.cell 7 rfl
  have k8 := at1.cell 8 rfl
  have v0 : W0.cell? ⟨w.heap.size, 0, none⟩ = some (.int .i64 0) := bk.cell 0 rfl
  have v1 : W0.cell? ⟨w.heap.size, 1, none⟩ = some (.int .i64 0) := bk.cell 1 rfl
  have s0 : W0.cell? ⟨w.heap.size + 1, 0, none⟩ = some (.int .i64 0) := bm.cell 0 rfl
  have s1 : W0.cell? ⟨w.heap.size + 1, 1, none⟩ = some (.int .i64 0) := bm.cell 1 rfl
  have fv0 : W0.frozen? ⟨w.heap.size, 0, none⟩ = false := bk.frozen 0
  have fv1 : W0.frozen? ⟨w.heap.size, 1, none⟩ = false := bk.frozen 1
  have fs0 : W0.frozen? ⟨w.heap.size + 1, 0, none⟩ = false := bm.frozen 0
  have fs1 : W0.frozen? ⟨w.heap.size + 1, 1, none⟩ = false := bm.frozen 1
  go_region_held3 (fun w' => (∀ b o, b < w.heap.size + 1 → w'.cell? ⟨b, o, none⟩ = W0.cell? ⟨b, o, none⟩) ∧ W0.heap.size ≤ w'.heap.size)
    (first | ((try dsimp only); exact ⟨fun b o h => (by (repeat (first | with_reducible exact rfl | (with_reducible refine (cell_drew_at _ _).trans ?_) | (with_reducible refine (cell_set_at _ _ (by first | omega | (simp; done) | (simp; omega))).trans ?_) | (with_reducible refine (cell_alloc_at _ _ (by first | omega | (simp; done) | (simp; omega))).trans ?_) | (with_reducible refine (hcwS b o (by first | omega | (simp; done) | (simp; omega))).trans ?_)))), (by first | omega | (simp; done) | (simp; omega))⟩) | fail)
    (first
      | (go_at_call 72; (with_reducible refine (CM.out _).mono ?_); rintro e wS ⟨rfl, hbwS⟩; obtain ⟨hcwS, hfwS⟩ := bcell hbwS; have hzwS := hbwS.size; (try simp only [World.size_drew] at hcwS hfwS hzwS); (try simp only [World.size_alloc] at hcwS hfwS hzwS); (try have qwS : w.heap.size + 1 < wS.heap.size := (by omega))))
  all_goals
    have b8 : Below w.heap.size w wS := by repeat' (first | with_reducible assumption | with_reducible exact Below.refl _ _ | (with_reducible refine Below.setCell ?_ ?_ _) | (with_reducible refine Below.alloc ?_ ?_ _) | (with_reducible refine Below.drew ?_) | (with_reducible refine below_dr ?_ _) | (with_reducible refine Below.trans ?_ (Below.mono (by with_reducible assumption) ?_)) | omega | (simp; done) | (simp; omega))
    go_wp2_with fail
    refine bodyPost_ret (v := .agg #[.int .i64 (3 * (y0 - x0)), .int .i64 (3 * (y1 - x1))]) (by simp [results, Try.results42, go_sem, *]) rfl ⟨rfl, ?_⟩
    repeat' (first | with_reducible assumption | with_reducible exact Below.refl _ _ | (with_reducible refine Below.setCell ?_ ?_ _) | (with_reducible refine Below.alloc ?_ ?_ _) | (with_reducible refine Below.drew ?_) | (with_reducible refine below_dr ?_ _) | (with_reducible refine Below.trans ?_ (Below.mono (by with_reducible assumption) ?_)) | omega | (simp; done) | (simp; omega))
set_option maxRecDepth 100000 in
set_option maxHeartbeats 6400000 in
theorem l06Side_first_t (l : List APt) (A : Option Addr) (c : Nat) (t : Int) (fl : Bool) (fx fy lx ly : Int) (b : Nat) (w : World) (hp : ptsUp l l.length = true) (h2 : 2 ≤ l.length) (h10 : l.length ≤ 10)   (at0 : AtL b [.slice A l.length c, .bool false, .int .i64 t, .bool true, .bool fl, .int .i64 fx, .int .i64 fy, .int .i64 lx, .int .i64 ly] w) (r : Rd cPt 2 w w.heap.size A l) :
    Calls Try.prog 42 #[.pointer (some ⟨b, 0, none⟩), .int .i64 0] w fun e w' => e = .returned (.agg #[.int .i64 (sideP l false true fl fx fy lx ly 0).1, .int .i64 (sideP l false true fl fx fy lx ly 0).2]) ∧ Below w.heap.size w w' := by
  rw [side_first (l := l) (cl := false) (ff := true) (fl := fl) (fx := fx) (fy := fy) (lx := lx) (ly := ly) (by unfold inB; simp)]
  rw [if_pos rfl]
  clear hp r
  generalize l.length = n at *
  have lb := at0.lt
  have k0 := at0.cell 0 rfl
  have k1 := at0.cell 1 rfl
  have k2 := at0.cell 2 rfl
  have k3 := at0.cell 3 rfl
  have k4 := at0.cell 4 rfl
  have k5 := at0.cell 5 rfl
  have k6 := at0.cell 6 rfl
  have k7 := at0.cell 7 rfl
  have k8 := at0.cell 8 rfl
  have e0 : IntKind.i64.wrap ((n : Int) - 2) = (n : Int) - 2 := IntWalk.i64_in _ (by omega)
  go_enter Try.func42, Try.ntmps42
  go_wp2_with fail
  refine (l00In_no _ _ _ _ (by omega)).mono ?_
  rintro e w1 ⟨rfl, rfl⟩
  go_wp2_with fail
  refine bodyPost_ret (v := .agg #[.int .i64 fx, .int .i64 fy]) (by simp [results, Try.results42, go_sem, *]) rfl ⟨rfl, ?_⟩
  repeat' (first | with_reducible assumption | with_reducible exact Below.refl _ _ | (with_reducible refine Below.setCell ?_ ?_ _) | (with_reducible refine Below.alloc ?_ ?_ _) | (with_reducible refine Below.drew ?_) | (with_reducible refine below_dr ?_ _) | (with_reducible refine Below.trans ?_ (Below.mono (by with_reducible assumption) ?_)) | omega | (simp; done) | (simp; omega))
set_option maxRecDepth 100000 in
set_option maxHeartbeats 6400000 in
theorem l06Side_first_f (l : List APt) (A : Option Addr) (c : Nat) (t : Int) (fl : Bool) (fx fy lx ly : Int) (b : Nat) (w : World) (hp : ptsUp l l.length = true) (h2 : 2 ≤ l.length) (h10 : l.length ≤ 10)   (at0 : AtL b [.slice A l.length c, .bool false, .int .i64 t, .bool false, .bool fl, .int .i64 fx, .int .i64 fy, .int .i64 lx, .int .i64 ly] w) (r : Rd cPt 2 w w.heap.size A l) :
    Calls Try.prog 42 #[.pointer (some ⟨b, 0, none⟩), .int .i64 0] w fun e w' => e = .returned (.agg #[.int .i64 (sideP l false false fl fx fy lx ly 0).1, .int .i64 (sideP l false false fl fx fy lx ly 0).2]) ∧ Below w.heap.size w w' := by
  rw [side_first (l := l) (cl := false) (ff := false) (fl := fl) (fx := fx) (fy := fy) (lx := lx) (ly := ly) (by unfold inB; simp)]
  rw [if_neg (by simp)]
  obtain ⟨⟨x0, x1⟩, hx⟩ : ∃ a, kt l 0 = a := ⟨_, rfl⟩
  obtain ⟨⟨y0, y1⟩, hy⟩ : ∃ a, kt l 1 = a := ⟨_, rfl⟩
  have bi := okB_bounds (kt_ok hp (k := 0) (by omega))
  have bj := okB_bounds (kt_ok hp (k := 1) (by omega))
  have ei := kt_at (l := l) (k := 0) (by omega)
  have ej := kt_at (l := l) (k := 1) (by omega)
  rw [hx] at bi ei
  rw [hy] at bj ej
  simp only at bi bj
  unfold way3
  rw [hx, hy]
  simp only
  clear hx hy hp
  obtain ⟨a1, a2, a3, a4⟩ := bi
  obtain ⟨d1, d2, d3, d4⟩ := bj
  have CM := Lib.hid (fun w => sub_any y0 y1 x0 x1 w ⟨by omega, by omega⟩ ⟨by omega, by omega⟩ ⟨by omega, by omega⟩ ⟨by omega, by omega⟩)
  have m1 : IntKind.i64.wrap (3 * (y0 - x0)) = 3 * (y0 - x0) := IntWalk.i64_in _ (by omega)
  have m2 : IntKind.i64.wrap (3 * (y1 - x1)) = 3 * (y1 - x1) := IntWalk.i64_in _ (by omega)
  clear a1 a2 a3 a4 d1 d2 d3 d4
  obtain ⟨g, o, rfl, hg, hc⟩ := r.elem ei
  obtain ⟨g', o', hA', hg', hc'⟩ := r.elem ej
  obtain ⟨rfl, rfl⟩ : g = g' ∧ o = o' := by injection hA' with h; injection h with h1 h2; exact ⟨h1, h2⟩
  have p0 : w.cell? ⟨g, o + 0 * 2, none⟩ = some (.int .i64 x0) := hc 0 _ rfl
  have p1 : w.cell? ⟨g, o + 0 * 2 + 1, none⟩ = some (.int .i64 x1) := hc 1 _ rfl
  have q0 : w.cell? ⟨g, o + 1 * 2, none⟩ = some (.int .i64 y0) := hc' 0 _ rfl
  have q1 : w.cell? ⟨g, o + 1 * 2 + 1, none⟩ = some (.int .i64 y1) := hc' 1 _ rfl
  clear hc hc' hA' hg' ei ej r
  have hii : ((0 : Nat) : Int) < (l.length : Int) := by omega
  have hjj : ((1 : Nat) : Int) < (l.length : Int) := by omega
  have p0 : w.cell? ⟨g, o, none⟩ = some (.int .i64 x0) := by simpa using p0
  have p1 : w.cell? ⟨g, o + 1, none⟩ = some (.int .i64 x1) := by simpa using p1
  have q0 : w.cell? ⟨g, o + 2, none⟩ = some (.int .i64 y0) := by simpa using q0
  have q1 : w.cell? ⟨g, o + 2 + 1, none⟩ = some (.int .i64 y1) := by simpa using q1
  have hjj : (1 : Int) < (l.length : Int) := by omega
  have hii : (0 : Int) < (l.length : Int) := by omega
  have hin0 : 0 < l.length := by omega
  have hin1 : 1 < l.length := by omega
  generalize l.length = n at *
  have e0 : IntKind.i64.wrap ((n : Int) - 2) = (n : Int) - 2 := IntWalk.i64_in _ (by omega)
  have lb := at0.lt
  have k0 := at0.cell 0 rfl
  have k1 := at0.cell 1 rfl
  have k2 := at0.cell 2 rfl
  have k3 := at0.cell 3 rfl
  have k4 := at0.cell 4 rfl
  have k5 := at0.cell 5 rfl
  have k6 := at0.cell 6 rfl
  have k7 := at0.cell 7 rfl
  have k8 := at0.cell 8 rfl
  go_enter Try.func42, Try.ntmps42
  go_wp2_with fail
  refine (l00In_no _ _ _ _ (by omega)).mono ?_
  rintro e w1 ⟨rfl, rfl⟩
  go_wp2_with fail
  clear k0 k1 k2 k3 k4 k5 k6 k7 k8
  generalize hW : (w.alloc (.cells #[.int .i64 0, .int .i64 0] 24)).alloc (.cells #[.int .i64 0, .int .i64 0] 24) = W0
  have at1 : AtL b [.slice (some ⟨g, o, none⟩) n c, .bool false, .int .i64 t, .bool false, .bool fl, .int .i64 fx, .int .i64 fy, .int .i64 lx, .int .i64 ly] W0 := by rw [← hW]; exact (at0.alloc _).alloc _
  have p0' : W0.cell? ⟨g, o, none⟩ = some (.int .i64 x0) := by rw [← hW]; exact (cell_alloc_at _ _ (by simp; omega)).trans ((cell_alloc_at _ _ hg).trans p0)
  have p1' : W0.cell? ⟨g, o + 1, none⟩ = some (.int .i64 x1) := by rw [← hW]; exact (cell_alloc_at _ _ (by simp; omega)).trans ((cell_alloc_at _ _ hg).trans p1)
  have q0' : W0.cell? ⟨g, o + 2, none⟩ = some (.int .i64 y0) := by rw [← hW]; exact (cell_alloc_at _ _ (by simp; omega)).trans ((cell_alloc_at _ _ hg).trans q0)
  have q1' : W0.cell? ⟨g, o + 2 + 1, none⟩ = some (.int .i64 y1) := by rw [← hW]; exact (cell_alloc_at _ _ (by simp; omega)).trans ((cell_alloc_at _ _ hg).trans q1)
  have bk : Blk W0 w.heap.size 24 #[.int .i64 0, .int .i64 0] := by rw [← hW]; exact (Blk.new _ _ _).alloc _
  have bm : Blk W0 (w.heap.size + 1) 24 #[.int .i64 0, .int .i64 0] := by rw [← hW]; exact Blk.newAt _ _ _ (by simp)
  have b0 : Below w.heap.size w W0 := by rw [← hW]; repeat' (first | with_reducible assumption | with_reducible exact Below.refl _ _ | (with_reducible refine Below.setCell ?_ ?_ _) | (with_reducible refine Below.alloc ?_ ?_ _) | (with_reducible refine Below.drew ?_) | (with_reducible refine below_dr ?_ _) | (with_reducible refine Below.trans ?_ (Below.mono (by with_reducible assumption) ?_)) | omega | (simp; done) | (simp; omega))
  clear hW p0 p1 q0 q1 at0
  have lm := bm.lt
  have lk := bk.lt
  have lg : g < W0.heap.size := by omega
  have lb2 : b < W0.heap.size := by omega
  have lg3 : g < w.heap.size + 1 := by omega
  have lb3 : b < w.heap.size + 1 := by omega
  have k0 := at1.cell 0 rfl
  have k1 := at1.cell 1 rfl
  have k2 := at1.cell 2 rfl
  have k3 := at1.cell 3 rfl
  have k4 := at1.cell 4 rfl
  have k5 := at1.cell 5 rfl
  have k6 := at1.cell 6 rfl
  have k7 := at1.cell 7 rfl
  have k8 := at1.cell 8 rfl
  have v0 : W0.cell? ⟨w.heap.size, 0, none⟩ = some (.int .i64 0) := bk.cell 0 rfl
  have v1 : W0.cell? ⟨w.heap.size, 1, none⟩ = some (.int .i64 0) := bk.cell 1 rfl
  have s0 : W0.cell? ⟨w.heap.size + 1, 0, none⟩ = some (.int .i64 0) := bm.cell 0 rfl
  have s1 : W0.cell? ⟨w.heap.size + 1, 1, none⟩ = some (.int .i64 0) := bm.cell 1 rfl
  have fv0 : W0.frozen? ⟨w.heap.size, 0, none⟩ = false := bk.frozen 0
  have fv1 : W0.frozen? ⟨w.heap.size, 1, none⟩ = false := bk.frozen 1
  have fs0 : W0.frozen? ⟨w.heap.size + 1, 0, none⟩ = false := bm.frozen 0
  have fs1 : W0.frozen? ⟨w.heap.size + 1, 1, none⟩ = false := bm.frozen 1
  go_region_held3 (fun w' => (∀ b o, b < w.heap.size + 1 → w'.cell? ⟨b, o, none⟩ = W0.cell? ⟨b, o, none⟩) ∧ W0.heap.size ≤ w'.heap.size)
    (first | ((try dsimp only); exact ⟨fun b o h => (by (repeat (first | with_reducible exact rfl | (with_reducible refine (cell_drew_at _ _).trans ?_) | (with_reducible refine (cell_set_at _ _ (by first | omega | (simp; done) | (simp; omega))).trans ?_) | (with_reducible refine (cell_alloc_at _ _ (by first | omega | (simp; done) | (simp; omega))).trans ?_) | (with_reducible refine (hcwS b o (by first | omega | (simp; done) | (simp; omega))).trans ?_)))), (by first | omega | (simp; done) | (simp; omega))⟩) | fail)
    (first
      | (go_at_call 72; (with_reducible refine (CM.out _).mono ?_); rintro e wS ⟨rfl, hbwS⟩; obtain ⟨hcwS, hfwS⟩ := bcell hbwS; have hzwS := hbwS.size; (try simp only [World.size_drew] at hcwS hfwS hzwS); (try simp only [World.size_alloc] at hcwS hfwS hzwS); (try have qwS : w.heap.size + 1 < wS.heap.size := (by omega))))
  all_goals
    have b8 : Below w.heap.size w wS := by repeat' (first | with_reducible assumption | with_reducible exact Below.refl _ _ | (with_reducible refine Below.setCell ?_ ?_ _) | (with_reducible refine Below.alloc ?_ ?_ _) | (with_reducible refine Below.drew ?_) | (with_reducible refine below_dr ?_ _) | (with_reducible refine Below.trans ?_ (Below.mono (by with_reducible assumption) ?_)) | omega | (simp; done) | (simp; omega))
    go_wp2_with fail
    refine bodyPost_ret (v := .agg #[.int .i64 (3 * (y0 - x0)), .int .i64 (3 * (y1 - x1))]) (by simp [results, Try.results42, go_sem, *]) rfl ⟨rfl, ?_⟩
    repeat' (first | with_reducible assumption | with_reducible exact Below.refl _ _ | (with_reducible refine Below.setCell ?_ ?_ _) | (with_reducible refine Below.alloc ?_ ?_ _) | (with_reducible refine Below.drew ?_) | (with_reducible refine below_dr ?_ _) | (with_reducible refine Below.trans ?_ (Below.mono (by with_reducible assumption) ?_)) | omega | (simp; done) | (simp; omega))
set_option maxRecDepth 100000 in
set_option maxHeartbeats 6400000 in
theorem l06Side_last_t (l : List APt) (A : Option Addr) (c : Nat) (t : Int) (ff : Bool) (fx fy lx ly : Int) (k : Nat) (b : Nat) (w : World) (hp : ptsUp l l.length = true) (h2 : 2 ≤ l.length) (h10 : l.length ≤ 10) (hk : k < l.length) (h1 : 1 ≤ k) (h3 : k + 1 = l.length) (at0 : AtL b [.slice A l.length c, .bool false, .int .i64 t, .bool ff, .bool true, .int .i64 fx, .int .i64 fy, .int .i64 lx, .int .i64 ly] w) (r : Rd cPt 2 w w.heap.size A l) :
    Calls Try.prog 42 #[.pointer (some ⟨b, 0, none⟩), .int .i64 k] w fun e w' => e = .returned (.agg #[.int .i64 (sideP l false ff true fx fy lx ly k).1, .int .i64 (sideP l false ff true fx fy lx ly k).2]) ∧ Below w.heap.size w w' := by
  rw [side_last (l := l) (cl := false) (ff := ff) (fl := true) (fx := fx) (fy := fy) (lx := lx) (ly := ly) (k := k) (by unfold inB; simp; omega) (by omega)]
  rw [if_pos rfl]
  clear hp r
  generalize l.length = n at *
  have lb := at0.lt
  have k0 := at0.cell 0 rfl
  have k1 := at0.cell 1 rfl
  have k2 := at0.cell 2 rfl
  have k3 := at0.cell 3 rfl
  have k4 := at0.cell 4 rfl
  have k5 := at0.cell 5 rfl
  have k6 := at0.cell 6 rfl
  have k7 := at0.cell 7 rfl
  have k8 := at0.cell 8 rfl
  have e0 : IntKind.i64.wrap ((n : Int) - 2) = (n : Int) - 2 := IntWalk.i64_in _ (by omega)
  have e7 : ((k : Int) == 0) = false := by simp; omega
  have e8 : 0 < k := by omega
  have e9 : ¬ k = 0 := by omega
  go_enter Try.func42, Try.ntmps42
  go_wp2_with fail
  refine (l00In_no _ _ _ _ (by omega)).mono ?_
  rintro e w1 ⟨rfl, rfl⟩
  go_wp2_with fail
  refine bodyPost_ret (v := .agg #[.int .i64 lx, .int .i64 ly]) (by simp [results, Try.results42, go_sem, *]) rfl ⟨rfl, ?_⟩
  repeat' (first | with_reducible assumption | with_reducible exact Below.refl _ _ | (with_reducible refine Below.setCell ?_ ?_ _) | (with_reducible refine Below.alloc ?_ ?_ _) | (with_reducible refine Below.drew ?_) | (with_reducible refine below_dr ?_ _) | (with_reducible refine Below.trans ?_ (Below.mono (by with_reducible assumption) ?_)) | omega | (simp; done) | (simp; omega))
set_option maxRecDepth 100000 in
set_option maxHeartbeats 6400000 in
theorem l06Side_last_f (l : List APt) (A : Option Addr) (c : Nat) (t : Int) (ff : Bool) (fx fy lx ly : Int) (k : Nat) (b : Nat) (w : World) (hp : ptsUp l l.length = true) (h2 : 2 ≤ l.length) (h10 : l.length ≤ 10) (hk : k < l.length) (h1 : 1 ≤ k) (h3 : k + 1 = l.length) (at0 : AtL b [.slice A l.length c, .bool false, .int .i64 t, .bool ff, .bool false, .int .i64 fx, .int .i64 fy, .int .i64 lx, .int .i64 ly] w) (r : Rd cPt 2 w w.heap.size A l) :
    Calls Try.prog 42 #[.pointer (some ⟨b, 0, none⟩), .int .i64 k] w fun e w' => e = .returned (.agg #[.int .i64 (sideP l false ff false fx fy lx ly k).1, .int .i64 (sideP l false ff false fx fy lx ly k).2]) ∧ Below w.heap.size w w' := by
  rw [side_last (l := l) (cl := false) (ff := ff) (fl := false) (fx := fx) (fy := fy) (lx := lx) (ly := ly) (k := k) (by unfold inB; simp; omega) (by omega)]
  rw [if_neg (by simp)]
  obtain ⟨j, hj⟩ : ∃ j, j = k - 1 := ⟨_, rfl⟩
  rw [← hj]
  have e3 : IntKind.i64.wrap ((k : Int) - 1) = (j : Int) := (IntWalk.i64_in _ (by omega)).trans (by omega)
  have e3b : (k : Int) - 1 = (j : Int) := by omega
  have e3c : IntKind.i64.wrap ((k - 1 : Nat) : Int) = (j : Int) := (IntWalk.i64_in _ (by omega)).trans (by omega)
  have e3d : IntKind.i64.wrap (j : Int) = (j : Int) := IntWalk.i64_in _ (by omega)
  have hjk : j + 1 = k := by omega
  clear hj
  obtain ⟨⟨x0, x1⟩, hx⟩ : ∃ a, kt l j = a := ⟨_, rfl⟩
  obtain ⟨⟨y0, y1⟩, hy⟩ : ∃ a, kt l k = a := ⟨_, rfl⟩
  have bi := okB_bounds (kt_ok hp (k := j) (by omega))
  have bj := okB_bounds (kt_ok hp (k := k) (by omega))
  have ei := kt_at (l := l) (k := j) (by omega)
  have ej := kt_at (l := l) (k := k) (by omega)
  rw [hx] at bi ei
  rw [hy] at bj ej
  simp only at bi bj
  unfold way3
  rw [hx, hy]
  simp only
  clear hx hy hp
  obtain ⟨a1, a2, a3, a4⟩ := bi
  obtain ⟨d1, d2, d3, d4⟩ := bj
  have CM := Lib.hid (fun w => sub_any y0 y1 x0 x1 w ⟨by omega, by omega⟩ ⟨by omega, by omega⟩ ⟨by omega, by omega⟩ ⟨by omega, by omega⟩)
  have m1 : IntKind.i64.wrap (3 * (y0 - x0)) = 3 * (y0 - x0) := IntWalk.i64_in _ (by omega)
  have m2 : IntKind.i64.wrap (3 * (y1 - x1)) = 3 * (y1 - x1) := IntWalk.i64_in _ (by omega)
  clear a1 a2 a3 a4 d1 d2 d3 d4
  obtain ⟨g, o, rfl, hg, hc⟩ := r.elem ei
  obtain ⟨g', o', hA', hg', hc'⟩ := r.elem ej
  obtain ⟨rfl, rfl⟩ : g = g' ∧ o = o' := by injection hA' with h; injection h with h1 h2; exact ⟨h1, h2⟩
  have p0 : w.cell? ⟨g, o + j * 2, none⟩ = some (.int .i64 x0) := hc 0 _ rfl
  have p1 : w.cell? ⟨g, o + j * 2 + 1, none⟩ = some (.int .i64 x1) := hc 1 _ rfl
  have q0 : w.cell? ⟨g, o + k * 2, none⟩ = some (.int .i64 y0) := hc' 0 _ rfl
  have q1 : w.cell? ⟨g, o + k * 2 + 1, none⟩ = some (.int .i64 y1) := hc' 1 _ rfl
  clear hc hc' hA' hg' ei ej r
  have hii : ((j : Nat) : Int) < (l.length : Int) := by omega
  have hjj : ((k : Nat) : Int) < (l.length : Int) := by omega
  generalize l.length = n at *
  have e0 : IntKind.i64.wrap ((n : Int) - 2) = (n : Int) - 2 := IntWalk.i64_in _ (by omega)
  have lb := at0.lt
  have k0 := at0.cell 0 rfl
  have k1 := at0.cell 1 rfl
  have k2 := at0.cell 2 rfl
  have k3 := at0.cell 3 rfl
  have k4 := at0.cell 4 rfl
  have k5 := at0.cell 5 rfl
  have k6 := at0.cell 6 rfl
  have k7 := at0.cell 7 rfl
  have k8 := at0.cell 8 rfl
  have e7 : ((k : Int) == 0) = false := by simp; omega
  have e8 : 0 < k := by omega
  have e9 : ¬ k = 0 := by omega
  go_enter Try.func42, Try.ntmps42
  go_wp2_with fail
  refine (l00In_no _ _ _ _ (by omega)).mono ?_
  rintro e w1 ⟨rfl, rfl⟩
  go_wp2_with fail
  clear k0 k1 k2 k3 k4 k5 k6 k7 k8
  generalize hW : (w.alloc (.cells #[.int .i64 0, .int .i64 0] 24)).alloc (.cells #[.int .i64 0, .int .i64 0] 24) = W0
  have at1 : AtL b [.slice (some ⟨g, o, none⟩) n c, .bool false, .int .i64 t, .bool ff, .bool false, .int .i64 fx, .int .i64 fy, .int .i64 lx, .int .i64 ly] W0 := by rw [← hW]; exact (at0.alloc _).alloc _
  have p0' : W0.cell? ⟨g, o + j * 2, none⟩ = some (.int .i64 x0) := by rw [← hW]; exact (cell_alloc_at _ _ (by simp; omega)).trans ((cell_alloc_at _ _ hg).trans p0)
  have p1' : W0.cell? ⟨g, o + j * 2 + 1, none⟩ = some (.int .i64 x1) := by rw [← hW]; exact (cell_alloc_at _ _ (by simp; omega)).trans ((cell_alloc_at _ _ hg).trans p1)
  have q0' : W0.cell? ⟨g, o + k * 2, none⟩ = some (.int .i64 y0) := by rw [← hW]; exact (cell_alloc_at _ _ (by simp; omega)).trans ((cell_alloc_at _ _ hg).trans q0)
  have q1' : W0.cell? ⟨g, o + k * 2 + 1, none⟩ = some (.int .i64 y1) := by rw [← hW]; exact (cell_alloc_at _ _ (by simp; omega)).trans ((cell_alloc_at _ _ hg).trans q1)
  have bk : Blk W0 w.heap.size 24 #[.int .i64 0, .int .i64 0] := by rw [← hW]; exact (Blk.new _ _ _).alloc _
  have bm : Blk W0 (w.heap.size + 1) 24 #[.int .i64 0, .int .i64 0] := by rw [← hW]; exact Blk.newAt _ _ _ (by simp)
  have b0 : Below w.heap.size w W0 := by rw [← hW]; repeat' (first | with_reducible assumption | with_reducible exact Below.refl _ _ | (with_reducible refine Below.setCell ?_ ?_ _) | (with_reducible refine Below.alloc ?_ ?_ _) | (with_reducible refine Below.drew ?_) | (with_reducible refine below_dr ?_ _) | (with_reducible refine Below.trans ?_ (Below.mono (by with_reducible assumption) ?_)) | omega | (simp; done) | (simp; omega))
  clear hW p0 p1 q0 q1 at0
  have lm := bm.lt
  have lk := bk.lt
  have lg : g < W0.heap.size := by omega
  have lb2 : b < W0.heap.size := by omega
  have lg3 : g < w.heap.size + 1 := by omega
  have lb3 : b < w.heap.size + 1 := by omega
  have k0 := at1.cell 0 rfl
  have k1 := at1.cell 1 rfl
  have k2 := at1.cell 2 rfl
  have k3 := at1.cell 3 rfl
  have k4 := at1.cell 4 rfl
  have k5 := at1.cell 5 rfl
  have k6 := at1.cell 6 rfl
  have k7 := at1.cell 7 rfl
  have k8 := at1.cell 8 rfl
  have v0 : W0.cell? ⟨w.heap.size, 0, none⟩ = some (.int .i64 0) := bk.cell 0 rfl
  have v1 : W0.cell? ⟨w.heap.size, 1, none⟩ = some (.int .i64 0) := bk.cell 1 rfl
  have s0 : W0.cell? ⟨w.heap.size + 1, 0, none⟩ = some (.int .i64 0) := bm.cell 0 rfl
  have s1 : W0.cell? ⟨w.heap.size + 1, 1, none⟩ = some (.int .i64 0) := bm.cell 1 rfl
  have fv0 : W0.frozen? ⟨w.heap.size, 0, none⟩ = false := bk.frozen 0
  have fv1 : W0.frozen? ⟨w.heap.size, 1, none⟩ = false := bk.frozen 1
  have fs0 : W0.frozen? ⟨w.heap.size + 1, 0, none⟩ = false := bm.frozen 0
  have fs1 : W0.frozen? ⟨w.heap.size + 1, 1, none⟩ = false := bm.frozen 1
  go_region_held3 (fun w' => (∀ b o, b < w.heap.size + 1 → w'.cell? ⟨b, o, none⟩ = W0.cell? ⟨b, o, none⟩) ∧ W0.heap.size ≤ w'.heap.size)
    (first | ((try dsimp only); exact ⟨fun b o h => (by (repeat (first | with_reducible exact rfl | (with_reducible refine (cell_drew_at _ _).trans ?_) | (with_reducible refine (cell_set_at _ _ (by first | omega | (simp; done) | (simp; omega))).trans ?_) | (with_reducible refine (cell_alloc_at _ _ (by first | omega | (simp; done) | (simp; omega))).trans ?_) | (with_reducible refine (hcwS b o (by first | omega | (simp; done) | (simp; omega))).trans ?_)))), (by first | omega | (simp; done) | (simp; omega))⟩) | fail)
    (first
      | (go_at_call 72; (with_reducible refine (CM.out _).mono ?_); rintro e wS ⟨rfl, hbwS⟩; obtain ⟨hcwS, hfwS⟩ := bcell hbwS; have hzwS := hbwS.size; (try simp only [World.size_drew] at hcwS hfwS hzwS); (try simp only [World.size_alloc] at hcwS hfwS hzwS); (try have qwS : w.heap.size + 1 < wS.heap.size := (by omega))))
  all_goals
    have b8 : Below w.heap.size w wS := by repeat' (first | with_reducible assumption | with_reducible exact Below.refl _ _ | (with_reducible refine Below.setCell ?_ ?_ _) | (with_reducible refine Below.alloc ?_ ?_ _) | (with_reducible refine Below.drew ?_) | (with_reducible refine below_dr ?_ _) | (with_reducible refine Below.trans ?_ (Below.mono (by with_reducible assumption) ?_)) | omega | (simp; done) | (simp; omega))
    go_wp2_with fail
    refine bodyPost_ret (v := .agg #[.int .i64 (3 * (y0 - x0)), .int .i64 (3 * (y1 - x1))]) (by simp [results, Try.results42, go_sem, *]) rfl ⟨rfl, ?_⟩
    repeat' (first | with_reducible assumption | with_reducible exact Below.refl _ _ | (with_reducible refine Below.setCell ?_ ?_ _) | (with_reducible refine Below.alloc ?_ ?_ _) | (with_reducible refine Below.drew ?_) | (with_reducible refine below_dr ?_ _) | (with_reducible refine Below.trans ?_ (Below.mono (by with_reducible assumption) ?_)) | omega | (simp; done) | (simp; omega))
end Go.Proofs.Ytcjjmkkphbeoeaa
