/- Walks: a mapped point, the reference's side. -/
import Derived.Test.YtjlmoadnbbeloaaRa
import Derived.Test.YtjlmoadnbbeloaaQa2
import Derived.Test.YtjlmoadnbbeloaaQb
namespace Go.Proofs.Ytjlmoadnbbeloaa
open Go.RowKit

theorem cell_set_ne (w : World) (v : Value) {b i c j : Nat} (h : ¬ b = c) : (w.setCell ⟨c, j, none⟩ v).cell? ⟨b, i, none⟩ = w.cell? ⟨b, i, none⟩ := World.cell?_setCell_other w _ _ v (fun e => by injection e with e; omega)
/-- A mapped point, and whether it exists and is valid. -/
def PRet (u v : Int) (k : Bool) (w : World) (e : Ending) (w' : World) : Prop := e = .returned (.tuple #[.agg #[.int .i64 u, .int .i64 v], .bool k]) ∧ Below w.heap.size w w'
theorem PRet.mk {u v : Int} {k l : Bool} {w w' : World} (h : k = l) (hb : Below w.heap.size w w') : PRet u v k w (.returned (.tuple #[.agg #[.int .i64 u, .int .i64 v], .bool l])) w' := by
  subst h; exact ⟨rfl, hb⟩
set_option maxHeartbeats 6400000 in
theorem l04Apply_any (m0 m1 m2 m3 m4 m5 m6 m7 m8 m9 m10 m11 x y : Int) (b : Nat) (w : World) (v : validA m0 m1 m2 m3 m4 m5 m6 m7 m8 m9 m10 m11 = true) (vp : okB x y = true) (hb : b < w.heap.size) (c0 : w.cell? ⟨b, 0, none⟩ = some (.int .i64 m0)) (c1 : w.cell? ⟨b, 1, none⟩ = some (.int .i64 m1)) (c2 : w.cell? ⟨b, 2, none⟩ = some (.int .i64 m2)) (c3 : w.cell? ⟨b, 3, none⟩ = some (.int .i64 m3)) (c4 : w.cell? ⟨b, 4, none⟩ = some (.int .i64 m4)) (c5 : w.cell? ⟨b, 5, none⟩ = some (.int .i64 m5)) (c6 : w.cell? ⟨b, 6, none⟩ = some (.int .i64 m6)) (c7 : w.cell? ⟨b, 7, none⟩ = some (.int .i64 m7)) (c8 : w.cell? ⟨b, 8, none⟩ = some (.int .i64 m8)) (c9 : w.cell? ⟨b, 9, none⟩ = some (.int .i64 m9)) (c10 : w.cell? ⟨b, 10, none⟩ = some (.int .i64 m10)) (c11 : w.cell? ⟨b, 11, none⟩ = some (.int .i64 m11)) :
    Calls Try.prog 42 #[.pointer (some ⟨b, 0, none⟩), .agg #[.int .i64 x, .int .i64 y]] w (PRet (rowN (rowF m0 m1 m2 m3 m8 m9 x y)) (rowN (rowF m4 m5 m6 m7 m10 m11 x y)) (decide (oC (rowF m0 m1 m2 m3 m8 m9 x y) = 0) && decide (oC (rowF m4 m5 m6 m7 m10 m11 x y) = 0) && okB (rowN (rowF m0 m1 m2 m3 m8 m9 x y)) (rowN (rowF m4 m5 m6 m7 m10 m11 x y))) w) := by
  obtain ⟨p0, p1, p2, p3, p4, p5⟩ := validA_parts v
  have CX := Lib.hid (fun w => l04Row_any m0 m1 m2 m3 m8 m9 x y w p0 p1 p4 vp)
  have CY := Lib.hid (fun w => l04Row_any m4 m5 m6 m7 m10 m11 x y w p2 p3 p5 vp)
  clear p0 p1 p2 p3 p4 p5 v vp
  unfold RRet at CX CY
  generalize rowN (rowF m0 m1 m2 m3 m8 m9 x y) = X at *
  generalize rowN (rowF m4 m5 m6 m7 m10 m11 x y) = Y at *
  generalize decide (oC (rowF m0 m1 m2 m3 m8 m9 x y) = 0) = k at *
  generalize decide (oC (rowF m4 m5 m6 m7 m10 m11 x y) = 0) = l at *
  go_enter Try.func42, Try.ntmps42
  go_upto_region 1 with fail
  generalize hW : (w.alloc (.cells #[.int .i64 x, .int .i64 y] 38)).alloc (.cells #[.int .i64 0, .int .i64 0] 38) = W0
  have g0 : Below w.heap.size w W0 := by rw [← hW]; repeat' (first | with_reducible assumption | with_reducible exact Below.refl _ _ | (with_reducible refine Below.setCell ?_ ?_ _) | (with_reducible refine Below.alloc ?_ ?_ _) | (with_reducible refine Below.drew ?_) | (with_reducible refine below_dr ?_ _) | (with_reducible refine Below.trans ?_ (Below.mono (by with_reducible assumption) ?_)) | omega | (simp; done) | (simp; omega))
  have W0m0 : W0.cell? ⟨b, 0, none⟩ = some (.int .i64 m0) := by rw [← hW]; exact (cell_alloc_at _ _ (by simp; omega)).trans ((cell_alloc_at _ _ hb).trans c0)
  have W0m1 : W0.cell? ⟨b, 1, none⟩ = some (.int .i64 m1) := by rw [← hW]; exact (cell_alloc_at _ _ (by simp; omega)).trans ((cell_alloc_at _ _ hb).trans c1)
  have W0m2 : W0.cell? ⟨b, 2, none⟩ = some (.int .i64 m2) := by rw [← hW]; exact (cell_alloc_at _ _ (by simp; omega)).trans ((cell_alloc_at _ _ hb).trans c2)
  have W0m3 : W0.cell? ⟨b, 3, none⟩ = some (.int .i64 m3) := by rw [← hW]; exact (cell_alloc_at _ _ (by simp; omega)).trans ((cell_alloc_at _ _ hb).trans c3)
  have W0m4 : W0.cell? ⟨b, 4, none⟩ = some (.int .i64 m4) := by rw [← hW]; exact (cell_alloc_at _ _ (by simp; omega)).trans ((cell_alloc_at _ _ hb).trans c4)
  have W0m5 : W0.cell? ⟨b, 5, none⟩ = some (.int .i64 m5) := by rw [← hW]; exact (cell_alloc_at _ _ (by simp; omega)).trans ((cell_alloc_at _ _ hb).trans c5)
  have W0m6 : W0.cell? ⟨b, 6, none⟩ = some (.int .i64 m6) := by rw [← hW]; exact (cell_alloc_at _ _ (by simp; omega)).trans ((cell_alloc_at _ _ hb).trans c6)
  have W0m7 : W0.cell? ⟨b, 7, none⟩ = some (.int .i64 m7) := by rw [← hW]; exact (cell_alloc_at _ _ (by simp; omega)).trans ((cell_alloc_at _ _ hb).trans c7)
  have W0m8 : W0.cell? ⟨b, 8, none⟩ = some (.int .i64 m8) := by rw [← hW]; exact (cell_alloc_at _ _ (by simp; omega)).trans ((cell_alloc_at _ _ hb).trans c8)
  have W0m9 : W0.cell? ⟨b, 9, none⟩ = some (.int .i64 m9) := by rw [← hW]; exact (cell_alloc_at _ _ (by simp; omega)).trans ((cell_alloc_at _ _ hb).trans c9)
  have W0m10 : W0.cell? ⟨b, 10, none⟩ = some (.int .i64 m10) := by rw [← hW]; exact (cell_alloc_at _ _ (by simp; omega)).trans ((cell_alloc_at _ _ hb).trans c10)
  have W0m11 : W0.cell? ⟨b, 11, none⟩ = some (.int .i64 m11) := by rw [← hW]; exact (cell_alloc_at _ _ (by simp; omega)).trans ((cell_alloc_at _ _ hb).trans c11)
  have W0p0 : W0.cell? ⟨w.heap.size, 0, none⟩ = some (.int .i64 x) := by rw [← hW]; simp [go_sem]
  have W0p1 : W0.cell? ⟨w.heap.size, 1, none⟩ = some (.int .i64 y) := by rw [← hW]; simp [go_sem]
  have W0e0 : W0.cell? ⟨w.heap.size + 1, 0, none⟩ = some (.int .i64 0) := by rw [← hW]; simp [go_sem]
  have W0e1 : W0.cell? ⟨w.heap.size + 1, 1, none⟩ = some (.int .i64 0) := by rw [← hW]; simp [go_sem]
  have W0f0 : W0.frozen? ⟨w.heap.size + 1, 0, none⟩ = false := by rw [← hW]; simp [go_sem]
  have W0f1 : W0.frozen? ⟨w.heap.size + 1, 1, none⟩ = false := by rw [← hW]; simp [go_sem]
  have z0 : w.heap.size + 1 < W0.heap.size := by rw [← hW]; simp
  have zb : b < W0.heap.size := by omega
  have zp : w.heap.size < W0.heap.size := by omega
  clear hW c0 c1 c2 c3 c4 c5 c6 c7 c8 c9 c10 c11
  go_cut [6, 7] (fun ua ub wx => ua = .int .i64 X ∧ ub = .bool k ∧ Below W0.heap.size W0 wx)
  case first =>
    go_region_held3 (fun w' => (∀ b o, b < W0.heap.size → w'.cell? ⟨b, o, none⟩ = W0.cell? ⟨b, o, none⟩) ∧ W0.heap.size ≤ w'.heap.size)
      (first | ((try dsimp only); exact ⟨fun b o h => (by (repeat (first | with_reducible exact rfl | (with_reducible refine (cell_drew_at _ _).trans ?_) | (with_reducible refine (cell_set_at _ _ (by first | omega | (simp; done) | (simp; omega))).trans ?_) | (with_reducible refine (cell_alloc_at _ _ (by first | omega | (simp; done) | (simp; omega))).trans ?_) | (with_reducible refine (hcwT b o (by first | omega | (simp; done) | (simp; omega))).trans ?_)))), (by first | omega | (simp; done) | (simp; omega))⟩) | fail)
      (first
        | (go_at_call 72; (with_reducible refine (CX.out _).mono ?_); rintro e wT ⟨rfl, hbwT⟩; obtain ⟨hcwT, hfwT⟩ := bcell hbwT; have hzwT := hbwT.size; (try simp only [World.size_drew] at hcwT hfwT hzwT); (try simp only [World.size_alloc] at hcwT hfwT hzwT)))
    all_goals
      go_wp2_with fail
      go_meet
    all_goals exact ⟨rfl, rfl, by repeat' (first | with_reducible assumption | with_reducible exact Below.refl _ _ | (with_reducible refine Below.setCell ?_ ?_ _) | (with_reducible refine Below.alloc ?_ ?_ _) | (with_reducible refine Below.drew ?_) | (with_reducible refine below_dr ?_ _) | (with_reducible refine Below.trans ?_ (Below.mono (by with_reducible assumption) ?_)) | omega | (simp; done) | (simp; omega))⟩
  case rest =>
    obtain ⟨rfl, rfl, hbx⟩ := hcut
    obtain ⟨W1, rfl⟩ : ∃ W1 : World, W1 = wc := ⟨_, rfl⟩
    have g1 : Below w.heap.size w W1 := g0.trans (hbx.mono (by omega))
    have hz1 := hbx.size
    have W1m0 : W1.cell? ⟨b, 0, none⟩ = some (.int .i64 m0) := (hbx.cell (p := ⟨b, 0, none⟩) (by simp only; omega)).trans W0m0
    have W1m1 : W1.cell? ⟨b, 1, none⟩ = some (.int .i64 m1) := (hbx.cell (p := ⟨b, 1, none⟩) (by simp only; omega)).trans W0m1
    have W1m2 : W1.cell? ⟨b, 2, none⟩ = some (.int .i64 m2) := (hbx.cell (p := ⟨b, 2, none⟩) (by simp only; omega)).trans W0m2
    have W1m3 : W1.cell? ⟨b, 3, none⟩ = some (.int .i64 m3) := (hbx.cell (p := ⟨b, 3, none⟩) (by simp only; omega)).trans W0m3
    have W1m4 : W1.cell? ⟨b, 4, none⟩ = some (.int .i64 m4) := (hbx.cell (p := ⟨b, 4, none⟩) (by simp only; omega)).trans W0m4
    have W1m5 : W1.cell? ⟨b, 5, none⟩ = some (.int .i64 m5) := (hbx.cell (p := ⟨b, 5, none⟩) (by simp only; omega)).trans W0m5
    have W1m6 : W1.cell? ⟨b, 6, none⟩ = some (.int .i64 m6) := (hbx.cell (p := ⟨b, 6, none⟩) (by simp only; omega)).trans W0m6
    have W1m7 : W1.cell? ⟨b, 7, none⟩ = some (.int .i64 m7) := (hbx.cell (p := ⟨b, 7, none⟩) (by simp only; omega)).trans W0m7
    have W1m8 : W1.cell? ⟨b, 8, none⟩ = some (.int .i64 m8) := (hbx.cell (p := ⟨b, 8, none⟩) (by simp only; omega)).trans W0m8
    have W1m9 : W1.cell? ⟨b, 9, none⟩ = some (.int .i64 m9) := (hbx.cell (p := ⟨b, 9, none⟩) (by simp only; omega)).trans W0m9
    have W1m10 : W1.cell? ⟨b, 10, none⟩ = some (.int .i64 m10) := (hbx.cell (p := ⟨b, 10, none⟩) (by simp only; omega)).trans W0m10
    have W1m11 : W1.cell? ⟨b, 11, none⟩ = some (.int .i64 m11) := (hbx.cell (p := ⟨b, 11, none⟩) (by simp only; omega)).trans W0m11
    have W1p0 : W1.cell? ⟨w.heap.size, 0, none⟩ = some (.int .i64 x) := (hbx.cell (p := ⟨w.heap.size, 0, none⟩) (by simp only; omega)).trans W0p0
    have W1p1 : W1.cell? ⟨w.heap.size, 1, none⟩ = some (.int .i64 y) := (hbx.cell (p := ⟨w.heap.size, 1, none⟩) (by simp only; omega)).trans W0p1
    have W1e0 : W1.cell? ⟨w.heap.size + 1, 0, none⟩ = some (.int .i64 0) := (hbx.cell (p := ⟨w.heap.size + 1, 0, none⟩) (by simp only; omega)).trans W0e0
    have W1e1 : W1.cell? ⟨w.heap.size + 1, 1, none⟩ = some (.int .i64 0) := (hbx.cell (p := ⟨w.heap.size + 1, 1, none⟩) (by simp only; omega)).trans W0e1
    have W1f0 : W1.frozen? ⟨w.heap.size + 1, 0, none⟩ = false := (hbx.frozen (p := ⟨w.heap.size + 1, 0, none⟩) (by simp only; omega)).trans W0f0
    have W1f1 : W1.frozen? ⟨w.heap.size + 1, 1, none⟩ = false := (hbx.frozen (p := ⟨w.heap.size + 1, 1, none⟩) (by simp only; omega)).trans W0f1
    have z1 : w.heap.size + 1 < W1.heap.size := by omega
    have zb1 : b < W1.heap.size := by omega
    have zp1 : w.heap.size < W1.heap.size := by omega
    clear hbx z0 zb zp W0m0 W0m1 W0m2 W0m3 W0m4 W0m5 W0m6 W0m7 W0m8 W0m9 W0m10 W0m11 W0p0 W0p1 W0e0 W0e1 W0f0 W0f1
    go_upto_region 2 with fail
    go_cut [8, 9] (fun ua ub wx => ua = .int .i64 Y ∧ ub = .bool l ∧ Below W1.heap.size W1 wx)
    case first =>
      go_region_held3 (fun w' => (∀ b o, b < W1.heap.size → w'.cell? ⟨b, o, none⟩ = W1.cell? ⟨b, o, none⟩) ∧ W1.heap.size ≤ w'.heap.size)
        (first | ((try dsimp only); exact ⟨fun b o h => (by (repeat (first | with_reducible exact rfl | (with_reducible refine (cell_drew_at _ _).trans ?_) | (with_reducible refine (cell_set_at _ _ (by first | omega | (simp; done) | (simp; omega))).trans ?_) | (with_reducible refine (cell_alloc_at _ _ (by first | omega | (simp; done) | (simp; omega))).trans ?_) | (with_reducible refine (hcwT b o (by first | omega | (simp; done) | (simp; omega))).trans ?_)))), (by first | omega | (simp; done) | (simp; omega))⟩) | fail)
        (first
          | (go_at_call 72; (with_reducible refine (CY.out _).mono ?_); rintro e wT ⟨rfl, hbwT⟩; obtain ⟨hcwT, hfwT⟩ := bcell hbwT; have hzwT := hbwT.size; (try simp only [World.size_drew] at hcwT hfwT hzwT); (try simp only [World.size_alloc] at hcwT hfwT hzwT)))
      all_goals
        go_wp2_with fail
        go_meet
      all_goals exact ⟨rfl, rfl, by repeat' (first | with_reducible assumption | with_reducible exact Below.refl _ _ | (with_reducible refine Below.setCell ?_ ?_ _) | (with_reducible refine Below.alloc ?_ ?_ _) | (with_reducible refine Below.drew ?_) | (with_reducible refine below_dr ?_ _) | (with_reducible refine Below.trans ?_ (Below.mono (by with_reducible assumption) ?_)) | omega | (simp; done) | (simp; omega))⟩
    case rest =>
      obtain ⟨rfl, rfl, hbx⟩ := hcut
      have g2 : Below w.heap.size w wc := g1.trans (hbx.mono (by omega))
      have hz2 := hbx.size
      have e0 : wc.cell? ⟨w.heap.size + 1, 0, none⟩ = some (.int .i64 0) := (hbx.cell (p := ⟨w.heap.size + 1, 0, none⟩) (by simp only; omega)).trans W1e0
      have e1 : wc.cell? ⟨w.heap.size + 1, 1, none⟩ = some (.int .i64 0) := (hbx.cell (p := ⟨w.heap.size + 1, 1, none⟩) (by simp only; omega)).trans W1e1
      have f0 : wc.frozen? ⟨w.heap.size + 1, 0, none⟩ = false := (hbx.frozen (p := ⟨w.heap.size + 1, 0, none⟩) (by simp only; omega)).trans W1f0
      have f1 : wc.frozen? ⟨w.heap.size + 1, 1, none⟩ = false := (hbx.frozen (p := ⟨w.heap.size + 1, 1, none⟩) (by simp only; omega)).trans W1f1
      have z2 : w.heap.size + 1 < wc.heap.size := by omega
      clear hbx W1m0 W1m1 W1m2 W1m3 W1m4 W1m5 W1m6 W1m7 W1m8 W1m9 W1m10 W1m11 W1p0 W1p1 W1e0 W1e1 W1f0 W1f1
      go_upto_region 4 with fail
      generalize hW2 : wc.alloc (.cells #[.int .i64 X, .int .i64 Y] 38) = W2
      have g3 : Below w.heap.size w W2 := by rw [← hW2]; repeat' (first | with_reducible assumption | with_reducible exact Below.refl _ _ | (with_reducible refine Below.setCell ?_ ?_ _) | (with_reducible refine Below.alloc ?_ ?_ _) | (with_reducible refine Below.drew ?_) | (with_reducible refine below_dr ?_ _) | (with_reducible refine Below.trans ?_ (Below.mono (by with_reducible assumption) ?_)) | omega | (simp; done) | (simp; omega))
      have o0 : W2.cell? ⟨wc.heap.size, 0, none⟩ = some (.int .i64 X) := by rw [← hW2]; simp [go_sem]
      have o1 : W2.cell? ⟨wc.heap.size, 1, none⟩ = some (.int .i64 Y) := by rw [← hW2]; simp [go_sem]
      have h0 : W2.cell? ⟨w.heap.size + 1, 0, none⟩ = some (.int .i64 0) := by rw [← hW2]; exact (cell_alloc_at _ _ z2).trans e0
      have h1 : W2.cell? ⟨w.heap.size + 1, 1, none⟩ = some (.int .i64 0) := by rw [← hW2]; exact (cell_alloc_at _ _ z2).trans e1
      have hf0 : W2.frozen? ⟨w.heap.size + 1, 0, none⟩ = false := by rw [← hW2]; exact (frozen_alloc_at _ _ z2).trans f0
      have hf1 : W2.frozen? ⟨w.heap.size + 1, 1, none⟩ = false := by rw [← hW2]; exact (frozen_alloc_at _ _ z2).trans f1
      have z3 : wc.heap.size < W2.heap.size := by rw [← hW2]; simp
      have z4 : w.heap.size + 1 < W2.heap.size := by omega
      clear hW2 e0 e1 f0 f1
      rcases k with _ | _
      · go_region
        all_goals
          have ra := AtL.of2 h0 h1 (by omega)
          have rb := ra.store2 (a := .int .i64 X) (b := .int .i64 Y)
          have r0 := rb.cell 0 rfl
          have r1 := rb.cell 1 rfl
          go_wp2
        all_goals refine bodyPost_ret (v := .tuple #[.agg #[.int .i64 X, .int .i64 Y], .bool (false)]) (by simp [results, Try.results42, go_sem, r0, r1]) rfl (PRet.mk (by simp) ?_)
        all_goals repeat' (first | with_reducible assumption | with_reducible exact Below.refl _ _ | (with_reducible refine Below.setCell ?_ ?_ _) | (with_reducible refine Below.alloc ?_ ?_ _) | (with_reducible refine Below.drew ?_) | (with_reducible refine below_dr ?_ _) | (with_reducible refine Below.trans ?_ (Below.mono (by with_reducible assumption) ?_)) | omega | (simp; done) | (simp; omega))
      · rcases l with _ | _
        · go_region
          all_goals
            have ra := AtL.of2 h0 h1 (by omega)
            have rb := ra.store2 (a := .int .i64 X) (b := .int .i64 Y)
            have r0 := rb.cell 0 rfl
            have r1 := rb.cell 1 rfl
            go_wp2
          all_goals refine bodyPost_ret (v := .tuple #[.agg #[.int .i64 X, .int .i64 Y], .bool (false)]) (by simp [results, Try.results42, go_sem, r0, r1]) rfl (PRet.mk (by simp) ?_)
          all_goals repeat' (first | with_reducible assumption | with_reducible exact Below.refl _ _ | (with_reducible refine Below.setCell ?_ ?_ _) | (with_reducible refine Below.alloc ?_ ?_ _) | (with_reducible refine Below.drew ?_) | (with_reducible refine below_dr ?_ _) | (with_reducible refine Below.trans ?_ (Below.mono (by with_reducible assumption) ?_)) | omega | (simp; done) | (simp; omega))
        · go_region_held3 (fun w' => w'.cell? ⟨wc.heap.size, 0, none⟩ = some (.int .i64 X) ∧ w'.cell? ⟨wc.heap.size, 1, none⟩ = some (.int .i64 Y) ∧ W2.heap.size ≤ w'.heap.size)
            (first | ((try dsimp only); exact ⟨(by (repeat (first | with_reducible assumption | (with_reducible refine (cell_drew_at _ _).trans ?_) | ((with_reducible refine (cell_set_ne _ _ ?_).trans ?_); omega) | (with_reducible refine (cell_alloc_at _ _ (by first | omega | (simp; done) | (simp; omega))).trans ?_) | (with_reducible refine (hcwV _ _ (by first | omega | (simp; done) | (simp; omega))).trans ?_)))), (by (repeat (first | with_reducible assumption | (with_reducible refine (cell_drew_at _ _).trans ?_) | ((with_reducible refine (cell_set_ne _ _ ?_).trans ?_); omega) | (with_reducible refine (cell_alloc_at _ _ (by first | omega | (simp; done) | (simp; omega))).trans ?_) | (with_reducible refine (hcwV _ _ (by first | omega | (simp; done) | (simp; omega))).trans ?_)))), (by first | omega | (simp; done) | (simp; omega))⟩) | fail)
            (first
              | (go_at_call 41; (with_reducible refine (l03Ok_any X Y _).mono ?_); rintro e wV ⟨rfl, hbwV⟩; obtain ⟨hcwV, hfwV⟩ := bcell hbwV; have hzwV := hbwV.size; (try simp only [World.size_drew] at hcwV hfwV hzwV); (try simp only [World.size_alloc] at hcwV hfwV hzwV); have ywV0 : wV.cell? ⟨w.heap.size + 1, 0, none⟩ = some (.int .i64 0) := (by (repeat (first | with_reducible assumption | (with_reducible refine (cell_drew_at _ _).trans ?_) | (with_reducible refine (cell_set_at _ _ (by first | omega | (simp; done) | (simp; omega))).trans ?_) | (with_reducible refine (cell_alloc_at _ _ (by first | omega | (simp; done) | (simp; omega))).trans ?_) | (with_reducible refine (hcwV _ _ (by first | omega | (simp; done) | (simp; omega))).trans ?_)))); have ywV1 : wV.cell? ⟨w.heap.size + 1, 1, none⟩ = some (.int .i64 0) := (by (repeat (first | with_reducible assumption | (with_reducible refine (cell_drew_at _ _).trans ?_) | (with_reducible refine (cell_set_at _ _ (by first | omega | (simp; done) | (simp; omega))).trans ?_) | (with_reducible refine (cell_alloc_at _ _ (by first | omega | (simp; done) | (simp; omega))).trans ?_) | (with_reducible refine (hcwV _ _ (by first | omega | (simp; done) | (simp; omega))).trans ?_)))); have yfwV0 : wV.frozen? ⟨w.heap.size + 1, 0, none⟩ = false := (by (repeat (first | with_reducible assumption | (with_reducible refine (frozen_drew_at _ _).trans ?_) | (with_reducible refine (World.frozen?_setCell _ _ _ _).trans ?_) | (with_reducible refine (frozen_alloc_at _ _ (by first | omega | (simp; done) | (simp; omega))).trans ?_) | (with_reducible refine (hfwV _ _ (by first | omega | (simp; done) | (simp; omega))).trans ?_)))); have yfwV1 : wV.frozen? ⟨w.heap.size + 1, 1, none⟩ = false := (by (repeat (first | with_reducible assumption | (with_reducible refine (frozen_drew_at _ _).trans ?_) | (with_reducible refine (World.frozen?_setCell _ _ _ _).trans ?_) | (with_reducible refine (frozen_alloc_at _ _ (by first | omega | (simp; done) | (simp; omega))).trans ?_) | (with_reducible refine (hfwV _ _ (by first | omega | (simp; done) | (simp; omega))).trans ?_))))))
          all_goals
            have ra := AtL.of2 ywV0 ywV1 (by omega)
            have rb := ra.store2 (a := .int .i64 X) (b := .int .i64 Y)
            have r0 := rb.cell 0 rfl
            have r1 := rb.cell 1 rfl
            go_wp2
          all_goals refine bodyPost_ret (v := .tuple #[.agg #[.int .i64 X, .int .i64 Y], .bool (okB X Y)]) (by simp [results, Try.results42, go_sem, r0, r1]) rfl (PRet.mk (by simp) ?_)
          all_goals repeat' (first | with_reducible assumption | with_reducible exact Below.refl _ _ | (with_reducible refine Below.setCell ?_ ?_ _) | (with_reducible refine Below.alloc ?_ ?_ _) | (with_reducible refine Below.drew ?_) | (with_reducible refine below_dr ?_ _) | (with_reducible refine Below.trans ?_ (Below.mono (by with_reducible assumption) ?_)) | omega | (simp; done) | (simp; omega))
end Go.Proofs.Ytjlmoadnbbeloaa
