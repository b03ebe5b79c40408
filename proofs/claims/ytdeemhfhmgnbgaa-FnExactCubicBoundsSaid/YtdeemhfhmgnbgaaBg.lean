/- Walks: CubicBounds, both sides, and the law: it returns true. -/
import Derived.Test.YtdeemhfhmgnbgaaBa
import Derived.Test.YtdeemhfhmgnbgaaCa
namespace Go.Proofs.Ytdeemhfhmgnbgaa
open Go.RowKit
set_option linter.unusedVariables false
def cub4 (m0 m1 m2 m3 m4 m5 m6 m7 : Int) : List APt := [(m0, m1), (m2, m3), (m4, m5), (m6, m7)]
def bd0 (m0 m1 m2 m3 m4 m5 m6 m7 : Int) : Int := bif okC m0 m1 m2 m3 m4 m5 m6 m7 then (bX1 (cub4 m0 m1 m2 m3 m4 m5 m6 m7) 4) else 0
def bd1 (m0 m1 m2 m3 m4 m5 m6 m7 : Int) : Int := bif okC m0 m1 m2 m3 m4 m5 m6 m7 then (bY1 (cub4 m0 m1 m2 m3 m4 m5 m6 m7) 4) else 0
def bd2 (m0 m1 m2 m3 m4 m5 m6 m7 : Int) : Int := bif okC m0 m1 m2 m3 m4 m5 m6 m7 then (bX2 (cub4 m0 m1 m2 m3 m4 m5 m6 m7) 4) else 0
def bd3 (m0 m1 m2 m3 m4 m5 m6 m7 : Int) : Int := bif okC m0 m1 m2 m3 m4 m5 m6 m7 then (bY2 (cub4 m0 m1 m2 m3 m4 m5 m6 m7) 4) else 0
def bdC (m0 m1 m2 m3 m4 m5 m6 m7 : Int) : Int := bif okC m0 m1 m2 m3 m4 m5 m6 m7 then 0 else 1
def BdRet (m0 m1 m2 m3 m4 m5 m6 m7 : Int) (w : World) (e : Ending) (w' : World) : Prop := e = .returned (.tuple #[.agg #[.int .i64 (bd0 m0 m1 m2 m3 m4 m5 m6 m7), .int .i64 (bd1 m0 m1 m2 m3 m4 m5 m6 m7)], .agg #[.int .i64 (bd2 m0 m1 m2 m3 m4 m5 m6 m7), .int .i64 (bd3 m0 m1 m2 m3 m4 m5 m6 m7)], .int .i64 (bdC m0 m1 m2 m3 m4 m5 m6 m7)]) ∧ Below w.heap.size w w'
theorem BdRet.f {m0 m1 m2 m3 m4 m5 m6 m7 : Int} {w w' : World} (h : okC m0 m1 m2 m3 m4 m5 m6 m7 = false) (hb : Below w.heap.size w w') : BdRet m0 m1 m2 m3 m4 m5 m6 m7 w (.returned (.tuple #[.agg #[.int .i64 0, .int .i64 0], .agg #[.int .i64 0, .int .i64 0], .int .i64 1])) w' := by
  unfold BdRet bd0 bd1 bd2 bd3 bdC
  rw [h]
  exact ⟨rfl, hb⟩
theorem BdRet.t {m0 m1 m2 m3 m4 m5 m6 m7 : Int} {w w' : World} {r0 r1 r2 r3 : Int} (h : okC m0 m1 m2 m3 m4 m5 m6 m7 = true) (hr : r0 = (bX1 (cub4 m0 m1 m2 m3 m4 m5 m6 m7) 4) ∧ r1 = (bY1 (cub4 m0 m1 m2 m3 m4 m5 m6 m7) 4) ∧ r2 = (bX2 (cub4 m0 m1 m2 m3 m4 m5 m6 m7) 4) ∧ r3 = (bY2 (cub4 m0 m1 m2 m3 m4 m5 m6 m7) 4)) (hb : Below w.heap.size w w') : BdRet m0 m1 m2 m3 m4 m5 m6 m7 w (.returned (.tuple #[.agg #[.int .i64 r0, .int .i64 r1], .agg #[.int .i64 r2, .int .i64 r3], .int .i64 0])) w' := by
  obtain ⟨rfl, rfl, rfl, rfl⟩ := hr
  unfold BdRet bd0 bd1 bd2 bd3 bdC
  rw [h]
  exact ⟨rfl, hb⟩
theorem rd_cub4 {m0 m1 m2 m3 m4 m5 m6 m7 : Int} {w : World} {b B : Nat} (hb : b < B) (c0 : w.cell? ⟨b, 0, none⟩ = some (.int .i64 m0)) (c1 : w.cell? ⟨b, 1, none⟩ = some (.int .i64 m1)) (c2 : w.cell? ⟨b, 2, none⟩ = some (.int .i64 m2)) (c3 : w.cell? ⟨b, 3, none⟩ = some (.int .i64 m3)) (c4 : w.cell? ⟨b, 4, none⟩ = some (.int .i64 m4)) (c5 : w.cell? ⟨b, 5, none⟩ = some (.int .i64 m5)) (c6 : w.cell? ⟨b, 6, none⟩ = some (.int .i64 m6)) (c7 : w.cell? ⟨b, 7, none⟩ = some (.int .i64 m7)) : Rd cPt 2 w B (some ⟨b, 0, none⟩) (cub4 m0 m1 m2 m3 m4 m5 m6 m7) := by
  refine .inr ⟨b, 0, rfl, hb, fun k a hk i u hu => ?_⟩
  rcases k with _ | _ | _ | _ | k
  all_goals first | (simp [cub4] at hk; done) | skip
  all_goals
    simp only [cub4, List.getElem?_cons_zero, List.getElem?_cons_succ, Option.some.injEq] at hk
    subst hk
    rcases i with _ | _ | i
    all_goals first | (simp [cPt] at hu; done) | skip
    all_goals
      simp only [cPt, List.getElem?_cons_zero, List.getElem?_cons_succ, Option.some.injEq] at hu
      subst hu
      first | exact c0 | exact c1 | exact c2 | exact c3 | exact c4 | exact c5 | exact c6 | exact c7
set_option maxRecDepth 100000 in
set_option maxHeartbeats 6400000 in
theorem specBounds_any (m0 m1 m2 m3 m4 m5 m6 m7 : Int) (w : World) :
    Calls Try.prog 10 #[.agg #[.int .i64 m0, .int .i64 m1, .int .i64 m2, .int .i64 m3, .int .i64 m4, .int .i64 m5, .int .i64 m6, .int .i64 m7]] w (BdRet m0 m1 m2 m3 m4 m5 m6 m7 w) := by
  rcases hv : okC m0 m1 m2 m3 m4 m5 m6 m7 with _ | _
  · have HV := Lib.hid hv
    clear hv
    go_enter Try.func10, Try.ntmps10
    go_wp2_with fail
    refine (l09Ok_any m0 m1 m2 m3 m4 m5 m6 m7 _ _ (by first | (simp; done) | (simp; omega)) (by simp [go_sem]) (by simp [go_sem]) (by simp [go_sem]) (by simp [go_sem]) (by simp [go_sem]) (by simp [go_sem]) (by simp [go_sem]) (by simp [go_sem])).mono ?_
    rw [HV.out]; rintro e w1 ⟨rfl, hbw1⟩
    have g1 : Below w.heap.size w w1 := (by repeat' (first | with_reducible assumption | with_reducible exact Below.refl _ _ | (with_reducible refine Below.setCell ?_ ?_ _) | (with_reducible refine Below.alloc ?_ ?_ _) | (with_reducible refine Below.drew ?_) | (with_reducible refine below_dr ?_ _) | (with_reducible refine Below.trans ?_ (Below.mono (by with_reducible assumption) ?_)) | omega | (simp; done) | (simp; omega)))
    obtain ⟨hcw1, hfw1⟩ := bcell hbw1
    have hzw1 := hbw1.size
    (try simp only [World.size_alloc] at hcw1 hfw1 hzw1)
    have s1 : w1.cell? ⟨w.heap.size, 0, none⟩ = some (.int .i64 m0) := (hcw1 _ _ (by omega)).trans (by first | assumption | (refine (cell_alloc_at _ _ ?_).trans ?_; omega; assumption) | (simp [go_sem]; done) | (simp [go_sem, *]; done))
    have s2 : w1.cell? ⟨w.heap.size, 1, none⟩ = some (.int .i64 m1) := (hcw1 _ _ (by omega)).trans (by first | assumption | (refine (cell_alloc_at _ _ ?_).trans ?_; omega; assumption) | (simp [go_sem]; done) | (simp [go_sem, *]; done))
    have s3 : w1.cell? ⟨w.heap.size, 2, none⟩ = some (.int .i64 m2) := (hcw1 _ _ (by omega)).trans (by first | assumption | (refine (cell_alloc_at _ _ ?_).trans ?_; omega; assumption) | (simp [go_sem]; done) | (simp [go_sem, *]; done))
    have s4 : w1.cell? ⟨w.heap.size, 3, none⟩ = some (.int .i64 m3) := (hcw1 _ _ (by omega)).trans (by first | assumption | (refine (cell_alloc_at _ _ ?_).trans ?_; omega; assumption) | (simp [go_sem]; done) | (simp [go_sem, *]; done))
    have s5 : w1.cell? ⟨w.heap.size, 4, none⟩ = some (.int .i64 m4) := (hcw1 _ _ (by omega)).trans (by first | assumption | (refine (cell_alloc_at _ _ ?_).trans ?_; omega; assumption) | (simp [go_sem]; done) | (simp [go_sem, *]; done))
    have s6 : w1.cell? ⟨w.heap.size, 5, none⟩ = some (.int .i64 m5) := (hcw1 _ _ (by omega)).trans (by first | assumption | (refine (cell_alloc_at _ _ ?_).trans ?_; omega; assumption) | (simp [go_sem]; done) | (simp [go_sem, *]; done))
    have s7 : w1.cell? ⟨w.heap.size, 6, none⟩ = some (.int .i64 m6) := (hcw1 _ _ (by omega)).trans (by first | assumption | (refine (cell_alloc_at _ _ ?_).trans ?_; omega; assumption) | (simp [go_sem]; done) | (simp [go_sem, *]; done))
    have s8 : w1.cell? ⟨w.heap.size, 7, none⟩ = some (.int .i64 m7) := (hcw1 _ _ (by omega)).trans (by first | assumption | (refine (cell_alloc_at _ _ ?_).trans ?_; omega; assumption) | (simp [go_sem]; done) | (simp [go_sem, *]; done))
    have s9 : w1.cell? ⟨w.heap.size + 1, 0, none⟩ = some (.int .i64 0) := (hcw1 _ _ (by omega)).trans (by first | assumption | (refine (cell_alloc_at _ _ ?_).trans ?_; omega; assumption) | (simp [go_sem]; done) | (simp [go_sem, *]; done))
    have s10 : w1.cell? ⟨w.heap.size + 1, 1, none⟩ = some (.int .i64 0) := (hcw1 _ _ (by omega)).trans (by first | assumption | (refine (cell_alloc_at _ _ ?_).trans ?_; omega; assumption) | (simp [go_sem]; done) | (simp [go_sem, *]; done))
    have s11 : w1.cell? ⟨w.heap.size + 1 + 1, 0, none⟩ = some (.int .i64 0) := (hcw1 _ _ (by omega)).trans (by first | assumption | (refine (cell_alloc_at _ _ ?_).trans ?_; omega; assumption) | (simp [go_sem]; done) | (simp [go_sem, *]; done))
    have s12 : w1.cell? ⟨w.heap.size + 1 + 1, 1, none⟩ = some (.int .i64 0) := (hcw1 _ _ (by omega)).trans (by first | assumption | (refine (cell_alloc_at _ _ ?_).trans ?_; omega; assumption) | (simp [go_sem]; done) | (simp [go_sem, *]; done))
    have szq0 : w.heap.size < w1.heap.size := (by omega)
    have szq1 : w.heap.size + 1 < w1.heap.size := (by omega)
    have sz : w.heap.size + 1 + 1 < w1.heap.size := (by omega)
    have fs10 : w1.frozen? ⟨w.heap.size + 1, 0, none⟩ = false := (hfw1 _ _ (by omega)).trans (by first | assumption | (refine (World.frozen?_alloc_old _ _ _ ?_).trans ?_; (simp; omega); assumption) | (simp [go_sem]; done) | (simp [go_sem, *]; done))
    have fs11 : w1.frozen? ⟨w.heap.size + 1, 1, none⟩ = false := (hfw1 _ _ (by omega)).trans (by first | assumption | (refine (World.frozen?_alloc_old _ _ _ ?_).trans ?_; (simp; omega); assumption) | (simp [go_sem]; done) | (simp [go_sem, *]; done))
    have fs20 : w1.frozen? ⟨w.heap.size + 1 + 1, 0, none⟩ = false := (hfw1 _ _ (by omega)).trans (by first | assumption | (refine (World.frozen?_alloc_old _ _ _ ?_).trans ?_; (simp; omega); assumption) | (simp [go_sem]; done) | (simp [go_sem, *]; done))
    have fs21 : w1.frozen? ⟨w.heap.size + 1 + 1, 1, none⟩ = false := (hfw1 _ _ (by omega)).trans (by first | assumption | (refine (World.frozen?_alloc_old _ _ _ ?_).trans ?_; (simp; omega); assumption) | (simp [go_sem]; done) | (simp [go_sem, *]; done))
    clear hcw1 hfw1 hzw1
    go_wp2_with fail
    refine bodyPost_ret (v := .tuple #[.agg #[.int .i64 0, .int .i64 0], .agg #[.int .i64 0, .int .i64 0], .int .i64 1]) (by simp [results, Try.results10, go_sem, *]) rfl (BdRet.f HV.out ?_)
    repeat' (first | with_reducible assumption | with_reducible exact Below.refl _ _ | (with_reducible refine Below.setCell ?_ ?_ _) | (with_reducible refine Below.alloc ?_ ?_ _) | (with_reducible refine Below.drew ?_) | (with_reducible refine below_dr ?_ _) | (with_reducible refine Below.trans ?_ (Below.mono (by with_reducible assumption) ?_)) | omega | (simp; done) | (simp; omega))
  · have HV := Lib.hid hv
    clear hv
    have CB := Lib.hid (fun A c w1 r1 => l09Corners_rd (cub4 m0 m1 m2 m3 m4 m5 m6 m7) A c w1 (by simp [cub4]) (by simp [cub4]) r1)
    simp only [show (cub4 m0 m1 m2 m3 m4 m5 m6 m7).length = 4 from rfl] at CB
    obtain ⟨r0, h0⟩ : ∃ r, r = (bX1 (cub4 m0 m1 m2 m3 m4 m5 m6 m7) 4) := ⟨_, rfl⟩
    obtain ⟨r1, h1⟩ : ∃ r, r = (bY1 (cub4 m0 m1 m2 m3 m4 m5 m6 m7) 4) := ⟨_, rfl⟩
    obtain ⟨r2, h2⟩ : ∃ r, r = (bX2 (cub4 m0 m1 m2 m3 m4 m5 m6 m7) 4) := ⟨_, rfl⟩
    obtain ⟨r3, h3⟩ : ∃ r, r = (bY2 (cub4 m0 m1 m2 m3 m4 m5 m6 m7) 4) := ⟨_, rfl⟩
    rw [← h0, ← h1, ← h2, ← h3] at CB
    have HR := Lib.hid (show r0 = (bX1 (cub4 m0 m1 m2 m3 m4 m5 m6 m7) 4) ∧ r1 = (bY1 (cub4 m0 m1 m2 m3 m4 m5 m6 m7) 4) ∧ r2 = (bX2 (cub4 m0 m1 m2 m3 m4 m5 m6 m7) 4) ∧ r3 = (bY2 (cub4 m0 m1 m2 m3 m4 m5 m6 m7) 4) from ⟨h0, h1, h2, h3⟩)
    clear h0 h1 h2 h3
    go_enter Try.func10, Try.ntmps10
    go_wp2_with fail
    refine (l09Ok_any m0 m1 m2 m3 m4 m5 m6 m7 _ _ (by first | (simp; done) | (simp; omega)) (by simp [go_sem]) (by simp [go_sem]) (by simp [go_sem]) (by simp [go_sem]) (by simp [go_sem]) (by simp [go_sem]) (by simp [go_sem]) (by simp [go_sem])).mono ?_
    rw [HV.out]; rintro e w1 ⟨rfl, hbw1⟩
    have g1 : Below w.heap.size w w1 := (by repeat' (first | with_reducible assumption | with_reducible exact Below.refl _ _ | (with_reducible refine Below.setCell ?_ ?_ _) | (with_reducible refine Below.alloc ?_ ?_ _) | (with_reducible refine Below.drew ?_) | (with_reducible refine below_dr ?_ _) | (with_reducible refine Below.trans ?_ (Below.mono (by with_reducible assumption) ?_)) | omega | (simp; done) | (simp; omega)))
    obtain ⟨hcw1, hfw1⟩ := bcell hbw1
    have hzw1 := hbw1.size
    (try simp only [World.size_alloc] at hcw1 hfw1 hzw1)
    have s1 : w1.cell? ⟨w.heap.size, 0, none⟩ = some (.int .i64 m0) := (hcw1 _ _ (by omega)).trans (by first | assumption | (refine (cell_alloc_at _ _ ?_).trans ?_; omega; assumption) | (simp [go_sem]; done) | (simp [go_sem, *]; done))
    have s2 : w1.cell? ⟨w.heap.size, 1, none⟩ = some (.int .i64 m1) := (hcw1 _ _ (by omega)).trans (by first | assumption | (refine (cell_alloc_at _ _ ?_).trans ?_; omega; assumption) | (simp [go_sem]; done) | (simp [go_sem, *]; done))
    have s3 : w1.cell? ⟨w.heap.size, 2, none⟩ = some (.int .i64 m2) := (hcw1 _ _ (by omega)).trans (by first | assumption | (refine (cell_alloc_at _ _ ?_).trans ?_; omega; assumption) | (simp [go_sem]; done) | (simp [go_sem, *]; done))
    have s4 : w1.cell? ⟨w.heap.size, 3, none⟩ = some (.int .i64 m3) := (hcw1 _ _ (by omega)).trans (by first | assumption | (refine (cell_alloc_at _ _ ?_).trans ?_; omega; assumption) | (simp [go_sem]; done) | (simp [go_sem, *]; done))
    have s5 : w1.cell? ⟨w.heap.size, 4, none⟩ = some (.int .i64 m4) := (hcw1 _ _ (by omega)).trans (by first | assumption | (refine (cell_alloc_at _ _ ?_).trans ?_; omega; assumption) | (simp [go_sem]; done) | (simp [go_sem, *]; done))
    have s6 : w1.cell? ⟨w.heap.size, 5, none⟩ = some (.int .i64 m5) := (hcw1 _ _ (by omega)).trans (by first | assumption | (refine (cell_alloc_at _ _ ?_).trans ?_; omega; assumption) | (simp [go_sem]; done) | (simp [go_sem, *]; done))
    have s7 : w1.cell? ⟨w.heap.size, 6, none⟩ = some (.int .i64 m6) := (hcw1 _ _ (by omega)).trans (by first | assumption | (refine (cell_alloc_at _ _ ?_).trans ?_; omega; assumption) | (simp [go_sem]; done) | (simp [go_sem, *]; done))
    have s8 : w1.cell? ⟨w.heap.size, 7, none⟩ = some (.int .i64 m7) := (hcw1 _ _ (by omega)).trans (by first | assumption | (refine (cell_alloc_at _ _ ?_).trans ?_; omega; assumption) | (simp [go_sem]; done) | (simp [go_sem, *]; done))
    have s9 : w1.cell? ⟨w.heap.size + 1, 0, none⟩ = some (.int .i64 0) := (hcw1 _ _ (by omega)).trans (by first | assumption | (refine (cell_alloc_at _ _ ?_).trans ?_; omega; assumption) | (simp [go_sem]; done) | (simp [go_sem, *]; done))
    have s10 : w1.cell? ⟨w.heap.size + 1, 1, none⟩ = some (.int .i64 0) := (hcw1 _ _ (by omega)).trans (by first | assumption | (refine (cell_alloc_at _ _ ?_).trans ?_; omega; assumption) | (simp [go_sem]; done) | (simp [go_sem, *]; done))
    have s11 : w1.cell? ⟨w.heap.size + 1 + 1, 0, none⟩ = some (.int .i64 0) := (hcw1 _ _ (by omega)).trans (by first | assumption | (refine (cell_alloc_at _ _ ?_).trans ?_; omega; assumption) | (simp [go_sem]; done) | (simp [go_sem, *]; done))
    have s12 : w1.cell? ⟨w.heap.size + 1 + 1, 1, none⟩ = some (.int .i64 0) := (hcw1 _ _ (by omega)).trans (by first | assumption | (refine (cell_alloc_at _ _ ?_).trans ?_; omega; assumption) | (simp [go_sem]; done) | (simp [go_sem, *]; done))
    have szq0 : w.heap.size < w1.heap.size := (by omega)
    have szq1 : w.heap.size + 1 < w1.heap.size := (by omega)
    have sz : w.heap.size + 1 + 1 < w1.heap.size := (by omega)
    have fs10 : w1.frozen? ⟨w.heap.size + 1, 0, none⟩ = false := (hfw1 _ _ (by omega)).trans (by first | assumption | (refine (World.frozen?_alloc_old _ _ _ ?_).trans ?_; (simp; omega); assumption) | (simp [go_sem]; done) | (simp [go_sem, *]; done))
    have fs11 : w1.frozen? ⟨w.heap.size + 1, 1, none⟩ = false := (hfw1 _ _ (by omega)).trans (by first | assumption | (refine (World.frozen?_alloc_old _ _ _ ?_).trans ?_; (simp; omega); assumption) | (simp [go_sem]; done) | (simp [go_sem, *]; done))
    have fs20 : w1.frozen? ⟨w.heap.size + 1 + 1, 0, none⟩ = false := (hfw1 _ _ (by omega)).trans (by first | assumption | (refine (World.frozen?_alloc_old _ _ _ ?_).trans ?_; (simp; omega); assumption) | (simp [go_sem]; done) | (simp [go_sem, *]; done))
    have fs21 : w1.frozen? ⟨w.heap.size + 1 + 1, 1, none⟩ = false := (hfw1 _ _ (by omega)).trans (by first | assumption | (refine (World.frozen?_alloc_old _ _ _ ?_).trans ?_; (simp; omega); assumption) | (simp [go_sem]; done) | (simp [go_sem, *]; done))
    clear hcw1 hfw1 hzw1
    go_wp2_with fail
    refine (CB.out _ _ _ (rd_cub4 (by simp) (by simp [go_sem]) (by simp [go_sem]) (by simp [go_sem]) (by simp [go_sem]) (by simp [go_sem]) (by simp [go_sem]) (by simp [go_sem]) (by simp [go_sem]))).mono ?_
    rintro e w2 ⟨rfl, hbw2⟩
    have g2 : Below w.heap.size w w2 := (by repeat' (first | with_reducible assumption | with_reducible exact Below.refl _ _ | (with_reducible refine Below.setCell ?_ ?_ _) | (with_reducible refine Below.alloc ?_ ?_ _) | (with_reducible refine Below.drew ?_) | (with_reducible refine below_dr ?_ _) | (with_reducible refine Below.trans ?_ (Below.mono (by with_reducible assumption) ?_)) | omega | (simp; done) | (simp; omega)))
    obtain ⟨hcw2, hfw2⟩ := bcell hbw2
    have hzw2 := hbw2.size
    (try simp only [World.size_alloc] at hcw2 hfw2 hzw2)
    have t1 : w2.cell? ⟨w.heap.size, 0, none⟩ = some (.int .i64 m0) := (hcw2 _ _ (by omega)).trans (by first | assumption | (refine (cell_alloc_at _ _ ?_).trans ?_; omega; assumption) | (simp [go_sem]; done) | (simp [go_sem, *]; done))
    have t2 : w2.cell? ⟨w.heap.size, 1, none⟩ = some (.int .i64 m1) := (hcw2 _ _ (by omega)).trans (by first | assumption | (refine (cell_alloc_at _ _ ?_).trans ?_; omega; assumption) | (simp [go_sem]; done) | (simp [go_sem, *]; done))
    have t3 : w2.cell? ⟨w.heap.size, 2, none⟩ = some (.int .i64 m2) := (hcw2 _ _ (by omega)).trans (by first | assumption | (refine (cell_alloc_at _ _ ?_).trans ?_; omega; assumption) | (simp [go_sem]; done) | (simp [go_sem, *]; done))
    have t4 : w2.cell? ⟨w.heap.size, 3, none⟩ = some (.int .i64 m3) := (hcw2 _ _ (by omega)).trans (by first | assumption | (refine (cell_alloc_at _ _ ?_).trans ?_; omega; assumption) | (simp [go_sem]; done) | (simp [go_sem, *]; done))
    have t5 : w2.cell? ⟨w.heap.size, 4, none⟩ = some (.int .i64 m4) := (hcw2 _ _ (by omega)).trans (by first | assumption | (refine (cell_alloc_at _ _ ?_).trans ?_; omega; assumption) | (simp [go_sem]; done) | (simp [go_sem, *]; done))
    have t6 : w2.cell? ⟨w.heap.size, 5, none⟩ = some (.int .i64 m5) := (hcw2 _ _ (by omega)).trans (by first | assumption | (refine (cell_alloc_at _ _ ?_).trans ?_; omega; assumption) | (simp [go_sem]; done) | (simp [go_sem, *]; done))
    have t7 : w2.cell? ⟨w.heap.size, 6, none⟩ = some (.int .i64 m6) := (hcw2 _ _ (by omega)).trans (by first | assumption | (refine (cell_alloc_at _ _ ?_).trans ?_; omega; assumption) | (simp [go_sem]; done) | (simp [go_sem, *]; done))
    have t8 : w2.cell? ⟨w.heap.size, 7, none⟩ = some (.int .i64 m7) := (hcw2 _ _ (by omega)).trans (by first | assumption | (refine (cell_alloc_at _ _ ?_).trans ?_; omega; assumption) | (simp [go_sem]; done) | (simp [go_sem, *]; done))
    have t9 : w2.cell? ⟨w.heap.size + 1, 0, none⟩ = some (.int .i64 0) := (hcw2 _ _ (by omega)).trans (by first | assumption | (refine (cell_alloc_at _ _ ?_).trans ?_; omega; assumption) | (simp [go_sem]; done) | (simp [go_sem, *]; done))
    have t10 : w2.cell? ⟨w.heap.size + 1, 1, none⟩ = some (.int .i64 0) := (hcw2 _ _ (by omega)).trans (by first | assumption | (refine (cell_alloc_at _ _ ?_).trans ?_; omega; assumption) | (simp [go_sem]; done) | (simp [go_sem, *]; done))
    have t11 : w2.cell? ⟨w.heap.size + 1 + 1, 0, none⟩ = some (.int .i64 0) := (hcw2 _ _ (by omega)).trans (by first | assumption | (refine (cell_alloc_at _ _ ?_).trans ?_; omega; assumption) | (simp [go_sem]; done) | (simp [go_sem, *]; done))
    have t12 : w2.cell? ⟨w.heap.size + 1 + 1, 1, none⟩ = some (.int .i64 0) := (hcw2 _ _ (by omega)).trans (by first | assumption | (refine (cell_alloc_at _ _ ?_).trans ?_; omega; assumption) | (simp [go_sem]; done) | (simp [go_sem, *]; done))
    have tzq0 : w.heap.size < w2.heap.size := (by omega)
    have tzq1 : w.heap.size + 1 < w2.heap.size := (by omega)
    have tz : w.heap.size + 1 + 1 < w2.heap.size := (by omega)
    have ft10 : w2.frozen? ⟨w.heap.size + 1, 0, none⟩ = false := (hfw2 _ _ (by omega)).trans (by first | assumption | (refine (World.frozen?_alloc_old _ _ _ ?_).trans ?_; (simp; omega); assumption) | (simp [go_sem]; done) | (simp [go_sem, *]; done))
    have ft11 : w2.frozen? ⟨w.heap.size + 1, 1, none⟩ = false := (hfw2 _ _ (by omega)).trans (by first | assumption | (refine (World.frozen?_alloc_old _ _ _ ?_).trans ?_; (simp; omega); assumption) | (simp [go_sem]; done) | (simp [go_sem, *]; done))
    have ft20 : w2.frozen? ⟨w.heap.size + 1 + 1, 0, none⟩ = false := (hfw2 _ _ (by omega)).trans (by first | assumption | (refine (World.frozen?_alloc_old _ _ _ ?_).trans ?_; (simp; omega); assumption) | (simp [go_sem]; done) | (simp [go_sem, *]; done))
    have ft21 : w2.frozen? ⟨w.heap.size + 1 + 1, 1, none⟩ = false := (hfw2 _ _ (by omega)).trans (by first | assumption | (refine (World.frozen?_alloc_old _ _ _ ?_).trans ?_; (simp; omega); assumption) | (simp [go_sem]; done) | (simp [go_sem, *]; done))
    clear hcw2 hfw2 hzw2
    go_wp2_with fail
    go_region
    go_wp2_with fail
    refine bodyPost_ret (v := .tuple #[.agg #[.int .i64 r0, .int .i64 r1], .agg #[.int .i64 r2, .int .i64 r3], .int .i64 0]) (by simp [results, Try.results10, go_sem, *]) rfl (BdRet.t HV.out HR.out ?_)
    repeat' (first | with_reducible assumption | with_reducible exact Below.refl _ _ | (with_reducible refine Below.setCell ?_ ?_ _) | (with_reducible refine Below.alloc ?_ ?_ _) | (with_reducible refine Below.drew ?_) | (with_reducible refine below_dr ?_ _) | (with_reducible refine Below.trans ?_ (Below.mono (by with_reducible assumption) ?_)) | omega | (simp; done) | (simp; omega))
set_option maxRecDepth 100000 in
set_option maxHeartbeats 6400000 in
theorem implBounds_any (m0 m1 m2 m3 m4 m5 m6 m7 : Int) (w : World) :
    Calls Try.prog 12 #[.agg #[.int .i64 m0, .int .i64 m1, .int .i64 m2, .int .i64 m3, .int .i64 m4, .int .i64 m5, .int .i64 m6, .int .i64 m7]] w (BdRet m0 m1 m2 m3 m4 m5 m6 m7 w) := by
  rcases hv : okC m0 m1 m2 m3 m4 m5 m6 m7 with _ | _
  · have HV := Lib.hid hv
    clear hv
    go_enter Try.func12, Try.ntmps12
    go_wp2_with fail
    refine (implCubic_any m0 m1 m2 m3 m4 m5 m6 m7 _).mono ?_
    rw [HV.out]; rintro e w1 ⟨rfl, hbw1⟩
    have g1 : Below w.heap.size w w1 := (by repeat' (first | with_reducible assumption | with_reducible exact Below.refl _ _ | (with_reducible refine Below.setCell ?_ ?_ _) | (with_reducible refine Below.alloc ?_ ?_ _) | (with_reducible refine Below.drew ?_) | (with_reducible refine below_dr ?_ _) | (with_reducible refine Below.trans ?_ (Below.mono (by with_reducible assumption) ?_)) | omega | (simp; done) | (simp; omega)))
    obtain ⟨hcw1, hfw1⟩ := bcell hbw1
    have hzw1 := hbw1.size
    (try simp only [World.size_alloc] at hcw1 hfw1 hzw1)
    have s1 : w1.cell? ⟨w.heap.size, 0, none⟩ = some (.int .i64 m0) := (hcw1 _ _ (by omega)).trans (by first | assumption | (refine (cell_alloc_at _ _ ?_).trans ?_; omega; assumption) | (simp [go_sem]; done) | (simp [go_sem, *]; done))
    have s2 : w1.cell? ⟨w.heap.size, 1, none⟩ = some (.int .i64 m1) := (hcw1 _ _ (by omega)).trans (by first | assumption | (refine (cell_alloc_at _ _ ?_).trans ?_; omega; assumption) | (simp [go_sem]; done) | (simp [go_sem, *]; done))
    have s3 : w1.cell? ⟨w.heap.size, 2, none⟩ = some (.int .i64 m2) := (hcw1 _ _ (by omega)).trans (by first | assumption | (refine (cell_alloc_at _ _ ?_).trans ?_; omega; assumption) | (simp [go_sem]; done) | (simp [go_sem, *]; done))
    have s4 : w1.cell? ⟨w.heap.size, 3, none⟩ = some (.int .i64 m3) := (hcw1 _ _ (by omega)).trans (by first | assumption | (refine (cell_alloc_at _ _ ?_).trans ?_; omega; assumption) | (simp [go_sem]; done) | (simp [go_sem, *]; done))
    have s5 : w1.cell? ⟨w.heap.size, 4, none⟩ = some (.int .i64 m4) := (hcw1 _ _ (by omega)).trans (by first | assumption | (refine (cell_alloc_at _ _ ?_).trans ?_; omega; assumption) | (simp [go_sem]; done) | (simp [go_sem, *]; done))
    have s6 : w1.cell? ⟨w.heap.size, 5, none⟩ = some (.int .i64 m5) := (hcw1 _ _ (by omega)).trans (by first | assumption | (refine (cell_alloc_at _ _ ?_).trans ?_; omega; assumption) | (simp [go_sem]; done) | (simp [go_sem, *]; done))
    have s7 : w1.cell? ⟨w.heap.size, 6, none⟩ = some (.int .i64 m6) := (hcw1 _ _ (by omega)).trans (by first | assumption | (refine (cell_alloc_at _ _ ?_).trans ?_; omega; assumption) | (simp [go_sem]; done) | (simp [go_sem, *]; done))
    have s8 : w1.cell? ⟨w.heap.size, 7, none⟩ = some (.int .i64 m7) := (hcw1 _ _ (by omega)).trans (by first | assumption | (refine (cell_alloc_at _ _ ?_).trans ?_; omega; assumption) | (simp [go_sem]; done) | (simp [go_sem, *]; done))
    have s9 : w1.cell? ⟨w.heap.size + 1, 0, none⟩ = some (.int .i64 0) := (hcw1 _ _ (by omega)).trans (by first | assumption | (refine (cell_alloc_at _ _ ?_).trans ?_; omega; assumption) | (simp [go_sem]; done) | (simp [go_sem, *]; done))
    have s10 : w1.cell? ⟨w.heap.size + 1, 1, none⟩ = some (.int .i64 0) := (hcw1 _ _ (by omega)).trans (by first | assumption | (refine (cell_alloc_at _ _ ?_).trans ?_; omega; assumption) | (simp [go_sem]; done) | (simp [go_sem, *]; done))
    have s11 : w1.cell? ⟨w.heap.size + 1 + 1, 0, none⟩ = some (.int .i64 0) := (hcw1 _ _ (by omega)).trans (by first | assumption | (refine (cell_alloc_at _ _ ?_).trans ?_; omega; assumption) | (simp [go_sem]; done) | (simp [go_sem, *]; done))
    have s12 : w1.cell? ⟨w.heap.size + 1 + 1, 1, none⟩ = some (.int .i64 0) := (hcw1 _ _ (by omega)).trans (by first | assumption | (refine (cell_alloc_at _ _ ?_).trans ?_; omega; assumption) | (simp [go_sem]; done) | (simp [go_sem, *]; done))
    have szq0 : w.heap.size < w1.heap.size := (by omega)
    have szq1 : w.heap.size + 1 < w1.heap.size := (by omega)
    have sz : w.heap.size + 1 + 1 < w1.heap.size := (by omega)
    have fs10 : w1.frozen? ⟨w.heap.size + 1, 0, none⟩ = false := (hfw1 _ _ (by omega)).trans (by first | assumption | (refine (World.frozen?_alloc_old _ _ _ ?_).trans ?_; (simp; omega); assumption) | (simp [go_sem]; done) | (simp [go_sem, *]; done))
    have fs11 : w1.frozen? ⟨w.heap.size + 1, 1, none⟩ = false := (hfw1 _ _ (by omega)).trans (by first | assumption | (refine (World.frozen?_alloc_old _ _ _ ?_).trans ?_; (simp; omega); assumption) | (simp [go_sem]; done) | (simp [go_sem, *]; done))
    have fs20 : w1.frozen? ⟨w.heap.size + 1 + 1, 0, none⟩ = false := (hfw1 _ _ (by omega)).trans (by first | assumption | (refine (World.frozen?_alloc_old _ _ _ ?_).trans ?_; (simp; omega); assumption) | (simp [go_sem]; done) | (simp [go_sem, *]; done))
    have fs21 : w1.frozen? ⟨w.heap.size + 1 + 1, 1, none⟩ = false := (hfw1 _ _ (by omega)).trans (by first | assumption | (refine (World.frozen?_alloc_old _ _ _ ?_).trans ?_; (simp; omega); assumption) | (simp [go_sem]; done) | (simp [go_sem, *]; done))
    clear hcw1 hfw1 hzw1
    go_wp2_with fail
    refine bodyPost_ret (v := .tuple #[.agg #[.int .i64 0, .int .i64 0], .agg #[.int .i64 0, .int .i64 0], .int .i64 1]) (by simp [results, Try.results12, go_sem, *]) rfl (BdRet.f HV.out ?_)
    repeat' (first | with_reducible assumption | with_reducible exact Below.refl _ _ | (with_reducible refine Below.setCell ?_ ?_ _) | (with_reducible refine Below.alloc ?_ ?_ _) | (with_reducible refine Below.drew ?_) | (with_reducible refine below_dr ?_ _) | (with_reducible refine Below.trans ?_ (Below.mono (by with_reducible assumption) ?_)) | omega | (simp; done) | (simp; omega))
  · have HV := Lib.hid hv
    clear hv
    have CB := Lib.hid (fun A c w1 r1 => boundsOf_rd (cub4 m0 m1 m2 m3 m4 m5 m6 m7) A c w1 (by simp [cub4]) (by simp [cub4]) r1)
    simp only [show (cub4 m0 m1 m2 m3 m4 m5 m6 m7).length = 4 from rfl] at CB
    obtain ⟨r0, h0⟩ : ∃ r, r = (bX1 (cub4 m0 m1 m2 m3 m4 m5 m6 m7) 4) := ⟨_, rfl⟩
    obtain ⟨r1, h1⟩ : ∃ r, r = (bY1 (cub4 m0 m1 m2 m3 m4 m5 m6 m7) 4) := ⟨_, rfl⟩
    obtain ⟨r2, h2⟩ : ∃ r, r = (bX2 (cub4 m0 m1 m2 m3 m4 m5 m6 m7) 4) := ⟨_, rfl⟩
    obtain ⟨r3, h3⟩ : ∃ r, r = (bY2 (cub4 m0 m1 m2 m3 m4 m5 m6 m7) 4) := ⟨_, rfl⟩
    rw [← h0, ← h1, ← h2, ← h3] at CB
    have HR := Lib.hid (show r0 = (bX1 (cub4 m0 m1 m2 m3 m4 m5 m6 m7) 4) ∧ r1 = (bY1 (cub4 m0 m1 m2 m3 m4 m5 m6 m7) 4) ∧ r2 = (bX2 (cub4 m0 m1 m2 m3 m4 m5 m6 m7) 4) ∧ r3 = (bY2 (cub4 m0 m1 m2 m3 m4 m5 m6 m7) 4) from ⟨h0, h1, h2, h3⟩)
    clear h0 h1 h2 h3
    go_enter Try.func12, Try.ntmps12
    go_wp2_with fail
    refine (implCubic_any m0 m1 m2 m3 m4 m5 m6 m7 _).mono ?_
    rw [HV.out]; rintro e w1 ⟨rfl, hbw1⟩
    have g1 : Below w.heap.size w w1 := (by repeat' (first | with_reducible assumption | with_reducible exact Below.refl _ _ | (with_reducible refine Below.setCell ?_ ?_ _) | (with_reducible refine Below.alloc ?_ ?_ _) | (with_reducible refine Below.drew ?_) | (with_reducible refine below_dr ?_ _) | (with_reducible refine Below.trans ?_ (Below.mono (by with_reducible assumption) ?_)) | omega | (simp; done) | (simp; omega)))
    obtain ⟨hcw1, hfw1⟩ := bcell hbw1
    have hzw1 := hbw1.size
    (try simp only [World.size_alloc] at hcw1 hfw1 hzw1)
    have s1 : w1.cell? ⟨w.heap.size, 0, none⟩ = some (.int .i64 m0) := (hcw1 _ _ (by omega)).trans (by first | assumption | (refine (cell_alloc_at _ _ ?_).trans ?_; omega; assumption) | (simp [go_sem]; done) | (simp [go_sem, *]; done))
    have s2 : w1.cell? ⟨w.heap.size, 1, none⟩ = some (.int .i64 m1) := (hcw1 _ _ (by omega)).trans (by first | assumption | (refine (cell_alloc_at _ _ ?_).trans ?_; omega; assumption) | (simp [go_sem]; done) | (simp [go_sem, *]; done))
    have s3 : w1.cell? ⟨w.heap.size, 2, none⟩ = some (.int .i64 m2) := (hcw1 _ _ (by omega)).trans (by first | assumption | (refine (cell_alloc_at _ _ ?_).trans ?_; omega; assumption) | (simp [go_sem]; done) | (simp [go_sem, *]; done))
    have s4 : w1.cell? ⟨w.heap.size, 3, none⟩ = some (.int .i64 m3) := (hcw1 _ _ (by omega)).trans (by first | assumption | (refine (cell_alloc_at _ _ ?_).trans ?_; omega; assumption) | (simp [go_sem]; done) | (simp [go_sem, *]; done))
    have s5 : w1.cell? ⟨w.heap.size, 4, none⟩ = some (.int .i64 m4) := (hcw1 _ _ (by omega)).trans (by first | assumption | (refine (cell_alloc_at _ _ ?_).trans ?_; omega; assumption) | (simp [go_sem]; done) | (simp [go_sem, *]; done))
    have s6 : w1.cell? ⟨w.heap.size, 5, none⟩ = some (.int .i64 m5) := (hcw1 _ _ (by omega)).trans (by first | assumption | (refine (cell_alloc_at _ _ ?_).trans ?_; omega; assumption) | (simp [go_sem]; done) | (simp [go_sem, *]; done))
    have s7 : w1.cell? ⟨w.heap.size, 6, none⟩ = some (.int .i64 m6) := (hcw1 _ _ (by omega)).trans (by first | assumption | (refine (cell_alloc_at _ _ ?_).trans ?_; omega; assumption) | (simp [go_sem]; done) | (simp [go_sem, *]; done))
    have s8 : w1.cell? ⟨w.heap.size, 7, none⟩ = some (.int .i64 m7) := (hcw1 _ _ (by omega)).trans (by first | assumption | (refine (cell_alloc_at _ _ ?_).trans ?_; omega; assumption) | (simp [go_sem]; done) | (simp [go_sem, *]; done))
    have s9 : w1.cell? ⟨w.heap.size + 1, 0, none⟩ = some (.int .i64 0) := (hcw1 _ _ (by omega)).trans (by first | assumption | (refine (cell_alloc_at _ _ ?_).trans ?_; omega; assumption) | (simp [go_sem]; done) | (simp [go_sem, *]; done))
    have s10 : w1.cell? ⟨w.heap.size + 1, 1, none⟩ = some (.int .i64 0) := (hcw1 _ _ (by omega)).trans (by first | assumption | (refine (cell_alloc_at _ _ ?_).trans ?_; omega; assumption) | (simp [go_sem]; done) | (simp [go_sem, *]; done))
    have s11 : w1.cell? ⟨w.heap.size + 1 + 1, 0, none⟩ = some (.int .i64 0) := (hcw1 _ _ (by omega)).trans (by first | assumption | (refine (cell_alloc_at _ _ ?_).trans ?_; omega; assumption) | (simp [go_sem]; done) | (simp [go_sem, *]; done))
    have s12 : w1.cell? ⟨w.heap.size + 1 + 1, 1, none⟩ = some (.int .i64 0) := (hcw1 _ _ (by omega)).trans (by first | assumption | (refine (cell_alloc_at _ _ ?_).trans ?_; omega; assumption) | (simp [go_sem]; done) | (simp [go_sem, *]; done))
    have szq0 : w.heap.size < w1.heap.size := (by omega)
    have szq1 : w.heap.size + 1 < w1.heap.size := (by omega)
    have sz : w.heap.size + 1 + 1 < w1.heap.size := (by omega)
    have fs10 : w1.frozen? ⟨w.heap.size + 1, 0, none⟩ = false := (hfw1 _ _ (by omega)).trans (by first | assumption | (refine (World.frozen?_alloc_old _ _ _ ?_).trans ?_; (simp; omega); assumption) | (simp [go_sem]; done) | (simp [go_sem, *]; done))
    have fs11 : w1.frozen? ⟨w.heap.size + 1, 1, none⟩ = false := (hfw1 _ _ (by omega)).trans (by first | assumption | (refine (World.frozen?_alloc_old _ _ _ ?_).trans ?_; (simp; omega); assumption) | (simp [go_sem]; done) | (simp [go_sem, *]; done))
    have fs20 : w1.frozen? ⟨w.heap.size + 1 + 1, 0, none⟩ = false := (hfw1 _ _ (by omega)).trans (by first | assumption | (refine (World.frozen?_alloc_old _ _ _ ?_).trans ?_; (simp; omega); assumption) | (simp [go_sem]; done) | (simp [go_sem, *]; done))
    have fs21 : w1.frozen? ⟨w.heap.size + 1 + 1, 1, none⟩ = false := (hfw1 _ _ (by omega)).trans (by first | assumption | (refine (World.frozen?_alloc_old _ _ _ ?_).trans ?_; (simp; omega); assumption) | (simp [go_sem]; done) | (simp [go_sem, *]; done))
    clear hcw1 hfw1 hzw1
    go_wp2_with fail
    refine (CB.out _ _ _ (rd_cub4 (by simp) (by simp [go_sem]) (by simp [go_sem]) (by simp [go_sem]) (by simp [go_sem]) (by simp [go_sem]) (by simp [go_sem]) (by simp [go_sem]) (by simp [go_sem]))).mono ?_
    rintro e w2 ⟨rfl, hbw2⟩
    have g2 : Below w.heap.size w w2 := (by repeat' (first | with_reducible assumption | with_reducible exact Below.refl _ _ | (with_reducible refine Below.setCell ?_ ?_ _) | (with_reducible refine Below.alloc ?_ ?_ _) | (with_reducible refine Below.drew ?_) | (with_reducible refine below_dr ?_ _) | (with_reducible refine Below.trans ?_ (Below.mono (by with_reducible assumption) ?_)) | omega | (simp; done) | (simp; omega)))
    obtain ⟨hcw2, hfw2⟩ := bcell hbw2
    have hzw2 := hbw2.size
    (try simp only [World.size_alloc] at hcw2 hfw2 hzw2)
    have t1 : w2.cell? ⟨w.heap.size, 0, none⟩ = some (.int .i64 m0) := (hcw2 _ _ (by omega)).trans (by first | assumption | (refine (cell_alloc_at _ _ ?_).trans ?_; omega; assumption) | (simp [go_sem]; done) | (simp [go_sem, *]; done))
    have t2 : w2.cell? ⟨w.heap.size, 1, none⟩ = some (.int .i64 m1) := (hcw2 _ _ (by omega)).trans (by first | assumption | (refine (cell_alloc_at _ _ ?_).trans ?_; omega; assumption) | (simp [go_sem]; done) | (simp [go_sem, *]; done))
    have t3 : w2.cell? ⟨w.heap.size, 2, none⟩ = some (.int .i64 m2) := (hcw2 _ _ (by omega)).trans (by first | assumption | (refine (cell_alloc_at _ _ ?_).trans ?_; omega; assumption) | (simp [go_sem]; done) | (simp [go_sem, *]; done))
    have t4 : w2.cell? ⟨w.heap.size, 3, none⟩ = some (.int .i64 m3) := (hcw2 _ _ (by omega)).trans (by first | assumption | (refine (cell_alloc_at _ _ ?_).trans ?_; omega; assumption) | (simp [go_sem]; done) | (simp [go_sem, *]; done))
    have t5 : w2.cell? ⟨w.heap.size, 4, none⟩ = some (.int .i64 m4) := (hcw2 _ _ (by omega)).trans (by first | assumption | (refine (cell_alloc_at _ _ ?_).trans ?_; omega; assumption) | (simp [go_sem]; done) | (simp [go_sem, *]; done))
    have t6 : w2.cell? ⟨w.heap.size, 5, none⟩ = some (.int .i64 m5) := (hcw2 _ _ (by omega)).trans (by first | assumption | (refine (cell_alloc_at _ _ ?_).trans ?_; omega; assumption) | (simp [go_sem]; done) | (simp [go_sem, *]; done))
    have t7 : w2.cell? ⟨w.heap.size, 6, none⟩ = some (.int .i64 m6) := (hcw2 _ _ (by omega)).trans (by first | assumption | (refine (cell_alloc_at _ _ ?_).trans ?_; omega; assumption) | (simp [go_sem]; done) | (simp [go_sem, *]; done))
    have t8 : w2.cell? ⟨w.heap.size, 7, none⟩ = some (.int .i64 m7) := (hcw2 _ _ (by omega)).trans (by first | assumption | (refine (cell_alloc_at _ _ ?_).trans ?_; omega; assumption) | (simp [go_sem]; done) | (simp [go_sem, *]; done))
    have t9 : w2.cell? ⟨w.heap.size + 1, 0, none⟩ = some (.int .i64 0) := (hcw2 _ _ (by omega)).trans (by first | assumption | (refine (cell_alloc_at _ _ ?_).trans ?_; omega; assumption) | (simp [go_sem]; done) | (simp [go_sem, *]; done))
    have t10 : w2.cell? ⟨w.heap.size + 1, 1, none⟩ = some (.int .i64 0) := (hcw2 _ _ (by omega)).trans (by first | assumption | (refine (cell_alloc_at _ _ ?_).trans ?_; omega; assumption) | (simp [go_sem]; done) | (simp [go_sem, *]; done))
    have t11 : w2.cell? ⟨w.heap.size + 1 + 1, 0, none⟩ = some (.int .i64 0) := (hcw2 _ _ (by omega)).trans (by first | assumption | (refine (cell_alloc_at _ _ ?_).trans ?_; omega; assumption) | (simp [go_sem]; done) | (simp [go_sem, *]; done))
    have t12 : w2.cell? ⟨w.heap.size + 1 + 1, 1, none⟩ = some (.int .i64 0) := (hcw2 _ _ (by omega)).trans (by first | assumption | (refine (cell_alloc_at _ _ ?_).trans ?_; omega; assumption) | (simp [go_sem]; done) | (simp [go_sem, *]; done))
    have tzq0 : w.heap.size < w2.heap.size := (by omega)
    have tzq1 : w.heap.size + 1 < w2.heap.size := (by omega)
    have tz : w.heap.size + 1 + 1 < w2.heap.size := (by omega)
    have ft10 : w2.frozen? ⟨w.heap.size + 1, 0, none⟩ = false := (hfw2 _ _ (by omega)).trans (by first | assumption | (refine (World.frozen?_alloc_old _ _ _ ?_).trans ?_; (simp; omega); assumption) | (simp [go_sem]; done) | (simp [go_sem, *]; done))
    have ft11 : w2.frozen? ⟨w.heap.size + 1, 1, none⟩ = false := (hfw2 _ _ (by omega)).trans (by first | assumption | (refine (World.frozen?_alloc_old _ _ _ ?_).trans ?_; (simp; omega); assumption) | (simp [go_sem]; done) | (simp [go_sem, *]; done))
    have ft20 : w2.frozen? ⟨w.heap.size + 1 + 1, 0, none⟩ = false := (hfw2 _ _ (by omega)).trans (by first | assumption | (refine (World.frozen?_alloc_old _ _ _ ?_).trans ?_; (simp; omega); assumption) | (simp [go_sem]; done) | (simp [go_sem, *]; done))
    have ft21 : w2.frozen? ⟨w.heap.size + 1 + 1, 1, none⟩ = false := (hfw2 _ _ (by omega)).trans (by first | assumption | (refine (World.frozen?_alloc_old _ _ _ ?_).trans ?_; (simp; omega); assumption) | (simp [go_sem]; done) | (simp [go_sem, *]; done))
    clear hcw2 hfw2 hzw2
    go_wp2_with fail
    go_region
    go_wp2_with fail
    refine bodyPost_ret (v := .tuple #[.agg #[.int .i64 r0, .int .i64 r1], .agg #[.int .i64 r2, .int .i64 r3], .int .i64 0]) (by simp [results, Try.results12, go_sem, *]) rfl (BdRet.t HV.out HR.out ?_)
    repeat' (first | with_reducible assumption | with_reducible exact Below.refl _ _ | (with_reducible refine Below.setCell ?_ ?_ _) | (with_reducible refine Below.alloc ?_ ?_ _) | (with_reducible refine Below.drew ?_) | (with_reducible refine below_dr ?_ _) | (with_reducible refine Below.trans ?_ (Below.mono (by with_reducible assumption) ?_)) | omega | (simp; done) | (simp; omega))
set_option maxHeartbeats 6400000 in
theorem walk_CubicBounds (m0 m1 m2 m3 m4 m5 m6 m7 : Int) (w_m0 : (Lit.int .i64 m0).wf = true) (w_m1 : (Lit.int .i64 m1).wf = true) (w_m2 : (Lit.int .i64 m2).wf = true) (w_m3 : (Lit.int .i64 m3).wf = true) (w_m4 : (Lit.int .i64 m4).wf = true) (w_m5 : (Lit.int .i64 m5).wf = true) (w_m6 : (Lit.int .i64 m6).wf = true) (w_m7 : (Lit.int .i64 m7).wf = true) (w : World) :
    Calls Try.prog 3 #[.agg #[.int .i64 m0, .int .i64 m1, .int .i64 m2, .int .i64 m3, .int .i64 m4, .int .i64 m5, .int .i64 m6, .int .i64 m7]] w fun e w' => e = .returned (.bool true) ∧ Below w.heap.size w w' := by
  have i_m0 := i64_bounds w_m0
  have i_m1 := i64_bounds w_m1
  have i_m2 := i64_bounds w_m2
  have i_m3 := i64_bounds w_m3
  have i_m4 := i64_bounds w_m4
  have i_m5 := i64_bounds w_m5
  have i_m6 := i64_bounds w_m6
  have i_m7 := i64_bounds w_m7
  have C1 := Lib.hid (fun w => specBounds_any m0 m1 m2 m3 m4 m5 m6 m7 w)
  have C2 := Lib.hid (fun w => implBounds_any m0 m1 m2 m3 m4 m5 m6 m7 w)
  unfold BdRet at C1 C2
  generalize bd0 m0 m1 m2 m3 m4 m5 m6 m7 = v0 at C1 C2
  generalize bd1 m0 m1 m2 m3 m4 m5 m6 m7 = v1 at C1 C2
  generalize bd2 m0 m1 m2 m3 m4 m5 m6 m7 = v2 at C1 C2
  generalize bd3 m0 m1 m2 m3 m4 m5 m6 m7 = v3 at C1 C2
  generalize bdC m0 m1 m2 m3 m4 m5 m6 m7 = c at C1 C2
  clear i_m0 w_m0 i_m1 w_m1 i_m2 w_m2 i_m3 w_m3 i_m4 w_m4 i_m5 w_m5 i_m6 w_m6 i_m7 w_m7
  have e_v0 : (v0 != v0) = false := by simp
  have e_v1 : (v1 != v1) = false := by simp
  have e_v2 : (v2 != v2) = false := by simp
  have e_v3 : (v3 != v3) = false := by simp
  have e_c : (c != c) = false := by simp
  go_enter Try.func3, Try.ntmps3
  go_upto_region 1 with fail
  go_cut [3, 4, 5] (fun sA sB sZ wx => LeftP [.int .i64 v0, .int .i64 v1] sA wx ∧ LeftP [.int .i64 v2, .int .i64 v3] sB wx ∧ sZ = .int .i64 c ∧ Below w.heap.size w wx ∧ AtL w.heap.size [.int .i64 m0, .int .i64 m1, .int .i64 m2, .int .i64 m3, .int .i64 m4, .int .i64 m5, .int .i64 m6, .int .i64 m7] wx)
  case first =>
    go_wp2_with fail
    refine (toCubic_any m0 m1 m2 m3 m4 m5 m6 m7 _).mono ?_
    rintro e wA1 ⟨rfl, hbwA1⟩
    have bx := (AtL.new w [.int .i64 m0, .int .i64 m1, .int .i64 m2, .int .i64 m3, .int .i64 m4, .int .i64 m5, .int .i64 m6, .int .i64 m7] 25).below hbwA1
    have x0 : wA1.cell? ⟨w.heap.size, 0, none⟩ = some (.int .i64 m0) := bx.cell 0 rfl
    have x1 : wA1.cell? ⟨w.heap.size, 1, none⟩ = some (.int .i64 m1) := bx.cell 1 rfl
    have x2 : wA1.cell? ⟨w.heap.size, 2, none⟩ = some (.int .i64 m2) := bx.cell 2 rfl
    have x3 : wA1.cell? ⟨w.heap.size, 3, none⟩ = some (.int .i64 m3) := bx.cell 3 rfl
    have x4 : wA1.cell? ⟨w.heap.size, 4, none⟩ = some (.int .i64 m4) := bx.cell 4 rfl
    have x5 : wA1.cell? ⟨w.heap.size, 5, none⟩ = some (.int .i64 m5) := bx.cell 5 rfl
    have x6 : wA1.cell? ⟨w.heap.size, 6, none⟩ = some (.int .i64 m6) := bx.cell 6 rfl
    have x7 : wA1.cell? ⟨w.heap.size, 7, none⟩ = some (.int .i64 m7) := bx.cell 7 rfl
    have xz : w.heap.size < wA1.heap.size := bx.lt
    have gA1 : Below w.heap.size w wA1 := by repeat' (first | with_reducible assumption | with_reducible exact Below.refl _ _ | (with_reducible refine Below.setCell ?_ ?_ _) | (with_reducible refine Below.alloc ?_ ?_ _) | (with_reducible refine Below.drew ?_) | (with_reducible refine below_dr ?_ _) | (with_reducible refine Below.trans ?_ (Below.mono (by with_reducible assumption) ?_)) | omega | (simp; done) | (simp; omega))
    have zA1 := gA1.size
    go_wp2_with fail
    clear x0 x1 x2 x3 x4 x5 x6 x7 xz
    refine (C1.out _).mono ?_
    rintro e wC1 ⟨rfl, hbwC1⟩
    replace bx := bx.below hbwC1
    have gC1 : Below w.heap.size w wC1 := by repeat' (first | with_reducible assumption | with_reducible exact Below.refl _ _ | (with_reducible refine Below.setCell ?_ ?_ _) | (with_reducible refine Below.alloc ?_ ?_ _) | (with_reducible refine Below.drew ?_) | (with_reducible refine below_dr ?_ _) | (with_reducible refine Below.trans ?_ (Below.mono (by with_reducible assumption) ?_)) | omega | (simp; done) | (simp; omega))
    have xz : w.heap.size < wC1.heap.size := bx.lt
    go_wp2_with fail
    go_meet
    exact ⟨⟨_, rfl, by repeat' (first | with_reducible assumption | with_reducible exact AtL.new _ _ _ | ((with_reducible refine AtL.newAt ?_); (first | rfl | (simp; done))) | (with_reducible refine AtL.drew ?_) | (with_reducible apply AtL.store2) | (with_reducible refine AtL.alloc ?_ _) | (with_reducible refine AtL.far ?_ ?_ _ _) | (with_reducible refine AtL.below ?_ (by with_reducible assumption)) | omega | (simp; done) | (simp; omega))⟩, ⟨_, rfl, by repeat' (first | with_reducible assumption | with_reducible exact AtL.new _ _ _ | ((with_reducible refine AtL.newAt ?_); (first | rfl | (simp; done))) | (with_reducible refine AtL.drew ?_) | (with_reducible apply AtL.store2) | (with_reducible refine AtL.alloc ?_ _) | (with_reducible refine AtL.far ?_ ?_ _ _) | (with_reducible refine AtL.below ?_ (by with_reducible assumption)) | omega | (simp; done) | (simp; omega))⟩, rfl, by repeat' (first | with_reducible assumption | with_reducible exact Below.refl _ _ | (with_reducible refine Below.setCell ?_ ?_ _) | (with_reducible refine Below.alloc ?_ ?_ _) | (with_reducible refine Below.drew ?_) | (with_reducible refine below_dr ?_ _) | (with_reducible refine Below.trans ?_ (Below.mono (by with_reducible assumption) ?_)) | omega | (simp; done) | (simp; omega)), by repeat' (first | with_reducible assumption | with_reducible exact AtL.new _ _ _ | ((with_reducible refine AtL.newAt ?_); (first | rfl | (simp; done))) | (with_reducible refine AtL.drew ?_) | (with_reducible apply AtL.store2) | (with_reducible refine AtL.alloc ?_ _) | (with_reducible refine AtL.far ?_ ?_ _ _) | (with_reducible refine AtL.below ?_ (by with_reducible assumption)) | omega | (simp; done) | (simp; omega))⟩
  case rest =>
    obtain ⟨⟨g0, rfl, at0⟩, ⟨g1, rfl, at1⟩, rfl, bel1, bx⟩ := hcut
    obtain ⟨W1, hW1⟩ : ∃ W : World, W = wc := ⟨_, rfl⟩
    subst hW1
    have lt0 := at0.lt
    have lt1 := at1.lt
    have x0 : W1.cell? ⟨w.heap.size, 0, none⟩ = some (.int .i64 m0) := bx.cell 0 rfl
    have x1 : W1.cell? ⟨w.heap.size, 1, none⟩ = some (.int .i64 m1) := bx.cell 1 rfl
    have x2 : W1.cell? ⟨w.heap.size, 2, none⟩ = some (.int .i64 m2) := bx.cell 2 rfl
    have x3 : W1.cell? ⟨w.heap.size, 3, none⟩ = some (.int .i64 m3) := bx.cell 3 rfl
    have x4 : W1.cell? ⟨w.heap.size, 4, none⟩ = some (.int .i64 m4) := bx.cell 4 rfl
    have x5 : W1.cell? ⟨w.heap.size, 5, none⟩ = some (.int .i64 m5) := bx.cell 5 rfl
    have x6 : W1.cell? ⟨w.heap.size, 6, none⟩ = some (.int .i64 m6) := bx.cell 6 rfl
    have x7 : W1.cell? ⟨w.heap.size, 7, none⟩ = some (.int .i64 m7) := bx.cell 7 rfl
    have xz : w.heap.size < W1.heap.size := bx.lt
    go_upto_region 2 with fail
    clear x0 x1 x2 x3 x4 x5 x6 x7 xz
    go_cut [6, 7, 8] (fun sA sB sZ wx => LeftP [.int .i64 v0, .int .i64 v1] sA wx ∧ LeftP [.int .i64 v2, .int .i64 v3] sB wx ∧ sZ = .int .i64 c ∧ Below w.heap.size w wx ∧ AtL w.heap.size [.int .i64 m0, .int .i64 m1, .int .i64 m2, .int .i64 m3, .int .i64 m4, .int .i64 m5, .int .i64 m6, .int .i64 m7] wx ∧ AtL g0 [.int .i64 v0, .int .i64 v1] wx ∧ AtL g1 [.int .i64 v2, .int .i64 v3] wx)
    case first =>
      have x0 : W1.cell? ⟨w.heap.size, 0, none⟩ = some (.int .i64 m0) := bx.cell 0 rfl
      have x1 : W1.cell? ⟨w.heap.size, 1, none⟩ = some (.int .i64 m1) := bx.cell 1 rfl
      have x2 : W1.cell? ⟨w.heap.size, 2, none⟩ = some (.int .i64 m2) := bx.cell 2 rfl
      have x3 : W1.cell? ⟨w.heap.size, 3, none⟩ = some (.int .i64 m3) := bx.cell 3 rfl
      have x4 : W1.cell? ⟨w.heap.size, 4, none⟩ = some (.int .i64 m4) := bx.cell 4 rfl
      have x5 : W1.cell? ⟨w.heap.size, 5, none⟩ = some (.int .i64 m5) := bx.cell 5 rfl
      have x6 : W1.cell? ⟨w.heap.size, 6, none⟩ = some (.int .i64 m6) := bx.cell 6 rfl
      have x7 : W1.cell? ⟨w.heap.size, 7, none⟩ = some (.int .i64 m7) := bx.cell 7 rfl
      have xz : w.heap.size < W1.heap.size := bx.lt
      go_wp2_with fail
      refine (toCubic_any m0 m1 m2 m3 m4 m5 m6 m7 _).mono ?_
      rintro e wA2 ⟨rfl, hbwA2⟩
      replace bx := bx.below hbwA2
      replace at0 := at0.below hbwA2
      replace at1 := at1.below hbwA2
      have x0 : wA2.cell? ⟨w.heap.size, 0, none⟩ = some (.int .i64 m0) := bx.cell 0 rfl
      have x1 : wA2.cell? ⟨w.heap.size, 1, none⟩ = some (.int .i64 m1) := bx.cell 1 rfl
      have x2 : wA2.cell? ⟨w.heap.size, 2, none⟩ = some (.int .i64 m2) := bx.cell 2 rfl
      have x3 : wA2.cell? ⟨w.heap.size, 3, none⟩ = some (.int .i64 m3) := bx.cell 3 rfl
      have x4 : wA2.cell? ⟨w.heap.size, 4, none⟩ = some (.int .i64 m4) := bx.cell 4 rfl
      have x5 : wA2.cell? ⟨w.heap.size, 5, none⟩ = some (.int .i64 m5) := bx.cell 5 rfl
      have x6 : wA2.cell? ⟨w.heap.size, 6, none⟩ = some (.int .i64 m6) := bx.cell 6 rfl
      have x7 : wA2.cell? ⟨w.heap.size, 7, none⟩ = some (.int .i64 m7) := bx.cell 7 rfl
      have xz : w.heap.size < wA2.heap.size := bx.lt
      have gA2 : Below w.heap.size w wA2 := by repeat' (first | with_reducible assumption | with_reducible exact Below.refl _ _ | (with_reducible refine Below.setCell ?_ ?_ _) | (with_reducible refine Below.alloc ?_ ?_ _) | (with_reducible refine Below.drew ?_) | (with_reducible refine below_dr ?_ _) | (with_reducible refine Below.trans ?_ (Below.mono (by with_reducible assumption) ?_)) | omega | (simp; done) | (simp; omega))
      have zA2 := gA2.size
      go_wp2_with fail
      clear x0 x1 x2 x3 x4 x5 x6 x7 xz
      refine (C2.out _).mono ?_
      rintro e wC2 ⟨rfl, hbwC2⟩
      replace bx := bx.below hbwC2
      replace at0 := at0.below hbwC2
      replace at1 := at1.below hbwC2
      have gC2 : Below w.heap.size w wC2 := by repeat' (first | with_reducible assumption | with_reducible exact Below.refl _ _ | (with_reducible refine Below.setCell ?_ ?_ _) | (with_reducible refine Below.alloc ?_ ?_ _) | (with_reducible refine Below.drew ?_) | (with_reducible refine below_dr ?_ _) | (with_reducible refine Below.trans ?_ (Below.mono (by with_reducible assumption) ?_)) | omega | (simp; done) | (simp; omega))
      have xz : w.heap.size < wC2.heap.size := bx.lt
      have xo0 := at0.lt
      have xo1 := at1.lt
      go_wp2_with fail
      go_meet
      exact ⟨⟨_, rfl, by repeat' (first | with_reducible assumption | with_reducible exact AtL.new _ _ _ | ((with_reducible refine AtL.newAt ?_); (first | rfl | (simp; done))) | (with_reducible refine AtL.drew ?_) | (with_reducible apply AtL.store2) | (with_reducible refine AtL.alloc ?_ _) | (with_reducible refine AtL.far ?_ ?_ _ _) | (with_reducible refine AtL.below ?_ (by with_reducible assumption)) | omega | (simp; done) | (simp; omega))⟩, ⟨_, rfl, by repeat' (first | with_reducible assumption | with_reducible exact AtL.new _ _ _ | ((with_reducible refine AtL.newAt ?_); (first | rfl | (simp; done))) | (with_reducible refine AtL.drew ?_) | (with_reducible apply AtL.store2) | (with_reducible refine AtL.alloc ?_ _) | (with_reducible refine AtL.far ?_ ?_ _ _) | (with_reducible refine AtL.below ?_ (by with_reducible assumption)) | omega | (simp; done) | (simp; omega))⟩, rfl, by repeat' (first | with_reducible assumption | with_reducible exact Below.refl _ _ | (with_reducible refine Below.setCell ?_ ?_ _) | (with_reducible refine Below.alloc ?_ ?_ _) | (with_reducible refine Below.drew ?_) | (with_reducible refine below_dr ?_ _) | (with_reducible refine Below.trans ?_ (Below.mono (by with_reducible assumption) ?_)) | omega | (simp; done) | (simp; omega)), by repeat' (first | with_reducible assumption | with_reducible exact AtL.new _ _ _ | ((with_reducible refine AtL.newAt ?_); (first | rfl | (simp; done))) | (with_reducible refine AtL.drew ?_) | (with_reducible apply AtL.store2) | (with_reducible refine AtL.alloc ?_ _) | (with_reducible refine AtL.far ?_ ?_ _ _) | (with_reducible refine AtL.below ?_ (by with_reducible assumption)) | omega | (simp; done) | (simp; omega)), by repeat' (first | with_reducible assumption | with_reducible exact AtL.new _ _ _ | ((with_reducible refine AtL.newAt ?_); (first | rfl | (simp; done))) | (with_reducible refine AtL.drew ?_) | (with_reducible apply AtL.store2) | (with_reducible refine AtL.alloc ?_ _) | (with_reducible refine AtL.far ?_ ?_ _ _) | (with_reducible refine AtL.below ?_ (by with_reducible assumption)) | omega | (simp; done) | (simp; omega)), by repeat' (first | with_reducible assumption | with_reducible exact AtL.new _ _ _ | ((with_reducible refine AtL.newAt ?_); (first | rfl | (simp; done))) | (with_reducible refine AtL.drew ?_) | (with_reducible apply AtL.store2) | (with_reducible refine AtL.alloc ?_ _) | (with_reducible refine AtL.far ?_ ?_ _ _) | (with_reducible refine AtL.below ?_ (by with_reducible assumption)) | omega | (simp; done) | (simp; omega))⟩
    case rest =>
      obtain ⟨⟨h0, rfl, bt0⟩, ⟨h1, rfl, bt1⟩, rfl, bel2, -, ct0, ct1⟩ := hcut
      obtain ⟨W2, hW2⟩ : ∃ W : World, W = wc := ⟨_, rfl⟩
      subst hW2
      have u0 : W2.cell? ⟨h0, 0, none⟩ = some (.int .i64 v0) := bt0.cell 0 rfl
      have u1 : W2.cell? ⟨h0, 1, none⟩ = some (.int .i64 v1) := bt0.cell 1 rfl
      have v0 : W2.cell? ⟨g0, 0, none⟩ = some (.int .i64 v0) := ct0.cell 0 rfl
      have v1 : W2.cell? ⟨g0, 1, none⟩ = some (.int .i64 v1) := ct0.cell 1 rfl
      have uz := bt0.lt
      have vz := ct0.lt
      go_wp2_with fail
      clear u0 v0 u1 v1 uz vz
      refine (eqPt_same v0 v1 _).mono ?_
      rintro e wE0 ⟨rfl, hbwE0⟩
      have gE0 : Below w.heap.size w wE0 := by (have zE := bel2.size); repeat' (first | with_reducible assumption | with_reducible exact Below.refl _ _ | (with_reducible refine Below.setCell ?_ ?_ _) | (with_reducible refine Below.alloc ?_ ?_ _) | (with_reducible refine Below.drew ?_) | (with_reducible refine below_dr ?_ _) | (with_reducible refine Below.trans ?_ (Below.mono (by with_reducible assumption) ?_)) | omega | (simp; done) | (simp; omega))
      replace bt1 := bt1.below hbwE0
      replace ct1 := ct1.below hbwE0
      have u0 : wE0.cell? ⟨h1, 0, none⟩ = some (.int .i64 v2) := bt1.cell 0 rfl
      have u1 : wE0.cell? ⟨h1, 1, none⟩ = some (.int .i64 v3) := bt1.cell 1 rfl
      have v0 : wE0.cell? ⟨g1, 0, none⟩ = some (.int .i64 v2) := ct1.cell 0 rfl
      have v1 : wE0.cell? ⟨g1, 1, none⟩ = some (.int .i64 v3) := ct1.cell 1 rfl
      have uz := bt1.lt
      have vz := ct1.lt
      go_wp2_with fail
      clear u0 v0 u1 v1 uz vz
      refine (eqPt_same v2 v3 _).mono ?_
      rintro e wE1 ⟨rfl, hbwE1⟩
      have gE1 : Below w.heap.size w wE1 := by (have zE := gE0.size); repeat' (first | with_reducible assumption | with_reducible exact Below.refl _ _ | (with_reducible refine Below.setCell ?_ ?_ _) | (with_reducible refine Below.alloc ?_ ?_ _) | (with_reducible refine Below.drew ?_) | (with_reducible refine below_dr ?_ _) | (with_reducible refine Below.trans ?_ (Below.mono (by with_reducible assumption) ?_)) | omega | (simp; done) | (simp; omega))
      go_wp2
      go_ret
      exact ⟨rfl, by repeat' (first | with_reducible assumption | with_reducible exact Below.refl _ _ | (with_reducible refine Below.setCell ?_ ?_ _) | (with_reducible refine Below.alloc ?_ ?_ _) | (with_reducible refine Below.drew ?_) | (with_reducible refine below_dr ?_ _) | (with_reducible refine Below.trans ?_ (Below.mono (by with_reducible assumption) ?_)) | omega | (simp; done) | (simp; omega))⟩
end Go.Proofs.Ytdeemhfhmgnbgaa
