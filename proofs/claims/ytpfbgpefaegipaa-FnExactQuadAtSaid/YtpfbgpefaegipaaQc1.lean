/- Walks: QuadAt, both sides, whole, and the law: it returns true. -/
import Derived.Test.YtpfbgpefaegipaaQa1
import Derived.Test.YtpfbgpefaegipaaQb1
namespace Go.Proofs.Ytpfbgpefaegipaa
open Go.RowKit
set_option maxRecDepth 100000 in
set_option maxHeartbeats 12800000 in
theorem specQuadAt_any (m0 m1 m2 m3 m4 m5 k level : Int) (w : World) (w_k : -9223372036854775808 ≤ k ∧ k ≤ 9223372036854775807) (w_l : -9223372036854775808 ≤ level ∧ level ≤ 9223372036854775807) :
    Calls Try.prog 32 #[.agg #[.int .i64 m0, .int .i64 m1, .int .i64 m2, .int .i64 m3, .int .i64 m4, .int .i64 m5], .int .i64 k, .int .i64 level] w (CaRet (okQ m0 m1 m2 m3 m4 m5) k level (near (mix2 m0 m2 m4 k (pw level)) (pw level * pw level)) (near (mix2 m1 m3 m5 k (pw level)) (pw level * pw level)) w) := by
  rcases hv : okQ m0 m1 m2 m3 m4 m5 with _ | _
  case false =>
    have HV := Lib.hid hv
    clear hv w_k w_l
    go_enter Try.func32, Try.ntmps32
    go_wp2_with fail
    refine (l10Quad_any m0 m1 m2 m3 m4 m5 _ _ (by first | (simp; done) | (simp; omega)) (by simp [go_sem]) (by simp [go_sem]) (by simp [go_sem]) (by simp [go_sem]) (by simp [go_sem]) (by simp [go_sem])).mono ?_
    rw [HV.out]; rintro e w1 ⟨rfl, hbw1⟩
    have g1 : Below w.heap.size w w1 := (by repeat' (first | with_reducible assumption | with_reducible exact Below.refl _ _ | (with_reducible refine Below.setCell ?_ ?_ _) | (with_reducible refine Below.alloc ?_ ?_ _) | (with_reducible refine Below.drew ?_) | (with_reducible refine below_dr ?_ _) | (with_reducible refine Below.trans ?_ (Below.mono (by with_reducible assumption) ?_)) | omega | (simp; done) | (simp; omega)))
    obtain ⟨hcw1, hfw1⟩ := bcell hbw1
    have hzw1 := hbw1.size
    (try simp only [World.size_alloc] at hcw1 hfw1 hzw1)
    have s1 : w1.cell? ⟨w.heap.size, 0, none⟩ = some (.int .i64 m0) := (hcw1 _ _ (by omega)).trans (by first | assumption | (refine (cell_alloc_at _ _ ?_).trans ?_; omega; assumption) | (simp [go_sem]; done) | (simp [go_sem, *]; done))
    have s2 : w1.cell? ⟨w.heap.size, 1, none⟩ = some (.int .i64 m1) := (hcw1 _ _ (by omega)).trans (by first | assumption | (refine (cell_alloc_at _ _ ?_).trans ?_; omega; assumption) | (simp [go_sem]; done) | (simp [go_sem, *]; done))
    have s3 : w1.cell? ⟨w.heap.size, 2, none⟩ = some (.int .i64 m2) := (hcw1 _ _ (by omega)).trans (by first | assumption | (refine (cell_alloc_at _ _ ?_).trans ?_; omega; assumption) | (simp [go_sem]; done) | (simp [go_sem, *]; done))
    have s4 : w1.cell? ⟨w.heap.size, 3, none⟩ = some (.int .i64 m3) := (hcw1 _ _ (by omega)).trans (by first | assumption | (refine (cell_alloc_at _ _ ?_).trans ?_; omega; assumption) | (simp [go_sem]; done) | (simp [go_sem, *]; done))
    have s5 : w1.cell? ⟨w.heap.size, 4, none⟩ = some (.int .i64 m4) := (hcw1 _ _ (by omega)).trans (by first | assumption | (refine (cell_alloc_at _ _ ?_).trans ?_; omega; assumption) | (simp [go_sem]; done) | (simp [go_sem, *]; done))
    have s6 : w1.cell? ⟨w.heap.size, 5, none⟩ = some (.int .i64 m5) := (hcw1 _ _ (by omega)).trans (by first | assumption | (refine (cell_alloc_at _ _ ?_).trans ?_; omega; assumption) | (simp [go_sem]; done) | (simp [go_sem, *]; done))
    have s7 : w1.cell? ⟨w.heap.size + 1, 0, none⟩ = some (.int .i64 0) := (hcw1 _ _ (by omega)).trans (by first | assumption | (refine (cell_alloc_at _ _ ?_).trans ?_; omega; assumption) | (simp [go_sem]; done) | (simp [go_sem, *]; done))
    have s8 : w1.cell? ⟨w.heap.size + 1, 1, none⟩ = some (.int .i64 0) := (hcw1 _ _ (by omega)).trans (by first | assumption | (refine (cell_alloc_at _ _ ?_).trans ?_; omega; assumption) | (simp [go_sem]; done) | (simp [go_sem, *]; done))
    have szq0 : w.heap.size < w1.heap.size := (by omega)
    have sz : w.heap.size + 1 < w1.heap.size := (by omega)
    have fs10 : w1.frozen? ⟨w.heap.size + 1, 0, none⟩ = false := (hfw1 _ _ (by omega)).trans (by first | assumption | (refine (World.frozen?_alloc_old _ _ _ ?_).trans ?_; (simp; omega); assumption) | (simp [go_sem]; done) | (simp [go_sem, *]; done))
    have fs11 : w1.frozen? ⟨w.heap.size + 1, 1, none⟩ = false := (hfw1 _ _ (by omega)).trans (by first | assumption | (refine (World.frozen?_alloc_old _ _ _ ?_).trans ?_; (simp; omega); assumption) | (simp [go_sem]; done) | (simp [go_sem, *]; done))
    clear hcw1 hfw1 hzw1
    have ra := AtL.of2 s7 s8 sz
    have rb : AtL (w.heap.size + 1) [.int .i64 0, .int .i64 0] w1 := by repeat' (first | with_reducible assumption | with_reducible exact AtL.new _ _ _ | (with_reducible refine AtL.drew ?_) | (with_reducible apply AtL.store2) | (with_reducible refine AtL.alloc ?_ _) | (with_reducible refine AtL.far ?_ ?_ _ _) | (with_reducible refine AtL.below ?_ (by with_reducible assumption)) | omega | (simp; done) | (simp; omega))
    have rc := rb.store2 (a := .int .i64 0) (b := .int .i64 0)
    have r0 := rc.cell 0 rfl
    have r1 := rc.cell 1 rfl
    clear ra rb rc
    go_wp2
    refine bodyPost_ret (v := .tuple #[.agg #[.int .i64 0, .int .i64 0], .int .i64 1]) (by simp [results, Try.results32, go_sem, r0, r1]) rfl (CaRet.f rfl ?_)
    repeat' (first | with_reducible assumption | with_reducible exact Below.refl _ _ | (with_reducible refine Below.setCell ?_ ?_ _) | (with_reducible refine Below.alloc ?_ ?_ _) | (with_reducible refine Below.drew ?_) | (with_reducible refine below_dr ?_ _) | (with_reducible refine Below.trans ?_ (Below.mono (by with_reducible assumption) ?_)) | omega | (simp; done) | (simp; omega))
  have HV := Lib.hid hv
  clear hv
  by_cases hl : level < 0 ∨ 6 < level
  case pos =>
    have HQ := Lib.hid (caOk_level (k := k) hl)
    have CL := Lib.hid (fun w => l09Level_no level w hl)
    clear hl
    go_enter Try.func32, Try.ntmps32
    go_wp2_with fail
    refine (l10Quad_any m0 m1 m2 m3 m4 m5 _ _ (by first | (simp; done) | (simp; omega)) (by simp [go_sem]) (by simp [go_sem]) (by simp [go_sem]) (by simp [go_sem]) (by simp [go_sem]) (by simp [go_sem])).mono ?_
    rw [HV.out]; rintro e w1 ⟨rfl, hbw1⟩
    have g1 : Below w.heap.size w w1 := (by repeat' (first | with_reducible assumption | with_reducible exact Below.refl _ _ | (with_reducible refine Below.setCell ?_ ?_ _) | (with_reducible refine Below.alloc ?_ ?_ _) | (with_reducible refine Below.drew ?_) | (with_reducible refine below_dr ?_ _) | (with_reducible refine Below.trans ?_ (Below.mono (by with_reducible assumption) ?_)) | omega | (simp; done) | (simp; omega)))
    obtain ⟨hcw1, hfw1⟩ := bcell hbw1
    have hzw1 := hbw1.size
    (try simp only [World.size_alloc] at hcw1 hfw1 hzw1)
    have s1 : w1.cell? ⟨w.heap.size, 0, none⟩ = some (.int .i64 m0) := (hcw1 _ _ (by omega)).trans (by first | assumption | (refine (cell_alloc_at _ _ ?_).trans ?_; omega; assumption) | (simp [go_sem]; done) | (simp [go_sem, *]; done))
    have s2 : w1.cell? ⟨w.heap.size, 1, none⟩ = some (.int .i64 m1) := (hcw1 _ _ (by omega)).trans (by first | assumption | (refine (cell_alloc_at _ _ ?_).trans ?_; omega; assumption) | (simp [go_sem]; done) | (simp [go_sem, *]; done))
    have s3 : w1.cell? ⟨w.heap.size, 2, none⟩ = some (.int .i64 m2) := (hcw1 _ _ (by omega)).trans (by first | assumption | (refine (cell_alloc_at _ _ ?_).trans ?_; omega; assumption) | (simp [go_sem]; done) | (simp [go_sem, *]; done))
    have s4 : w1.cell? ⟨w.heap.size, 3, none⟩ = some (.int .i64 m3) := (hcw1 _ _ (by omega)).trans (by first | assumption | (refine (cell_alloc_at _ _ ?_).trans ?_; omega; assumption) | (simp [go_sem]; done) | (simp [go_sem, *]; done))
    have s5 : w1.cell? ⟨w.heap.size, 4, none⟩ = some (.int .i64 m4) := (hcw1 _ _ (by omega)).trans (by first | assumption | (refine (cell_alloc_at _ _ ?_).trans ?_; omega; assumption) | (simp [go_sem]; done) | (simp [go_sem, *]; done))
    have s6 : w1.cell? ⟨w.heap.size, 5, none⟩ = some (.int .i64 m5) := (hcw1 _ _ (by omega)).trans (by first | assumption | (refine (cell_alloc_at _ _ ?_).trans ?_; omega; assumption) | (simp [go_sem]; done) | (simp [go_sem, *]; done))
    have s7 : w1.cell? ⟨w.heap.size + 1, 0, none⟩ = some (.int .i64 0) := (hcw1 _ _ (by omega)).trans (by first | assumption | (refine (cell_alloc_at _ _ ?_).trans ?_; omega; assumption) | (simp [go_sem]; done) | (simp [go_sem, *]; done))
    have s8 : w1.cell? ⟨w.heap.size + 1, 1, none⟩ = some (.int .i64 0) := (hcw1 _ _ (by omega)).trans (by first | assumption | (refine (cell_alloc_at _ _ ?_).trans ?_; omega; assumption) | (simp [go_sem]; done) | (simp [go_sem, *]; done))
    have szq0 : w.heap.size < w1.heap.size := (by omega)
    have sz : w.heap.size + 1 < w1.heap.size := (by omega)
    have fs10 : w1.frozen? ⟨w.heap.size + 1, 0, none⟩ = false := (hfw1 _ _ (by omega)).trans (by first | assumption | (refine (World.frozen?_alloc_old _ _ _ ?_).trans ?_; (simp; omega); assumption) | (simp [go_sem]; done) | (simp [go_sem, *]; done))
    have fs11 : w1.frozen? ⟨w.heap.size + 1, 1, none⟩ = false := (hfw1 _ _ (by omega)).trans (by first | assumption | (refine (World.frozen?_alloc_old _ _ _ ?_).trans ?_; (simp; omega); assumption) | (simp [go_sem]; done) | (simp [go_sem, *]; done))
    clear hcw1 hfw1 hzw1
    go_wp2_with fail
    refine (CL.out _).mono ?_
    rintro e w2 ⟨rfl, rfl⟩
    go_wp2_with fail
    have ra := AtL.of2 s7 s8 sz
    have rb : AtL (w.heap.size + 1) [.int .i64 0, .int .i64 0] w1 := by repeat' (first | with_reducible assumption | with_reducible exact AtL.new _ _ _ | (with_reducible refine AtL.drew ?_) | (with_reducible apply AtL.store2) | (with_reducible refine AtL.alloc ?_ _) | (with_reducible refine AtL.far ?_ ?_ _ _) | (with_reducible refine AtL.below ?_ (by with_reducible assumption)) | omega | (simp; done) | (simp; omega))
    have rc := rb.store2 (a := .int .i64 0) (b := .int .i64 0)
    have r0 := rc.cell 0 rfl
    have r1 := rc.cell 1 rfl
    clear ra rb rc
    go_wp2
    refine bodyPost_ret (v := .tuple #[.agg #[.int .i64 0, .int .i64 0], .int .i64 2]) (by simp [results, Try.results32, go_sem, r0, r1]) rfl (CaRet.r rfl HQ.out ?_)
    repeat' (first | with_reducible assumption | with_reducible exact Below.refl _ _ | (with_reducible refine Below.setCell ?_ ?_ _) | (with_reducible refine Below.alloc ?_ ?_ _) | (with_reducible refine Below.drew ?_) | (with_reducible refine below_dr ?_ _) | (with_reducible refine Below.trans ?_ (Below.mono (by with_reducible assumption) ?_)) | omega | (simp; done) | (simp; omega))
  have l0 : 0 ≤ level := by omega
  have l6 : level ≤ 6 := by omega
  have CL := Lib.hid (fun w => l09Level_yes level w l0 l6)
  clear hl w_l
  by_cases hk : k < 0 ∨ pw level < k
  case pos =>
    have HQ := Lib.hid (caOk_no hk)
    rcases seven l0 l6 with rfl | rfl | rfl | rfl | rfl | rfl | rfl
    · replace hk : k < 0 ∨ 1 < k := hk
      have CI := Lib.hid (fun w => l00In_no k 0 1 w hk)
      clear hk l0 l6
      go_enter Try.func32, Try.ntmps32
      go_wp2_with fail
      refine (l10Quad_any m0 m1 m2 m3 m4 m5 _ _ (by first | (simp; done) | (simp; omega)) (by simp [go_sem]) (by simp [go_sem]) (by simp [go_sem]) (by simp [go_sem]) (by simp [go_sem]) (by simp [go_sem])).mono ?_
      rw [HV.out]; rintro e w1 ⟨rfl, hbw1⟩
      have g1 : Below w.heap.size w w1 := (by repeat' (first | with_reducible assumption | with_reducible exact Below.refl _ _ | (with_reducible refine Below.setCell ?_ ?_ _) | (with_reducible refine Below.alloc ?_ ?_ _) | (with_reducible refine Below.drew ?_) | (with_reducible refine below_dr ?_ _) | (with_reducible refine Below.trans ?_ (Below.mono (by with_reducible assumption) ?_)) | omega | (simp; done) | (simp; omega)))
      obtain ⟨hcw1, hfw1⟩ := bcell hbw1
      have hzw1 := hbw1.size
      (try simp only [World.size_alloc] at hcw1 hfw1 hzw1)
      have s1 : w1.cell? ⟨w.heap.size, 0, none⟩ = some (.int .i64 m0) := (hcw1 _ _ (by omega)).trans (by first | assumption | (refine (cell_alloc_at _ _ ?_).trans ?_; omega; assumption) | (simp [go_sem]; done) | (simp [go_sem, *]; done))
      have s2 : w1.cell? ⟨w.heap.size, 1, none⟩ = some (.int .i64 m1) := (hcw1 _ _ (by omega)).trans (by first | assumption | (refine (cell_alloc_at _ _ ?_).trans ?_; omega; assumption) | (simp [go_sem]; done) | (simp [go_sem, *]; done))
      have s3 : w1.cell? ⟨w.heap.size, 2, none⟩ = some (.int .i64 m2) := (hcw1 _ _ (by omega)).trans (by first | assumption | (refine (cell_alloc_at _ _ ?_).trans ?_; omega; assumption) | (simp [go_sem]; done) | (simp [go_sem, *]; done))
      have s4 : w1.cell? ⟨w.heap.size, 3, none⟩ = some (.int .i64 m3) := (hcw1 _ _ (by omega)).trans (by first | assumption | (refine (cell_alloc_at _ _ ?_).trans ?_; omega; assumption) | (simp [go_sem]; done) | (simp [go_sem, *]; done))
      have s5 : w1.cell? ⟨w.heap.size, 4, none⟩ = some (.int .i64 m4) := (hcw1 _ _ (by omega)).trans (by first | assumption | (refine (cell_alloc_at _ _ ?_).trans ?_; omega; assumption) | (simp [go_sem]; done) | (simp [go_sem, *]; done))
      have s6 : w1.cell? ⟨w.heap.size, 5, none⟩ = some (.int .i64 m5) := (hcw1 _ _ (by omega)).trans (by first | assumption | (refine (cell_alloc_at _ _ ?_).trans ?_; omega; assumption) | (simp [go_sem]; done) | (simp [go_sem, *]; done))
      have s7 : w1.cell? ⟨w.heap.size + 1, 0, none⟩ = some (.int .i64 0) := (hcw1 _ _ (by omega)).trans (by first | assumption | (refine (cell_alloc_at _ _ ?_).trans ?_; omega; assumption) | (simp [go_sem]; done) | (simp [go_sem, *]; done))
      have s8 : w1.cell? ⟨w.heap.size + 1, 1, none⟩ = some (.int .i64 0) := (hcw1 _ _ (by omega)).trans (by first | assumption | (refine (cell_alloc_at _ _ ?_).trans ?_; omega; assumption) | (simp [go_sem]; done) | (simp [go_sem, *]; done))
      have szq0 : w.heap.size < w1.heap.size := (by omega)
      have sz : w.heap.size + 1 < w1.heap.size := (by omega)
      have fs10 : w1.frozen? ⟨w.heap.size + 1, 0, none⟩ = false := (hfw1 _ _ (by omega)).trans (by first | assumption | (refine (World.frozen?_alloc_old _ _ _ ?_).trans ?_; (simp; omega); assumption) | (simp [go_sem]; done) | (simp [go_sem, *]; done))
      have fs11 : w1.frozen? ⟨w.heap.size + 1, 1, none⟩ = false := (hfw1 _ _ (by omega)).trans (by first | assumption | (refine (World.frozen?_alloc_old _ _ _ ?_).trans ?_; (simp; omega); assumption) | (simp [go_sem]; done) | (simp [go_sem, *]; done))
      clear hcw1 hfw1 hzw1
      go_wp2_with fail
      refine (CL.out _).mono ?_
      rintro e w2 ⟨rfl, rfl⟩
      go_wp2_with fail
      refine (CI.out _).mono ?_
      rintro e w2 ⟨rfl, rfl⟩
      go_wp2_with fail
      have ra := AtL.of2 s7 s8 sz
      have rb : AtL (w.heap.size + 1) [.int .i64 0, .int .i64 0] w1 := by repeat' (first | with_reducible assumption | with_reducible exact AtL.new _ _ _ | (with_reducible refine AtL.drew ?_) | (with_reducible apply AtL.store2) | (with_reducible refine AtL.alloc ?_ _) | (with_reducible refine AtL.far ?_ ?_ _ _) | (with_reducible refine AtL.below ?_ (by with_reducible assumption)) | omega | (simp; done) | (simp; omega))
      have rc := rb.store2 (a := .int .i64 0) (b := .int .i64 0)
      have r0 := rc.cell 0 rfl
      have r1 := rc.cell 1 rfl
      clear ra rb rc
      go_wp2
      refine bodyPost_ret (v := .tuple #[.agg #[.int .i64 0, .int .i64 0], .int .i64 2]) (by simp [results, Try.results32, go_sem, r0, r1]) rfl (CaRet.r rfl HQ.out ?_)
      repeat' (first | with_reducible assumption | with_reducible exact Below.refl _ _ | (with_reducible refine Below.setCell ?_ ?_ _) | (with_reducible refine Below.alloc ?_ ?_ _) | (with_reducible refine Below.drew ?_) | (with_reducible refine below_dr ?_ _) | (with_reducible refine Below.trans ?_ (Below.mono (by with_reducible assumption) ?_)) | omega | (simp; done) | (simp; omega))
    · replace hk : k < 0 ∨ 2 < k := hk
      have CI := Lib.hid (fun w => l00In_no k 0 2 w hk)
      clear hk l0 l6
      go_enter Try.func32, Try.ntmps32
      go_wp2_with fail
      refine (l10Quad_any m0 m1 m2 m3 m4 m5 _ _ (by first | (simp; done) | (simp; omega)) (by simp [go_sem]) (by simp [go_sem]) (by simp [go_sem]) (by simp [go_sem]) (by simp [go_sem]) (by simp [go_sem])).mono ?_
      rw [HV.out]; rintro e w1 ⟨rfl, hbw1⟩
      have g1 : Below w.heap.size w w1 := (by repeat' (first | with_reducible assumption | with_reducible exact Below.refl _ _ | (with_reducible refine Below.setCell ?_ ?_ _) | (with_reducible refine Below.alloc ?_ ?_ _) | (with_reducible refine Below.drew ?_) | (with_reducible refine below_dr ?_ _) | (with_reducible refine Below.trans ?_ (Below.mono (by with_reducible assumption) ?_)) | omega | (simp; done) | (simp; omega)))
      obtain ⟨hcw1, hfw1⟩ := bcell hbw1
      have hzw1 := hbw1.size
      (try simp only [World.size_alloc] at hcw1 hfw1 hzw1)
      have s1 : w1.cell? ⟨w.heap.size, 0, none⟩ = some (.int .i64 m0) := (hcw1 _ _ (by omega)).trans (by first | assumption | (refine (cell_alloc_at _ _ ?_).trans ?_; omega; assumption) | (simp [go_sem]; done) | (simp [go_sem, *]; done))
      have s2 : w1.cell? ⟨w.heap.size, 1, none⟩ = some (.int .i64 m1) := (hcw1 _ _ (by omega)).trans (by first | assumption | (refine (cell_alloc_at _ _ ?_).trans ?_; omega; assumption) | (simp [go_sem]; done) | (simp [go_sem, *]; done))
      have s3 : w1.cell? ⟨w.heap.size, 2, none⟩ = some (.int .i64 m2) := (hcw1 _ _ (by omega)).trans (by first | assumption | (refine (cell_alloc_at _ _ ?_).trans ?_; omega; assumption) | (simp [go_sem]; done) | (simp [go_sem, *]; done))
      have s4 : w1.cell? ⟨w.heap.size, 3, none⟩ = some (.int .i64 m3) := (hcw1 _ _ (by omega)).trans (by first | assumption | (refine (cell_alloc_at _ _ ?_).trans ?_; omega; assumption) | (simp [go_sem]; done) | (simp [go_sem, *]; done))
      have s5 : w1.cell? ⟨w.heap.size, 4, none⟩ = some (.int .i64 m4) := (hcw1 _ _ (by omega)).trans (by first | assumption | (refine (cell_alloc_at _ _ ?_).trans ?_; omega; assumption) | (simp [go_sem]; done) | (simp [go_sem, *]; done))
      have s6 : w1.cell? ⟨w.heap.size, 5, none⟩ = some (.int .i64 m5) := (hcw1 _ _ (by omega)).trans (by first | assumption | (refine (cell_alloc_at _ _ ?_).trans ?_; omega; assumption) | (simp [go_sem]; done) | (simp [go_sem, *]; done))
      have s7 : w1.cell? ⟨w.heap.size + 1, 0, none⟩ = some (.int .i64 0) := (hcw1 _ _ (by omega)).trans (by first | assumption | (refine (cell_alloc_at _ _ ?_).trans ?_; omega; assumption) | (simp [go_sem]; done) | (simp [go_sem, *]; done))
      have s8 : w1.cell? ⟨w.heap.size + 1, 1, none⟩ = some (.int .i64 0) := (hcw1 _ _ (by omega)).trans (by first | assumption | (refine (cell_alloc_at _ _ ?_).trans ?_; omega; assumption) | (simp [go_sem]; done) | (simp [go_sem, *]; done))
      have szq0 : w.heap.size < w1.heap.size := (by omega)
      have sz : w.heap.size + 1 < w1.heap.size := (by omega)
      have fs10 : w1.frozen? ⟨w.heap.size + 1, 0, none⟩ = false := (hfw1 _ _ (by omega)).trans (by first | assumption | (refine (World.frozen?_alloc_old _ _ _ ?_).trans ?_; (simp; omega); assumption) | (simp [go_sem]; done) | (simp [go_sem, *]; done))
      have fs11 : w1.frozen? ⟨w.heap.size + 1, 1, none⟩ = false := (hfw1 _ _ (by omega)).trans (by first | assumption | (refine (World.frozen?_alloc_old _ _ _ ?_).trans ?_; (simp; omega); assumption) | (simp [go_sem]; done) | (simp [go_sem, *]; done))
      clear hcw1 hfw1 hzw1
      go_wp2_with fail
      refine (CL.out _).mono ?_
      rintro e w2 ⟨rfl, rfl⟩
      go_wp2_with fail
      refine (CI.out _).mono ?_
      rintro e w2 ⟨rfl, rfl⟩
      go_wp2_with fail
      have ra := AtL.of2 s7 s8 sz
      have rb : AtL (w.heap.size + 1) [.int .i64 0, .int .i64 0] w1 := by repeat' (first | with_reducible assumption | with_reducible exact AtL.new _ _ _ | (with_reducible refine AtL.drew ?_) | (with_reducible apply AtL.store2) | (with_reducible refine AtL.alloc ?_ _) | (with_reducible refine AtL.far ?_ ?_ _ _) | (with_reducible refine AtL.below ?_ (by with_reducible assumption)) | omega | (simp; done) | (simp; omega))
      have rc := rb.store2 (a := .int .i64 0) (b := .int .i64 0)
      have r0 := rc.cell 0 rfl
      have r1 := rc.cell 1 rfl
      clear ra rb rc
      go_wp2
      refine bodyPost_ret (v := .tuple #[.agg #[.int .i64 0, .int .i64 0], .int .i64 2]) (by simp [results, Try.results32, go_sem, r0, r1]) rfl (CaRet.r rfl HQ.out ?_)
      repeat' (first | with_reducible assumption | with_reducible exact Below.refl _ _ | (with_reducible refine Below.setCell ?_ ?_ _) | (with_reducible refine Below.alloc ?_ ?_ _) | (with_reducible refine Below.drew ?_) | (with_reducible refine below_dr ?_ _) | (with_reducible refine Below.trans ?_ (Below.mono (by with_reducible assumption) ?_)) | omega | (simp; done) | (simp; omega))
    · replace hk : k < 0 ∨ 4 < k := hk
      have CI := Lib.hid (fun w => l00In_no k 0 4 w hk)
      clear hk l0 l6
      go_enter Try.func32, Try.ntmps32
      go_wp2_with fail
      refine (l10Quad_any m0 m1 m2 m3 m4 m5 _ _ (by first | (simp; done) | (simp; omega)) (by simp [go_sem]) (by simp [go_sem]) (by simp [go_sem]) (by simp [go_sem]) (by simp [go_sem]) (by simp [go_sem])).mono ?_
      rw [HV.out]; rintro e w1 ⟨rfl, hbw1⟩
      have g1 : Below w.heap.size w w1 := (by repeat' (first | with_reducible assumption | with_reducible exact Below.refl _ _ | (with_reducible refine Below.setCell ?_ ?_ _) | (with_reducible refine Below.alloc ?_ ?_ _) | (with_reducible refine Below.drew ?_) | (with_reducible refine below_dr ?_ _) | (with_reducible refine Below.trans ?_ (Below.mono (by with_reducible assumption) ?_)) | omega | (simp; done) | (simp; omega)))
      obtain ⟨hcw1, hfw1⟩ := bcell hbw1
      have hzw1 := hbw1.size
      (try simp only [World.size_alloc] at hcw1 hfw1 hzw1)
      have s1 : w1.cell? ⟨w.heap.size, 0, none⟩ = some (.int .i64 m0) := (hcw1 _ _ (by omega)).trans (by first | assumption | (refine (cell_alloc_at _ _ ?_).trans ?_; omega; assumption) | (simp [go_sem]; done) | (simp [go_sem, *]; done))
      have s2 : w1.cell? ⟨w.heap.size, 1, none⟩ = some (.int .i64 m1) := (hcw1 _ _ (by omega)).trans (by first | assumption | (refine (cell_alloc_at _ _ ?_).trans ?_; omega; assumption) | (simp [go_sem]; done) | (simp [go_sem, *]; done))
      have s3 : w1.cell? ⟨w.heap.size, 2, none⟩ = some (.int .i64 m2) := (hcw1 _ _ (by omega)).trans (by first | assumption | (refine (cell_alloc_at _ _ ?_).trans ?_; omega; assumption) | (simp [go_sem]; done) | (simp [go_sem, *]; done))
      have s4 : w1.cell? ⟨w.heap.size, 3, none⟩ = some (.int .i64 m3) := (hcw1 _ _ (by omega)).trans (by first | assumption | (refine (cell_alloc_at _ _ ?_).trans ?_; omega; assumption) | (simp [go_sem]; done) | (simp [go_sem, *]; done))
      have s5 : w1.cell? ⟨w.heap.size, 4, none⟩ = some (.int .i64 m4) := (hcw1 _ _ (by omega)).trans (by first | assumption | (refine (cell_alloc_at _ _ ?_).trans ?_; omega; assumption) | (simp [go_sem]; done) | (simp [go_sem, *]; done))
      have s6 : w1.cell? ⟨w.heap.size, 5, none⟩ = some (.int .i64 m5) := (hcw1 _ _ (by omega)).trans (by first | assumption | (refine (cell_alloc_at _ _ ?_).trans ?_; omega; assumption) | (simp [go_sem]; done) | (simp [go_sem, *]; done))
      have s7 : w1.cell? ⟨w.heap.size + 1, 0, none⟩ = some (.int .i64 0) := (hcw1 _ _ (by omega)).trans (by first | assumption | (refine (cell_alloc_at _ _ ?_).trans ?_; omega; assumption) | (simp [go_sem]; done) | (simp [go_sem, *]; done))
      have s8 : w1.cell? ⟨w.heap.size + 1, 1, none⟩ = some (.int .i64 0) := (hcw1 _ _ (by omega)).trans (by first | assumption | (refine (cell_alloc_at _ _ ?_).trans ?_; omega; assumption) | (simp [go_sem]; done) | (simp [go_sem, *]; done))
      have szq0 : w.heap.size < w1.heap.size := (by omega)
      have sz : w.heap.size + 1 < w1.heap.size := (by omega)
      have fs10 : w1.frozen? ⟨w.heap.size + 1, 0, none⟩ = false := (hfw1 _ _ (by omega)).trans (by first | assumption | (refine (World.frozen?_alloc_old _ _ _ ?_).trans ?_; (simp; omega); assumption) | (simp [go_sem]; done) | (simp [go_sem, *]; done))
      have fs11 : w1.frozen? ⟨w.heap.size + 1, 1, none⟩ = false := (hfw1 _ _ (by omega)).trans (by first | assumption | (refine (World.frozen?_alloc_old _ _ _ ?_).trans ?_; (simp; omega); assumption) | (simp [go_sem]; done) | (simp [go_sem, *]; done))
      clear hcw1 hfw1 hzw1
      go_wp2_with fail
      refine (CL.out _).mono ?_
      rintro e w2 ⟨rfl, rfl⟩
      go_wp2_with fail
      refine (CI.out _).mono ?_
      rintro e w2 ⟨rfl, rfl⟩
      go_wp2_with fail
      have ra := AtL.of2 s7 s8 sz
      have rb : AtL (w.heap.size + 1) [.int .i64 0, .int .i64 0] w1 := by repeat' (first | with_reducible assumption | with_reducible exact AtL.new _ _ _ | (with_reducible refine AtL.drew ?_) | (with_reducible apply AtL.store2) | (with_reducible refine AtL.alloc ?_ _) | (with_reducible refine AtL.far ?_ ?_ _ _) | (with_reducible refine AtL.below ?_ (by with_reducible assumption)) | omega | (simp; done) | (simp; omega))
      have rc := rb.store2 (a := .int .i64 0) (b := .int .i64 0)
      have r0 := rc.cell 0 rfl
      have r1 := rc.cell 1 rfl
      clear ra rb rc
      go_wp2
      refine bodyPost_ret (v := .tuple #[.agg #[.int .i64 0, .int .i64 0], .int .i64 2]) (by simp [results, Try.results32, go_sem, r0, r1]) rfl (CaRet.r rfl HQ.out ?_)
      repeat' (first | with_reducible assumption | with_reducible exact Below.refl _ _ | (with_reducible refine Below.setCell ?_ ?_ _) | (with_reducible refine Below.alloc ?_ ?_ _) | (with_reducible refine Below.drew ?_) | (with_reducible refine below_dr ?_ _) | (with_reducible refine Below.trans ?_ (Below.mono (by with_reducible assumption) ?_)) | omega | (simp; done) | (simp; omega))
    · replace hk : k < 0 ∨ 8 < k := hk
      have CI := Lib.hid (fun w => l00In_no k 0 8 w hk)
      clear hk l0 l6
      go_enter Try.func32, Try.ntmps32
      go_wp2_with fail
      refine (l10Quad_any m0 m1 m2 m3 m4 m5 _ _ (by first | (simp; done) | (simp; omega)) (by simp [go_sem]) (by simp [go_sem]) (by simp [go_sem]) (by simp [go_sem]) (by simp [go_sem]) (by simp [go_sem])).mono ?_
      rw [HV.out]; rintro e w1 ⟨rfl, hbw1⟩
      have g1 : Below w.heap.size w w1 := (by repeat' (first | with_reducible assumption | with_reducible exact Below.refl _ _ | (with_reducible refine Below.setCell ?_ ?_ _) | (with_reducible refine Below.alloc ?_ ?_ _) | (with_reducible refine Below.drew ?_) | (with_reducible refine below_dr ?_ _) | (with_reducible refine Below.trans ?_ (Below.mono (by with_reducible assumption) ?_)) | omega | (simp; done) | (simp; omega)))
      obtain ⟨hcw1, hfw1⟩ := bcell hbw1
      have hzw1 := hbw1.size
      (try simp only [World.size_alloc] at hcw1 hfw1 hzw1)
      have s1 : w1.cell? ⟨w.heap.size, 0, none⟩ = some (.int .i64 m0) := (hcw1 _ _ (by omega)).trans (by first | assumption | (refine (cell_alloc_at _ _ ?_).trans ?_; omega; assumption) | (simp [go_sem]; done) | (simp [go_sem, *]; done))
      have s2 : w1.cell? ⟨w.heap.size, 1, none⟩ = some (.int .i64 m1) := (hcw1 _ _ (by omega)).trans (by first | assumption | (refine (cell_alloc_at _ _ ?_).trans ?_; omega; assumption) | (simp [go_sem]; done) | (simp [go_sem, *]; done))
      have s3 : w1.cell? ⟨w.heap.size, 2, none⟩ = some (.int .i64 m2) := (hcw1 _ _ (by omega)).trans (by first | assumption | (refine (cell_alloc_at _ _ ?_).trans ?_; omega; assumption) | (simp [go_sem]; done) | (simp [go_sem, *]; done))
      have s4 : w1.cell? ⟨w.heap.size, 3, none⟩ = some (.int .i64 m3) := (hcw1 _ _ (by omega)).trans (by first | assumption | (refine (cell_alloc_at _ _ ?_).trans ?_; omega; assumption) | (simp [go_sem]; done) | (simp [go_sem, *]; done))
      have s5 : w1.cell? ⟨w.heap.size, 4, none⟩ = some (.int .i64 m4) := (hcw1 _ _ (by omega)).trans (by first | assumption | (refine (cell_alloc_at _ _ ?_).trans ?_; omega; assumption) | (simp [go_sem]; done) | (simp [go_sem, *]; done))
      have s6 : w1.cell? ⟨w.heap.size, 5, none⟩ = some (.int .i64 m5) := (hcw1 _ _ (by omega)).trans (by first | assumption | (refine (cell_alloc_at _ _ ?_).trans ?_; omega; assumption) | (simp [go_sem]; done) | (simp [go_sem, *]; done))
      have s7 : w1.cell? ⟨w.heap.size + 1, 0, none⟩ = some (.int .i64 0) := (hcw1 _ _ (by omega)).trans (by first | assumption | (refine (cell_alloc_at _ _ ?_).trans ?_; omega; assumption) | (simp [go_sem]; done) | (simp [go_sem, *]; done))
      have s8 : w1.cell? ⟨w.heap.size + 1, 1, none⟩ = some (.int .i64 0) := (hcw1 _ _ (by omega)).trans (by first | assumption | (refine (cell_alloc_at _ _ ?_).trans ?_; omega; assumption) | (simp [go_sem]; done) | (simp [go_sem, *]; done))
      have szq0 : w.heap.size < w1.heap.size := (by omega)
      have sz : w.heap.size + 1 < w1.heap.size := (by omega)
      have fs10 : w1.frozen? ⟨w.heap.size + 1, 0, none⟩ = false := (hfw1 _ _ (by omega)).trans (by first | assumption | (refine (World.frozen?_alloc_old _ _ _ ?_).trans ?_; (simp; omega); assumption) | (simp [go_sem]; done) | (simp [go_sem, *]; done))
      have fs11 : w1.frozen? ⟨w.heap.size + 1, 1, none⟩ = false := (hfw1 _ _ (by omega)).trans (by first | assumption | (refine (World.frozen?_alloc_old _ _ _ ?_).trans ?_; (simp; omega); assumption) | (simp [go_sem]; done) | (simp [go_sem, *]; done))
      clear hcw1 hfw1 hzw1
      go_wp2_with fail
      refine (CL.out _).mono ?_
      rintro e w2 ⟨rfl, rfl⟩
      go_wp2_with fail
      refine (CI.out _).mono ?_
      rintro e w2 ⟨rfl, rfl⟩
      go_wp2_with fail
      have ra := AtL.of2 s7 s8 sz
      have rb : AtL (w.heap.size + 1) [.int .i64 0, .int .i64 0] w1 := by repeat' (first | with_reducible assumption | with_reducible exact AtL.new _ _ _ | (with_reducible refine AtL.drew ?_) | (with_reducible apply AtL.store2) | (with_reducible refine AtL.alloc ?_ _) | (with_reducible refine AtL.far ?_ ?_ _ _) | (with_reducible refine AtL.below ?_ (by with_reducible assumption)) | omega | (simp; done) | (simp; omega))
      have rc := rb.store2 (a := .int .i64 0) (b := .int .i64 0)
      have r0 := rc.cell 0 rfl
      have r1 := rc.cell 1 rfl
      clear ra rb rc
      go_wp2
      refine bodyPost_ret (v := .tuple #[.agg #[.int .i64 0, .int .i64 0], .int .i64 2]) (by simp [results, Try.results32, go_sem, r0, r1]) rfl (CaRet.r rfl HQ.out ?_)
      repeat' (first | with_reducible assumption | with_reducible exact Below.refl _ _ | (with_reducible refine Below.setCell ?_ ?_ _) | (with_reducible refine Below.alloc ?_ ?_ _) | (with_reducible refine Below.drew ?_) | (with_reducible refine below_dr ?_ _) | (with_reducible refine Below.trans ?_ (Below.mono (by with_reducible assumption) ?_)) | omega | (simp; done) | (simp; omega))
    · replace hk : k < 0 ∨ 16 < k := hk
      have CI := Lib.hid (fun w => l00In_no k 0 16 w hk)
      clear hk l0 l6
      go_enter Try.func32, Try.ntmps32
      go_wp2_with fail
      refine (l10Quad_any m0 m1 m2 m3 m4 m5 _ _ (by first | (simp; done) | (simp; omega)) (by simp [go_sem]) (by simp [go_sem]) (by simp [go_sem]) (by simp [go_sem]) (by simp [go_sem]) (by simp [go_sem])).mono ?_
      rw [HV.out]; rintro e w1 ⟨rfl, hbw1⟩
      have g1 : Below w.heap.size w w1 := (by repeat' (first | with_reducible assumption | with_reducible exact Below.refl _ _ | (with_reducible refine Below.setCell ?_ ?_ _) | (with_reducible refine Below.alloc ?_ ?_ _) | (with_reducible refine Below.drew ?_) | (with_reducible refine below_dr ?_ _) | (with_reducible refine Below.trans ?_ (Below.mono (by with_reducible assumption) ?_)) | omega | (simp; done) | (simp; omega)))
      obtain ⟨hcw1, hfw1⟩ := bcell hbw1
      have hzw1 := hbw1.size
      (try simp only [World.size_alloc] at hcw1 hfw1 hzw1)
      have s1 : w1.cell? ⟨w.heap.size, 0, none⟩ = some (.int .i64 m0) := (hcw1 _ _ (by omega)).trans (by first | assumption | (refine (cell_alloc_at _ _ ?_).trans ?_; omega; assumption) | (simp [go_sem]; done) | (simp [go_sem, *]; done))
      have s2 : w1.cell? ⟨w.heap.size, 1, none⟩ = some (.int .i64 m1) := (hcw1 _ _ (by omega)).trans (by first | assumption | (refine (cell_alloc_at _ _ ?_).trans ?_; omega; assumption) | (simp [go_sem]; done) | (simp [go_sem, *]; done))
      have s3 : w1.cell? ⟨w.heap.size, 2, none⟩ = some (.int .i64 m2) := (hcw1 _ _ (by omega)).trans (by first | assumption | (refine (cell_alloc_at _ _ ?_).trans ?_; omega; assumption) | (simp [go_sem]; done) | (simp [go_sem, *]; done))
      have s4 : w1.cell? ⟨w.heap.size, 3, none⟩ = some (.int .i64 m3) := (hcw1 _ _ (by omega)).trans (by first | assumption | (refine (cell_alloc_at _ _ ?_).trans ?_; omega; assumption) | (simp [go_sem]; done) | (simp [go_sem, *]; done))
      have s5 : w1.cell? ⟨w.heap.size, 4, none⟩ = some (.int .i64 m4) := (hcw1 _ _ (by omega)).trans (by first | assumption | (refine (cell_alloc_at _ _ ?_).trans ?_; omega; assumption) | (simp [go_sem]; done) | (simp [go_sem, *]; done))
      have s6 : w1.cell? ⟨w.heap.size, 5, none⟩ = some (.int .i64 m5) := (hcw1 _ _ (by omega)).trans (by first | assumption | (refine (cell_alloc_at _ _ ?_).trans ?_; omega; assumption) | (simp [go_sem]; done) | (simp [go_sem, *]; done))
      have s7 : w1.cell? ⟨w.heap.size + 1, 0, none⟩ = some (.int .i64 0) := (hcw1 _ _ (by omega)).trans (by first | assumption | (refine (cell_alloc_at _ _ ?_).trans ?_; omega; assumption) | (simp [go_sem]; done) | (simp [go_sem, *]; done))
      have s8 : w1.cell? ⟨w.heap.size + 1, 1, none⟩ = some (.int .i64 0) := (hcw1 _ _ (by omega)).trans (by first | assumption | (refine (cell_alloc_at _ _ ?_).trans ?_; omega; assumption) | (simp [go_sem]; done) | (simp [go_sem, *]; done))
      have szq0 : w.heap.size < w1.heap.size := (by omega)
      have sz : w.heap.size + 1 < w1.heap.size := (by omega)
      have fs10 : w1.frozen? ⟨w.heap.size + 1, 0, none⟩ = false := (hfw1 _ _ (by omega)).trans (by first | assumption | (refine (World.frozen?_alloc_old _ _ _ ?_).trans ?_; (simp; omega); assumption) | (simp [go_sem]; done) | (simp [go_sem, *]; done))
      have fs11 : w1.frozen? ⟨w.heap.size + 1, 1, none⟩ = false := (hfw1 _ _ (by omega)).trans (by first | assumption | (refine (World.frozen?_alloc_old _ _ _ ?_).trans ?_; (simp; omega); assumption) | (simp [go_sem]; done) | (simp [go_sem, *]; done))
      clear hcw1 hfw1 hzw1
      go_wp2_with fail
      refine (CL.out _).mono ?_
      rintro e w2 ⟨rfl, rfl⟩
      go_wp2_with fail
      refine (CI.out _).mono ?_
      rintro e w2 ⟨rfl, rfl⟩
      go_wp2_with fail
      have ra := AtL.of2 s7 s8 sz
      have rb : AtL (w.heap.size + 1) [.int .i64 0, .int .i64 0] w1 := by repeat' (first | with_reducible assumption | with_reducible exact AtL.new _ _ _ | (with_reducible refine AtL.drew ?_) | (with_reducible apply AtL.store2) | (with_reducible refine AtL.alloc ?_ _) | (with_reducible refine AtL.far ?_ ?_ _ _) | (with_reducible refine AtL.below ?_ (by with_reducible assumption)) | omega | (simp; done) | (simp; omega))
      have rc := rb.store2 (a := .int .i64 0) (b := .int .i64 0)
      have r0 := rc.cell 0 rfl
      have r1 := rc.cell 1 rfl
      clear ra rb rc
      go_wp2
      refine bodyPost_ret (v := .tuple #[.agg #[.int .i64 0, .int .i64 0], .int .i64 2]) (by simp [results, Try.results32, go_sem, r0, r1]) rfl (CaRet.r rfl HQ.out ?_)
      repeat' (first | with_reducible assumption | with_reducible exact Below.refl _ _ | (with_reducible refine Below.setCell ?_ ?_ _) | (with_reducible refine Below.alloc ?_ ?_ _) | (with_reducible refine Below.drew ?_) | (with_reducible refine below_dr ?_ _) | (with_reducible refine Below.trans ?_ (Below.mono (by with_reducible assumption) ?_)) | omega | (simp; done) | (simp; omega))
    · replace hk : k < 0 ∨ 32 < k := hk
      have CI := Lib.hid (fun w => l00In_no k 0 32 w hk)
      clear hk l0 l6
      go_enter Try.func32, Try.ntmps32
      go_wp2_with fail
      refine (l10Quad_any m0 m1 m2 m3 m4 m5 _ _ (by first | (simp; done) | (simp; omega)) (by simp [go_sem]) (by simp [go_sem]) (by simp [go_sem]) (by simp [go_sem]) (by simp [go_sem]) (by simp [go_sem])).mono ?_
      rw [HV.out]; rintro e w1 ⟨rfl, hbw1⟩
      have g1 : Below w.heap.size w w1 := (by repeat' (first | with_reducible assumption | with_reducible exact Below.refl _ _ | (with_reducible refine Below.setCell ?_ ?_ _) | (with_reducible refine Below.alloc ?_ ?_ _) | (with_reducible refine Below.drew ?_) | (with_reducible refine below_dr ?_ _) | (with_reducible refine Below.trans ?_ (Below.mono (by with_reducible assumption) ?_)) | omega | (simp; done) | (simp; omega)))
      obtain ⟨hcw1, hfw1⟩ := bcell hbw1
      have hzw1 := hbw1.size
      (try simp only [World.size_alloc] at hcw1 hfw1 hzw1)
      have s1 : w1.cell? ⟨w.heap.size, 0, none⟩ = some (.int .i64 m0) := (hcw1 _ _ (by omega)).trans (by first | assumption | (refine (cell_alloc_at _ _ ?_).trans ?_; omega; assumption) | (simp [go_sem]; done) | (simp [go_sem, *]; done))
      have s2 : w1.cell? ⟨w.heap.size, 1, none⟩ = some (.int .i64 m1) := (hcw1 _ _ (by omega)).trans (by first | assumption | (refine (cell_alloc_at _ _ ?_).trans ?_; omega; assumption) | (simp [go_sem]; done) | (simp [go_sem, *]; done))
      have s3 : w1.cell? ⟨w.heap.size, 2, none⟩ = some (.int .i64 m2) := (hcw1 _ _ (by omega)).trans (by first | assumption | (refine (cell_alloc_at _ _ ?_).trans ?_; omega; assumption) | (simp [go_sem]; done) | (simp [go_sem, *]; done))
      have s4 : w1.cell? ⟨w.heap.size, 3, none⟩ = some (.int .i64 m3) := (hcw1 _ _ (by omega)).trans (by first | assumption | (refine (cell_alloc_at _ _ ?_).trans ?_; omega; assumption) | (simp [go_sem]; done) | (simp [go_sem, *]; done))
      have s5 : w1.cell? ⟨w.heap.size, 4, none⟩ = some (.int .i64 m4) := (hcw1 _ _ (by omega)).trans (by first | assumption | (refine (cell_alloc_at _ _ ?_).trans ?_; omega; assumption) | (simp [go_sem]; done) | (simp [go_sem, *]; done))
      have s6 : w1.cell? ⟨w.heap.size, 5, none⟩ = some (.int .i64 m5) := (hcw1 _ _ (by omega)).trans (by first | assumption | (refine (cell_alloc_at _ _ ?_).trans ?_; omega; assumption) | (simp [go_sem]; done) | (simp [go_sem, *]; done))
      have s7 : w1.cell? ⟨w.heap.size + 1, 0, none⟩ = some (.int .i64 0) := (hcw1 _ _ (by omega)).trans (by first | assumption | (refine (cell_alloc_at _ _ ?_).trans ?_; omega; assumption) | (simp [go_sem]; done) | (simp [go_sem, *]; done))
      have s8 : w1.cell? ⟨w.heap.size + 1, 1, none⟩ = some (.int .i64 0) := (hcw1 _ _ (by omega)).trans (by first | assumption | (refine (cell_alloc_at _ _ ?_).trans ?_; omega; assumption) | (simp [go_sem]; done) | (simp [go_sem, *]; done))
      have szq0 : w.heap.size < w1.heap.size := (by omega)
      have sz : w.heap.size + 1 < w1.heap.size := (by omega)
      have fs10 : w1.frozen? ⟨w.heap.size + 1, 0, none⟩ = false := (hfw1 _ _ (by omega)).trans (by first | assumption | (refine (World.frozen?_alloc_old _ _ _ ?_).trans ?_; (simp; omega); assumption) | (simp [go_sem]; done) | (simp [go_sem, *]; done))
      have fs11 : w1.frozen? ⟨w.heap.size + 1, 1, none⟩ = false := (hfw1 _ _ (by omega)).trans (by first | assumption | (refine (World.frozen?_alloc_old _ _ _ ?_).trans ?_; (simp; omega); assumption) | (simp [go_sem]; done) | (simp [go_sem, *]; done))
      clear hcw1 hfw1 hzw1
      go_wp2_with fail
      refine (CL.out _).mono ?_
      rintro e w2 ⟨rfl, rfl⟩
      go_wp2_with fail
      refine (CI.out _).mono ?_
      rintro e w2 ⟨rfl, rfl⟩
      go_wp2_with fail
      have ra := AtL.of2 s7 s8 sz
      have rb : AtL (w.heap.size + 1) [.int .i64 0, .int .i64 0] w1 := by repeat' (first | with_reducible assumption | with_reducible exact AtL.new _ _ _ | (with_reducible refine AtL.drew ?_) | (with_reducible apply AtL.store2) | (with_reducible refine AtL.alloc ?_ _) | (with_reducible refine AtL.far ?_ ?_ _ _) | (with_reducible refine AtL.below ?_ (by with_reducible assumption)) | omega | (simp; done) | (simp; omega))
      have rc := rb.store2 (a := .int .i64 0) (b := .int .i64 0)
      have r0 := rc.cell 0 rfl
      have r1 := rc.cell 1 rfl
      clear ra rb rc
      go_wp2
      refine bodyPost_ret (v := .tuple #[.agg #[.int .i64 0, .int .i64 0], .int .i64 2]) (by simp [results, Try.results32, go_sem, r0, r1]) rfl (CaRet.r rfl HQ.out ?_)
      repeat' (first | with_reducible assumption | with_reducible exact Below.refl _ _ | (with_reducible refine Below.setCell ?_ ?_ _) | (with_reducible refine Below.alloc ?_ ?_ _) | (with_reducible refine Below.drew ?_) | (with_reducible refine below_dr ?_ _) | (with_reducible refine Below.trans ?_ (Below.mono (by with_reducible assumption) ?_)) | omega | (simp; done) | (simp; omega))
    · replace hk : k < 0 ∨ 64 < k := hk
      have CI := Lib.hid (fun w => l00In_no k 0 64 w hk)
      clear hk l0 l6
      go_enter Try.func32, Try.ntmps32
      go_wp2_with fail
      refine (l10Quad_any m0 m1 m2 m3 m4 m5 _ _ (by first | (simp; done) | (simp; omega)) (by simp [go_sem]) (by simp [go_sem]) (by simp [go_sem]) (by simp [go_sem]) (by simp [go_sem]) (by simp [go_sem])).mono ?_
      rw [HV.out]; rintro e w1 ⟨rfl, hbw1⟩
      have g1 : Below w.heap.size w w1 := (by repeat' (first | with_reducible assumption | with_reducible exact Below.refl _ _ | (with_reducible refine Below.setCell ?_ ?_ _) | (with_reducible refine Below.alloc ?_ ?_ _) | (with_reducible refine Below.drew ?_) | (with_reducible refine below_dr ?_ _) | (with_reducible refine Below.trans ?_ (Below.mono (by with_reducible assumption) ?_)) | omega | (simp; done) | (simp; omega)))
      obtain ⟨hcw1, hfw1⟩ := bcell hbw1
      have hzw1 := hbw1.size
      (try simp only [World.size_alloc] at hcw1 hfw1 hzw1)
      have s1 : w1.cell? ⟨w.heap.size, 0, none⟩ = some (.int .i64 m0) := (hcw1 _ _ (by omega)).trans (by first | assumption | (refine (cell_alloc_at _ _ ?_).trans ?_; omega; assumption) | (simp [go_sem]; done) | (simp [go_sem, *]; done))
      have s2 : w1.cell? ⟨w.heap.size, 1, none⟩ = some (.int .i64 m1) := (hcw1 _ _ (by omega)).trans (by first | assumption | (refine (cell_alloc_at _ _ ?_).trans ?_; omega; assumption) | (simp [go_sem]; done) | (simp [go_sem, *]; done))
      have s3 : w1.cell? ⟨w.heap.size, 2, none⟩ = some (.int .i64 m2) := (hcw1 _ _ (by omega)).trans (by first | assumption | (refine (cell_alloc_at _ _ ?_).trans ?_; omega; assumption) | (simp [go_sem]; done) | (simp [go_sem, *]; done))
      have s4 : w1.cell? ⟨w.heap.size, 3, none⟩ = some (.int .i64 m3) := (hcw1 _ _ (by omega)).trans (by first | assumption | (refine (cell_alloc_at _ _ ?_).trans ?_; omega; assumption) | (simp [go_sem]; done) | (simp [go_sem, *]; done))
      have s5 : w1.cell? ⟨w.heap.size, 4, none⟩ = some (.int .i64 m4) := (hcw1 _ _ (by omega)).trans (by first | assumption | (refine (cell_alloc_at _ _ ?_).trans ?_; omega; assumption) | (simp [go_sem]; done) | (simp [go_sem, *]; done))
      have s6 : w1.cell? ⟨w.heap.size, 5, none⟩ = some (.int .i64 m5) := (hcw1 _ _ (by omega)).trans (by first | assumption | (refine (cell_alloc_at _ _ ?_).trans ?_; omega; assumption) | (simp [go_sem]; done) | (simp [go_sem, *]; done))
      have s7 : w1.cell? ⟨w.heap.size + 1, 0, none⟩ = some (.int .i64 0) := (hcw1 _ _ (by omega)).trans (by first | assumption | (refine (cell_alloc_at _ _ ?_).trans ?_; omega; assumption) | (simp [go_sem]; done) | (simp [go_sem, *]; done))
      have s8 : w1.cell? ⟨w.heap.size + 1, 1, none⟩ = some (.int .i64 0) := (hcw1 _ _ (by omega)).trans (by first | assumption | (refine (cell_alloc_at _ _ ?_).trans ?_; omega; assumption) | (simp [go_sem]; done) | (simp [go_sem, *]; done))
      have szq0 : w.heap.size < w1.heap.size := (by omega)
      have sz : w.heap.size + 1 < w1.heap.size := (by omega)
      have fs10 : w1.frozen? ⟨w.heap.size + 1, 0, none⟩ = false := (hfw1 _ _ (by omega)).trans (by first | assumption | (refine (World.frozen?_alloc_old _ _ _ ?_).trans ?_; (simp; omega); assumption) | (simp [go_sem]; done) | (simp [go_sem, *]; done))
      have fs11 : w1.frozen? ⟨w.heap.size + 1, 1, none⟩ = false := (hfw1 _ _ (by omega)).trans (by first | assumption | (refine (World.frozen?_alloc_old _ _ _ ?_).trans ?_; (simp; omega); assumption) | (simp [go_sem]; done) | (simp [go_sem, *]; done))
      clear hcw1 hfw1 hzw1
      go_wp2_with fail
      refine (CL.out _).mono ?_
      rintro e w2 ⟨rfl, rfl⟩
      go_wp2_with fail
      refine (CI.out _).mono ?_
      rintro e w2 ⟨rfl, rfl⟩
      go_wp2_with fail
      have ra := AtL.of2 s7 s8 sz
      have rb : AtL (w.heap.size + 1) [.int .i64 0, .int .i64 0] w1 := by repeat' (first | with_reducible assumption | with_reducible exact AtL.new _ _ _ | (with_reducible refine AtL.drew ?_) | (with_reducible apply AtL.store2) | (with_reducible refine AtL.alloc ?_ _) | (with_reducible refine AtL.far ?_ ?_ _ _) | (with_reducible refine AtL.below ?_ (by with_reducible assumption)) | omega | (simp; done) | (simp; omega))
      have rc := rb.store2 (a := .int .i64 0) (b := .int .i64 0)
      have r0 := rc.cell 0 rfl
      have r1 := rc.cell 1 rfl
      clear ra rb rc
      go_wp2
      refine bodyPost_ret (v := .tuple #[.agg #[.int .i64 0, .int .i64 0], .int .i64 2]) (by simp [results, Try.results32, go_sem, r0, r1]) rfl (CaRet.r rfl HQ.out ?_)
      repeat' (first | with_reducible assumption | with_reducible exact Below.refl _ _ | (with_reducible refine Below.setCell ?_ ?_ _) | (with_reducible refine Below.alloc ?_ ?_ _) | (with_reducible refine Below.drew ?_) | (with_reducible refine below_dr ?_ _) | (with_reducible refine Below.trans ?_ (Below.mono (by with_reducible assumption) ?_)) | omega | (simp; done) | (simp; omega))
  have k0 : 0 ≤ k := by omega
  have k1 : k ≤ pw level := by omega
  have HQ := Lib.hid (caOk_yes l0 l6 k0 k1)
  clear hk
  rcases seven l0 l6 with rfl | rfl | rfl | rfl | rfl | rfl | rfl
  · replace k1 : k ≤ 1 := k1
    have CI := Lib.hid (fun w => l00In_yes k 0 1 w k0 k1)
    have CA := Lib.hid (fun (b : Nat) (w : World) hb c0 c1 c2 c3 c4 c5 => l10At_any m0 m1 m2 m3 m4 m5 k 1 b w hb c0 c1 c2 c3 c4 c5 HV.out (by omega) (by omega) k0 k1)
    obtain ⟨x, hx⟩ : ∃ x, x = near (mix2 m0 m2 m4 k 1) (1 * 1) := ⟨_, rfl⟩
    obtain ⟨y, hy⟩ : ∃ y, y = near (mix2 m1 m3 m5 k 1) (1 * 1) := ⟨_, rfl⟩
    have HR := Lib.hid (show ∀ (w w' : World), Below w.heap.size w w' → CaRet true k 0 (near (mix2 m0 m2 m4 k (pw 0)) (pw 0 * pw 0)) (near (mix2 m1 m3 m5 k (pw 0)) (pw 0 * pw 0)) w (.returned (.tuple #[.agg #[.int .i64 x, .int .i64 y], .int .i64 0])) w' from fun w w' hb => by rw [show pw 0 = 1 from by decide, hx, hy]; exact CaRet.t rfl HQ.out hb)
    rw [← hx, ← hy] at CA
    clear hx hy k0 k1 l0 l6
    go_enter Try.func32, Try.ntmps32
    go_wp2_with fail
    refine (l10Quad_any m0 m1 m2 m3 m4 m5 _ _ (by first | (simp; done) | (simp; omega)) (by simp [go_sem]) (by simp [go_sem]) (by simp [go_sem]) (by simp [go_sem]) (by simp [go_sem]) (by simp [go_sem])).mono ?_
    rw [HV.out]; rintro e w1 ⟨rfl, hbw1⟩
    have g1 : Below w.heap.size w w1 := (by repeat' (first | with_reducible assumption | with_reducible exact Below.refl _ _ | (with_reducible refine Below.setCell ?_ ?_ _) | (with_reducible refine Below.alloc ?_ ?_ _) | (with_reducible refine Below.drew ?_) | (with_reducible refine below_dr ?_ _) | (with_reducible refine Below.trans ?_ (Below.mono (by with_reducible assumption) ?_)) | omega | (simp; done) | (simp; omega)))
    obtain ⟨hcw1, hfw1⟩ := bcell hbw1
    have hzw1 := hbw1.size
    (try simp only [World.size_alloc] at hcw1 hfw1 hzw1)
    have s1 : w1.cell? ⟨w.heap.size, 0, none⟩ = some (.int .i64 m0) := (hcw1 _ _ (by omega)).trans (by first | assumption | (refine (cell_alloc_at _ _ ?_).trans ?_; omega; assumption) | (simp [go_sem]; done) | (simp [go_sem, *]; done))
    have s2 : w1.cell? ⟨w.heap.size, 1, none⟩ = some (.int .i64 m1) := (hcw1 _ _ (by omega)).trans (by first | assumption | (refine (cell_alloc_at _ _ ?_).trans ?_; omega; assumption) | (simp [go_sem]; done) | (simp [go_sem, *]; done))
    have s3 : w1.cell? ⟨w.heap.size, 2, none⟩ = some (.int .i64 m2) := (hcw1 _ _ (by omega)).trans (by first | assumption | (refine (cell_alloc_at _ _ ?_).trans ?_; omega; assumption) | (simp [go_sem]; done) | (simp [go_sem, *]; done))
    have s4 : w1.cell? ⟨w.heap.size, 3, none⟩ = some (.int .i64 m3) := (hcw1 _ _ (by omega)).trans (by first | assumption | (refine (cell_alloc_at _ _ ?_).trans ?_; omega; assumption) | (simp [go_sem]; done) | (simp [go_sem, *]; done))
    have s5 : w1.cell? ⟨w.heap.size, 4, none⟩ = some (.int .i64 m4) := (hcw1 _ _ (by omega)).trans (by first | assumption | (refine (cell_alloc_at _ _ ?_).trans ?_; omega; assumption) | (simp [go_sem]; done) | (simp [go_sem, *]; done))
    have s6 : w1.cell? ⟨w.heap.size, 5, none⟩ = some (.int .i64 m5) := (hcw1 _ _ (by omega)).trans (by first | assumption | (refine (cell_alloc_at _ _ ?_).trans ?_; omega; assumption) | (simp [go_sem]; done) | (simp [go_sem, *]; done))
    have s7 : w1.cell? ⟨w.heap.size + 1, 0, none⟩ = some (.int .i64 0) := (hcw1 _ _ (by omega)).trans (by first | assumption | (refine (cell_alloc_at _ _ ?_).trans ?_; omega; assumption) | (simp [go_sem]; done) | (simp [go_sem, *]; done))
    have s8 : w1.cell? ⟨w.heap.size + 1, 1, none⟩ = some (.int .i64 0) := (hcw1 _ _ (by omega)).trans (by first | assumption | (refine (cell_alloc_at _ _ ?_).trans ?_; omega; assumption) | (simp [go_sem]; done) | (simp [go_sem, *]; done))
    have szq0 : w.heap.size < w1.heap.size := (by omega)
    have sz : w.heap.size + 1 < w1.heap.size := (by omega)
    have fs10 : w1.frozen? ⟨w.heap.size + 1, 0, none⟩ = false := (hfw1 _ _ (by omega)).trans (by first | assumption | (refine (World.frozen?_alloc_old _ _ _ ?_).trans ?_; (simp; omega); assumption) | (simp [go_sem]; done) | (simp [go_sem, *]; done))
    have fs11 : w1.frozen? ⟨w.heap.size + 1, 1, none⟩ = false := (hfw1 _ _ (by omega)).trans (by first | assumption | (refine (World.frozen?_alloc_old _ _ _ ?_).trans ?_; (simp; omega); assumption) | (simp [go_sem]; done) | (simp [go_sem, *]; done))
    clear hcw1 hfw1 hzw1
    go_wp2_with fail
    refine (CL.out _).mono ?_
    rintro e w2 ⟨rfl, rfl⟩
    go_wp2_with fail
    refine (CI.out _).mono ?_
    rintro e w2 ⟨rfl, rfl⟩
    go_wp2_with fail
    refine (CA.out _ _ (by omega) s1 s2 s3 s4 s5 s6).mono ?_
    rintro e wz ⟨rfl, hbwz⟩
    have gz : Below w.heap.size w wz := (by repeat' (first | with_reducible assumption | with_reducible exact Below.refl _ _ | (with_reducible refine Below.setCell ?_ ?_ _) | (with_reducible refine Below.alloc ?_ ?_ _) | (with_reducible refine Below.drew ?_) | (with_reducible refine below_dr ?_ _) | (with_reducible refine Below.trans ?_ (Below.mono (by with_reducible assumption) ?_)) | omega | (simp; done) | (simp; omega)))
    obtain ⟨hcwz, hfwz⟩ := bcell hbwz
    have hzwz := hbwz.size
    (try simp only [World.size_alloc] at hcwz hfwz hzwz)
    have sz1 : wz.cell? ⟨w.heap.size, 0, none⟩ = some (.int .i64 m0) := (hcwz _ _ (by omega)).trans (by first | assumption | (refine (cell_alloc_at _ _ ?_).trans ?_; omega; assumption) | (simp [go_sem]; done) | (simp [go_sem, *]; done))
    have sz2 : wz.cell? ⟨w.heap.size, 1, none⟩ = some (.int .i64 m1) := (hcwz _ _ (by omega)).trans (by first | assumption | (refine (cell_alloc_at _ _ ?_).trans ?_; omega; assumption) | (simp [go_sem]; done) | (simp [go_sem, *]; done))
    have sz3 : wz.cell? ⟨w.heap.size, 2, none⟩ = some (.int .i64 m2) := (hcwz _ _ (by omega)).trans (by first | assumption | (refine (cell_alloc_at _ _ ?_).trans ?_; omega; assumption) | (simp [go_sem]; done) | (simp [go_sem, *]; done))
    have sz4 : wz.cell? ⟨w.heap.size, 3, none⟩ = some (.int .i64 m3) := (hcwz _ _ (by omega)).trans (by first | assumption | (refine (cell_alloc_at _ _ ?_).trans ?_; omega; assumption) | (simp [go_sem]; done) | (simp [go_sem, *]; done))
    have sz5 : wz.cell? ⟨w.heap.size, 4, none⟩ = some (.int .i64 m4) := (hcwz _ _ (by omega)).trans (by first | assumption | (refine (cell_alloc_at _ _ ?_).trans ?_; omega; assumption) | (simp [go_sem]; done) | (simp [go_sem, *]; done))
    have sz6 : wz.cell? ⟨w.heap.size, 5, none⟩ = some (.int .i64 m5) := (hcwz _ _ (by omega)).trans (by first | assumption | (refine (cell_alloc_at _ _ ?_).trans ?_; omega; assumption) | (simp [go_sem]; done) | (simp [go_sem, *]; done))
    have sz7 : wz.cell? ⟨w.heap.size + 1, 0, none⟩ = some (.int .i64 0) := (hcwz _ _ (by omega)).trans (by first | assumption | (refine (cell_alloc_at _ _ ?_).trans ?_; omega; assumption) | (simp [go_sem]; done) | (simp [go_sem, *]; done))
    have sz8 : wz.cell? ⟨w.heap.size + 1, 1, none⟩ = some (.int .i64 0) := (hcwz _ _ (by omega)).trans (by first | assumption | (refine (cell_alloc_at _ _ ?_).trans ?_; omega; assumption) | (simp [go_sem]; done) | (simp [go_sem, *]; done))
    have szzq0 : w.heap.size < wz.heap.size := (by omega)
    have szz : w.heap.size + 1 < wz.heap.size := (by omega)
    have fsz10 : wz.frozen? ⟨w.heap.size + 1, 0, none⟩ = false := (hfwz _ _ (by omega)).trans (by first | assumption | (refine (World.frozen?_alloc_old _ _ _ ?_).trans ?_; (simp; omega); assumption) | (simp [go_sem]; done) | (simp [go_sem, *]; done))
    have fsz11 : wz.frozen? ⟨w.heap.size + 1, 1, none⟩ = false := (hfwz _ _ (by omega)).trans (by first | assumption | (refine (World.frozen?_alloc_old _ _ _ ?_).trans ?_; (simp; omega); assumption) | (simp [go_sem]; done) | (simp [go_sem, *]; done))
    clear hcwz hfwz hzwz
    have ra := AtL.of2 sz7 sz8 szz
    have rb : AtL (w.heap.size + 1) [.int .i64 0, .int .i64 0] wz := by repeat' (first | with_reducible assumption | with_reducible exact AtL.new _ _ _ | (with_reducible refine AtL.drew ?_) | (with_reducible apply AtL.store2) | (with_reducible refine AtL.alloc ?_ _) | (with_reducible refine AtL.far ?_ ?_ _ _) | (with_reducible refine AtL.below ?_ (by with_reducible assumption)) | omega | (simp; done) | (simp; omega))
    have rc := rb.store2 (a := .int .i64 x) (b := .int .i64 y)
    have r0 := rc.cell 0 rfl
    have r1 := rc.cell 1 rfl
    clear ra rb rc
    go_wp2
    refine bodyPost_ret (v := .tuple #[.agg #[.int .i64 x, .int .i64 y], .int .i64 0]) (by simp [results, Try.results32, go_sem, r0, r1]) rfl (HR.out _ _ ?_)
    repeat' (first | with_reducible assumption | with_reducible exact Below.refl _ _ | (with_reducible refine Below.setCell ?_ ?_ _) | (with_reducible refine Below.alloc ?_ ?_ _) | (with_reducible refine Below.drew ?_) | (with_reducible refine below_dr ?_ _) | (with_reducible refine Below.trans ?_ (Below.mono (by with_reducible assumption) ?_)) | omega | (simp; done) | (simp; omega))
  · replace k1 : k ≤ 2 := k1
    have CI := Lib.hid (fun w => l00In_yes k 0 2 w k0 k1)
    have CA := Lib.hid (fun (b : Nat) (w : World) hb c0 c1 c2 c3 c4 c5 => l10At_any m0 m1 m2 m3 m4 m5 k 2 b w hb c0 c1 c2 c3 c4 c5 HV.out (by omega) (by omega) k0 k1)
    obtain ⟨x, hx⟩ : ∃ x, x = near (mix2 m0 m2 m4 k 2) (2 * 2) := ⟨_, rfl⟩
    obtain ⟨y, hy⟩ : ∃ y, y = near (mix2 m1 m3 m5 k 2) (2 * 2) := ⟨_, rfl⟩
    have HR := Lib.hid (show ∀ (w w' : World), Below w.heap.size w w' → CaRet true k 1 (near (mix2 m0 m2 m4 k (pw 1)) (pw 1 * pw 1)) (near (mix2 m1 m3 m5 k (pw 1)) (pw 1 * pw 1)) w (.returned (.tuple #[.agg #[.int .i64 x, .int .i64 y], .int .i64 0])) w' from fun w w' hb => by rw [show pw 1 = 2 from by decide, hx, hy]; exact CaRet.t rfl HQ.out hb)
    rw [← hx, ← hy] at CA
    clear hx hy k0 k1 l0 l6
    go_enter Try.func32, Try.ntmps32
    go_wp2_with fail
    refine (l10Quad_any m0 m1 m2 m3 m4 m5 _ _ (by first | (simp; done) | (simp; omega)) (by simp [go_sem]) (by simp [go_sem]) (by simp [go_sem]) (by simp [go_sem]) (by simp [go_sem]) (by simp [go_sem])).mono ?_
    rw [HV.out]; rintro e w1 ⟨rfl, hbw1⟩
    have g1 : Below w.heap.size w w1 := (by repeat' (first | with_reducible assumption | with_reducible exact Below.refl _ _ | (with_reducible refine Below.setCell ?_ ?_ _) | (with_reducible refine Below.alloc ?_ ?_ _) | (with_reducible refine Below.drew ?_) | (with_reducible refine below_dr ?_ _) | (with_reducible refine Below.trans ?_ (Below.mono (by with_reducible assumption) ?_)) | omega | (simp; done) | (simp; omega)))
    obtain ⟨hcw1, hfw1⟩ := bcell hbw1
    have hzw1 := hbw1.size
    (try simp only [World.size_alloc] at hcw1 hfw1 hzw1)
    have s1 : w1.cell? ⟨w.heap.size, 0, none⟩ = some (.int .i64 m0) := (hcw1 _ _ (by omega)).trans (by first | assumption | (refine (cell_alloc_at _ _ ?_).trans ?_; omega; assumption) | (simp [go_sem]; done) | (simp [go_sem, *]; done))
    have s2 : w1.cell? ⟨w.heap.size, 1, none⟩ = some (.int .i64 m1) := (hcw1 _ _ (by omega)).trans (by first | assumption | (refine (cell_alloc_at _ _ ?_).trans ?_; omega; assumption) | (simp [go_sem]; done) | (simp [go_sem, *]; done))
    have s3 : w1.cell? ⟨w.heap.size, 2, none⟩ = some (.int .i64 m2) := (hcw1 _ _ (by omega)).trans (by first | assumption | (refine (cell_alloc_at _ _ ?_).trans ?_; omega; assumption) | (simp [go_sem]; done) | (simp [go_sem, *]; done))
    have s4 : w1.cell? ⟨w.heap.size, 3, none⟩ = some (.int .i64 m3) := (hcw1 _ _ (by omega)).trans (by first | assumption | (refine (cell_alloc_at _ _ ?_).trans ?_; omega; assumption) | (simp [go_sem]; done) | (simp [go_sem, *]; done))
    have s5 : w1.cell? ⟨w.heap.size, 4, none⟩ = some (.int .i64 m4) := (hcw1 _ _ (by omega)).trans (by first | assumption | (refine (cell_alloc_at _ _ ?_).trans ?_; omega; assumption) | (simp [go_sem]; done) | (simp [go_sem, *]; done))
    have s6 : w1.cell? ⟨w.heap.size, 5, none⟩ = some (.int .i64 m5) := (hcw1 _ _ (by omega)).trans (by first | assumption | (refine (cell_alloc_at _ _ ?_).trans ?_; omega; assumption) | (simp [go_sem]; done) | (simp [go_sem, *]; done))
    have s7 : w1.cell? ⟨w.heap.size + 1, 0, none⟩ = some (.int .i64 0) := (hcw1 _ _ (by omega)).trans (by first | assumption | (refine (cell_alloc_at _ _ ?_).trans ?_; omega; assumption) | (simp [go_sem]; done) | (simp [go_sem, *]; done))
    have s8 : w1.cell? ⟨w.heap.size + 1, 1, none⟩ = some (.int .i64 0) := (hcw1 _ _ (by omega)).trans (by first | assumption | (refine (cell_alloc_at _ _ ?_).trans ?_; omega; assumption) | (simp [go_sem]; done) | (simp [go_sem, *]; done))
    have szq0 : w.heap.size < w1.heap.size := (by omega)
    have sz : w.heap.size + 1 < w1.heap.size := (by omega)
    have fs10 : w1.frozen? ⟨w.heap.size + 1, 0, none⟩ = false := (hfw1 _ _ (by omega)).trans (by first | assumption | (refine (World.frozen?_alloc_old _ _ _ ?_).trans ?_; (simp; omega); assumption) | (simp [go_sem]; done) | (simp [go_sem, *]; done))
    have fs11 : w1.frozen? ⟨w.heap.size + 1, 1, none⟩ = false := (hfw1 _ _ (by omega)).trans (by first | assumption | (refine (World.frozen?_alloc_old _ _ _ ?_).trans ?_; (simp; omega); assumption) | (simp [go_sem]; done) | (simp [go_sem, *]; done))
    clear hcw1 hfw1 hzw1
    go_wp2_with fail
    refine (CL.out _).mono ?_
    rintro e w2 ⟨rfl, rfl⟩
    go_wp2_with fail
    refine (CI.out _).mono ?_
    rintro e w2 ⟨rfl, rfl⟩
    go_wp2_with fail
    refine (CA.out _ _ (by omega) s1 s2 s3 s4 s5 s6).mono ?_
    rintro e wz ⟨rfl, hbwz⟩
    have gz : Below w.heap.size w wz := (by repeat' (first | with_reducible assumption | with_reducible exact Below.refl _ _ | (with_reducible refine Below.setCell ?_ ?_ _) | (with_reducible refine Below.alloc ?_ ?_ _) | (with_reducible refine Below.drew ?_) | (with_reducible refine below_dr ?_ _) | (with_reducible refine Below.trans ?_ (Below.mono (by with_reducible assumption) ?_)) | omega | (simp; done) | (simp; omega)))
    obtain ⟨hcwz, hfwz⟩ := bcell hbwz
    have hzwz := hbwz.size
    (try simp only [World.size_alloc] at hcwz hfwz hzwz)
    have sz1 : wz.cell? ⟨w.heap.size, 0, none⟩ = some (.int .i64 m0) := (hcwz _ _ (by omega)).trans (by first | assumption | (refine (cell_alloc_at _ _ ?_).trans ?_; omega; assumption) | (simp [go_sem]; done) | (simp [go_sem, *]; done))
    have sz2 : wz.cell? ⟨w.heap.size, 1, none⟩ = some (.int .i64 m1) := (hcwz _ _ (by omega)).trans (by first | assumption | (refine (cell_alloc_at _ _ ?_).trans ?_; omega; assumption) | (simp [go_sem]; done) | (simp [go_sem, *]; done))
    have sz3 : wz.cell? ⟨w.heap.size, 2, none⟩ = some (.int .i64 m2) := (hcwz _ _ (by omega)).trans (by first | assumption | (refine (cell_alloc_at _ _ ?_).trans ?_; omega; assumption) | (simp [go_sem]; done) | (simp [go_sem, *]; done))
    have sz4 : wz.cell? ⟨w.heap.size, 3, none⟩ = some (.int .i64 m3) := (hcwz _ _ (by omega)).trans (by first | assumption | (refine (cell_alloc_at _ _ ?_).trans ?_; omega; assumption) | (simp [go_sem]; done) | (simp [go_sem, *]; done))
    have sz5 : wz.cell? ⟨w.heap.size, 4, none⟩ = some (.int .i64 m4) := (hcwz _ _ (by omega)).trans (by first | assumption | (refine (cell_alloc_at _ _ ?_).trans ?_; omega; assumption) | (simp [go_sem]; done) | (simp [go_sem, *]; done))
    have sz6 : wz.cell? ⟨w.heap.size, 5, none⟩ = some (.int .i64 m5) := (hcwz _ _ (by omega)).trans (by first | assumption | (refine (cell_alloc_at _ _ ?_).trans ?_; omega; assumption) | (simp [go_sem]; done) | (simp [go_sem, *]; done))
    have sz7 : wz.cell? ⟨w.heap.size + 1, 0, none⟩ = some (.int .i64 0) := (hcwz _ _ (by omega)).trans (by first | assumption | (refine (cell_alloc_at _ _ ?_).trans ?_; omega; assumption) | (simp [go_sem]; done) | (simp [go_sem, *]; done))
    have sz8 : wz.cell? ⟨w.heap.size + 1, 1, none⟩ = some (.int .i64 0) := (hcwz _ _ (by omega)).trans (by first | assumption | (refine (cell_alloc_at _ _ ?_).trans ?_; omega; assumption) | (simp [go_sem]; done) | (simp [go_sem, *]; done))
    have szzq0 : w.heap.size < wz.heap.size := (by omega)
    have szz : w.heap.size + 1 < wz.heap.size := (by omega)
    have fsz10 : wz.frozen? ⟨w.heap.size + 1, 0, none⟩ = false := (hfwz _ _ (by omega)).trans (by first | assumption | (refine (World.frozen?_alloc_old _ _ _ ?_).trans ?_; (simp; omega); assumption) | (simp [go_sem]; done) | (simp [go_sem, *]; done))
    have fsz11 : wz.frozen? ⟨w.heap.size + 1, 1, none⟩ = false := (hfwz _ _ (by omega)).trans (by first | assumption | (refine (World.frozen?_alloc_old _ _ _ ?_).trans ?_; (simp; omega); assumption) | (simp [go_sem]; done) | (simp [go_sem, *]; done))
    clear hcwz hfwz hzwz
    have ra := AtL.of2 sz7 sz8 szz
    have rb : AtL (w.heap.size + 1) [.int .i64 0, .int .i64 0] wz := by repeat' (first | with_reducible assumption | with_reducible exact AtL.new _ _ _ | (with_reducible refine AtL.drew ?_) | (with_reducible apply AtL.store2) | (with_reducible refine AtL.alloc ?_ _) | (with_reducible refine AtL.far ?_ ?_ _ _) | (with_reducible refine AtL.below ?_ (by with_reducible assumption)) | omega | (simp; done) | (simp; omega))
    have rc := rb.store2 (a := .int .i64 x) (b := .int .i64 y)
    have r0 := rc.cell 0 rfl
    have r1 := rc.cell 1 rfl
    clear ra rb rc
    go_wp2
    refine bodyPost_ret (v := .tuple #[.agg #[.int .i64 x, .int .i64 y], .int .i64 0]) (by simp [results, Try.results32, go_sem, r0, r1]) rfl (HR.out _ _ ?_)
    repeat' (first | with_reducible assumption | with_reducible exact Below.refl _ _ | (with_reducible refine Below.setCell ?_ ?_ _) | (with_reducible refine Below.alloc ?_ ?_ _) | (with_reducible refine Below.drew ?_) | (with_reducible refine below_dr ?_ _) | (with_reducible refine Below.trans ?_ (Below.mono (by with_reducible assumption) ?_)) | omega | (simp; done) | (simp; omega))
  · replace k1 : k ≤ 4 := k1
    have CI := Lib.hid (fun w => l00In_yes k 0 4 w k0 k1)
    have CA := Lib.hid (fun (b : Nat) (w : World) hb c0 c1 c2 c3 c4 c5 => l10At_any m0 m1 m2 m3 m4 m5 k 4 b w hb c0 c1 c2 c3 c4 c5 HV.out (by omega) (by omega) k0 k1)
    obtain ⟨x, hx⟩ : ∃ x, x = near (mix2 m0 m2 m4 k 4) (4 * 4) := ⟨_, rfl⟩
    obtain ⟨y, hy⟩ : ∃ y, y = near (mix2 m1 m3 m5 k 4) (4 * 4) := ⟨_, rfl⟩
    have HR := Lib.hid (show ∀ (w w' : World), Below w.heap.size w w' → CaRet true k 2 (near (mix2 m0 m2 m4 k (pw 2)) (pw 2 * pw 2)) (near (mix2 m1 m3 m5 k (pw 2)) (pw 2 * pw 2)) w (.returned (.tuple #[.agg #[.int .i64 x, .int .i64 y], .int .i64 0])) w' from fun w w' hb => by rw [show pw 2 = 4 from by decide, hx, hy]; exact CaRet.t rfl HQ.out hb)
    rw [← hx, ← hy] at CA
    clear hx hy k0 k1 l0 l6
    go_enter Try.func32, Try.ntmps32
    go_wp2_with fail
    refine (l10Quad_any m0 m1 m2 m3 m4 m5 _ _ (by first | (simp; done) | (simp; omega)) (by simp [go_sem]) (by simp [go_sem]) (by simp [go_sem]) (by simp [go_sem]) (by simp [go_sem]) (by simp [go_sem])).mono ?_
    rw [HV.out]; rintro e w1 ⟨rfl, hbw1⟩
    have g1 : Below w.heap.size w w1 := (by repeat' (first | with_reducible assumption | with_reducible exact Below.refl _ _ | (with_reducible refine Below.setCell ?_ ?_ _) | (with_reducible refine Below.alloc ?_ ?_ _) | (with_reducible refine Below.drew ?_) | (with_reducible refine below_dr ?_ _) | (with_reducible refine Below.trans ?_ (Below.mono (by with_reducible assumption) ?_)) | omega | (simp; done) | (simp; omega)))
    obtain ⟨hcw1, hfw1⟩ := bcell hbw1
    have hzw1 := hbw1.size
    (try simp only [World.size_alloc] at hcw1 hfw1 hzw1)
    have s1 : w1.cell? ⟨w.heap.size, 0, none⟩ = some (.int .i64 m0) := (hcw1 _ _ (by omega)).trans (by first | assumption | (refine (cell_alloc_at _ _ ?_).trans ?_; omega; assumption) | (simp [go_sem]; done) | (simp [go_sem, *]; done))
    have s2 : w1.cell? ⟨w.heap.size, 1, none⟩ = some (.int .i64 m1) := (hcw1 _ _ (by omega)).trans (by first | assumption | (refine (cell_alloc_at _ _ ?_).trans ?_; omega; assumption) | (simp [go_sem]; done) | (simp [go_sem, *]; done))
    have s3 : w1.cell? ⟨w.heap.size, 2, none⟩ = some (.int .i64 m2) := (hcw1 _ _ (by omega)).trans (by first | assumption | (refine (cell_alloc_at _ _ ?_).trans ?_; omega; assumption) | (simp [go_sem]; done) | (simp [go_sem, *]; done))
    have s4 : w1.cell? ⟨w.heap.size, 3, none⟩ = some (.int .i64 m3) := (hcw1 _ _ (by omega)).trans (by first | assumption | (refine (cell_alloc_at _ _ ?_).trans ?_; omega; assumption) | (simp [go_sem]; done) | (simp [go_sem, *]; done))
    have s5 : w1.cell? ⟨w.heap.size, 4, none⟩ = some (.int .i64 m4) := (hcw1 _ _ (by omega)).trans (by first | assumption | (refine (cell_alloc_at _ _ ?_).trans ?_; omega; assumption) | (simp [go_sem]; done) | (simp [go_sem, *]; done))
    have s6 : w1.cell? ⟨w.heap.size, 5, none⟩ = some (.int .i64 m5) := (hcw1 _ _ (by omega)).trans (by first | assumption | (refine (cell_alloc_at _ _ ?_).trans ?_; omega; assumption) | (simp [go_sem]; done) | (simp [go_sem, *]; done))
    have s7 : w1.cell? ⟨w.heap.size + 1, 0, none⟩ = some (.int .i64 0) := (hcw1 _ _ (by omega)).trans (by first | assumption | (refine (cell_alloc_at _ _ ?_).trans ?_; omega; assumption) | (simp [go_sem]; done) | (simp [go_sem, *]; done))
    have s8 : w1.cell? ⟨w.heap.size + 1, 1, none⟩ = some (.int .i64 0) := (hcw1 _ _ (by omega)).trans (by first | assumption | (refine (cell_alloc_at _ _ ?_).trans ?_; omega; assumption) | (simp [go_sem]; done) | (simp [go_sem, *]; done))
    have szq0 : w.heap.size < w1.heap.size := (by omega)
    have sz : w.heap.size + 1 < w1.heap.size := (by omega)
    have fs10 : w1.frozen? ⟨w.heap.size + 1, 0, none⟩ = false := (hfw1 _ _ (by omega)).trans (by first | assumption | (refine (World.frozen?_alloc_old _ _ _ ?_).trans ?_; (simp; omega); assumption) | (simp [go_sem]; done) | (simp [go_sem, *]; done))
    have fs11 : w1.frozen? ⟨w.heap.size + 1, 1, none⟩ = false := (hfw1 _ _ (by omega)).trans (by first | assumption | (refine (World.frozen?_alloc_old _ _ _ ?_).trans ?_; (simp; omega); assumption) | (simp [go_sem]; done) | (simp [go_sem, *]; done))
    clear hcw1 hfw1 hzw1
    go_wp2_with fail
    refine (CL.out _).mono ?_
    rintro e w2 ⟨rfl, rfl⟩
    go_wp2_with fail
    refine (CI.out _).mono ?_
    rintro e w2 ⟨rfl, rfl⟩
    go_wp2_with fail
    refine (CA.out _ _ (by omega) s1 s2 s3 s4 s5 s6).mono ?_
    rintro e wz ⟨rfl, hbwz⟩
    have gz : Below w.heap.size w wz := (by repeat' (first | with_reducible assumption | with_reducible exact Below.refl _ _ | (with_reducible refine Below.setCell ?_ ?_ _) | (with_reducible refine Below.alloc ?_ ?_ _) | (with_reducible refine Below.drew ?_) | (with_reducible refine below_dr ?_ _) | (with_reducible refine Below.trans ?_ (Below.mono (by with_reducible assumption) ?_)) | omega | (simp; done) | (simp; omega)))
    obtain ⟨hcwz, hfwz⟩ := bcell hbwz
    have hzwz := hbwz.size
    (try simp only [World.size_alloc] at hcwz hfwz hzwz)
    have sz1 : wz.cell? ⟨w.heap.size, 0, none⟩ = some (.int .i64 m0) := (hcwz _ _ (by omega)).trans (by first | assumption | (refine (cell_alloc_at _ _ ?_).trans ?_; omega; assumption) | (simp [go_sem]; done) | (simp [go_sem, *]; done))
    have sz2 : wz.cell? ⟨w.heap.size, 1, none⟩ = some (.int .i64 m1) := (hcwz _ _ (by omega)).trans (by first | assumption | (refine (cell_alloc_at _ _ ?_).trans ?_; omega; assumption) | (simp [go_sem]; done) | (simp [go_sem, *]; done))
    have sz3 : wz.cell? ⟨w.heap.size, 2, none⟩ = some (.int .i64 m2) := (hcwz _ _ (by omega)).trans (by first | assumption | (refine (cell_alloc_at _ _ ?_).trans ?_; omega; assumption) | (simp [go_sem]; done) | (simp [go_sem, *]; done))
    have sz4 : wz.cell? ⟨w.heap.size, 3, none⟩ = some (.int .i64 m3) := (hcwz _ _ (by omega)).trans (by first | assumption | (refine (cell_alloc_at _ _ ?_).trans ?_; omega; assumption) | (simp [go_sem]; done) | (simp [go_sem, *]; done))
    have sz5 : wz.cell? ⟨w.heap.size, 4, none⟩ = some (.int .i64 m4) := (hcwz _ _ (by omega)).trans (by first | assumption | (refine (cell_alloc_at _ _ ?_).trans ?_; omega; assumption) | (simp [go_sem]; done) | (simp [go_sem, *]; done))
    have sz6 : wz.cell? ⟨w.heap.size, 5, none⟩ = some (.int .i64 m5) := (hcwz _ _ (by omega)).trans (by first | assumption | (refine (cell_alloc_at _ _ ?_).trans ?_; omega; assumption) | (simp [go_sem]; done) | (simp [go_sem, *]; done))
    have sz7 : wz.cell? ⟨w.heap.size + 1, 0, none⟩ = some (.int .i64 0) := (hcwz _ _ (by omega)).trans (by first | assumption | (refine (cell_alloc_at _ _ ?_).trans ?_; omega; assumption) | (simp [go_sem]; done) | (simp [go_sem, *]; done))
    have sz8 : wz.cell? ⟨w.heap.size + 1, 1, none⟩ = some (.int .i64 0) := (hcwz _ _ (by omega)).trans (by first | assumption | (refine (cell_alloc_at _ _ ?_).trans ?_; omega; assumption) | (simp [go_sem]; done) | (simp [go_sem, *]; done))
    have szzq0 : w.heap.size < wz.heap.size := (by omega)
    have szz : w.heap.size + 1 < wz.heap.size := (by omega)
    have fsz10 : wz.frozen? ⟨w.heap.size + 1, 0, none⟩ = false := (hfwz _ _ (by omega)).trans (by first | assumption | (refine (World.frozen?_alloc_old _ _ _ ?_).trans ?_; (simp; omega); assumption) | (simp [go_sem]; done) | (simp [go_sem, *]; done))
    have fsz11 : wz.frozen? ⟨w.heap.size + 1, 1, none⟩ = false := (hfwz _ _ (by omega)).trans (by first | assumption | (refine (World.frozen?_alloc_old _ _ _ ?_).trans ?_; (simp; omega); assumption) | (simp [go_sem]; done) | (simp [go_sem, *]; done))
    clear hcwz hfwz hzwz
    have ra := AtL.of2 sz7 sz8 szz
    have rb : AtL (w.heap.size + 1) [.int .i64 0, .int .i64 0] wz := by repeat' (first | with_reducible assumption | with_reducible exact AtL.new _ _ _ | (with_reducible refine AtL.drew ?_) | (with_reducible apply AtL.store2) | (with_reducible refine AtL.alloc ?_ _) | (with_reducible refine AtL.far ?_ ?_ _ _) | (with_reducible refine AtL.below ?_ (by with_reducible assumption)) | omega | (simp; done) | (simp; omega))
    have rc := rb.store2 (a := .int .i64 x) (b := .int .i64 y)
    have r0 := rc.cell 0 rfl
    have r1 := rc.cell 1 rfl
    clear ra rb rc
    go_wp2
    refine bodyPost_ret (v := .tuple #[.agg #[.int .i64 x, .int .i64 y], .int .i64 0]) (by simp [results, Try.results32, go_sem, r0, r1]) rfl (HR.out _ _ ?_)
    repeat' (first | with_reducible assumption | with_reducible exact Below.refl _ _ | (with_reducible refine Below.setCell ?_ ?_ _) | (with_reducible refine Below.alloc ?_ ?_ _) | (with_reducible refine Below.drew ?_) | (with_reducible refine below_dr ?_ _) | (with_reducible refine Below.trans ?_ (Below.mono (by with_reducible assumption) ?_)) | omega | (simp; done) | (simp; omega))
  · replace k1 : k ≤ 8 := k1
    have CI := Lib.hid (fun w => l00In_yes k 0 8 w k0 k1)
    have CA := Lib.hid (fun (b : Nat) (w : World) hb c0 c1 c2 c3 c4 c5 => l10At_any m0 m1 m2 m3 m4 m5 k 8 b w hb c0 c1 c2 c3 c4 c5 HV.out (by omega) (by omega) k0 k1)
    obtain ⟨x, hx⟩ : ∃ x, x = near (mix2 m0 m2 m4 k 8) (8 * 8) := ⟨_, rfl⟩
    obtain ⟨y, hy⟩ : ∃ y, y = near (mix2 m1 m3 m5 k 8) (8 * 8) := ⟨_, rfl⟩
    have HR := Lib.hid (show ∀ (w w' : World), Below w.heap.size w w' → CaRet true k 3 (near (mix2 m0 m2 m4 k (pw 3)) (pw 3 * pw 3)) (near (mix2 m1 m3 m5 k (pw 3)) (pw 3 * pw 3)) w (.returned (.tuple #[.agg #[.int .i64 x, .int .i64 y], .int .i64 0])) w' from fun w w' hb => by rw [show pw 3 = 8 from by decide, hx, hy]; exact CaRet.t rfl HQ.out hb)
    rw [← hx, ← hy] at CA
    clear hx hy k0 k1 l0 l6
    go_enter Try.func32, Try.ntmps32
    go_wp2_with fail
    refine (l10Quad_any m0 m1 m2 m3 m4 m5 _ _ (by first | (simp; done) | (simp; omega)) (by simp [go_sem]) (by simp [go_sem]) (by simp [go_sem]) (by simp [go_sem]) (by simp [go_sem]) (by simp [go_sem])).mono ?_
    rw [HV.out]; rintro e w1 ⟨rfl, hbw1⟩
    have g1 : Below w.heap.size w w1 := (by repeat' (first | with_reducible assumption | with_reducible exact Below.refl _ _ | (with_reducible refine Below.setCell ?_ ?_ _) | (with_reducible refine Below.alloc ?_ ?_ _) | (with_reducible refine Below.drew ?_) | (with_reducible refine below_dr ?_ _) | (with_reducible refine Below.trans ?_ (Below.mono (by with_reducible assumption) ?_)) | omega | (simp; done) | (simp; omega)))
    obtain ⟨hcw1, hfw1⟩ := bcell hbw1
    have hzw1 := hbw1.size
    (try simp only [World.size_alloc] at hcw1 hfw1 hzw1)
    have s1 : w1.cell? ⟨w.heap.size, 0, none⟩ = some (.int .i64 m0) := (hcw1 _ _ (by omega)).trans (by first | assumption | (refine (cell_alloc_at _ _ ?_).trans ?_; omega; assumption) | (simp [go_sem]; done) | (simp [go_sem, *]; done))
    have s2 : w1.cell? ⟨w.heap.size, 1, none⟩ = some (.int .i64 m1) := (hcw1 _ _ (by omega)).trans (by first | assumption | (refine (cell_alloc_at _ _ ?_).trans ?_; omega; assumption) | (simp [go_sem]; done) | (simp [go_sem, *]; done))
    have s3 : w1.cell? ⟨w.heap.size, 2, none⟩ = some (.int .i64 m2) := (hcw1 _ _ (by omega)).trans (by first | assumption | (refine (cell_alloc_at _ _ ?_).trans ?_; omega; assumption) | (simp [go_sem]; done) | (simp [go_sem, *]; done))
    have s4 : w1.cell? ⟨w.heap.size, 3, none⟩ = some (.int .i64 m3) := (hcw1 _ _ (by omega)).trans (by first | assumption | (refine (cell_alloc_at _ _ ?_).trans ?_; omega; assumption) | (simp [go_sem]; done) | (simp [go_sem, *]; done))
    have s5 : w1.cell? ⟨w.heap.size, 4, none⟩ = some (.int .i64 m4) := (hcw1 _ _ (by omega)).trans (by first | assumption | (refine (cell_alloc_at _ _ ?_).trans ?_; omega; assumption) | (simp [go_sem]; done) | (simp [go_sem, *]; done))
    have s6 : w1.cell? ⟨w.heap.size, 5, none⟩ = some (.int .i64 m5) := (hcw1 _ _ (by omega)).trans (by first | assumption | (refine (cell_alloc_at _ _ ?_).trans ?_; omega; assumption) | (simp [go_sem]; done) | (simp [go_sem, *]; done))
    have s7 : w1.cell? ⟨w.heap.size + 1, 0, none⟩ = some (.int .i64 0) := (hcw1 _ _ (by omega)).trans (by first | assumption | (refine (cell_alloc_at _ _ ?_).trans ?_; omega; assumption) | (simp [go_sem]; done) | (simp [go_sem, *]; done))
    have s8 : w1.cell? ⟨w.heap.size + 1, 1, none⟩ = some (.int .i64 0) := (hcw1 _ _ (by omega)).trans (by first | assumption | (refine (cell_alloc_at _ _ ?_).trans ?_; omega; assumption) | (simp [go_sem]; done) | (simp [go_sem, *]; done))
    have szq0 : w.heap.size < w1.heap.size := (by omega)
    have sz : w.heap.size + 1 < w1.heap.size := (by omega)
    have fs10 : w1.frozen? ⟨w.heap.size + 1, 0, none⟩ = false := (hfw1 _ _ (by omega)).trans (by first | assumption | (refine (World.frozen?_alloc_old _ _ _ ?_).trans ?_; (simp; omega); assumption) | (simp [go_sem]; done) | (simp [go_sem, *]; done))
    have fs11 : w1.frozen? ⟨w.heap.size + 1, 1, none⟩ = false := (hfw1 _ _ (by omega)).trans (by first | assumption | (refine (World.frozen?_alloc_old _ _ _ ?_).trans ?_; (simp; omega); assumption) | (simp [go_sem]; done) | (simp [go_sem, *]; done))
    clear hcw1 hfw1 hzw1
    go_wp2_with fail
    refine (CL.out _).mono ?_
    rintro e w2 ⟨rfl, rfl⟩
    go_wp2_with fail
    refine (CI.out _).mono ?_
    rintro e w2 ⟨rfl, rfl⟩
    go_wp2_with fail
    refine (CA.out _ _ (by omega) s1 s2 s3 s4 s5 s6).mono ?_
    rintro e wz ⟨rfl, hbwz⟩
    have gz : Below w.heap.size w wz := (by repeat' (first | with_reducible assumption | with_reducible exact Below.refl _ _ | (with_reducible refine Below.setCell ?_ ?_ _) | (with_reducible refine Below.alloc ?_ ?_ _) | (with_reducible refine Below.drew ?_) | (with_reducible refine below_dr ?_ _) | (with_reducible refine Below.trans ?_ (Below.mono (by with_reducible assumption) ?_)) | omega | (simp; done) | (simp; omega)))
    obtain ⟨hcwz, hfwz⟩ := bcell hbwz
    have hzwz := hbwz.size
    (try simp only [World.size_alloc] at hcwz hfwz hzwz)
    have sz1 : wz.cell? ⟨w.heap.size, 0, none⟩ = some (.int .i64 m0) := (hcwz _ _ (by omega)).trans (by first | assumption | (refine (cell_alloc_at _ _ ?_).trans ?_; omega; assumption) | (simp [go_sem]; done) | (simp [go_sem, *]; done))
    have sz2 : wz.cell? ⟨w.heap.size, 1, none⟩ = some (.int .i64 m1) := (hcwz _ _ (by omega)).trans (by first | assumption | (refine (cell_alloc_at _ _ ?_).trans ?_; omega; assumption) | (simp [go_sem]; done) | (simp [go_sem, *]; done))
    have sz3 : wz.cell? ⟨w.heap.size, 2, none⟩ = some (.int .i64 m2) := (hcwz _ _ (by omega)).trans (by first | assumption | (refine (cell_alloc_at _ _ ?_).trans ?_; omega; assumption) | (simp [go_sem]; done) | (simp [go_sem, *]; done))
    have sz4 : wz.cell? ⟨w.heap.size, 3, none⟩ = some (.int .i64 m3) := (hcwz _ _ (by omega)).trans (by first | assumption | (refine (cell_alloc_at _ _ ?_).trans ?_; omega; assumption) | (simp [go_sem]; done) | (simp [go_sem, *]; done))
    have sz5 : wz.cell? ⟨w.heap.size, 4, none⟩ = some (.int .i64 m4) := (hcwz _ _ (by omega)).trans (by first | assumption | (refine (cell_alloc_at _ _ ?_).trans ?_; omega; assumption) | (simp [go_sem]; done) | (simp [go_sem, *]; done))
    have sz6 : wz.cell? ⟨w.heap.size, 5, none⟩ = some (.int .i64 m5) := (hcwz _ _ (by omega)).trans (by first | assumption | (refine (cell_alloc_at _ _ ?_).trans ?_; omega; assumption) | (simp [go_sem]; done) | (simp [go_sem, *]; done))
    have sz7 : wz.cell? ⟨w.heap.size + 1, 0, none⟩ = some (.int .i64 0) := (hcwz _ _ (by omega)).trans (by first | assumption | (refine (cell_alloc_at _ _ ?_).trans ?_; omega; assumption) | (simp [go_sem]; done) | (simp [go_sem, *]; done))
    have sz8 : wz.cell? ⟨w.heap.size + 1, 1, none⟩ = some (.int .i64 0) := (hcwz _ _ (by omega)).trans (by first | assumption | (refine (cell_alloc_at _ _ ?_).trans ?_; omega; assumption) | (simp [go_sem]; done) | (simp [go_sem, *]; done))
    have szzq0 : w.heap.size < wz.heap.size := (by omega)
    have szz : w.heap.size + 1 < wz.heap.size := (by omega)
    have fsz10 : wz.frozen? ⟨w.heap.size + 1, 0, none⟩ = false := (hfwz _ _ (by omega)).trans (by first | assumption | (refine (World.frozen?_alloc_old _ _ _ ?_).trans ?_; (simp; omega); assumption) | (simp [go_sem]; done) | (simp [go_sem, *]; done))
    have fsz11 : wz.frozen? ⟨w.heap.size + 1, 1, none⟩ = false := (hfwz _ _ (by omega)).trans (by first | assumption | (refine (World.frozen?_alloc_old _ _ _ ?_).trans ?_; (simp; omega); assumption) | (simp [go_sem]; done) | (simp [go_sem, *]; done))
    clear hcwz hfwz hzwz
    have ra := AtL.of2 sz7 sz8 szz
    have rb : AtL (w.heap.size + 1) [.int .i64 0, .int .i64 0] wz := by repeat' (first | with_reducible assumption | with_reducible exact AtL.new _ _ _ | (with_reducible refine AtL.drew ?_) | (with_reducible apply AtL.store2) | (with_reducible refine AtL.alloc ?_ _) | (with_reducible refine AtL.far ?_ ?_ _ _) | (with_reducible refine AtL.below ?_ (by with_reducible assumption)) | omega | (simp; done) | (simp; omega))
    have rc := rb.store2 (a := .int .i64 x) (b := .int .i64 y)
    have r0 := rc.cell 0 rfl
    have r1 := rc.cell 1 rfl
    clear ra rb rc
    go_wp2
    refine bodyPost_ret (v := .tuple #[.agg #[.int .i64 x, .int .i64 y], .int .i64 0]) (by simp [results, Try.results32, go_sem, r0, r1]) rfl (HR.out _ _ ?_)
    repeat' (first | with_reducible assumption | with_reducible exact Below.refl _ _ | (with_reducible refine Below.setCell ?_ ?_ _) | (with_reducible refine Below.alloc ?_ ?_ _) | (with_reducible refine Below.drew ?_) | (with_reducible refine below_dr ?_ _) | (with_reducible refine Below.trans ?_ (Below.mono (by with_reducible assumption) ?_)) | omega | (simp; done) | (simp; omega))
  · replace k1 : k ≤ 16 := k1
    have CI := Lib.hid (fun w => l00In_yes k 0 16 w k0 k1)
    have CA := Lib.hid (fun (b : Nat) (w : World) hb c0 c1 c2 c3 c4 c5 => l10At_any m0 m1 m2 m3 m4 m5 k 16 b w hb c0 c1 c2 c3 c4 c5 HV.out (by omega) (by omega) k0 k1)
    obtain ⟨x, hx⟩ : ∃ x, x = near (mix2 m0 m2 m4 k 16) (16 * 16) := ⟨_, rfl⟩
    obtain ⟨y, hy⟩ : ∃ y, y = near (mix2 m1 m3 m5 k 16) (16 * 16) := ⟨_, rfl⟩
    have HR := Lib.hid (show ∀ (w w' : World), Below w.heap.size w w' → CaRet true k 4 (near (mix2 m0 m2 m4 k (pw 4)) (pw 4 * pw 4)) (near (mix2 m1 m3 m5 k (pw 4)) (pw 4 * pw 4)) w (.returned (.tuple #[.agg #[.int .i64 x, .int .i64 y], .int .i64 0])) w' from fun w w' hb => by rw [show pw 4 = 16 from by decide, hx, hy]; exact CaRet.t rfl HQ.out hb)
    rw [← hx, ← hy] at CA
    clear hx hy k0 k1 l0 l6
    go_enter Try.func32, Try.ntmps32
    go_wp2_with fail
    refine (l10Quad_any m0 m1 m2 m3 m4 m5 _ _ (by first | (simp; done) | (simp; omega)) (by simp [go_sem]) (by simp [go_sem]) (by simp [go_sem]) (by simp [go_sem]) (by simp [go_sem]) (by simp [go_sem])).mono ?_
    rw [HV.out]; rintro e w1 ⟨rfl, hbw1⟩
    have g1 : Below w.heap.size w w1 := (by repeat' (first | with_reducible assumption | with_reducible exact Below.refl _ _ | (with_reducible refine Below.setCell ?_ ?_ _) | (with_reducible refine Below.alloc ?_ ?_ _) | (with_reducible refine Below.drew ?_) | (with_reducible refine below_dr ?_ _) | (with_reducible refine Below.trans ?_ (Below.mono (by with_reducible assumption) ?_)) | omega | (simp; done) | (simp; omega)))
    obtain ⟨hcw1, hfw1⟩ := bcell hbw1
    have hzw1 := hbw1.size
    (try simp only [World.size_alloc] at hcw1 hfw1 hzw1)
    have s1 : w1.cell? ⟨w.heap.size, 0, none⟩ = some (.int .i64 m0) := (hcw1 _ _ (by omega)).trans (by first | assumption | (refine (cell_alloc_at _ _ ?_).trans ?_; omega; assumption) | (simp [go_sem]; done) | (simp [go_sem, *]; done))
    have s2 : w1.cell? ⟨w.heap.size, 1, none⟩ = some (.int .i64 m1) := (hcw1 _ _ (by omega)).trans (by first | assumption | (refine (cell_alloc_at _ _ ?_).trans ?_; omega; assumption) | (simp [go_sem]; done) | (simp [go_sem, *]; done))
    have s3 : w1.cell? ⟨w.heap.size, 2, none⟩ = some (.int .i64 m2) := (hcw1 _ _ (by omega)).trans (by first | assumption | (refine (cell_alloc_at _ _ ?_).trans ?_; omega; assumption) | (simp [go_sem]; done) | (simp [go_sem, *]; done))
    have s4 : w1.cell? ⟨w.heap.size, 3, none⟩ = some (.int .i64 m3) := (hcw1 _ _ (by omega)).trans (by first | assumption | (refine (cell_alloc_at _ _ ?_).trans ?_; omega; assumption) | (simp [go_sem]; done) | (simp [go_sem, *]; done))
    have s5 : w1.cell? ⟨w.heap.size, 4, none⟩ = some (.int .i64 m4) := (hcw1 _ _ (by omega)).trans (by first | assumption | (refine (cell_alloc_at _ _ ?_).trans ?_; omega; assumption) | (simp [go_sem]; done) | (simp [go_sem, *]; done))
    have s6 : w1.cell? ⟨w.heap.size, 5, none⟩ = some (.int .i64 m5) := (hcw1 _ _ (by omega)).trans (by first | assumption | (refine (cell_alloc_at _ _ ?_).trans ?_; omega; assumption) | (simp [go_sem]; done) | (simp [go_sem, *]; done))
    have s7 : w1.cell? ⟨w.heap.size + 1, 0, none⟩ = some (.int .i64 0) := (hcw1 _ _ (by omega)).trans (by first | assumption | (refine (cell_alloc_at _ _ ?_).trans ?_; omega; assumption) | (simp [go_sem]; done) | (simp [go_sem, *]; done))
    have s8 : w1.cell? ⟨w.heap.size + 1, 1, none⟩ = some (.int .i64 0) := (hcw1 _ _ (by omega)).trans (by first | assumption | (refine (cell_alloc_at _ _ ?_).trans ?_; omega; assumption) | (simp [go_sem]; done) | (simp [go_sem, *]; done))
    have szq0 : w.heap.size < w1.heap.size := (by omega)
    have sz : w.heap.size + 1 < w1.heap.size := (by omega)
    have fs10 : w1.frozen? ⟨w.heap.size + 1, 0, none⟩ = false := (hfw1 _ _ (by omega)).trans (by first | assumption | (refine (World.frozen?_alloc_old _ _ _ ?_).trans ?_; (simp; omega); assumption) | (simp [go_sem]; done) | (simp [go_sem, *]; done))
    have fs11 : w1.frozen? ⟨w.heap.size + 1, 1, none⟩ = false := (hfw1 _ _ (by omega)).trans (by first | assumption | (refine (World.frozen?_alloc_old _ _ _ ?_).trans ?_; (simp; omega); assumption) | (simp [go_sem]; done) | (simp [go_sem, *]; done))
    clear hcw1 hfw1 hzw1
    go_wp2_with fail
    refine (CL.out _).mono ?_
    rintro e w2 ⟨rfl, rfl⟩
    go_wp2_with fail
    refine (CI.out _).mono ?_
    rintro e w2 ⟨rfl, rfl⟩
    go_wp2_with fail
    refine (CA.out _ _ (by omega) s1 s2 s3 s4 s5 s6).mono ?_
    rintro e wz ⟨rfl, hbwz⟩
    have gz : Below w.heap.size w wz := (by repeat' (first | with_reducible assumption | with_reducible exact Below.refl _ _ | (with_reducible refine Below.setCell ?_ ?_ _) | (with_reducible refine Below.alloc ?_ ?_ _) | (with_reducible refine Below.drew ?_) | (with_reducible refine below_dr ?_ _) | (with_reducible refine Below.trans ?_ (Below.mono (by with_reducible assumption) ?_)) | omega | (simp; done) | (simp; omega)))
    obtain ⟨hcwz, hfwz⟩ := bcell hbwz
    have hzwz := hbwz.size
    (try simp only [World.size_alloc] at hcwz hfwz hzwz)
    have sz1 : wz.cell? ⟨w.heap.size, 0, none⟩ = some (.int .i64 m0) := (hcwz _ _ (by omega)).trans (by first | assumption | (refine (cell_alloc_at _ _ ?_).trans ?_; omega; assumption) | (simp [go_sem]; done) | (simp [go_sem, *]; done))
    have sz2 : wz.cell? ⟨w.heap.size, 1, none⟩ = some (.int .i64 m1) := (hcwz _ _ (by omega)).trans (by first | assumption | (refine (cell_alloc_at _ _ ?_).trans ?_; omega; assumption) | (simp [go_sem]; done) | (simp [go_sem, *]; done))
    have sz3 : wz.cell? ⟨w.heap.size, 2, none⟩ = some (.int .i64 m2) := (hcwz _ _ (by omega)).trans (by first | assumption | (refine (cell_alloc_at _ _ ?_).trans ?_; omega; assumption) | (simp [go_sem]; done) | (simp [go_sem, *]; done))
    have sz4 : wz.cell? ⟨w.heap.size, 3, none⟩ = some (.int .i64 m3) := (hcwz _ _ (by omega)).trans (by first | assumption | (refine (cell_alloc_at _ _ ?_).trans ?_; omega; assumption) | (simp [go_sem]; done) | (simp [go_sem, *]; done))
    have sz5 : wz.cell? ⟨w.heap.size, 4, none⟩ = some (.int .i64 m4) := (hcwz _ _ (by omega)).trans (by first | assumption | (refine (cell_alloc_at _ _ ?_).trans ?_; omega; assumption) | (simp [go_sem]; done) | (simp [go_sem, *]; done))
    have sz6 : wz.cell? ⟨w.heap.size, 5, none⟩ = some (.int .i64 m5) := (hcwz _ _ (by omega)).trans (by first | assumption | (refine (cell_alloc_at _ _ ?_).trans ?_; omega; assumption) | (simp [go_sem]; done) | (simp [go_sem, *]; done))
    have sz7 : wz.cell? ⟨w.heap.size + 1, 0, none⟩ = some (.int .i64 0) := (hcwz _ _ (by omega)).trans (by first | assumption | (refine (cell_alloc_at _ _ ?_).trans ?_; omega; assumption) | (simp [go_sem]; done) | (simp [go_sem, *]; done))
    have sz8 : wz.cell? ⟨w.heap.size + 1, 1, none⟩ = some (.int .i64 0) := (hcwz _ _ (by omega)).trans (by first | assumption | (refine (cell_alloc_at _ _ ?_).trans ?_; omega; assumption) | (simp [go_sem]; done) | (simp [go_sem, *]; done))
    have szzq0 : w.heap.size < wz.heap.size := (by omega)
    have szz : w.heap.size + 1 < wz.heap.size := (by omega)
    have fsz10 : wz.frozen? ⟨w.heap.size + 1, 0, none⟩ = false := (hfwz _ _ (by omega)).trans (by first | assumption | (refine (World.frozen?_alloc_old _ _ _ ?_).trans ?_; (simp; omega); assumption) | (simp [go_sem]; done) | (simp [go_sem, *]; done))
    have fsz11 : wz.frozen? ⟨w.heap.size + 1, 1, none⟩ = false := (hfwz _ _ (by omega)).trans (by first | assumption | (refine (World.frozen?_alloc_old _ _ _ ?_).trans ?_; (simp; omega); assumption) | (simp [go_sem]; done) | (simp [go_sem, *]; done))
    clear hcwz hfwz hzwz
    have ra := AtL.of2 sz7 sz8 szz
    have rb : AtL (w.heap.size + 1) [.int .i64 0, .int .i64 0] wz := by repeat' (first | with_reducible assumption | with_reducible exact AtL.new _ _ _ | (with_reducible refine AtL.drew ?_) | (with_reducible apply AtL.store2) | (with_reducible refine AtL.alloc ?_ _) | (with_reducible refine AtL.far ?_ ?_ _ _) | (with_reducible refine AtL.below ?_ (by with_reducible assumption)) | omega | (simp; done) | (simp; omega))
    have rc := rb.store2 (a := .int .i64 x) (b := .int .i64 y)
    have r0 := rc.cell 0 rfl
    have r1 := rc.cell 1 rfl
    clear ra rb rc
    go_wp2
    refine bodyPost_ret (v := .tuple #[.agg #[.int .i64 x, .int .i64 y], .int .i64 0]) (by simp [results, Try.results32, go_sem, r0, r1]) rfl (HR.out _ _ ?_)
    repeat' (first | with_reducible assumption | with_reducible exact Below.refl _ _ | (with_reducible refine Below.setCell ?_ ?_ _) | (with_reducible refine Below.alloc ?_ ?_ _) | (with_reducible refine Below.drew ?_) | (with_reducible refine below_dr ?_ _) | (with_reducible refine Below.trans ?_ (Below.mono (by with_reducible assumption) ?_)) | omega | (simp; done) | (simp; omega))
  · replace k1 : k ≤ 32 := k1
    have CI := Lib.hid (fun w => l00In_yes k 0 32 w k0 k1)
    have CA := Lib.hid (fun (b : Nat) (w : World) hb c0 c1 c2 c3 c4 c5 => l10At_any m0 m1 m2 m3 m4 m5 k 32 b w hb c0 c1 c2 c3 c4 c5 HV.out (by omega) (by omega) k0 k1)
    obtain ⟨x, hx⟩ : ∃ x, x = near (mix2 m0 m2 m4 k 32) (32 * 32) := ⟨_, rfl⟩
    obtain ⟨y, hy⟩ : ∃ y, y = near (mix2 m1 m3 m5 k 32) (32 * 32) := ⟨_, rfl⟩
    have HR := Lib.hid (show ∀ (w w' : World), Below w.heap.size w w' → CaRet true k 5 (near (mix2 m0 m2 m4 k (pw 5)) (pw 5 * pw 5)) (near (mix2 m1 m3 m5 k (pw 5)) (pw 5 * pw 5)) w (.returned (.tuple #[.agg #[.int .i64 x, .int .i64 y], .int .i64 0])) w' from fun w w' hb => by rw [show pw 5 = 32 from by decide, hx, hy]; exact CaRet.t rfl HQ.out hb)
    rw [← hx, ← hy] at CA
    clear hx hy k0 k1 l0 l6
    go_enter Try.func32, Try.ntmps32
    go_wp2_with fail
    refine (l10Quad_any m0 m1 m2 m3 m4 m5 _ _ (by first | (simp; done) | (simp; omega)) (by simp [go_sem]) (by simp [go_sem]) (by simp [go_sem]) (by simp [go_sem]) (by simp [go_sem]) (by simp [go_sem])).mono ?_
    rw [HV.out]; rintro e w1 ⟨rfl, hbw1⟩
    have g1 : Below w.heap.size w w1 := (by repeat' (first | with_reducible assumption | with_reducible exact Below.refl _ _ | (with_reducible refine Below.setCell ?_ ?_ _) | (with_reducible refine Below.alloc ?_ ?_ _) | (with_reducible refine Below.drew ?_) | (with_reducible refine below_dr ?_ _) | (with_reducible refine Below.trans ?_ (Below.mono (by with_reducible assumption) ?_)) | omega | (simp; done) | (simp; omega)))
    obtain ⟨hcw1, hfw1⟩ := bcell hbw1
    have hzw1 := hbw1.size
    (try simp only [World.size_alloc] at hcw1 hfw1 hzw1)
    have s1 : w1.cell? ⟨w.heap.size, 0, none⟩ = some (.int .i64 m0) := (hcw1 _ _ (by omega)).trans (by first | assumption | (refine (cell_alloc_at _ _ ?_).trans ?_; omega; assumption) | (simp [go_sem]; done) | (simp [go_sem, *]; done))
    have s2 : w1.cell? ⟨w.heap.size, 1, none⟩ = some (.int .i64 m1) := (hcw1 _ _ (by omega)).trans (by first | assumption | (refine (cell_alloc_at _ _ ?_).trans ?_; omega; assumption) | (simp [go_sem]; done) | (simp [go_sem, *]; done))
    have s3 : w1.cell? ⟨w.heap.size, 2, none⟩ = some (.int .i64 m2) := (hcw1 _ _ (by omega)).trans (by first | assumption | (refine (cell_alloc_at _ _ ?_).trans ?_; omega; assumption) | (simp [go_sem]; done) | (simp [go_sem, *]; done))
    have s4 : w1.cell? ⟨w.heap.size, 3, none⟩ = some (.int .i64 m3) := (hcw1 _ _ (by omega)).trans (by first | assumption | (refine (cell_alloc_at _ _ ?_).trans ?_; omega; assumption) | (simp [go_sem]; done) | (simp [go_sem, *]; done))
    have s5 : w1.cell? ⟨w.heap.size, 4, none⟩ = some (.int .i64 m4) := (hcw1 _ _ (by omega)).trans (by first | assumption | (refine (cell_alloc_at _ _ ?_).trans ?_; omega; assumption) | (simp [go_sem]; done) | (simp [go_sem, *]; done))
    have s6 : w1.cell? ⟨w.heap.size, 5, none⟩ = some (.int .i64 m5) := (hcw1 _ _ (by omega)).trans (by first | assumption | (refine (cell_alloc_at _ _ ?_).trans ?_; omega; assumption) | (simp [go_sem]; done) | (simp [go_sem, *]; done))
    have s7 : w1.cell? ⟨w.heap.size + 1, 0, none⟩ = some (.int .i64 0) := (hcw1 _ _ (by omega)).trans (by first | assumption | (refine (cell_alloc_at _ _ ?_).trans ?_; omega; assumption) | (simp [go_sem]; done) | (simp [go_sem, *]; done))
    have s8 : w1.cell? ⟨w.heap.size + 1, 1, none⟩ = some (.int .i64 0) := (hcw1 _ _ (by omega)).trans (by first | assumption | (refine (cell_alloc_at _ _ ?_).trans ?_; omega; assumption) | (simp [go_sem]; done) | (simp [go_sem, *]; done))
    have szq0 : w.heap.size < w1.heap.size := (by omega)
    have sz : w.heap.size + 1 < w1.heap.size := (by omega)
    have fs10 : w1.frozen? ⟨w.heap.size + 1, 0, none⟩ = false := (hfw1 _ _ (by omega)).trans (by first | assumption | (refine (World.frozen?_alloc_old _ _ _ ?_).trans ?_; (simp; omega); assumption) | (simp [go_sem]; done) | (simp [go_sem, *]; done))
    have fs11 : w1.frozen? ⟨w.heap.size + 1, 1, none⟩ = false := (hfw1 _ _ (by omega)).trans (by first | assumption | (refine (World.frozen?_alloc_old _ _ _ ?_).trans ?_; (simp; omega); assumption) | (simp [go_sem]; done) | (simp [go_sem, *]; done))
    clear hcw1 hfw1 hzw1
    go_wp2_with fail
    refine (CL.out _).mono ?_
    rintro e w2 ⟨rfl, rfl⟩
    go_wp2_with fail
    refine (CI.out _).mono ?_
    rintro e w2 ⟨rfl, rfl⟩
    go_wp2_with fail
    refine (CA.out _ _ (by omega) s1 s2 s3 s4 s5 s6).mono ?_
    rintro e wz ⟨rfl, hbwz⟩
    have gz : Below w.heap.size w wz := (by repeat' (first | with_reducible assumption | with_reducible exact Below.refl _ _ | (with_reducible refine Below.setCell ?_ ?_ _) | (with_reducible refine Below.alloc ?_ ?_ _) | (with_reducible refine Below.drew ?_) | (with_reducible refine below_dr ?_ _) | (with_reducible refine Below.trans ?_ (Below.mono (by with_reducible assumption) ?_)) | omega | (simp; done) | (simp; omega)))
    obtain ⟨hcwz, hfwz⟩ := bcell hbwz
    have hzwz := hbwz.size
    (try simp only [World.size_alloc] at hcwz hfwz hzwz)
    have sz1 : wz.cell? ⟨w.heap.size, 0, none⟩ = some (.int .i64 m0) := (hcwz _ _ (by omega)).trans (by first | assumption | (refine (cell_alloc_at _ _ ?_).trans ?_; omega; assumption) | (simp [go_sem]; done) | (simp [go_sem, *]; done))
    have sz2 : wz.cell? ⟨w.heap.size, 1, none⟩ = some (.int .i64 m1) := (hcwz _ _ (by omega)).trans (by first | assumption | (refine (cell_alloc_at _ _ ?_).trans ?_; omega; assumption) | (simp [go_sem]; done) | (simp [go_sem, *]; done))
    have sz3 : wz.cell? ⟨w.heap.size, 2, none⟩ = some (.int .i64 m2) := (hcwz _ _ (by omega)).trans (by first | assumption | (refine (cell_alloc_at _ _ ?_).trans ?_; omega; assumption) | (simp [go_sem]; done) | (simp [go_sem, *]; done))
    have sz4 : wz.cell? ⟨w.heap.size, 3, none⟩ = some (.int .i64 m3) := (hcwz _ _ (by omega)).trans (by first | assumption | (refine (cell_alloc_at _ _ ?_).trans ?_; omega; assumption) | (simp [go_sem]; done) | (simp [go_sem, *]; done))
    have sz5 : wz.cell? ⟨w.heap.size, 4, none⟩ = some (.int .i64 m4) := (hcwz _ _ (by omega)).trans (by first | assumption | (refine (cell_alloc_at _ _ ?_).trans ?_; omega; assumption) | (simp [go_sem]; done) | (simp [go_sem, *]; done))
    have sz6 : wz.cell? ⟨w.heap.size, 5, none⟩ = some (.int .i64 m5) := (hcwz _ _ (by omega)).trans (by first | assumption | (refine (cell_alloc_at _ _ ?_).trans ?_; omega; assumption) | (simp [go_sem]; done) | (simp [go_sem, *]; done))
    have sz7 : wz.cell? ⟨w.heap.size + 1, 0, none⟩ = some (.int .i64 0) := (hcwz _ _ (by omega)).trans (by first | assumption | (refine (cell_alloc_at _ _ ?_).trans ?_; omega; assumption) | (simp [go_sem]; done) | (simp [go_sem, *]; done))
    have sz8 : wz.cell? ⟨w.heap.size + 1, 1, none⟩ = some (.int .i64 0) := (hcwz _ _ (by omega)).trans (by first | assumption | (refine (cell_alloc_at _ _ ?_).trans ?_; omega; assumption) | (simp [go_sem]; done) | (simp [go_sem, *]; done))
    have szzq0 : w.heap.size < wz.heap.size := (by omega)
    have szz : w.heap.size + 1 < wz.heap.size := (by omega)
    have fsz10 : wz.frozen? ⟨w.heap.size + 1, 0, none⟩ = false := (hfwz _ _ (by omega)).trans (by first | assumption | (refine (World.frozen?_alloc_old _ _ _ ?_).trans ?_; (simp; omega); assumption) | (simp [go_sem]; done) | (simp [go_sem, *]; done))
    have fsz11 : wz.frozen? ⟨w.heap.size + 1, 1, none⟩ = false := (hfwz _ _ (by omega)).trans (by first | assumption | (refine (World.frozen?_alloc_old _ _ _ ?_).trans ?_; (simp; omega); assumption) | (simp [go_sem]; done) | (simp [go_sem, *]; done))
    clear hcwz hfwz hzwz
    have ra := AtL.of2 sz7 sz8 szz
    have rb : AtL (w.heap.size + 1) [.int .i64 0, .int .i64 0] wz := by repeat' (first | with_reducible assumption | with_reducible exact AtL.new _ _ _ | (with_reducible refine AtL.drew ?_) | (with_reducible apply AtL.store2) | (with_reducible refine AtL.alloc ?_ _) | (with_reducible refine AtL.far ?_ ?_ _ _) | (with_reducible refine AtL.below ?_ (by with_reducible assumption)) | omega | (simp; done) | (simp; omega))
    have rc := rb.store2 (a := .int .i64 x) (b := .int .i64 y)
    have r0 := rc.cell 0 rfl
    have r1 := rc.cell 1 rfl
    clear ra rb rc
    go_wp2
    refine bodyPost_ret (v := .tuple #[.agg #[.int .i64 x, .int .i64 y], .int .i64 0]) (by simp [results, Try.results32, go_sem, r0, r1]) rfl (HR.out _ _ ?_)
    repeat' (first | with_reducible assumption | with_reducible exact Below.refl _ _ | (with_reducible refine Below.setCell ?_ ?_ _) | (with_reducible refine Below.alloc ?_ ?_ _) | (with_reducible refine Below.drew ?_) | (with_reducible refine below_dr ?_ _) | (with_reducible refine Below.trans ?_ (Below.mono (by with_reducible assumption) ?_)) | omega | (simp; done) | (simp; omega))
  · replace k1 : k ≤ 64 := k1
    have CI := Lib.hid (fun w => l00In_yes k 0 64 w k0 k1)
    have CA := Lib.hid (fun (b : Nat) (w : World) hb c0 c1 c2 c3 c4 c5 => l10At_any m0 m1 m2 m3 m4 m5 k 64 b w hb c0 c1 c2 c3 c4 c5 HV.out (by omega) (by omega) k0 k1)
    obtain ⟨x, hx⟩ : ∃ x, x = near (mix2 m0 m2 m4 k 64) (64 * 64) := ⟨_, rfl⟩
    obtain ⟨y, hy⟩ : ∃ y, y = near (mix2 m1 m3 m5 k 64) (64 * 64) := ⟨_, rfl⟩
    have HR := Lib.hid (show ∀ (w w' : World), Below w.heap.size w w' → CaRet true k 6 (near (mix2 m0 m2 m4 k (pw 6)) (pw 6 * pw 6)) (near (mix2 m1 m3 m5 k (pw 6)) (pw 6 * pw 6)) w (.returned (.tuple #[.agg #[.int .i64 x, .int .i64 y], .int .i64 0])) w' from fun w w' hb => by rw [show pw 6 = 64 from by decide, hx, hy]; exact CaRet.t rfl HQ.out hb)
    rw [← hx, ← hy] at CA
    clear hx hy k0 k1 l0 l6
    go_enter Try.func32, Try.ntmps32
    go_wp2_with fail
    refine (l10Quad_any m0 m1 m2 m3 m4 m5 _ _ (by first | (simp; done) | (simp; omega)) (by simp [go_sem]) (by simp [go_sem]) (by simp [go_sem]) (by simp [go_sem]) (by simp [go_sem]) (by simp [go_sem])).mono ?_
    rw [HV.out]; rintro e w1 ⟨rfl, hbw1⟩
    have g1 : Below w.heap.size w w1 := (by repeat' (first | with_reducible assumption | with_reducible exact Below.refl _ _ | (with_reducible refine Below.setCell ?_ ?_ _) | (with_reducible refine Below.alloc ?_ ?_ _) | (with_reducible refine Below.drew ?_) | (with_reducible refine below_dr ?_ _) | (with_reducible refine Below.trans ?_ (Below.mono (by with_reducible assumption) ?_)) | omega | (simp; done) | (simp; omega)))
    obtain ⟨hcw1, hfw1⟩ := bcell hbw1
    have hzw1 := hbw1.size
    (try simp only [World.size_alloc] at hcw1 hfw1 hzw1)
    have s1 : w1.cell? ⟨w.heap.size, 0, none⟩ = some (.int .i64 m0) := (hcw1 _ _ (by omega)).trans (by first | assumption | (refine (cell_alloc_at _ _ ?_).trans ?_; omega; assumption) | (simp [go_sem]; done) | (simp [go_sem, *]; done))
    have s2 : w1.cell? ⟨w.heap.size, 1, none⟩ = some (.int .i64 m1) := (hcw1 _ _ (by omega)).trans (by first | assumption | (refine (cell_alloc_at _ _ ?_).trans ?_; omega; assumption) | (simp [go_sem]; done) | (simp [go_sem, *]; done))
    have s3 : w1.cell? ⟨w.heap.size, 2, none⟩ = some (.int .i64 m2) := (hcw1 _ _ (by omega)).trans (by first | assumption | (refine (cell_alloc_at _ _ ?_).trans ?_; omega; assumption) | (simp [go_sem]; done) | (simp [go_sem, *]; done))
    have s4 : w1.cell? ⟨w.heap.size, 3, none⟩ = some (.int .i64 m3) := (hcw1 _ _ (by omega)).trans (by first | assumption | (refine (cell_alloc_at _ _ ?_).trans ?_; omega; assumption) | (simp [go_sem]; done) | (simp [go_sem, *]; done))
    have s5 : w1.cell? ⟨w.heap.size, 4, none⟩ = some (.int .i64 m4) := (hcw1 _ _ (by omega)).trans (by first | assumption | (refine (cell_alloc_at _ _ ?_).trans ?_; omega; assumption) | (simp [go_sem]; done) | (simp [go_sem, *]; done))
    have s6 : w1.cell? ⟨w.heap.size, 5, none⟩ = some (.int .i64 m5) := (hcw1 _ _ (by omega)).trans (by first | assumption | (refine (cell_alloc_at _ _ ?_).trans ?_; omega; assumption) | (simp [go_sem]; done) | (simp [go_sem, *]; done))
    have s7 : w1.cell? ⟨w.heap.size + 1, 0, none⟩ = some (.int .i64 0) := (hcw1 _ _ (by omega)).trans (by first | assumption | (refine (cell_alloc_at _ _ ?_).trans ?_; omega; assumption) | (simp [go_sem]; done) | (simp [go_sem, *]; done))
    have s8 : w1.cell? ⟨w.heap.size + 1, 1, none⟩ = some (.int .i64 0) := (hcw1 _ _ (by omega)).trans (by first | assumption | (refine (cell_alloc_at _ _ ?_).trans ?_; omega; assumption) | (simp [go_sem]; done) | (simp [go_sem, *]; done))
    have szq0 : w.heap.size < w1.heap.size := (by omega)
    have sz : w.heap.size + 1 < w1.heap.size := (by omega)
    have fs10 : w1.frozen? ⟨w.heap.size + 1, 0, none⟩ = false := (hfw1 _ _ (by omega)).trans (by first | assumption | (refine (World.frozen?_alloc_old _ _ _ ?_).trans ?_; (simp; omega); assumption) | (simp [go_sem]; done) | (simp [go_sem, *]; done))
    have fs11 : w1.frozen? ⟨w.heap.size + 1, 1, none⟩ = false := (hfw1 _ _ (by omega)).trans (by first | assumption | (refine (World.frozen?_alloc_old _ _ _ ?_).trans ?_; (simp; omega); assumption) | (simp [go_sem]; done) | (simp [go_sem, *]; done))
    clear hcw1 hfw1 hzw1
    go_wp2_with fail
    refine (CL.out _).mono ?_
    rintro e w2 ⟨rfl, rfl⟩
    go_wp2_with fail
    refine (CI.out _).mono ?_
    rintro e w2 ⟨rfl, rfl⟩
    go_wp2_with fail
    refine (CA.out _ _ (by omega) s1 s2 s3 s4 s5 s6).mono ?_
    rintro e wz ⟨rfl, hbwz⟩
    have gz : Below w.heap.size w wz := (by repeat' (first | with_reducible assumption | with_reducible exact Below.refl _ _ | (with_reducible refine Below.setCell ?_ ?_ _) | (with_reducible refine Below.alloc ?_ ?_ _) | (with_reducible refine Below.drew ?_) | (with_reducible refine below_dr ?_ _) | (with_reducible refine Below.trans ?_ (Below.mono (by with_reducible assumption) ?_)) | omega | (simp; done) | (simp; omega)))
    obtain ⟨hcwz, hfwz⟩ := bcell hbwz
    have hzwz := hbwz.size
    (try simp only [World.size_alloc] at hcwz hfwz hzwz)
    have sz1 : wz.cell? ⟨w.heap.size, 0, none⟩ = some (.int .i64 m0) := (hcwz _ _ (by omega)).trans (by first | assumption | (refine (cell_alloc_at _ _ ?_).trans ?_; omega; assumption) | (simp [go_sem]; done) | (simp [go_sem, *]; done))
    have sz2 : wz.cell? ⟨w.heap.size, 1, none⟩ = some (.int .i64 m1) := (hcwz _ _ (by omega)).trans (by first | assumption | (refine (cell_alloc_at _ _ ?_).trans ?_; omega; assumption) | (simp [go_sem]; done) | (simp [go_sem, *]; done))
    have sz3 : wz.cell? ⟨w.heap.size, 2, none⟩ = some (.int .i64 m2) := (hcwz _ _ (by omega)).trans (by first | assumption | (refine (cell_alloc_at _ _ ?_).trans ?_; omega; assumption) | (simp [go_sem]; done) | (simp [go_sem, *]; done))
    have sz4 : wz.cell? ⟨w.heap.size, 3, none⟩ = some (.int .i64 m3) := (hcwz _ _ (by omega)).trans (by first | assumption | (refine (cell_alloc_at _ _ ?_).trans ?_; omega; assumption) | (simp [go_sem]; done) | (simp [go_sem, *]; done))
    have sz5 : wz.cell? ⟨w.heap.size, 4, none⟩ = some (.int .i64 m4) := (hcwz _ _ (by omega)).trans (by first | assumption | (refine (cell_alloc_at _ _ ?_).trans ?_; omega; assumption) | (simp [go_sem]; done) | (simp [go_sem, *]; done))
    have sz6 : wz.cell? ⟨w.heap.size, 5, none⟩ = some (.int .i64 m5) := (hcwz _ _ (by omega)).trans (by first | assumption | (refine (cell_alloc_at _ _ ?_).trans ?_; omega; assumption) | (simp [go_sem]; done) | (simp [go_sem, *]; done))
    have sz7 : wz.cell? ⟨w.heap.size + 1, 0, none⟩ = some (.int .i64 0) := (hcwz _ _ (by omega)).trans (by first | assumption | (refine (cell_alloc_at _ _ ?_).trans ?_; omega; assumption) | (simp [go_sem]; done) | (simp [go_sem, *]; done))
    have sz8 : wz.cell? ⟨w.heap.size + 1, 1, none⟩ = some (.int .i64 0) := (hcwz _ _ (by omega)).trans (by first | assumption | (refine (cell_alloc_at _ _ ?_).trans ?_; omega; assumption) | (simp [go_sem]; done) | (simp [go_sem, *]; done))
    have szzq0 : w.heap.size < wz.heap.size := (by omega)
    have szz : w.heap.size + 1 < wz.heap.size := (by omega)
    have fsz10 : wz.frozen? ⟨w.heap.size + 1, 0, none⟩ = false := (hfwz _ _ (by omega)).trans (by first | assumption | (refine (World.frozen?_alloc_old _ _ _ ?_).trans ?_; (simp; omega); assumption) | (simp [go_sem]; done) | (simp [go_sem, *]; done))
    have fsz11 : wz.frozen? ⟨w.heap.size + 1, 1, none⟩ = false := (hfwz _ _ (by omega)).trans (by first | assumption | (refine (World.frozen?_alloc_old _ _ _ ?_).trans ?_; (simp; omega); assumption) | (simp [go_sem]; done) | (simp [go_sem, *]; done))
    clear hcwz hfwz hzwz
    have ra := AtL.of2 sz7 sz8 szz
    have rb : AtL (w.heap.size + 1) [.int .i64 0, .int .i64 0] wz := by repeat' (first | with_reducible assumption | with_reducible exact AtL.new _ _ _ | (with_reducible refine AtL.drew ?_) | (with_reducible apply AtL.store2) | (with_reducible refine AtL.alloc ?_ _) | (with_reducible refine AtL.far ?_ ?_ _ _) | (with_reducible refine AtL.below ?_ (by with_reducible assumption)) | omega | (simp; done) | (simp; omega))
    have rc := rb.store2 (a := .int .i64 x) (b := .int .i64 y)
    have r0 := rc.cell 0 rfl
    have r1 := rc.cell 1 rfl
    clear ra rb rc
    go_wp2
    refine bodyPost_ret (v := .tuple #[.agg #[.int .i64 x, .int .i64 y], .int .i64 0]) (by simp [results, Try.results32, go_sem, r0, r1]) rfl (HR.out _ _ ?_)
    repeat' (first | with_reducible assumption | with_reducible exact Below.refl _ _ | (with_reducible refine Below.setCell ?_ ?_ _) | (with_reducible refine Below.alloc ?_ ?_ _) | (with_reducible refine Below.drew ?_) | (with_reducible refine below_dr ?_ _) | (with_reducible refine Below.trans ?_ (Below.mono (by with_reducible assumption) ?_)) | omega | (simp; done) | (simp; omega))
set_option maxRecDepth 100000 in
set_option maxHeartbeats 12800000 in
theorem atLevel3_any (m0 m1 m2 m3 m4 m5 k level : Int) (w : World) (hok : okQ m0 m1 m2 m3 m4 m5 = true) (w_k : -9223372036854775808 ≤ k ∧ k ≤ 9223372036854775807) (w_l : -9223372036854775808 ≤ level ∧ level ≤ 9223372036854775807) :
    Calls Try.prog 75 #[.agg #[.int .i64 m0, .int .i64 m1, .int .i64 m2, .int .i64 m3, .int .i64 m4, .int .i64 m5], .int .i64 k, .int .i64 level] w (CaRet true k level (near (mix2 m0 m2 m4 k (pw level)) (pw level * pw level)) (near (mix2 m1 m3 m5 k (pw level)) (pw level * pw level)) w) := by
  have HOK := Lib.hid hok
  clear hok
  by_cases hl : level < 0
  case pos =>
    have HQ := Lib.hid (caOk_level (k := k) (.inl hl))
    go_enter Try.func75, Try.ntmps75
    go_wp2
    refine bodyPost_ret (v := .tuple #[.agg #[.int .i64 0, .int .i64 0], .int .i64 2]) (by simp [results, Try.results75, go_sem]) rfl (CaRet.r rfl HQ.out ?_)
    repeat' (first | with_reducible assumption | with_reducible exact Below.refl _ _ | (with_reducible refine Below.setCell ?_ ?_ _) | (with_reducible refine Below.alloc ?_ ?_ _) | (with_reducible refine Below.drew ?_) | (with_reducible refine below_dr ?_ _) | (with_reducible refine Below.trans ?_ (Below.mono (by with_reducible assumption) ?_)) | omega | (simp; done) | (simp; omega))
  by_cases hl6 : 6 < level
  case pos =>
    have HQ := Lib.hid (caOk_level (k := k) (.inr hl6))
    have hq0 : decide (level < 0) = false := by simpa using hl
    clear hl
    go_enter Try.func75, Try.ntmps75
    go_wp2
    refine bodyPost_ret (v := .tuple #[.agg #[.int .i64 0, .int .i64 0], .int .i64 2]) (by simp [results, Try.results75, go_sem]) rfl (CaRet.r rfl HQ.out ?_)
    repeat' (first | with_reducible assumption | with_reducible exact Below.refl _ _ | (with_reducible refine Below.setCell ?_ ?_ _) | (with_reducible refine Below.alloc ?_ ?_ _) | (with_reducible refine Below.drew ?_) | (with_reducible refine below_dr ?_ _) | (with_reducible refine Below.trans ?_ (Below.mono (by with_reducible assumption) ?_)) | omega | (simp; done) | (simp; omega))
  have l0 : 0 ≤ level := by omega
  have l6 : level ≤ 6 := by omega
  clear hl hl6 w_l
  by_cases hk : k < 0
  case pos =>
    have HQ := Lib.hid (caOk_no (k := k) (level := level) (.inl hk))
    rcases seven l0 l6 with rfl | rfl | rfl | rfl | rfl | rfl | rfl
    · clear l0 l6
      go_enter Try.func75, Try.ntmps75
      go_wp2
      refine bodyPost_ret (v := .tuple #[.agg #[.int .i64 0, .int .i64 0], .int .i64 2]) (by simp [results, Try.results75, go_sem]) rfl (CaRet.r rfl HQ.out ?_)
      repeat' (first | with_reducible assumption | with_reducible exact Below.refl _ _ | (with_reducible refine Below.setCell ?_ ?_ _) | (with_reducible refine Below.alloc ?_ ?_ _) | (with_reducible refine Below.drew ?_) | (with_reducible refine below_dr ?_ _) | (with_reducible refine Below.trans ?_ (Below.mono (by with_reducible assumption) ?_)) | omega | (simp; done) | (simp; omega))
    · clear l0 l6
      go_enter Try.func75, Try.ntmps75
      go_wp2
      refine bodyPost_ret (v := .tuple #[.agg #[.int .i64 0, .int .i64 0], .int .i64 2]) (by simp [results, Try.results75, go_sem]) rfl (CaRet.r rfl HQ.out ?_)
      repeat' (first | with_reducible assumption | with_reducible exact Below.refl _ _ | (with_reducible refine Below.setCell ?_ ?_ _) | (with_reducible refine Below.alloc ?_ ?_ _) | (with_reducible refine Below.drew ?_) | (with_reducible refine below_dr ?_ _) | (with_reducible refine Below.trans ?_ (Below.mono (by with_reducible assumption) ?_)) | omega | (simp; done) | (simp; omega))
    · clear l0 l6
      go_enter Try.func75, Try.ntmps75
      go_wp2
      refine bodyPost_ret (v := .tuple #[.agg #[.int .i64 0, .int .i64 0], .int .i64 2]) (by simp [results, Try.results75, go_sem]) rfl (CaRet.r rfl HQ.out ?_)
      repeat' (first | with_reducible assumption | with_reducible exact Below.refl _ _ | (with_reducible refine Below.setCell ?_ ?_ _) | (with_reducible refine Below.alloc ?_ ?_ _) | (with_reducible refine Below.drew ?_) | (with_reducible refine below_dr ?_ _) | (with_reducible refine Below.trans ?_ (Below.mono (by with_reducible assumption) ?_)) | omega | (simp; done) | (simp; omega))
    · clear l0 l6
      go_enter Try.func75, Try.ntmps75
      go_wp2
      refine bodyPost_ret (v := .tuple #[.agg #[.int .i64 0, .int .i64 0], .int .i64 2]) (by simp [results, Try.results75, go_sem]) rfl (CaRet.r rfl HQ.out ?_)
      repeat' (first | with_reducible assumption | with_reducible exact Below.refl _ _ | (with_reducible refine Below.setCell ?_ ?_ _) | (with_reducible refine Below.alloc ?_ ?_ _) | (with_reducible refine Below.drew ?_) | (with_reducible refine below_dr ?_ _) | (with_reducible refine Below.trans ?_ (Below.mono (by with_reducible assumption) ?_)) | omega | (simp; done) | (simp; omega))
    · clear l0 l6
      go_enter Try.func75, Try.ntmps75
      go_wp2
      refine bodyPost_ret (v := .tuple #[.agg #[.int .i64 0, .int .i64 0], .int .i64 2]) (by simp [results, Try.results75, go_sem]) rfl (CaRet.r rfl HQ.out ?_)
      repeat' (first | with_reducible assumption | with_reducible exact Below.refl _ _ | (with_reducible refine Below.setCell ?_ ?_ _) | (with_reducible refine Below.alloc ?_ ?_ _) | (with_reducible refine Below.drew ?_) | (with_reducible refine below_dr ?_ _) | (with_reducible refine Below.trans ?_ (Below.mono (by with_reducible assumption) ?_)) | omega | (simp; done) | (simp; omega))
    · clear l0 l6
      go_enter Try.func75, Try.ntmps75
      go_wp2
      refine bodyPost_ret (v := .tuple #[.agg #[.int .i64 0, .int .i64 0], .int .i64 2]) (by simp [results, Try.results75, go_sem]) rfl (CaRet.r rfl HQ.out ?_)
      repeat' (first | with_reducible assumption | with_reducible exact Below.refl _ _ | (with_reducible refine Below.setCell ?_ ?_ _) | (with_reducible refine Below.alloc ?_ ?_ _) | (with_reducible refine Below.drew ?_) | (with_reducible refine below_dr ?_ _) | (with_reducible refine Below.trans ?_ (Below.mono (by with_reducible assumption) ?_)) | omega | (simp; done) | (simp; omega))
    · clear l0 l6
      go_enter Try.func75, Try.ntmps75
      go_wp2
      refine bodyPost_ret (v := .tuple #[.agg #[.int .i64 0, .int .i64 0], .int .i64 2]) (by simp [results, Try.results75, go_sem]) rfl (CaRet.r rfl HQ.out ?_)
      repeat' (first | with_reducible assumption | with_reducible exact Below.refl _ _ | (with_reducible refine Below.setCell ?_ ?_ _) | (with_reducible refine Below.alloc ?_ ?_ _) | (with_reducible refine Below.drew ?_) | (with_reducible refine below_dr ?_ _) | (with_reducible refine Below.trans ?_ (Below.mono (by with_reducible assumption) ?_)) | omega | (simp; done) | (simp; omega))
  have hk0 : decide (k < 0) = false := by simpa using hk
  have k0 : 0 ≤ k := by omega
  clear hk
  by_cases hk : pw level < k
  case pos =>
    have HQ := Lib.hid (caOk_no (k := k) (level := level) (.inr hk))
    rcases seven l0 l6 with rfl | rfl | rfl | rfl | rfl | rfl | rfl
    · replace hk : 1 < k := hk
      clear l0 l6 k0
      go_enter Try.func75, Try.ntmps75
      go_wp2
      refine bodyPost_ret (v := .tuple #[.agg #[.int .i64 0, .int .i64 0], .int .i64 2]) (by simp [results, Try.results75, go_sem]) rfl (CaRet.r rfl HQ.out ?_)
      repeat' (first | with_reducible assumption | with_reducible exact Below.refl _ _ | (with_reducible refine Below.setCell ?_ ?_ _) | (with_reducible refine Below.alloc ?_ ?_ _) | (with_reducible refine Below.drew ?_) | (with_reducible refine below_dr ?_ _) | (with_reducible refine Below.trans ?_ (Below.mono (by with_reducible assumption) ?_)) | omega | (simp; done) | (simp; omega))
    · replace hk : 2 < k := hk
      clear l0 l6 k0
      go_enter Try.func75, Try.ntmps75
      go_wp2
      refine bodyPost_ret (v := .tuple #[.agg #[.int .i64 0, .int .i64 0], .int .i64 2]) (by simp [results, Try.results75, go_sem]) rfl (CaRet.r rfl HQ.out ?_)
      repeat' (first | with_reducible assumption | with_reducible exact Below.refl _ _ | (with_reducible refine Below.setCell ?_ ?_ _) | (with_reducible refine Below.alloc ?_ ?_ _) | (with_reducible refine Below.drew ?_) | (with_reducible refine below_dr ?_ _) | (with_reducible refine Below.trans ?_ (Below.mono (by with_reducible assumption) ?_)) | omega | (simp; done) | (simp; omega))
    · replace hk : 4 < k := hk
      clear l0 l6 k0
      go_enter Try.func75, Try.ntmps75
      go_wp2
      refine bodyPost_ret (v := .tuple #[.agg #[.int .i64 0, .int .i64 0], .int .i64 2]) (by simp [results, Try.results75, go_sem]) rfl (CaRet.r rfl HQ.out ?_)
      repeat' (first | with_reducible assumption | with_reducible exact Below.refl _ _ | (with_reducible refine Below.setCell ?_ ?_ _) | (with_reducible refine Below.alloc ?_ ?_ _) | (with_reducible refine Below.drew ?_) | (with_reducible refine below_dr ?_ _) | (with_reducible refine Below.trans ?_ (Below.mono (by with_reducible assumption) ?_)) | omega | (simp; done) | (simp; omega))
    · replace hk : 8 < k := hk
      clear l0 l6 k0
      go_enter Try.func75, Try.ntmps75
      go_wp2
      refine bodyPost_ret (v := .tuple #[.agg #[.int .i64 0, .int .i64 0], .int .i64 2]) (by simp [results, Try.results75, go_sem]) rfl (CaRet.r rfl HQ.out ?_)
      repeat' (first | with_reducible assumption | with_reducible exact Below.refl _ _ | (with_reducible refine Below.setCell ?_ ?_ _) | (with_reducible refine Below.alloc ?_ ?_ _) | (with_reducible refine Below.drew ?_) | (with_reducible refine below_dr ?_ _) | (with_reducible refine Below.trans ?_ (Below.mono (by with_reducible assumption) ?_)) | omega | (simp; done) | (simp; omega))
    · replace hk : 16 < k := hk
      clear l0 l6 k0
      go_enter Try.func75, Try.ntmps75
      go_wp2
      refine bodyPost_ret (v := .tuple #[.agg #[.int .i64 0, .int .i64 0], .int .i64 2]) (by simp [results, Try.results75, go_sem]) rfl (CaRet.r rfl HQ.out ?_)
      repeat' (first | with_reducible assumption | with_reducible exact Below.refl _ _ | (with_reducible refine Below.setCell ?_ ?_ _) | (with_reducible refine Below.alloc ?_ ?_ _) | (with_reducible refine Below.drew ?_) | (with_reducible refine below_dr ?_ _) | (with_reducible refine Below.trans ?_ (Below.mono (by with_reducible assumption) ?_)) | omega | (simp; done) | (simp; omega))
    · replace hk : 32 < k := hk
      clear l0 l6 k0
      go_enter Try.func75, Try.ntmps75
      go_wp2
      refine bodyPost_ret (v := .tuple #[.agg #[.int .i64 0, .int .i64 0], .int .i64 2]) (by simp [results, Try.results75, go_sem]) rfl (CaRet.r rfl HQ.out ?_)
      repeat' (first | with_reducible assumption | with_reducible exact Below.refl _ _ | (with_reducible refine Below.setCell ?_ ?_ _) | (with_reducible refine Below.alloc ?_ ?_ _) | (with_reducible refine Below.drew ?_) | (with_reducible refine below_dr ?_ _) | (with_reducible refine Below.trans ?_ (Below.mono (by with_reducible assumption) ?_)) | omega | (simp; done) | (simp; omega))
    · replace hk : 64 < k := hk
      clear l0 l6 k0
      go_enter Try.func75, Try.ntmps75
      go_wp2
      refine bodyPost_ret (v := .tuple #[.agg #[.int .i64 0, .int .i64 0], .int .i64 2]) (by simp [results, Try.results75, go_sem]) rfl (CaRet.r rfl HQ.out ?_)
      repeat' (first | with_reducible assumption | with_reducible exact Below.refl _ _ | (with_reducible refine Below.setCell ?_ ?_ _) | (with_reducible refine Below.alloc ?_ ?_ _) | (with_reducible refine Below.drew ?_) | (with_reducible refine below_dr ?_ _) | (with_reducible refine Below.trans ?_ (Below.mono (by with_reducible assumption) ?_)) | omega | (simp; done) | (simp; omega))
  have k1 : k ≤ pw level := by omega
  have HQ := Lib.hid (caOk_yes l0 l6 k0 k1)
  clear hk
  rcases seven l0 l6 with rfl | rfl | rfl | rfl | rfl | rfl | rfl
  · replace k1 : k ≤ 1 := k1
    have CA := Lib.hid (fun w => at3_any m0 m1 m2 m3 m4 m5 k 1 w HOK.out (by omega) (by omega) k0 k1)
    obtain ⟨x, hx⟩ : ∃ x, x = near (mix2 m0 m2 m4 k 1) (1 * 1) := ⟨_, rfl⟩
    obtain ⟨y, hy⟩ : ∃ y, y = near (mix2 m1 m3 m5 k 1) (1 * 1) := ⟨_, rfl⟩
    have HR := Lib.hid (show ∀ (w w' : World), Below w.heap.size w w' → CaRet true k 0 (near (mix2 m0 m2 m4 k (pw 0)) (pw 0 * pw 0)) (near (mix2 m1 m3 m5 k (pw 0)) (pw 0 * pw 0)) w (.returned (.tuple #[.agg #[.int .i64 x, .int .i64 y], .int .i64 0])) w' from fun w w' hb => by rw [show pw 0 = 1 from by decide, hx, hy]; exact CaRet.t rfl HQ.out hb)
    rw [← hx, ← hy] at CA
    have hk2 : decide (1 < k) = false := by simp; omega
    have hwN : IntKind.i64.wrap 1 = 1 := IntWalk.i64_in _ (by omega)
    clear hx hy k0 k1 l0 l6
    go_enter Try.func75, Try.ntmps75
    go_wp2_with fail
    generalize hW : ((w.alloc (.cells #[.int .i64 m0, .int .i64 m1, .int .i64 m2, .int .i64 m3, .int .i64 m4, .int .i64 m5] 112)).alloc (.cells #[.int .i64 0, .int .i64 0] 27)) = W0
    have g0 : Below w.heap.size w W0 := by rw [← hW]; repeat' (first | assumption | exact Below.refl _ _ | (refine Below.setCell ?_ ?_ _) | (refine Below.alloc ?_ ?_ _) | (refine below_dr ?_ _) | exact Nat.le_refl _ | (simp; done) | (simp; omega))
    have s1 : W0.cell? ⟨w.heap.size, 0, none⟩ = some (.int .i64 m0) := by rw [← hW]; simp [go_sem]
    have s2 : W0.cell? ⟨w.heap.size, 1, none⟩ = some (.int .i64 m1) := by rw [← hW]; simp [go_sem]
    have s3 : W0.cell? ⟨w.heap.size, 2, none⟩ = some (.int .i64 m2) := by rw [← hW]; simp [go_sem]
    have s4 : W0.cell? ⟨w.heap.size, 3, none⟩ = some (.int .i64 m3) := by rw [← hW]; simp [go_sem]
    have s5 : W0.cell? ⟨w.heap.size, 4, none⟩ = some (.int .i64 m4) := by rw [← hW]; simp [go_sem]
    have s6 : W0.cell? ⟨w.heap.size, 5, none⟩ = some (.int .i64 m5) := by rw [← hW]; simp [go_sem]
    have s7 : W0.cell? ⟨w.heap.size + 1, 0, none⟩ = some (.int .i64 0) := by rw [← hW]; simp [go_sem]
    have s8 : W0.cell? ⟨w.heap.size + 1, 1, none⟩ = some (.int .i64 0) := by rw [← hW]; simp [go_sem]
    have f0 : W0.frozen? ⟨w.heap.size + 1, 0, none⟩ = false := by rw [← hW]; simp [go_sem]
    have f1 : W0.frozen? ⟨w.heap.size + 1, 1, none⟩ = false := by rw [← hW]; simp [go_sem]
    have sz : w.heap.size + 1 < W0.heap.size := by rw [← hW]; simp
    clear hW
    go_region_held3 (fun w' => w'.frozen? ⟨w.heap.size + 1, 0, none⟩ = false ∧ w'.frozen? ⟨w.heap.size + 1, 1, none⟩ = false ∧ w'.cell? ⟨w.heap.size, 0, none⟩ = some (.int .i64 m0) ∧ w'.cell? ⟨w.heap.size, 1, none⟩ = some (.int .i64 m1) ∧ w'.cell? ⟨w.heap.size, 2, none⟩ = some (.int .i64 m2) ∧ w'.cell? ⟨w.heap.size, 3, none⟩ = some (.int .i64 m3) ∧ w'.cell? ⟨w.heap.size, 4, none⟩ = some (.int .i64 m4) ∧ w'.cell? ⟨w.heap.size, 5, none⟩ = some (.int .i64 m5) ∧ w.heap.size + 1 < w'.heap.size)
      (first | ((try dsimp only); (repeat' apply And.intro); all_goals (first | assumption | omega | (simp (disch := first | omega | (simp; omega)) [*]; done) | (rw [cell_set_at _ _ (by first | omega | (simp; omega)), cell_set_at _ _ (by first | omega | (simp; omega))]; first | assumption | (simp (disch := first | omega | (simp; omega)) [*]; done)) | (simp; omega))) | fail)
      (first
        | (go_at_call 104; (with_reducible refine (CA.out _).mono ?_); rintro e wA ⟨rfl, hbwA⟩; obtain ⟨hcwA, hfwA⟩ := bcell hbwA; have hzwA := hbwA.size; (try simp only [World.size_drew] at hcwA hfwA hzwA); have qwA : w.heap.size + 1 < wA.heap.size := (by omega)))
    all_goals
      have ra := AtL.of2 s7 s8 sz
      have rb : AtL (w.heap.size + 1) [.int .i64 0, .int .i64 0] wA := by repeat' (first | with_reducible assumption | with_reducible exact AtL.new _ _ _ | (with_reducible refine AtL.drew ?_) | (with_reducible apply AtL.store2) | (with_reducible refine AtL.alloc ?_ _) | (with_reducible refine AtL.far ?_ ?_ _ _) | (with_reducible refine AtL.below ?_ (by with_reducible assumption)) | omega | (simp; done) | (simp; omega))
      have rc := rb.store2 (a := .int .i64 x) (b := .int .i64 y)
      have r0 := rc.cell 0 rfl
      have r1 := rc.cell 1 rfl
      clear ra rb rc
      go_wp2
      refine bodyPost_ret (v := .tuple #[.agg #[.int .i64 x, .int .i64 y], .int .i64 0]) (by simp [results, Try.results75, go_sem, r0, r1]) rfl (HR.out _ _ ?_)
      repeat' (first | with_reducible assumption | with_reducible exact Below.refl _ _ | (with_reducible refine Below.setCell ?_ ?_ _) | (with_reducible refine Below.alloc ?_ ?_ _) | (with_reducible refine Below.drew ?_) | (with_reducible refine below_dr ?_ _) | (with_reducible refine Below.trans ?_ (Below.mono (by with_reducible assumption) ?_)) | omega | (simp; done) | (simp; omega))
  · replace k1 : k ≤ 2 := k1
    have CA := Lib.hid (fun w => at3_any m0 m1 m2 m3 m4 m5 k 2 w HOK.out (by omega) (by omega) k0 k1)
    obtain ⟨x, hx⟩ : ∃ x, x = near (mix2 m0 m2 m4 k 2) (2 * 2) := ⟨_, rfl⟩
    obtain ⟨y, hy⟩ : ∃ y, y = near (mix2 m1 m3 m5 k 2) (2 * 2) := ⟨_, rfl⟩
    have HR := Lib.hid (show ∀ (w w' : World), Below w.heap.size w w' → CaRet true k 1 (near (mix2 m0 m2 m4 k (pw 1)) (pw 1 * pw 1)) (near (mix2 m1 m3 m5 k (pw 1)) (pw 1 * pw 1)) w (.returned (.tuple #[.agg #[.int .i64 x, .int .i64 y], .int .i64 0])) w' from fun w w' hb => by rw [show pw 1 = 2 from by decide, hx, hy]; exact CaRet.t rfl HQ.out hb)
    rw [← hx, ← hy] at CA
    have hk2 : decide (2 < k) = false := by simp; omega
    have hwN : IntKind.i64.wrap 2 = 2 := IntWalk.i64_in _ (by omega)
    clear hx hy k0 k1 l0 l6
    go_enter Try.func75, Try.ntmps75
    go_wp2_with fail
    generalize hW : ((w.alloc (.cells #[.int .i64 m0, .int .i64 m1, .int .i64 m2, .int .i64 m3, .int .i64 m4, .int .i64 m5] 112)).alloc (.cells #[.int .i64 0, .int .i64 0] 27)) = W0
    have g0 : Below w.heap.size w W0 := by rw [← hW]; repeat' (first | assumption | exact Below.refl _ _ | (refine Below.setCell ?_ ?_ _) | (refine Below.alloc ?_ ?_ _) | (refine below_dr ?_ _) | exact Nat.le_refl _ | (simp; done) | (simp; omega))
    have s1 : W0.cell? ⟨w.heap.size, 0, none⟩ = some (.int .i64 m0) := by rw [← hW]; simp [go_sem]
    have s2 : W0.cell? ⟨w.heap.size, 1, none⟩ = some (.int .i64 m1) := by rw [← hW]; simp [go_sem]
    have s3 : W0.cell? ⟨w.heap.size, 2, none⟩ = some (.int .i64 m2) := by rw [← hW]; simp [go_sem]
    have s4 : W0.cell? ⟨w.heap.size, 3, none⟩ = some (.int .i64 m3) := by rw [← hW]; simp [go_sem]
    have s5 : W0.cell? ⟨w.heap.size, 4, none⟩ = some (.int .i64 m4) := by rw [← hW]; simp [go_sem]
    have s6 : W0.cell? ⟨w.heap.size, 5, none⟩ = some (.int .i64 m5) := by rw [← hW]; simp [go_sem]
    have s7 : W0.cell? ⟨w.heap.size + 1, 0, none⟩ = some (.int .i64 0) := by rw [← hW]; simp [go_sem]
    have s8 : W0.cell? ⟨w.heap.size + 1, 1, none⟩ = some (.int .i64 0) := by rw [← hW]; simp [go_sem]
    have f0 : W0.frozen? ⟨w.heap.size + 1, 0, none⟩ = false := by rw [← hW]; simp [go_sem]
    have f1 : W0.frozen? ⟨w.heap.size + 1, 1, none⟩ = false := by rw [← hW]; simp [go_sem]
    have sz : w.heap.size + 1 < W0.heap.size := by rw [← hW]; simp
    clear hW
    go_region_held3 (fun w' => w'.frozen? ⟨w.heap.size + 1, 0, none⟩ = false ∧ w'.frozen? ⟨w.heap.size + 1, 1, none⟩ = false ∧ w'.cell? ⟨w.heap.size, 0, none⟩ = some (.int .i64 m0) ∧ w'.cell? ⟨w.heap.size, 1, none⟩ = some (.int .i64 m1) ∧ w'.cell? ⟨w.heap.size, 2, none⟩ = some (.int .i64 m2) ∧ w'.cell? ⟨w.heap.size, 3, none⟩ = some (.int .i64 m3) ∧ w'.cell? ⟨w.heap.size, 4, none⟩ = some (.int .i64 m4) ∧ w'.cell? ⟨w.heap.size, 5, none⟩ = some (.int .i64 m5) ∧ w.heap.size + 1 < w'.heap.size)
      (first | ((try dsimp only); (repeat' apply And.intro); all_goals (first | assumption | omega | (simp (disch := first | omega | (simp; omega)) [*]; done) | (rw [cell_set_at _ _ (by first | omega | (simp; omega)), cell_set_at _ _ (by first | omega | (simp; omega))]; first | assumption | (simp (disch := first | omega | (simp; omega)) [*]; done)) | (simp; omega))) | fail)
      (first
        | (go_at_call 104; (with_reducible refine (CA.out _).mono ?_); rintro e wA ⟨rfl, hbwA⟩; obtain ⟨hcwA, hfwA⟩ := bcell hbwA; have hzwA := hbwA.size; (try simp only [World.size_drew] at hcwA hfwA hzwA); have qwA : w.heap.size + 1 < wA.heap.size := (by omega)))
    all_goals
      have ra := AtL.of2 s7 s8 sz
      have rb : AtL (w.heap.size + 1) [.int .i64 0, .int .i64 0] wA := by repeat' (first | with_reducible assumption | with_reducible exact AtL.new _ _ _ | (with_reducible refine AtL.drew ?_) | (with_reducible apply AtL.store2) | (with_reducible refine AtL.alloc ?_ _) | (with_reducible refine AtL.far ?_ ?_ _ _) | (with_reducible refine AtL.below ?_ (by with_reducible assumption)) | omega | (simp; done) | (simp; omega))
      have rc := rb.store2 (a := .int .i64 x) (b := .int .i64 y)
      have r0 := rc.cell 0 rfl
      have r1 := rc.cell 1 rfl
      clear ra rb rc
      go_wp2
      refine bodyPost_ret (v := .tuple #[.agg #[.int .i64 x, .int .i64 y], .int .i64 0]) (by simp [results, Try.results75, go_sem, r0, r1]) rfl (HR.out _ _ ?_)
      repeat' (first | with_reducible assumption | with_reducible exact Below.refl _ _ | (with_reducible refine Below.setCell ?_ ?_ _) | (with_reducible refine Below.alloc ?_ ?_ _) | (with_reducible refine Below.drew ?_) | (with_reducible refine below_dr ?_ _) | (with_reducible refine Below.trans ?_ (Below.mono (by with_reducible assumption) ?_)) | omega | (simp; done) | (simp; omega))
  · replace k1 : k ≤ 4 := k1
    have CA := Lib.hid (fun w => at3_any m0 m1 m2 m3 m4 m5 k 4 w HOK.out (by omega) (by omega) k0 k1)
    obtain ⟨x, hx⟩ : ∃ x, x = near (mix2 m0 m2 m4 k 4) (4 * 4) := ⟨_, rfl⟩
    obtain ⟨y, hy⟩ : ∃ y, y = near (mix2 m1 m3 m5 k 4) (4 * 4) := ⟨_, rfl⟩
    have HR := Lib.hid (show ∀ (w w' : World), Below w.heap.size w w' → CaRet true k 2 (near (mix2 m0 m2 m4 k (pw 2)) (pw 2 * pw 2)) (near (mix2 m1 m3 m5 k (pw 2)) (pw 2 * pw 2)) w (.returned (.tuple #[.agg #[.int .i64 x, .int .i64 y], .int .i64 0])) w' from fun w w' hb => by rw [show pw 2 = 4 from by decide, hx, hy]; exact CaRet.t rfl HQ.out hb)
    rw [← hx, ← hy] at CA
    have hk2 : decide (4 < k) = false := by simp; omega
    have hwN : IntKind.i64.wrap 4 = 4 := IntWalk.i64_in _ (by omega)
    clear hx hy k0 k1 l0 l6
    go_enter Try.func75, Try.ntmps75
    go_wp2_with fail
    generalize hW : ((w.alloc (.cells #[.int .i64 m0, .int .i64 m1, .int .i64 m2, .int .i64 m3, .int .i64 m4, .int .i64 m5] 112)).alloc (.cells #[.int .i64 0, .int .i64 0] 27)) = W0
    have g0 : Below w.heap.size w W0 := by rw [← hW]; repeat' (first | assumption | exact Below.refl _ _ | (refine Below.setCell ?_ ?_ _) | (refine Below.alloc ?_ ?_ _) | (refine below_dr ?_ _) | exact Nat.le_refl _ | (simp; done) | (simp; omega))
    have s1 : W0.cell? ⟨w.heap.size, 0, none⟩ = some (.int .i64 m0) := by rw [← hW]; simp [go_sem]
    have s2 : W0.cell? ⟨w.heap.size, 1, none⟩ = some (.int .i64 m1) := by rw [← hW]; simp [go_sem]
    have s3 : W0.cell? ⟨w.heap.size, 2, none⟩ = some (.int .i64 m2) := by rw [← hW]; simp [go_sem]
    have s4 : W0.cell? ⟨w.heap.size, 3, none⟩ = some (.int .i64 m3) := by rw [← hW]; simp [go_sem]
    have s5 : W0.cell? ⟨w.heap.size, 4, none⟩ = some (.int .i64 m4) := by rw [← hW]; simp [go_sem]
    have s6 : W0.cell? ⟨w.heap.size, 5, none⟩ = some (.int .i64 m5) := by rw [← hW]; simp [go_sem]
    have s7 : W0.cell? ⟨w.heap.size + 1, 0, none⟩ = some (.int .i64 0) := by rw [← hW]; simp [go_sem]
    have s8 : W0.cell? ⟨w.heap.size + 1, 1, none⟩ = some (.int .i64 0) := by rw [← hW]; simp [go_sem]
    have f0 : W0.frozen? ⟨w.heap.size + 1, 0, none⟩ = false := by rw [← hW]; simp [go_sem]
    have f1 : W0.frozen? ⟨w.heap.size + 1, 1, none⟩ = false := by rw [← hW]; simp [go_sem]
    have sz : w.heap.size + 1 < W0.heap.size := by rw [← hW]; simp
    clear hW
    go_region_held3 (fun w' => w'.frozen? ⟨w.heap.size + 1, 0, none⟩ = false ∧ w'.frozen? ⟨w.heap.size + 1, 1, none⟩ = false ∧ w'.cell? ⟨w.heap.size, 0, none⟩ = some (.int .i64 m0) ∧ w'.cell? ⟨w.heap.size, 1, none⟩ = some (.int .i64 m1) ∧ w'.cell? ⟨w.heap.size, 2, none⟩ = some (.int .i64 m2) ∧ w'.cell? ⟨w.heap.size, 3, none⟩ = some (.int .i64 m3) ∧ w'.cell? ⟨w.heap.size, 4, none⟩ = some (.int .i64 m4) ∧ w'.cell? ⟨w.heap.size, 5, none⟩ = some (.int .i64 m5) ∧ w.heap.size + 1 < w'.heap.size)
      (first | ((try dsimp only); (repeat' apply And.intro); all_goals (first | assumption | omega | (simp (disch := first | omega | (simp; omega)) [*]; done) | (rw [cell_set_at _ _ (by first | omega | (simp; omega)), cell_set_at _ _ (by first | omega | (simp; omega))]; first | assumption | (simp (disch := first | omega | (simp; omega)) [*]; done)) | (simp; omega))) | fail)
      (first
        | (go_at_call 104; (with_reducible refine (CA.out _).mono ?_); rintro e wA ⟨rfl, hbwA⟩; obtain ⟨hcwA, hfwA⟩ := bcell hbwA; have hzwA := hbwA.size; (try simp only [World.size_drew] at hcwA hfwA hzwA); have qwA : w.heap.size + 1 < wA.heap.size := (by omega)))
    all_goals
      have ra := AtL.of2 s7 s8 sz
      have rb : AtL (w.heap.size + 1) [.int .i64 0, .int .i64 0] wA := by repeat' (first | with_reducible assumption | with_reducible exact AtL.new _ _ _ | (with_reducible refine AtL.drew ?_) | (with_reducible apply AtL.store2) | (with_reducible refine AtL.alloc ?_ _) | (with_reducible refine AtL.far ?_ ?_ _ _) | (with_reducible refine AtL.below ?_ (by with_reducible assumption)) | omega | (simp; done) | (simp; omega))
      have rc := rb.store2 (a := .int .i64 x) (b := .int .i64 y)
      have r0 := rc.cell 0 rfl
      have r1 := rc.cell 1 rfl
      clear ra rb rc
      go_wp2
      refine bodyPost_ret (v := .tuple #[.agg #[.int .i64 x, .int .i64 y], .int .i64 0]) (by simp [results, Try.results75, go_sem, r0, r1]) rfl (HR.out _ _ ?_)
      repeat' (first | with_reducible assumption | with_reducible exact Below.refl _ _ | (with_reducible refine Below.setCell ?_ ?_ _) | (with_reducible refine Below.alloc ?_ ?_ _) | (with_reducible refine Below.drew ?_) | (with_reducible refine below_dr ?_ _) | (with_reducible refine Below.trans ?_ (Below.mono (by with_reducible assumption) ?_)) | omega | (simp; done) | (simp; omega))
  · replace k1 : k ≤ 8 := k1
    have CA := Lib.hid (fun w => at3_any m0 m1 m2 m3 m4 m5 k 8 w HOK.out (by omega) (by omega) k0 k1)
    obtain ⟨x, hx⟩ : ∃ x, x = near (mix2 m0 m2 m4 k 8) (8 * 8) := ⟨_, rfl⟩
    obtain ⟨y, hy⟩ : ∃ y, y = near (mix2 m1 m3 m5 k 8) (8 * 8) := ⟨_, rfl⟩
    have HR := Lib.hid (show ∀ (w w' : World), Below w.heap.size w w' → CaRet true k 3 (near (mix2 m0 m2 m4 k (pw 3)) (pw 3 * pw 3)) (near (mix2 m1 m3 m5 k (pw 3)) (pw 3 * pw 3)) w (.returned (.tuple #[.agg #[.int .i64 x, .int .i64 y], .int .i64 0])) w' from fun w w' hb => by rw [show pw 3 = 8 from by decide, hx, hy]; exact CaRet.t rfl HQ.out hb)
    rw [← hx, ← hy] at CA
    have hk2 : decide (8 < k) = false := by simp; omega
    have hwN : IntKind.i64.wrap 8 = 8 := IntWalk.i64_in _ (by omega)
    clear hx hy k0 k1 l0 l6
    go_enter Try.func75, Try.ntmps75
    go_wp2_with fail
    generalize hW : ((w.alloc (.cells #[.int .i64 m0, .int .i64 m1, .int .i64 m2, .int .i64 m3, .int .i64 m4, .int .i64 m5] 112)).alloc (.cells #[.int .i64 0, .int .i64 0] 27)) = W0
    have g0 : Below w.heap.size w W0 := by rw [← hW]; repeat' (first | assumption | exact Below.refl _ _ | (refine Below.setCell ?_ ?_ _) | (refine Below.alloc ?_ ?_ _) | (refine below_dr ?_ _) | exact Nat.le_refl _ | (simp; done) | (simp; omega))
    have s1 : W0.cell? ⟨w.heap.size, 0, none⟩ = some (.int .i64 m0) := by rw [← hW]; simp [go_sem]
    have s2 : W0.cell? ⟨w.heap.size, 1, none⟩ = some (.int .i64 m1) := by rw [← hW]; simp [go_sem]
    have s3 : W0.cell? ⟨w.heap.size, 2, none⟩ = some (.int .i64 m2) := by rw [← hW]; simp [go_sem]
    have s4 : W0.cell? ⟨w.heap.size, 3, none⟩ = some (.int .i64 m3) := by rw [← hW]; simp [go_sem]
    have s5 : W0.cell? ⟨w.heap.size, 4, none⟩ = some (.int .i64 m4) := by rw [← hW]; simp [go_sem]
    have s6 : W0.cell? ⟨w.heap.size, 5, none⟩ = some (.int .i64 m5) := by rw [← hW]; simp [go_sem]
    have s7 : W0.cell? ⟨w.heap.size + 1, 0, none⟩ = some (.int .i64 0) := by rw [← hW]; simp [go_sem]
    have s8 : W0.cell? ⟨w.heap.size + 1, 1, none⟩ = some (.int .i64 0) := by rw [← hW]; simp [go_sem]
    have f0 : W0.frozen? ⟨w.heap.size + 1, 0, none⟩ = false := by rw [← hW]; simp [go_sem]
    have f1 : W0.frozen? ⟨w.heap.size + 1, 1, none⟩ = false := by rw [← hW]; simp [go_sem]
    have sz : w.heap.size + 1 < W0.heap.size := by rw [← hW]; simp
    clear hW
    go_region_held3 (fun w' => w'.frozen? ⟨w.heap.size + 1, 0, none⟩ = false ∧ w'.frozen? ⟨w.heap.size + 1, 1, none⟩ = false ∧ w'.cell? ⟨w.heap.size, 0, none⟩ = some (.int .i64 m0) ∧ w'.cell? ⟨w.heap.size, 1, none⟩ = some (.int .i64 m1) ∧ w'.cell? ⟨w.heap.size, 2, none⟩ = some (.int .i64 m2) ∧ w'.cell? ⟨w.heap.size, 3, none⟩ = some (.int .i64 m3) ∧ w'.cell? ⟨w.heap.size, 4, none⟩ = some (.int .i64 m4) ∧ w'.cell? ⟨w.heap.size, 5, none⟩ = some (.int .i64 m5) ∧ w.heap.size + 1 < w'.heap.size)
      (first | ((try dsimp only); (repeat' apply And.intro); all_goals (first | assumption | omega | (simp (disch := first | omega | (simp; omega)) [*]; done) | (rw [cell_set_at _ _ (by first | omega | (simp; omega)), cell_set_at _ _ (by first | omega | (simp; omega))]; first | assumption | (simp (disch := first | omega | (simp; omega)) [*]; done)) | (simp; omega))) | fail)
      (first
        | (go_at_call 104; (with_reducible refine (CA.out _).mono ?_); rintro e wA ⟨rfl, hbwA⟩; obtain ⟨hcwA, hfwA⟩ := bcell hbwA; have hzwA := hbwA.size; (try simp only [World.size_drew] at hcwA hfwA hzwA); have qwA : w.heap.size + 1 < wA.heap.size := (by omega)))
    all_goals
      have ra := AtL.of2 s7 s8 sz
      have rb : AtL (w.heap.size + 1) [.int .i64 0, .int .i64 0] wA := by repeat' (first | with_reducible assumption | with_reducible exact AtL.new _ _ _ | (with_reducible refine AtL.drew ?_) | (with_reducible apply AtL.store2) | (with_reducible refine AtL.alloc ?_ _) | (with_reducible refine AtL.far ?_ ?_ _ _) | (with_reducible refine AtL.below ?_ (by with_reducible assumption)) | omega | (simp; done) | (simp; omega))
      have rc := rb.store2 (a := .int .i64 x) (b := .int .i64 y)
      have r0 := rc.cell 0 rfl
      have r1 := rc.cell 1 rfl
      clear ra rb rc
      go_wp2
      refine bodyPost_ret (v := .tuple #[.agg #[.int .i64 x, .int .i64 y], .int .i64 0]) (by simp [results, Try.results75, go_sem, r0, r1]) rfl (HR.out _ _ ?_)
      repeat' (first | with_reducible assumption | with_reducible exact Below.refl _ _ | (with_reducible refine Below.setCell ?_ ?_ _) | (with_reducible refine Below.alloc ?_ ?_ _) | (with_reducible refine Below.drew ?_) | (with_reducible refine below_dr ?_ _) | (with_reducible refine Below.trans ?_ (Below.mono (by with_reducible assumption) ?_)) | omega | (simp; done) | (simp; omega))
  · replace k1 : k ≤ 16 := k1
    have CA := Lib.hid (fun w => at3_any m0 m1 m2 m3 m4 m5 k 16 w HOK.out (by omega) (by omega) k0 k1)
    obtain ⟨x, hx⟩ : ∃ x, x = near (mix2 m0 m2 m4 k 16) (16 * 16) := ⟨_, rfl⟩
    obtain ⟨y, hy⟩ : ∃ y, y = near (mix2 m1 m3 m5 k 16) (16 * 16) := ⟨_, rfl⟩
    have HR := Lib.hid (show ∀ (w w' : World), Below w.heap.size w w' → CaRet true k 4 (near (mix2 m0 m2 m4 k (pw 4)) (pw 4 * pw 4)) (near (mix2 m1 m3 m5 k (pw 4)) (pw 4 * pw 4)) w (.returned (.tuple #[.agg #[.int .i64 x, .int .i64 y], .int .i64 0])) w' from fun w w' hb => by rw [show pw 4 = 16 from by decide, hx, hy]; exact CaRet.t rfl HQ.out hb)
    rw [← hx, ← hy] at CA
    have hk2 : decide (16 < k) = false := by simp; omega
    have hwN : IntKind.i64.wrap 16 = 16 := IntWalk.i64_in _ (by omega)
    clear hx hy k0 k1 l0 l6
    go_enter Try.func75, Try.ntmps75
    go_wp2_with fail
    generalize hW : ((w.alloc (.cells #[.int .i64 m0, .int .i64 m1, .int .i64 m2, .int .i64 m3, .int .i64 m4, .int .i64 m5] 112)).alloc (.cells #[.int .i64 0, .int .i64 0] 27)) = W0
    have g0 : Below w.heap.size w W0 := by rw [← hW]; repeat' (first | assumption | exact Below.refl _ _ | (refine Below.setCell ?_ ?_ _) | (refine Below.alloc ?_ ?_ _) | (refine below_dr ?_ _) | exact Nat.le_refl _ | (simp; done) | (simp; omega))
    have s1 : W0.cell? ⟨w.heap.size, 0, none⟩ = some (.int .i64 m0) := by rw [← hW]; simp [go_sem]
    have s2 : W0.cell? ⟨w.heap.size, 1, none⟩ = some (.int .i64 m1) := by rw [← hW]; simp [go_sem]
    have s3 : W0.cell? ⟨w.heap.size, 2, none⟩ = some (.int .i64 m2) := by rw [← hW]; simp [go_sem]
    have s4 : W0.cell? ⟨w.heap.size, 3, none⟩ = some (.int .i64 m3) := by rw [← hW]; simp [go_sem]
    have s5 : W0.cell? ⟨w.heap.size, 4, none⟩ = some (.int .i64 m4) := by rw [← hW]; simp [go_sem]
    have s6 : W0.cell? ⟨w.heap.size, 5, none⟩ = some (.int .i64 m5) := by rw [← hW]; simp [go_sem]
    have s7 : W0.cell? ⟨w.heap.size + 1, 0, none⟩ = some (.int .i64 0) := by rw [← hW]; simp [go_sem]
    have s8 : W0.cell? ⟨w.heap.size + 1, 1, none⟩ = some (.int .i64 0) := by rw [← hW]; simp [go_sem]
    have f0 : W0.frozen? ⟨w.heap.size + 1, 0, none⟩ = false := by rw [← hW]; simp [go_sem]
    have f1 : W0.frozen? ⟨w.heap.size + 1, 1, none⟩ = false := by rw [← hW]; simp [go_sem]
    have sz : w.heap.size + 1 < W0.heap.size := by rw [← hW]; simp
    clear hW
    go_region_held3 (fun w' => w'.frozen? ⟨w.heap.size + 1, 0, none⟩ = false ∧ w'.frozen? ⟨w.heap.size + 1, 1, none⟩ = false ∧ w'.cell? ⟨w.heap.size, 0, none⟩ = some (.int .i64 m0) ∧ w'.cell? ⟨w.heap.size, 1, none⟩ = some (.int .i64 m1) ∧ w'.cell? ⟨w.heap.size, 2, none⟩ = some (.int .i64 m2) ∧ w'.cell? ⟨w.heap.size, 3, none⟩ = some (.int .i64 m3) ∧ w'.cell? ⟨w.heap.size, 4, none⟩ = some (.int .i64 m4) ∧ w'.cell? ⟨w.heap.size, 5, none⟩ = some (.int .i64 m5) ∧ w.heap.size + 1 < w'.heap.size)
      (first | ((try dsimp only); (repeat' apply And.intro); all_goals (first | assumption | omega | (simp (disch := first | omega | (simp; omega)) [*]; done) | (rw [cell_set_at _ _ (by first | omega | (simp; omega)), cell_set_at _ _ (by first | omega | (simp; omega))]; first | assumption | (simp (disch := first | omega | (simp; omega)) [*]; done)) | (simp; omega))) | fail)
      (first
        | (go_at_call 104; (with_reducible refine (CA.out _).mono ?_); rintro e wA ⟨rfl, hbwA⟩; obtain ⟨hcwA, hfwA⟩ := bcell hbwA; have hzwA := hbwA.size; (try simp only [World.size_drew] at hcwA hfwA hzwA); have qwA : w.heap.size + 1 < wA.heap.size := (by omega)))
    all_goals
      have ra := AtL.of2 s7 s8 sz
      have rb : AtL (w.heap.size + 1) [.int .i64 0, .int .i64 0] wA := by repeat' (first | with_reducible assumption | with_reducible exact AtL.new _ _ _ | (with_reducible refine AtL.drew ?_) | (with_reducible apply AtL.store2) | (with_reducible refine AtL.alloc ?_ _) | (with_reducible refine AtL.far ?_ ?_ _ _) | (with_reducible refine AtL.below ?_ (by with_reducible assumption)) | omega | (simp; done) | (simp; omega))
      have rc := rb.store2 (a := .int .i64 x) (b := .int .i64 y)
      have r0 := rc.cell 0 rfl
      have r1 := rc.cell 1 rfl
      clear ra rb rc
      go_wp2
      refine bodyPost_ret (v := .tuple #[.agg #[.int .i64 x, .int .i64 y], .int .i64 0]) (by simp [results, Try.results75, go_sem, r0, r1]) rfl (HR.out _ _ ?_)
      repeat' (first | with_reducible assumption | with_reducible exact Below.refl _ _ | (with_reducible refine Below.setCell ?_ ?_ _) | (with_reducible refine Below.alloc ?_ ?_ _) | (with_reducible refine Below.drew ?_) | (with_reducible refine below_dr ?_ _) | (with_reducible refine Below.trans ?_ (Below.mono (by with_reducible assumption) ?_)) | omega | (simp; done) | (simp; omega))
  · replace k1 : k ≤ 32 := k1
    have CA := Lib.hid (fun w => at3_any m0 m1 m2 m3 m4 m5 k 32 w HOK.out (by omega) (by omega) k0 k1)
    obtain ⟨x, hx⟩ : ∃ x, x = near (mix2 m0 m2 m4 k 32) (32 * 32) := ⟨_, rfl⟩
    obtain ⟨y, hy⟩ : ∃ y, y = near (mix2 m1 m3 m5 k 32) (32 * 32) := ⟨_, rfl⟩
    have HR := Lib.hid (show ∀ (w w' : World), Below w.heap.size w w' → CaRet true k 5 (near (mix2 m0 m2 m4 k (pw 5)) (pw 5 * pw 5)) (near (mix2 m1 m3 m5 k (pw 5)) (pw 5 * pw 5)) w (.returned (.tuple #[.agg #[.int .i64 x, .int .i64 y], .int .i64 0])) w' from fun w w' hb => by rw [show pw 5 = 32 from by decide, hx, hy]; exact CaRet.t rfl HQ.out hb)
    rw [← hx, ← hy] at CA
    have hk2 : decide (32 < k) = false := by simp; omega
    have hwN : IntKind.i64.wrap 32 = 32 := IntWalk.i64_in _ (by omega)
    clear hx hy k0 k1 l0 l6
    go_enter Try.func75, Try.ntmps75
    go_wp2_with fail
    generalize hW : ((w.alloc (.cells #[.int .i64 m0, .int .i64 m1, .int .i64 m2, .int .i64 m3, .int .i64 m4, .int .i64 m5] 112)).alloc (.cells #[.int .i64 0, .int .i64 0] 27)) = W0
    have g0 : Below w.heap.size w W0 := by rw [← hW]; repeat' (first | assumption | exact Below.refl _ _ | (refine Below.setCell ?_ ?_ _) | (refine Below.alloc ?_ ?_ _) | (refine below_dr ?_ _) | exact Nat.le_refl _ | (simp; done) | (simp; omega))
    have s1 : W0.cell? ⟨w.heap.size, 0, none⟩ = some (.int .i64 m0) := by rw [← hW]; simp [go_sem]
    have s2 : W0.cell? ⟨w.heap.size, 1, none⟩ = some (.int .i64 m1) := by rw [← hW]; simp [go_sem]
    have s3 : W0.cell? ⟨w.heap.size, 2, none⟩ = some (.int .i64 m2) := by rw [← hW]; simp [go_sem]
    have s4 : W0.cell? ⟨w.heap.size, 3, none⟩ = some (.int .i64 m3) := by rw [← hW]; simp [go_sem]
    have s5 : W0.cell? ⟨w.heap.size, 4, none⟩ = some (.int .i64 m4) := by rw [← hW]; simp [go_sem]
    have s6 : W0.cell? ⟨w.heap.size, 5, none⟩ = some (.int .i64 m5) := by rw [← hW]; simp [go_sem]
    have s7 : W0.cell? ⟨w.heap.size + 1, 0, none⟩ = some (.int .i64 0) := by rw [← hW]; simp [go_sem]
    have s8 : W0.cell? ⟨w.heap.size + 1, 1, none⟩ = some (.int .i64 0) := by rw [← hW]; simp [go_sem]
    have f0 : W0.frozen? ⟨w.heap.size + 1, 0, none⟩ = false := by rw [← hW]; simp [go_sem]
    have f1 : W0.frozen? ⟨w.heap.size + 1, 1, none⟩ = false := by rw [← hW]; simp [go_sem]
    have sz : w.heap.size + 1 < W0.heap.size := by rw [← hW]; simp
    clear hW
    go_region_held3 (fun w' => w'.frozen? ⟨w.heap.size + 1, 0, none⟩ = false ∧ w'.frozen? ⟨w.heap.size + 1, 1, none⟩ = false ∧ w'.cell? ⟨w.heap.size, 0, none⟩ = some (.int .i64 m0) ∧ w'.cell? ⟨w.heap.size, 1, none⟩ = some (.int .i64 m1) ∧ w'.cell? ⟨w.heap.size, 2, none⟩ = some (.int .i64 m2) ∧ w'.cell? ⟨w.heap.size, 3, none⟩ = some (.int .i64 m3) ∧ w'.cell? ⟨w.heap.size, 4, none⟩ = some (.int .i64 m4) ∧ w'.cell? ⟨w.heap.size, 5, none⟩ = some (.int .i64 m5) ∧ w.heap.size + 1 < w'.heap.size)
      (first | ((try dsimp only); (repeat' apply And.intro); all_goals (first | assumption | omega | (simp (disch := first | omega | (simp; omega)) [*]; done) | (rw [cell_set_at _ _ (by first | omega | (simp; omega)), cell_set_at _ _ (by first | omega | (simp; omega))]; first | assumption | (simp (disch := first | omega | (simp; omega)) [*]; done)) | (simp; omega))) | fail)
      (first
        | (go_at_call 104; (with_reducible refine (CA.out _).mono ?_); rintro e wA ⟨rfl, hbwA⟩; obtain ⟨hcwA, hfwA⟩ := bcell hbwA; have hzwA := hbwA.size; (try simp only [World.size_drew] at hcwA hfwA hzwA); have qwA : w.heap.size + 1 < wA.heap.size := (by omega)))
    all_goals
      have ra := AtL.of2 s7 s8 sz
      have rb : AtL (w.heap.size + 1) [.int .i64 0, .int .i64 0] wA := by repeat' (first | with_reducible assumption | with_reducible exact AtL.new _ _ _ | (with_reducible refine AtL.drew ?_) | (with_reducible apply AtL.store2) | (with_reducible refine AtL.alloc ?_ _) | (with_reducible refine AtL.far ?_ ?_ _ _) | (with_reducible refine AtL.below ?_ (by with_reducible assumption)) | omega | (simp; done) | (simp; omega))
      have rc := rb.store2 (a := .int .i64 x) (b := .int .i64 y)
      have r0 := rc.cell 0 rfl
      have r1 := rc.cell 1 rfl
      clear ra rb rc
      go_wp2
      refine bodyPost_ret (v := .tuple #[.agg #[.int .i64 x, .int .i64 y], .int .i64 0]) (by simp [results, Try.results75, go_sem, r0, r1]) rfl (HR.out _ _ ?_)
      repeat' (first | with_reducible assumption | with_reducible exact Below.refl _ _ | (with_reducible refine Below.setCell ?_ ?_ _) | (with_reducible refine Below.alloc ?_ ?_ _) | (with_reducible refine Below.drew ?_) | (with_reducible refine below_dr ?_ _) | (with_reducible refine Below.trans ?_ (Below.mono (by with_reducible assumption) ?_)) | omega | (simp; done) | (simp; omega))
  · replace k1 : k ≤ 64 := k1
    have CA := Lib.hid (fun w => at3_any m0 m1 m2 m3 m4 m5 k 64 w HOK.out (by omega) (by omega) k0 k1)
    obtain ⟨x, hx⟩ : ∃ x, x = near (mix2 m0 m2 m4 k 64) (64 * 64) := ⟨_, rfl⟩
    obtain ⟨y, hy⟩ : ∃ y, y = near (mix2 m1 m3 m5 k 64) (64 * 64) := ⟨_, rfl⟩
    have HR := Lib.hid (show ∀ (w w' : World), Below w.heap.size w w' → CaRet true k 6 (near (mix2 m0 m2 m4 k (pw 6)) (pw 6 * pw 6)) (near (mix2 m1 m3 m5 k (pw 6)) (pw 6 * pw 6)) w (.returned (.tuple #[.agg #[.int .i64 x, .int .i64 y], .int .i64 0])) w' from fun w w' hb => by rw [show pw 6 = 64 from by decide, hx, hy]; exact CaRet.t rfl HQ.out hb)
    rw [← hx, ← hy] at CA
    have hk2 : decide (64 < k) = false := by simp; omega
    have hwN : IntKind.i64.wrap 64 = 64 := IntWalk.i64_in _ (by omega)
    clear hx hy k0 k1 l0 l6
    go_enter Try.func75, Try.ntmps75
    go_wp2_with fail
    generalize hW : ((w.alloc (.cells #[.int .i64 m0, .int .i64 m1, .int .i64 m2, .int .i64 m3, .int .i64 m4, .int .i64 m5] 112)).alloc (.cells #[.int .i64 0, .int .i64 0] 27)) = W0
    have g0 : Below w.heap.size w W0 := by rw [← hW]; repeat' (first | assumption | exact Below.refl _ _ | (refine Below.setCell ?_ ?_ _) | (refine Below.alloc ?_ ?_ _) | (refine below_dr ?_ _) | exact Nat.le_refl _ | (simp; done) | (simp; omega))
    have s1 : W0.cell? ⟨w.heap.size, 0, none⟩ = some (.int .i64 m0) := by rw [← hW]; simp [go_sem]
    have s2 : W0.cell? ⟨w.heap.size, 1, none⟩ = some (.int .i64 m1) := by rw [← hW]; simp [go_sem]
    have s3 : W0.cell? ⟨w.heap.size, 2, none⟩ = some (.int .i64 m2) := by rw [← hW]; simp [go_sem]
    have s4 : W0.cell? ⟨w.heap.size, 3, none⟩ = some (.int .i64 m3) := by rw [← hW]; simp [go_sem]
    have s5 : W0.cell? ⟨w.heap.size, 4, none⟩ = some (.int .i64 m4) := by rw [← hW]; simp [go_sem]
    have s6 : W0.cell? ⟨w.heap.size, 5, none⟩ = some (.int .i64 m5) := by rw [← hW]; simp [go_sem]
    have s7 : W0.cell? ⟨w.heap.size + 1, 0, none⟩ = some (.int .i64 0) := by rw [← hW]; simp [go_sem]
    have s8 : W0.cell? ⟨w.heap.size + 1, 1, none⟩ = some (.int .i64 0) := by rw [← hW]; simp [go_sem]
    have f0 : W0.frozen? ⟨w.heap.size + 1, 0, none⟩ = false := by rw [← hW]; simp [go_sem]
    have f1 : W0.frozen? ⟨w.heap.size + 1, 1, none⟩ = false := by rw [← hW]; simp [go_sem]
    have sz : w.heap.size + 1 < W0.heap.size := by rw [← hW]; simp
    clear hW
    go_region_held3 (fun w' => w'.frozen? ⟨w.heap.size + 1, 0, none⟩ = false ∧ w'.frozen? ⟨w.heap.size + 1, 1, none⟩ = false ∧ w'.cell? ⟨w.heap.size, 0, none⟩ = some (.int .i64 m0) ∧ w'.cell? ⟨w.heap.size, 1, none⟩ = some (.int .i64 m1) ∧ w'.cell? ⟨w.heap.size, 2, none⟩ = some (.int .i64 m2) ∧ w'.cell? ⟨w.heap.size, 3, none⟩ = some (.int .i64 m3) ∧ w'.cell? ⟨w.heap.size, 4, none⟩ = some (.int .i64 m4) ∧ w'.cell? ⟨w.heap.size, 5, none⟩ = some (.int .i64 m5) ∧ w.heap.size + 1 < w'.heap.size)
      (first | ((try dsimp only); (repeat' apply And.intro); all_goals (first | assumption | omega | (simp (disch := first | omega | (simp; omega)) [*]; done) | (rw [cell_set_at _ _ (by first | omega | (simp; omega)), cell_set_at _ _ (by first | omega | (simp; omega))]; first | assumption | (simp (disch := first | omega | (simp; omega)) [*]; done)) | (simp; omega))) | fail)
      (first
        | (go_at_call 104; (with_reducible refine (CA.out _).mono ?_); rintro e wA ⟨rfl, hbwA⟩; obtain ⟨hcwA, hfwA⟩ := bcell hbwA; have hzwA := hbwA.size; (try simp only [World.size_drew] at hcwA hfwA hzwA); have qwA : w.heap.size + 1 < wA.heap.size := (by omega)))
    all_goals
      have ra := AtL.of2 s7 s8 sz
      have rb : AtL (w.heap.size + 1) [.int .i64 0, .int .i64 0] wA := by repeat' (first | with_reducible assumption | with_reducible exact AtL.new _ _ _ | (with_reducible refine AtL.drew ?_) | (with_reducible apply AtL.store2) | (with_reducible refine AtL.alloc ?_ _) | (with_reducible refine AtL.far ?_ ?_ _ _) | (with_reducible refine AtL.below ?_ (by with_reducible assumption)) | omega | (simp; done) | (simp; omega))
      have rc := rb.store2 (a := .int .i64 x) (b := .int .i64 y)
      have r0 := rc.cell 0 rfl
      have r1 := rc.cell 1 rfl
      clear ra rb rc
      go_wp2
      refine bodyPost_ret (v := .tuple #[.agg #[.int .i64 x, .int .i64 y], .int .i64 0]) (by simp [results, Try.results75, go_sem, r0, r1]) rfl (HR.out _ _ ?_)
      repeat' (first | with_reducible assumption | with_reducible exact Below.refl _ _ | (with_reducible refine Below.setCell ?_ ?_ _) | (with_reducible refine Below.alloc ?_ ?_ _) | (with_reducible refine Below.drew ?_) | (with_reducible refine below_dr ?_ _) | (with_reducible refine Below.trans ?_ (Below.mono (by with_reducible assumption) ?_)) | omega | (simp; done) | (simp; omega))
set_option maxRecDepth 100000 in
set_option maxHeartbeats 6400000 in
theorem implQuadAt_any (m0 m1 m2 m3 m4 m5 k level : Int) (w : World) (w_k : -9223372036854775808 ≤ k ∧ k ≤ 9223372036854775807) (w_l : -9223372036854775808 ≤ level ∧ level ≤ 9223372036854775807) :
    Calls Try.prog 34 #[.agg #[.int .i64 m0, .int .i64 m1, .int .i64 m2, .int .i64 m3, .int .i64 m4, .int .i64 m5], .int .i64 k, .int .i64 level] w (CaRet (okQ m0 m1 m2 m3 m4 m5) k level (near (mix2 m0 m2 m4 k (pw level)) (pw level * pw level)) (near (mix2 m1 m3 m5 k (pw level)) (pw level * pw level)) w) := by
  rcases hv : okQ m0 m1 m2 m3 m4 m5 with _ | _
  case false =>
    have HV := Lib.hid hv
    clear hv w_k w_l
    go_enter Try.func34, Try.ntmps34
    go_wp2_with fail
    refine (implQuad_any m0 m1 m2 m3 m4 m5 _).mono ?_
    rw [HV.out]; rintro e w1 ⟨rfl, hbw1⟩
    have g1 : Below w.heap.size w w1 := (by repeat' (first | with_reducible assumption | with_reducible exact Below.refl _ _ | (with_reducible refine Below.setCell ?_ ?_ _) | (with_reducible refine Below.alloc ?_ ?_ _) | (with_reducible refine Below.drew ?_) | (with_reducible refine below_dr ?_ _) | (with_reducible refine Below.trans ?_ (Below.mono (by with_reducible assumption) ?_)) | omega | (simp; done) | (simp; omega)))
    obtain ⟨hcw1, hfw1⟩ := bcell hbw1
    have hzw1 := hbw1.size
    (try simp only [World.size_alloc] at hcw1 hfw1 hzw1)
    have s1 : w1.cell? ⟨w.heap.size, 0, none⟩ = some (.int .i64 m0) := (hcw1 _ _ (by omega)).trans (by first | assumption | (refine (cell_alloc_at _ _ ?_).trans ?_; omega; assumption) | (simp [go_sem]; done) | (simp [go_sem, *]; done))
    have s2 : w1.cell? ⟨w.heap.size, 1, none⟩ = some (.int .i64 m1) := (hcw1 _ _ (by omega)).trans (by first | assumption | (refine (cell_alloc_at _ _ ?_).trans ?_; omega; assumption) | (simp [go_sem]; done) | (simp [go_sem, *]; done))
    have s3 : w1.cell? ⟨w.heap.size, 2, none⟩ = some (.int .i64 m2) := (hcw1 _ _ (by omega)).trans (by first | assumption | (refine (cell_alloc_at _ _ ?_).trans ?_; omega; assumption) | (simp [go_sem]; done) | (simp [go_sem, *]; done))
    have s4 : w1.cell? ⟨w.heap.size, 3, none⟩ = some (.int .i64 m3) := (hcw1 _ _ (by omega)).trans (by first | assumption | (refine (cell_alloc_at _ _ ?_).trans ?_; omega; assumption) | (simp [go_sem]; done) | (simp [go_sem, *]; done))
    have s5 : w1.cell? ⟨w.heap.size, 4, none⟩ = some (.int .i64 m4) := (hcw1 _ _ (by omega)).trans (by first | assumption | (refine (cell_alloc_at _ _ ?_).trans ?_; omega; assumption) | (simp [go_sem]; done) | (simp [go_sem, *]; done))
    have s6 : w1.cell? ⟨w.heap.size, 5, none⟩ = some (.int .i64 m5) := (hcw1 _ _ (by omega)).trans (by first | assumption | (refine (cell_alloc_at _ _ ?_).trans ?_; omega; assumption) | (simp [go_sem]; done) | (simp [go_sem, *]; done))
    have s7 : w1.cell? ⟨w.heap.size + 1, 0, none⟩ = some (.int .i64 0) := (hcw1 _ _ (by omega)).trans (by first | assumption | (refine (cell_alloc_at _ _ ?_).trans ?_; omega; assumption) | (simp [go_sem]; done) | (simp [go_sem, *]; done))
    have s8 : w1.cell? ⟨w.heap.size + 1, 1, none⟩ = some (.int .i64 0) := (hcw1 _ _ (by omega)).trans (by first | assumption | (refine (cell_alloc_at _ _ ?_).trans ?_; omega; assumption) | (simp [go_sem]; done) | (simp [go_sem, *]; done))
    have szq0 : w.heap.size < w1.heap.size := (by omega)
    have sz : w.heap.size + 1 < w1.heap.size := (by omega)
    have fs10 : w1.frozen? ⟨w.heap.size + 1, 0, none⟩ = false := (hfw1 _ _ (by omega)).trans (by first | assumption | (refine (World.frozen?_alloc_old _ _ _ ?_).trans ?_; (simp; omega); assumption) | (simp [go_sem]; done) | (simp [go_sem, *]; done))
    have fs11 : w1.frozen? ⟨w.heap.size + 1, 1, none⟩ = false := (hfw1 _ _ (by omega)).trans (by first | assumption | (refine (World.frozen?_alloc_old _ _ _ ?_).trans ?_; (simp; omega); assumption) | (simp [go_sem]; done) | (simp [go_sem, *]; done))
    clear hcw1 hfw1 hzw1
    have ra := AtL.of2 s7 s8 sz
    have rb : AtL (w.heap.size + 1) [.int .i64 0, .int .i64 0] w1 := by repeat' (first | with_reducible assumption | with_reducible exact AtL.new _ _ _ | (with_reducible refine AtL.drew ?_) | (with_reducible apply AtL.store2) | (with_reducible refine AtL.alloc ?_ _) | (with_reducible refine AtL.far ?_ ?_ _ _) | (with_reducible refine AtL.below ?_ (by with_reducible assumption)) | omega | (simp; done) | (simp; omega))
    have rc := rb.store2 (a := .int .i64 0) (b := .int .i64 0)
    have r0 := rc.cell 0 rfl
    have r1 := rc.cell 1 rfl
    clear ra rb rc
    go_wp2
    refine bodyPost_ret (v := .tuple #[.agg #[.int .i64 0, .int .i64 0], .int .i64 1]) (by simp [results, Try.results34, go_sem, r0, r1]) rfl (CaRet.f rfl ?_)
    repeat' (first | with_reducible assumption | with_reducible exact Below.refl _ _ | (with_reducible refine Below.setCell ?_ ?_ _) | (with_reducible refine Below.alloc ?_ ?_ _) | (with_reducible refine Below.drew ?_) | (with_reducible refine below_dr ?_ _) | (with_reducible refine Below.trans ?_ (Below.mono (by with_reducible assumption) ?_)) | omega | (simp; done) | (simp; omega))
  have HV := Lib.hid hv
  have CA := Lib.hid (fun w => atLevel3_any m0 m1 m2 m3 m4 m5 k level w hv w_k w_l)
  clear hv w_k w_l
  unfold CaRet at CA
  have HR := Lib.hid (show ∀ (w w' : World), Below w.heap.size w w' → CaRet true k level (near (mix2 m0 m2 m4 k (pw level)) (pw level * pw level)) (near (mix2 m1 m3 m5 k (pw level)) (pw level * pw level)) w (.returned (.tuple #[.agg #[.int .i64 (caV true k level (near (mix2 m0 m2 m4 k (pw level)) (pw level * pw level))), .int .i64 (caV true k level (near (mix2 m1 m3 m5 k (pw level)) (pw level * pw level)))], .int .i64 (caC true k level)])) w' from fun w w' hb => ⟨rfl, hb⟩)
  obtain ⟨x, hx⟩ : ∃ x, x = caV true k level (near (mix2 m0 m2 m4 k (pw level)) (pw level * pw level)) := ⟨_, rfl⟩
  obtain ⟨y, hy⟩ : ∃ y, y = caV true k level (near (mix2 m1 m3 m5 k (pw level)) (pw level * pw level)) := ⟨_, rfl⟩
  obtain ⟨cc, hcc⟩ : ∃ cc, cc = caC true k level := ⟨_, rfl⟩
  rw [← hx, ← hy, ← hcc] at CA HR
  clear hx hy hcc
  go_enter Try.func34, Try.ntmps34
  go_wp2_with fail
  refine (implQuad_any m0 m1 m2 m3 m4 m5 _).mono ?_
  rw [HV.out]; rintro e w1 ⟨rfl, hbw1⟩
  have g1 : Below w.heap.size w w1 := (by repeat' (first | with_reducible assumption | with_reducible exact Below.refl _ _ | (with_reducible refine Below.setCell ?_ ?_ _) | (with_reducible refine Below.alloc ?_ ?_ _) | (with_reducible refine Below.drew ?_) | (with_reducible refine below_dr ?_ _) | (with_reducible refine Below.trans ?_ (Below.mono (by with_reducible assumption) ?_)) | omega | (simp; done) | (simp; omega)))
  obtain ⟨hcw1, hfw1⟩ := bcell hbw1
  have hzw1 := hbw1.size
  (try simp only [World.size_alloc] at hcw1 hfw1 hzw1)
  have s1 : w1.cell? ⟨w.heap.size, 0, none⟩ = some (.int .i64 m0) := (hcw1 _ _ (by omega)).trans (by first | assumption | (refine (cell_alloc_at _ _ ?_).trans ?_; omega; assumption) | (simp [go_sem]; done) | (simp [go_sem, *]; done))
  have s2 : w1.cell? ⟨w.heap.size, 1, none⟩ = some (.int .i64 m1) := (hcw1 _ _ (by omega)).trans (by first | assumption | (refine (cell_alloc_at _ _ ?_).trans ?_; omega; assumption) | (simp [go_sem]; done) | (simp [go_sem, *]; done))
  have s3 : w1.cell? ⟨w.heap.size, 2, none⟩ = some (.int .i64 m2) := (hcw1 _ _ (by omega)).trans (by first | assumption | (refine (cell_alloc_at _ _ ?_).trans ?_; omega; assumption) | (simp [go_sem]; done) | (simp [go_sem, *]; done))
  have s4 : w1.cell? ⟨w.heap.size, 3, none⟩ = some (.int .i64 m3) := (hcw1 _ _ (by omega)).trans (by first | assumption | (refine (cell_alloc_at _ _ ?_).trans ?_; omega; assumption) | (simp [go_sem]; done) | (simp [go_sem, *]; done))
  have s5 : w1.cell? ⟨w.heap.size, 4, none⟩ = some (.int .i64 m4) := (hcw1 _ _ (by omega)).trans (by first | assumption | (refine (cell_alloc_at _ _ ?_).trans ?_; omega; assumption) | (simp [go_sem]; done) | (simp [go_sem, *]; done))
  have s6 : w1.cell? ⟨w.heap.size, 5, none⟩ = some (.int .i64 m5) := (hcw1 _ _ (by omega)).trans (by first | assumption | (refine (cell_alloc_at _ _ ?_).trans ?_; omega; assumption) | (simp [go_sem]; done) | (simp [go_sem, *]; done))
  have s7 : w1.cell? ⟨w.heap.size + 1, 0, none⟩ = some (.int .i64 0) := (hcw1 _ _ (by omega)).trans (by first | assumption | (refine (cell_alloc_at _ _ ?_).trans ?_; omega; assumption) | (simp [go_sem]; done) | (simp [go_sem, *]; done))
  have s8 : w1.cell? ⟨w.heap.size + 1, 1, none⟩ = some (.int .i64 0) := (hcw1 _ _ (by omega)).trans (by first | assumption | (refine (cell_alloc_at _ _ ?_).trans ?_; omega; assumption) | (simp [go_sem]; done) | (simp [go_sem, *]; done))
  have szq0 : w.heap.size < w1.heap.size := (by omega)
  have sz : w.heap.size + 1 < w1.heap.size := (by omega)
  have fs10 : w1.frozen? ⟨w.heap.size + 1, 0, none⟩ = false := (hfw1 _ _ (by omega)).trans (by first | assumption | (refine (World.frozen?_alloc_old _ _ _ ?_).trans ?_; (simp; omega); assumption) | (simp [go_sem]; done) | (simp [go_sem, *]; done))
  have fs11 : w1.frozen? ⟨w.heap.size + 1, 1, none⟩ = false := (hfw1 _ _ (by omega)).trans (by first | assumption | (refine (World.frozen?_alloc_old _ _ _ ?_).trans ?_; (simp; omega); assumption) | (simp [go_sem]; done) | (simp [go_sem, *]; done))
  clear hcw1 hfw1 hzw1
  go_wp2_with fail
  refine (bezier3_any m0 m1 m2 m3 m4 m5 _).mono ?_
  rintro e w2 ⟨rfl, hbw2⟩
  have g2 : Below w.heap.size w w2 := (by repeat' (first | with_reducible assumption | with_reducible exact Below.refl _ _ | (with_reducible refine Below.setCell ?_ ?_ _) | (with_reducible refine Below.alloc ?_ ?_ _) | (with_reducible refine Below.drew ?_) | (with_reducible refine below_dr ?_ _) | (with_reducible refine Below.trans ?_ (Below.mono (by with_reducible assumption) ?_)) | omega | (simp; done) | (simp; omega)))
  obtain ⟨hcw2, hfw2⟩ := bcell hbw2
  have hzw2 := hbw2.size
  (try simp only [World.size_alloc] at hcw2 hfw2 hzw2)
  have t1 : w2.cell? ⟨w.heap.size, 0, none⟩ = some (.int .i64 m0) := (hcw2 _ _ (by omega)).trans (by first | assumption | (refine (cell_alloc_at _ _ ?_).trans ?_; omega; assumption) | (simp [go_sem]; done) | (simp [go_sem, *]; done))
  have t2 : w2.cell? ⟨w.heap.size, 1, none⟩ = some (.int .i64 m1) := (hcw2 _ _ (by omega)).trans (by first | assumption | (refine (cell_alloc_at _ _ ?_).trans ?_; omega; assumption) | (simp [go_sem]; done) | (simp [go_sem, *]; done))
  have t3 : w2.cell? ⟨w.heap.size, 2, none⟩ = some (.int .i64 m2) := (hcw2 _ _ (by omega)).trans (by first | assumption | (refine (cell_alloc_at _ _ ?_).trans ?_; omega; assumption) | (simp [go_sem]; done) | (simp [go_sem, *]; done))
  have t4 : w2.cell? ⟨w.heap.size, 3, none⟩ = some (.int .i64 m3) := (hcw2 _ _ (by omega)).trans (by first | assumption | (refine (cell_alloc_at _ _ ?_).trans ?_; omega; assumption) | (simp [go_sem]; done) | (simp [go_sem, *]; done))
  have t5 : w2.cell? ⟨w.heap.size, 4, none⟩ = some (.int .i64 m4) := (hcw2 _ _ (by omega)).trans (by first | assumption | (refine (cell_alloc_at _ _ ?_).trans ?_; omega; assumption) | (simp [go_sem]; done) | (simp [go_sem, *]; done))
  have t6 : w2.cell? ⟨w.heap.size, 5, none⟩ = some (.int .i64 m5) := (hcw2 _ _ (by omega)).trans (by first | assumption | (refine (cell_alloc_at _ _ ?_).trans ?_; omega; assumption) | (simp [go_sem]; done) | (simp [go_sem, *]; done))
  have t7 : w2.cell? ⟨w.heap.size + 1, 0, none⟩ = some (.int .i64 0) := (hcw2 _ _ (by omega)).trans (by first | assumption | (refine (cell_alloc_at _ _ ?_).trans ?_; omega; assumption) | (simp [go_sem]; done) | (simp [go_sem, *]; done))
  have t8 : w2.cell? ⟨w.heap.size + 1, 1, none⟩ = some (.int .i64 0) := (hcw2 _ _ (by omega)).trans (by first | assumption | (refine (cell_alloc_at _ _ ?_).trans ?_; omega; assumption) | (simp [go_sem]; done) | (simp [go_sem, *]; done))
  have tzq0 : w.heap.size < w2.heap.size := (by omega)
  have tz : w.heap.size + 1 < w2.heap.size := (by omega)
  have ft10 : w2.frozen? ⟨w.heap.size + 1, 0, none⟩ = false := (hfw2 _ _ (by omega)).trans (by first | assumption | (refine (World.frozen?_alloc_old _ _ _ ?_).trans ?_; (simp; omega); assumption) | (simp [go_sem]; done) | (simp [go_sem, *]; done))
  have ft11 : w2.frozen? ⟨w.heap.size + 1, 1, none⟩ = false := (hfw2 _ _ (by omega)).trans (by first | assumption | (refine (World.frozen?_alloc_old _ _ _ ?_).trans ?_; (simp; omega); assumption) | (simp [go_sem]; done) | (simp [go_sem, *]; done))
  clear hcw2 hfw2 hzw2
  go_wp2_with fail
  refine (CA.out _).mono ?_
  rintro e w3 ⟨rfl, hbw3⟩
  have g3 : Below w.heap.size w w3 := (by repeat' (first | with_reducible assumption | with_reducible exact Below.refl _ _ | (with_reducible refine Below.setCell ?_ ?_ _) | (with_reducible refine Below.alloc ?_ ?_ _) | (with_reducible refine Below.drew ?_) | (with_reducible refine below_dr ?_ _) | (with_reducible refine Below.trans ?_ (Below.mono (by with_reducible assumption) ?_)) | omega | (simp; done) | (simp; omega)))
  obtain ⟨hcw3, hfw3⟩ := bcell hbw3
  have hzw3 := hbw3.size
  (try simp only [World.size_alloc] at hcw3 hfw3 hzw3)
  have u1 : w3.cell? ⟨w.heap.size, 0, none⟩ = some (.int .i64 m0) := (hcw3 _ _ (by omega)).trans (by first | assumption | (refine (cell_alloc_at _ _ ?_).trans ?_; omega; assumption) | (simp [go_sem]; done) | (simp [go_sem, *]; done))
  have u2 : w3.cell? ⟨w.heap.size, 1, none⟩ = some (.int .i64 m1) := (hcw3 _ _ (by omega)).trans (by first | assumption | (refine (cell_alloc_at _ _ ?_).trans ?_; omega; assumption) | (simp [go_sem]; done) | (simp [go_sem, *]; done))
  have u3 : w3.cell? ⟨w.heap.size, 2, none⟩ = some (.int .i64 m2) := (hcw3 _ _ (by omega)).trans (by first | assumption | (refine (cell_alloc_at _ _ ?_).trans ?_; omega; assumption) | (simp [go_sem]; done) | (simp [go_sem, *]; done))
  have u4 : w3.cell? ⟨w.heap.size, 3, none⟩ = some (.int .i64 m3) := (hcw3 _ _ (by omega)).trans (by first | assumption | (refine (cell_alloc_at _ _ ?_).trans ?_; omega; assumption) | (simp [go_sem]; done) | (simp [go_sem, *]; done))
  have u5 : w3.cell? ⟨w.heap.size, 4, none⟩ = some (.int .i64 m4) := (hcw3 _ _ (by omega)).trans (by first | assumption | (refine (cell_alloc_at _ _ ?_).trans ?_; omega; assumption) | (simp [go_sem]; done) | (simp [go_sem, *]; done))
  have u6 : w3.cell? ⟨w.heap.size, 5, none⟩ = some (.int .i64 m5) := (hcw3 _ _ (by omega)).trans (by first | assumption | (refine (cell_alloc_at _ _ ?_).trans ?_; omega; assumption) | (simp [go_sem]; done) | (simp [go_sem, *]; done))
  have u7 : w3.cell? ⟨w.heap.size + 1, 0, none⟩ = some (.int .i64 0) := (hcw3 _ _ (by omega)).trans (by first | assumption | (refine (cell_alloc_at _ _ ?_).trans ?_; omega; assumption) | (simp [go_sem]; done) | (simp [go_sem, *]; done))
  have u8 : w3.cell? ⟨w.heap.size + 1, 1, none⟩ = some (.int .i64 0) := (hcw3 _ _ (by omega)).trans (by first | assumption | (refine (cell_alloc_at _ _ ?_).trans ?_; omega; assumption) | (simp [go_sem]; done) | (simp [go_sem, *]; done))
  have uzq0 : w.heap.size < w3.heap.size := (by omega)
  have uz : w.heap.size + 1 < w3.heap.size := (by omega)
  have fu10 : w3.frozen? ⟨w.heap.size + 1, 0, none⟩ = false := (hfw3 _ _ (by omega)).trans (by first | assumption | (refine (World.frozen?_alloc_old _ _ _ ?_).trans ?_; (simp; omega); assumption) | (simp [go_sem]; done) | (simp [go_sem, *]; done))
  have fu11 : w3.frozen? ⟨w.heap.size + 1, 1, none⟩ = false := (hfw3 _ _ (by omega)).trans (by first | assumption | (refine (World.frozen?_alloc_old _ _ _ ?_).trans ?_; (simp; omega); assumption) | (simp [go_sem]; done) | (simp [go_sem, *]; done))
  clear hcw3 hfw3 hzw3
  have ra := AtL.of2 u7 u8 uz
  have rb : AtL (w.heap.size + 1) [.int .i64 0, .int .i64 0] w3 := by repeat' (first | with_reducible assumption | with_reducible exact AtL.new _ _ _ | (with_reducible refine AtL.drew ?_) | (with_reducible apply AtL.store2) | (with_reducible refine AtL.alloc ?_ _) | (with_reducible refine AtL.far ?_ ?_ _ _) | (with_reducible refine AtL.below ?_ (by with_reducible assumption)) | omega | (simp; done) | (simp; omega))
  have rc := rb.store2 (a := .int .i64 x) (b := .int .i64 y)
  have r0 := rc.cell 0 rfl
  have r1 := rc.cell 1 rfl
  clear ra rb rc
  go_wp2
  refine bodyPost_ret (v := .tuple #[.agg #[.int .i64 x, .int .i64 y], .int .i64 cc]) (by simp [results, Try.results34, go_sem, r0, r1]) rfl (HR.out _ _ ?_)
  repeat' (first | with_reducible assumption | with_reducible exact Below.refl _ _ | (with_reducible refine Below.setCell ?_ ?_ _) | (with_reducible refine Below.alloc ?_ ?_ _) | (with_reducible refine Below.drew ?_) | (with_reducible refine below_dr ?_ _) | (with_reducible refine Below.trans ?_ (Below.mono (by with_reducible assumption) ?_)) | omega | (simp; done) | (simp; omega))
set_option maxHeartbeats 6400000 in
theorem walk_QuadAt (m0 m1 m2 m3 m4 m5 k level : Int) (w_m0 : (Lit.int .i64 m0).wf = true) (w_m1 : (Lit.int .i64 m1).wf = true) (w_m2 : (Lit.int .i64 m2).wf = true) (w_m3 : (Lit.int .i64 m3).wf = true) (w_m4 : (Lit.int .i64 m4).wf = true) (w_m5 : (Lit.int .i64 m5).wf = true) (w_k : (Lit.int .i64 k).wf = true) (w_level : (Lit.int .i64 level).wf = true) (w : World) :
    Calls Try.prog 10 #[.agg #[.int .i64 m0, .int .i64 m1, .int .i64 m2, .int .i64 m3, .int .i64 m4, .int .i64 m5], .int .i64 k, .int .i64 level] w fun e w' => e = .returned (.bool true) ∧ Below w.heap.size w w' := by
  have i_m0 := i64_bounds w_m0
  have i_m1 := i64_bounds w_m1
  have i_m2 := i64_bounds w_m2
  have i_m3 := i64_bounds w_m3
  have i_m4 := i64_bounds w_m4
  have i_m5 := i64_bounds w_m5
  have i_k := i64_bounds w_k
  have i_level := i64_bounds w_level
  have C1 := Lib.hid (fun w => specQuadAt_any m0 m1 m2 m3 m4 m5 k level w i_k i_level)
  have C2 := Lib.hid (fun w => implQuadAt_any m0 m1 m2 m3 m4 m5 k level w i_k i_level)
  unfold CaRet at C1 C2
  generalize caV (okQ m0 m1 m2 m3 m4 m5) k level (near (mix2 m0 m2 m4 k (pw level)) (pw level * pw level)) = v0 at C1 C2
  generalize caV (okQ m0 m1 m2 m3 m4 m5) k level (near (mix2 m1 m3 m5 k (pw level)) (pw level * pw level)) = v1 at C1 C2
  generalize caC (okQ m0 m1 m2 m3 m4 m5) k level = c at C1 C2
  clear i_m0 w_m0 i_m1 w_m1 i_m2 w_m2 i_m3 w_m3 i_m4 w_m4 i_m5 w_m5 i_k w_k i_level w_level
  have e_v0 : (v0 != v0) = false := by simp
  have e_v1 : (v1 != v1) = false := by simp
  have e_c : (c != c) = false := by simp
  go_enter Try.func10, Try.ntmps10
  go_upto_region 1 with fail
  go_cut [7, 8] (fun sA sZ wx => LeftP [.int .i64 v0, .int .i64 v1] sA wx ∧ sZ = .int .i64 c ∧ Below w.heap.size w wx ∧ AtL w.heap.size [.int .i64 m0, .int .i64 m1, .int .i64 m2, .int .i64 m3, .int .i64 m4, .int .i64 m5] wx)
  case first =>
    go_wp2_with fail
    refine (toQuad_any m0 m1 m2 m3 m4 m5 _).mono ?_
    rintro e wA1 ⟨rfl, hbwA1⟩
    have bx := (AtL.new w [.int .i64 m0, .int .i64 m1, .int .i64 m2, .int .i64 m3, .int .i64 m4, .int .i64 m5] 47).below hbwA1
    have x0 : wA1.cell? ⟨w.heap.size, 0, none⟩ = some (.int .i64 m0) := bx.cell 0 rfl
    have x1 : wA1.cell? ⟨w.heap.size, 1, none⟩ = some (.int .i64 m1) := bx.cell 1 rfl
    have x2 : wA1.cell? ⟨w.heap.size, 2, none⟩ = some (.int .i64 m2) := bx.cell 2 rfl
    have x3 : wA1.cell? ⟨w.heap.size, 3, none⟩ = some (.int .i64 m3) := bx.cell 3 rfl
    have x4 : wA1.cell? ⟨w.heap.size, 4, none⟩ = some (.int .i64 m4) := bx.cell 4 rfl
    have x5 : wA1.cell? ⟨w.heap.size, 5, none⟩ = some (.int .i64 m5) := bx.cell 5 rfl
    have xz : w.heap.size < wA1.heap.size := bx.lt
    have gA1 : Below w.heap.size w wA1 := by repeat' (first | with_reducible assumption | with_reducible exact Below.refl _ _ | (with_reducible refine Below.setCell ?_ ?_ _) | (with_reducible refine Below.alloc ?_ ?_ _) | (with_reducible refine Below.drew ?_) | (with_reducible refine below_dr ?_ _) | (with_reducible refine Below.trans ?_ (Below.mono (by with_reducible assumption) ?_)) | omega | (simp; done) | (simp; omega))
    have zA1 := gA1.size
    go_wp2_with fail
    clear x0 x1 x2 x3 x4 x5 xz
    refine (C1.out _).mono ?_
    rintro e wC1 ⟨rfl, hbwC1⟩
    replace bx := bx.below hbwC1
    have gC1 : Below w.heap.size w wC1 := by repeat' (first | with_reducible assumption | with_reducible exact Below.refl _ _ | (with_reducible refine Below.setCell ?_ ?_ _) | (with_reducible refine Below.alloc ?_ ?_ _) | (with_reducible refine Below.drew ?_) | (with_reducible refine below_dr ?_ _) | (with_reducible refine Below.trans ?_ (Below.mono (by with_reducible assumption) ?_)) | omega | (simp; done) | (simp; omega))
    have xz : w.heap.size < wC1.heap.size := bx.lt
    go_wp2_with fail
    go_meet
    exact ⟨⟨_, rfl, by repeat' (first | with_reducible assumption | with_reducible exact AtL.new _ _ _ | ((with_reducible refine AtL.newAt ?_); (first | rfl | (simp; done))) | (with_reducible refine AtL.drew ?_) | (with_reducible apply AtL.store2) | (with_reducible refine AtL.alloc ?_ _) | (with_reducible refine AtL.far ?_ ?_ _ _) | (with_reducible refine AtL.below ?_ (by with_reducible assumption)) | omega | (simp; done) | (simp; omega))⟩, rfl, by repeat' (first | with_reducible assumption | with_reducible exact Below.refl _ _ | (with_reducible refine Below.setCell ?_ ?_ _) | (with_reducible refine Below.alloc ?_ ?_ _) | (with_reducible refine Below.drew ?_) | (with_reducible refine below_dr ?_ _) | (with_reducible refine Below.trans ?_ (Below.mono (by with_reducible assumption) ?_)) | omega | (simp; done) | (simp; omega)), by repeat' (first | with_reducible assumption | with_reducible exact AtL.new _ _ _ | ((with_reducible refine AtL.newAt ?_); (first | rfl | (simp; done))) | (with_reducible refine AtL.drew ?_) | (with_reducible apply AtL.store2) | (with_reducible refine AtL.alloc ?_ _) | (with_reducible refine AtL.far ?_ ?_ _ _) | (with_reducible refine AtL.below ?_ (by with_reducible assumption)) | omega | (simp; done) | (simp; omega))⟩
  case rest =>
    obtain ⟨⟨g0, rfl, at0⟩, rfl, bel1, bx⟩ := hcut
    obtain ⟨W1, hW1⟩ : ∃ W : World, W = wc := ⟨_, rfl⟩
    subst hW1
    have lt0 := at0.lt
    have x0 : W1.cell? ⟨w.heap.size, 0, none⟩ = some (.int .i64 m0) := bx.cell 0 rfl
    have x1 : W1.cell? ⟨w.heap.size, 1, none⟩ = some (.int .i64 m1) := bx.cell 1 rfl
    have x2 : W1.cell? ⟨w.heap.size, 2, none⟩ = some (.int .i64 m2) := bx.cell 2 rfl
    have x3 : W1.cell? ⟨w.heap.size, 3, none⟩ = some (.int .i64 m3) := bx.cell 3 rfl
    have x4 : W1.cell? ⟨w.heap.size, 4, none⟩ = some (.int .i64 m4) := bx.cell 4 rfl
    have x5 : W1.cell? ⟨w.heap.size, 5, none⟩ = some (.int .i64 m5) := bx.cell 5 rfl
    have xz : w.heap.size < W1.heap.size := bx.lt
    go_upto_region 2 with fail
    clear x0 x1 x2 x3 x4 x5 xz
    go_cut [9, 10] (fun sA sZ wx => LeftP [.int .i64 v0, .int .i64 v1] sA wx ∧ sZ = .int .i64 c ∧ Below w.heap.size w wx ∧ AtL w.heap.size [.int .i64 m0, .int .i64 m1, .int .i64 m2, .int .i64 m3, .int .i64 m4, .int .i64 m5] wx ∧ AtL g0 [.int .i64 v0, .int .i64 v1] wx)
    case first =>
      have x0 : W1.cell? ⟨w.heap.size, 0, none⟩ = some (.int .i64 m0) := bx.cell 0 rfl
      have x1 : W1.cell? ⟨w.heap.size, 1, none⟩ = some (.int .i64 m1) := bx.cell 1 rfl
      have x2 : W1.cell? ⟨w.heap.size, 2, none⟩ = some (.int .i64 m2) := bx.cell 2 rfl
      have x3 : W1.cell? ⟨w.heap.size, 3, none⟩ = some (.int .i64 m3) := bx.cell 3 rfl
      have x4 : W1.cell? ⟨w.heap.size, 4, none⟩ = some (.int .i64 m4) := bx.cell 4 rfl
      have x5 : W1.cell? ⟨w.heap.size, 5, none⟩ = some (.int .i64 m5) := bx.cell 5 rfl
      have xz : w.heap.size < W1.heap.size := bx.lt
      go_wp2_with fail
      refine (toQuad_any m0 m1 m2 m3 m4 m5 _).mono ?_
      rintro e wA2 ⟨rfl, hbwA2⟩
      replace bx := bx.below hbwA2
      replace at0 := at0.below hbwA2
      have x0 : wA2.cell? ⟨w.heap.size, 0, none⟩ = some (.int .i64 m0) := bx.cell 0 rfl
      have x1 : wA2.cell? ⟨w.heap.size, 1, none⟩ = some (.int .i64 m1) := bx.cell 1 rfl
      have x2 : wA2.cell? ⟨w.heap.size, 2, none⟩ = some (.int .i64 m2) := bx.cell 2 rfl
      have x3 : wA2.cell? ⟨w.heap.size, 3, none⟩ = some (.int .i64 m3) := bx.cell 3 rfl
      have x4 : wA2.cell? ⟨w.heap.size, 4, none⟩ = some (.int .i64 m4) := bx.cell 4 rfl
      have x5 : wA2.cell? ⟨w.heap.size, 5, none⟩ = some (.int .i64 m5) := bx.cell 5 rfl
      have xz : w.heap.size < wA2.heap.size := bx.lt
      have gA2 : Below w.heap.size w wA2 := by repeat' (first | with_reducible assumption | with_reducible exact Below.refl _ _ | (with_reducible refine Below.setCell ?_ ?_ _) | (with_reducible refine Below.alloc ?_ ?_ _) | (with_reducible refine Below.drew ?_) | (with_reducible refine below_dr ?_ _) | (with_reducible refine Below.trans ?_ (Below.mono (by with_reducible assumption) ?_)) | omega | (simp; done) | (simp; omega))
      have zA2 := gA2.size
      go_wp2_with fail
      clear x0 x1 x2 x3 x4 x5 xz
      refine (C2.out _).mono ?_
      rintro e wC2 ⟨rfl, hbwC2⟩
      replace bx := bx.below hbwC2
      replace at0 := at0.below hbwC2
      have gC2 : Below w.heap.size w wC2 := by repeat' (first | with_reducible assumption | with_reducible exact Below.refl _ _ | (with_reducible refine Below.setCell ?_ ?_ _) | (with_reducible refine Below.alloc ?_ ?_ _) | (with_reducible refine Below.drew ?_) | (with_reducible refine below_dr ?_ _) | (with_reducible refine Below.trans ?_ (Below.mono (by with_reducible assumption) ?_)) | omega | (simp; done) | (simp; omega))
      have xz : w.heap.size < wC2.heap.size := bx.lt
      have xo0 := at0.lt
      go_wp2_with fail
      go_meet
      exact ⟨⟨_, rfl, by repeat' (first | with_reducible assumption | with_reducible exact AtL.new _ _ _ | ((with_reducible refine AtL.newAt ?_); (first | rfl | (simp; done))) | (with_reducible refine AtL.drew ?_) | (with_reducible apply AtL.store2) | (with_reducible refine AtL.alloc ?_ _) | (with_reducible refine AtL.far ?_ ?_ _ _) | (with_reducible refine AtL.below ?_ (by with_reducible assumption)) | omega | (simp; done) | (simp; omega))⟩, rfl, by repeat' (first | with_reducible assumption | with_reducible exact Below.refl _ _ | (with_reducible refine Below.setCell ?_ ?_ _) | (with_reducible refine Below.alloc ?_ ?_ _) | (with_reducible refine Below.drew ?_) | (with_reducible refine below_dr ?_ _) | (with_reducible refine Below.trans ?_ (Below.mono (by with_reducible assumption) ?_)) | omega | (simp; done) | (simp; omega)), by repeat' (first | with_reducible assumption | with_reducible exact AtL.new _ _ _ | ((with_reducible refine AtL.newAt ?_); (first | rfl | (simp; done))) | (with_reducible refine AtL.drew ?_) | (with_reducible apply AtL.store2) | (with_reducible refine AtL.alloc ?_ _) | (with_reducible refine AtL.far ?_ ?_ _ _) | (with_reducible refine AtL.below ?_ (by with_reducible assumption)) | omega | (simp; done) | (simp; omega)), by repeat' (first | with_reducible assumption | with_reducible exact AtL.new _ _ _ | ((with_reducible refine AtL.newAt ?_); (first | rfl | (simp; done))) | (with_reducible refine AtL.drew ?_) | (with_reducible apply AtL.store2) | (with_reducible refine AtL.alloc ?_ _) | (with_reducible refine AtL.far ?_ ?_ _ _) | (with_reducible refine AtL.below ?_ (by with_reducible assumption)) | omega | (simp; done) | (simp; omega))⟩
    case rest =>
      obtain ⟨⟨h0, rfl, bt0⟩, rfl, bel2, -, ct0⟩ := hcut
      obtain ⟨W2, hW2⟩ : ∃ W : World, W = wc := ⟨_, rfl⟩
      subst hW2
      have u0 : W2.cell? ⟨h0, 0, none⟩ = some (.int .i64 v0) := bt0.cell 0 rfl
      have u1 : W2.cell? ⟨h0, 1, none⟩ = some (.int .i64 v1) := bt0.cell 1 rfl
      have v0 : W2.cell? ⟨g0, 0, none⟩ = some (.int .i64 v0) := ct0.cell 0 rfl
      have v1 : W2.cell? ⟨g0, 1, none⟩ = some (.int .i64 v1) := ct0.cell 1 rfl
      have uz := bt0.lt
      have vz := ct0.lt
      go_wp2_with fail
      clear u0 v0 u1 v1 uz vz
      refine (eqPt_same v0 v1 _).mono ?_
      rintro e wE0 ⟨rfl, hbwE0⟩
      have gE0 : Below w.heap.size w wE0 := by (have zE := bel2.size); repeat' (first | with_reducible assumption | with_reducible exact Below.refl _ _ | (with_reducible refine Below.setCell ?_ ?_ _) | (with_reducible refine Below.alloc ?_ ?_ _) | (with_reducible refine Below.drew ?_) | (with_reducible refine below_dr ?_ _) | (with_reducible refine Below.trans ?_ (Below.mono (by with_reducible assumption) ?_)) | omega | (simp; done) | (simp; omega))
      go_wp2
      go_ret
      exact ⟨rfl, by repeat' (first | with_reducible assumption | with_reducible exact Below.refl _ _ | (with_reducible refine Below.setCell ?_ ?_ _) | (with_reducible refine Below.alloc ?_ ?_ _) | (with_reducible refine Below.drew ?_) | (with_reducible refine below_dr ?_ _) | (with_reducible refine Below.trans ?_ (Below.mono (by with_reducible assumption) ?_)) | omega | (simp; done) | (simp; omega))⟩
end Go.Proofs.Ytpfbgpefaegipaa
