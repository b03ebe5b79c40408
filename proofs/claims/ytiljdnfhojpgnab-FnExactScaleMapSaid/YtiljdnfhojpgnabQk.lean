/- Walks: a translation, a scaling, a slant: the program's side. -/
import Derived.Test.YtiljdnfhojpgnabQg
import Derived.RegionTactic
import Derived.ChangeAlike
namespace Go.Proofs.Ytiljdnfhojpgnab
open Go.RowKit
theorem valid11 : validB 1 1 = true := by decide
theorem valid01 : validB 0 1 = true := by decide
theorem valid_MoveMap (n1 d1 n2 d2 : Int) : validA 1 1 0 1 0 1 1 1 n1 d1 n2 d2 = (validB n1 d1 && validB n2 d2) := by simp [validA, valid11, valid01]
set_option maxHeartbeats 3200000 in
theorem implMoveMap_any (n1 d1 n2 d2 : Int) (w : World) (h_n1 : -9223372036854775808 ≤ n1 ∧ n1 ≤ 9223372036854775807) (h_d1 : -9223372036854775808 ≤ d1 ∧ d1 ≤ 9223372036854775807) (h_n2 : -9223372036854775808 ≤ n2 ∧ n2 ≤ 9223372036854775807) (h_d2 : -9223372036854775808 ≤ d2 ∧ d2 ≤ 9223372036854775807) :
    Calls Try.prog 22 #[.agg #[.int .i64 n1, .int .i64 d1], .agg #[.int .i64 n2, .int .i64 d2]] w (MapRet (validB n1 d1 && validB n2 d2) 1 1 0 1 0 1 1 1 n1 d1 n2 d2 w) := by
  have C := Lib.hid (fun w => checkedMap_any 1 1 0 1 0 1 1 1 n1 d1 n2 d2 w (by omega) (by omega) (by omega) (by omega) (by omega) (by omega) (by omega) (by omega) h_n1 h_d1 h_n2 h_d2)
  rw [valid_MoveMap] at C
  clear h_n1 h_d1 h_n2 h_d2
  rcases (Bool.eq_false_or_eq_true (validB n1 d1 && validB n2 d2)).symm with hv | hv
  · rw [hv] at C
    have HV := Lib.hid hv
    clear hv
    unfold MapRet at C
    simp only [cond_false] at C
    go_enter Try.func22, Try.ntmps22
    go_wp2_with fail
    refine (implId_any _).mono ?_
    rintro e w1 ⟨rfl, hbw1⟩
    have g1 : Below w.heap.size w w1 := (by repeat' (first | with_reducible assumption | with_reducible exact Below.refl _ _ | (with_reducible refine Below.setCell ?_ ?_ _) | (with_reducible refine Below.alloc ?_ ?_ _) | (with_reducible refine Below.drew ?_) | (with_reducible refine below_dr ?_ _) | (with_reducible refine Below.trans ?_ (Below.mono (by with_reducible assumption) ?_)) | omega | (simp; done) | (simp; omega)))
    obtain ⟨hcw1, hfw1⟩ := bcell hbw1
    have hzw1 := hbw1.size
    (try simp only [World.size_alloc] at hcw1 hfw1 hzw1)
    have s1 : w1.cell? ⟨w.heap.size, 0, none⟩ = some (.int .i64 n1) := (hcw1 _ _ (by omega)).trans (by first | assumption | simp [go_sem])
    have s2 : w1.cell? ⟨w.heap.size, 1, none⟩ = some (.int .i64 d1) := (hcw1 _ _ (by omega)).trans (by first | assumption | simp [go_sem])
    have s3 : w1.cell? ⟨w.heap.size + 1, 0, none⟩ = some (.int .i64 n2) := (hcw1 _ _ (by omega)).trans (by first | assumption | simp [go_sem])
    have s4 : w1.cell? ⟨w.heap.size + 1, 1, none⟩ = some (.int .i64 d2) := (hcw1 _ _ (by omega)).trans (by first | assumption | simp [go_sem])
    have s5 : w1.cell? ⟨w.heap.size + 1 + 1, 0, none⟩ = some (.int .i64 0) := (hcw1 _ _ (by omega)).trans (by first | assumption | simp [go_sem])
    have s6 : w1.cell? ⟨w.heap.size + 1 + 1, 1, none⟩ = some (.int .i64 0) := (hcw1 _ _ (by omega)).trans (by first | assumption | simp [go_sem])
    have s7 : w1.cell? ⟨w.heap.size + 1 + 1, 2, none⟩ = some (.int .i64 0) := (hcw1 _ _ (by omega)).trans (by first | assumption | simp [go_sem])
    have s8 : w1.cell? ⟨w.heap.size + 1 + 1, 3, none⟩ = some (.int .i64 0) := (hcw1 _ _ (by omega)).trans (by first | assumption | simp [go_sem])
    have s9 : w1.cell? ⟨w.heap.size + 1 + 1, 4, none⟩ = some (.int .i64 0) := (hcw1 _ _ (by omega)).trans (by first | assumption | simp [go_sem])
    have s10 : w1.cell? ⟨w.heap.size + 1 + 1, 5, none⟩ = some (.int .i64 0) := (hcw1 _ _ (by omega)).trans (by first | assumption | simp [go_sem])
    have s11 : w1.cell? ⟨w.heap.size + 1 + 1, 6, none⟩ = some (.int .i64 0) := (hcw1 _ _ (by omega)).trans (by first | assumption | simp [go_sem])
    have s12 : w1.cell? ⟨w.heap.size + 1 + 1, 7, none⟩ = some (.int .i64 0) := (hcw1 _ _ (by omega)).trans (by first | assumption | simp [go_sem])
    have s13 : w1.cell? ⟨w.heap.size + 1 + 1, 8, none⟩ = some (.int .i64 0) := (hcw1 _ _ (by omega)).trans (by first | assumption | simp [go_sem])
    have s14 : w1.cell? ⟨w.heap.size + 1 + 1, 9, none⟩ = some (.int .i64 0) := (hcw1 _ _ (by omega)).trans (by first | assumption | simp [go_sem])
    have s15 : w1.cell? ⟨w.heap.size + 1 + 1, 10, none⟩ = some (.int .i64 0) := (hcw1 _ _ (by omega)).trans (by first | assumption | simp [go_sem])
    have s16 : w1.cell? ⟨w.heap.size + 1 + 1, 11, none⟩ = some (.int .i64 0) := (hcw1 _ _ (by omega)).trans (by first | assumption | simp [go_sem])
    have szq0 : w.heap.size < w1.heap.size := (by omega)
    have szq1 : w.heap.size + 1 < w1.heap.size := (by omega)
    have sz : w.heap.size + 1 + 1 < w1.heap.size := (by omega)
    have fs20 : w1.frozen? ⟨w.heap.size + 1 + 1, 0, none⟩ = false := (hfw1 _ _ (by omega)).trans (by first | assumption | simp [go_sem])
    have fs21 : w1.frozen? ⟨w.heap.size + 1 + 1, 1, none⟩ = false := (hfw1 _ _ (by omega)).trans (by first | assumption | simp [go_sem])
    have fs22 : w1.frozen? ⟨w.heap.size + 1 + 1, 2, none⟩ = false := (hfw1 _ _ (by omega)).trans (by first | assumption | simp [go_sem])
    have fs23 : w1.frozen? ⟨w.heap.size + 1 + 1, 3, none⟩ = false := (hfw1 _ _ (by omega)).trans (by first | assumption | simp [go_sem])
    have fs24 : w1.frozen? ⟨w.heap.size + 1 + 1, 4, none⟩ = false := (hfw1 _ _ (by omega)).trans (by first | assumption | simp [go_sem])
    have fs25 : w1.frozen? ⟨w.heap.size + 1 + 1, 5, none⟩ = false := (hfw1 _ _ (by omega)).trans (by first | assumption | simp [go_sem])
    have fs26 : w1.frozen? ⟨w.heap.size + 1 + 1, 6, none⟩ = false := (hfw1 _ _ (by omega)).trans (by first | assumption | simp [go_sem])
    have fs27 : w1.frozen? ⟨w.heap.size + 1 + 1, 7, none⟩ = false := (hfw1 _ _ (by omega)).trans (by first | assumption | simp [go_sem])
    have fs28 : w1.frozen? ⟨w.heap.size + 1 + 1, 8, none⟩ = false := (hfw1 _ _ (by omega)).trans (by first | assumption | simp [go_sem])
    have fs29 : w1.frozen? ⟨w.heap.size + 1 + 1, 9, none⟩ = false := (hfw1 _ _ (by omega)).trans (by first | assumption | simp [go_sem])
    have fs210 : w1.frozen? ⟨w.heap.size + 1 + 1, 10, none⟩ = false := (hfw1 _ _ (by omega)).trans (by first | assumption | simp [go_sem])
    have fs211 : w1.frozen? ⟨w.heap.size + 1 + 1, 11, none⟩ = false := (hfw1 _ _ (by omega)).trans (by first | assumption | simp [go_sem])
    clear hcw1 hfw1 hzw1
    go_wp2_with fail
    go_region
    go_wp2_with fail
    refine (C.out _).mono ?_
    rintro e w2 ⟨rfl, hbw2⟩
    have hz2 := hbw2.size
    (try simp only [World.size_drew] at hz2)
    (try simp only [World.size_setCell] at hz2)
    (try simp only [World.size_alloc] at hz2)
    obtain ⟨hc2, hf2⟩ := bcell hbw2
    (try simp only [World.size_drew] at hc2 hf2)
    (try simp only [World.size_alloc] at hc2 hf2)
    have y0 : w2.cell? ⟨w.heap.size + 1 + 1, 0, none⟩ = some (.int .i64 0) := (hc2 _ _ (by omega)).trans (by simp [go_sem, *])
    have y1 : w2.cell? ⟨w.heap.size + 1 + 1, 1, none⟩ = some (.int .i64 0) := (hc2 _ _ (by omega)).trans (by simp [go_sem, *])
    have y2 : w2.cell? ⟨w.heap.size + 1 + 1, 2, none⟩ = some (.int .i64 0) := (hc2 _ _ (by omega)).trans (by simp [go_sem, *])
    have y3 : w2.cell? ⟨w.heap.size + 1 + 1, 3, none⟩ = some (.int .i64 0) := (hc2 _ _ (by omega)).trans (by simp [go_sem, *])
    have y4 : w2.cell? ⟨w.heap.size + 1 + 1, 4, none⟩ = some (.int .i64 0) := (hc2 _ _ (by omega)).trans (by simp [go_sem, *])
    have y5 : w2.cell? ⟨w.heap.size + 1 + 1, 5, none⟩ = some (.int .i64 0) := (hc2 _ _ (by omega)).trans (by simp [go_sem, *])
    have y6 : w2.cell? ⟨w.heap.size + 1 + 1, 6, none⟩ = some (.int .i64 0) := (hc2 _ _ (by omega)).trans (by simp [go_sem, *])
    have y7 : w2.cell? ⟨w.heap.size + 1 + 1, 7, none⟩ = some (.int .i64 0) := (hc2 _ _ (by omega)).trans (by simp [go_sem, *])
    have y8 : w2.cell? ⟨w.heap.size + 1 + 1, 8, none⟩ = some (.int .i64 0) := (hc2 _ _ (by omega)).trans (by simp [go_sem, *])
    have y9 : w2.cell? ⟨w.heap.size + 1 + 1, 9, none⟩ = some (.int .i64 0) := (hc2 _ _ (by omega)).trans (by simp [go_sem, *])
    have y10 : w2.cell? ⟨w.heap.size + 1 + 1, 10, none⟩ = some (.int .i64 0) := (hc2 _ _ (by omega)).trans (by simp [go_sem, *])
    have y11 : w2.cell? ⟨w.heap.size + 1 + 1, 11, none⟩ = some (.int .i64 0) := (hc2 _ _ (by omega)).trans (by simp [go_sem, *])
    have f0 : w2.frozen? ⟨w.heap.size + 1 + 1, 0, none⟩ = false := (hf2 _ _ (by omega)).trans (by simp [go_sem, *])
    have f1 : w2.frozen? ⟨w.heap.size + 1 + 1, 1, none⟩ = false := (hf2 _ _ (by omega)).trans (by simp [go_sem, *])
    have f2 : w2.frozen? ⟨w.heap.size + 1 + 1, 2, none⟩ = false := (hf2 _ _ (by omega)).trans (by simp [go_sem, *])
    have f3 : w2.frozen? ⟨w.heap.size + 1 + 1, 3, none⟩ = false := (hf2 _ _ (by omega)).trans (by simp [go_sem, *])
    have f4 : w2.frozen? ⟨w.heap.size + 1 + 1, 4, none⟩ = false := (hf2 _ _ (by omega)).trans (by simp [go_sem, *])
    have f5 : w2.frozen? ⟨w.heap.size + 1 + 1, 5, none⟩ = false := (hf2 _ _ (by omega)).trans (by simp [go_sem, *])
    have f6 : w2.frozen? ⟨w.heap.size + 1 + 1, 6, none⟩ = false := (hf2 _ _ (by omega)).trans (by simp [go_sem, *])
    have f7 : w2.frozen? ⟨w.heap.size + 1 + 1, 7, none⟩ = false := (hf2 _ _ (by omega)).trans (by simp [go_sem, *])
    have f8 : w2.frozen? ⟨w.heap.size + 1 + 1, 8, none⟩ = false := (hf2 _ _ (by omega)).trans (by simp [go_sem, *])
    have f9 : w2.frozen? ⟨w.heap.size + 1 + 1, 9, none⟩ = false := (hf2 _ _ (by omega)).trans (by simp [go_sem, *])
    have f10 : w2.frozen? ⟨w.heap.size + 1 + 1, 10, none⟩ = false := (hf2 _ _ (by omega)).trans (by simp [go_sem, *])
    have f11 : w2.frozen? ⟨w.heap.size + 1 + 1, 11, none⟩ = false := (hf2 _ _ (by omega)).trans (by simp [go_sem, *])
    have zz : w.heap.size + 1 + 1 < w2.heap.size := by omega
    clear hc2 hf2
    go_wp2
    have ra := AtL.of12 y0 y1 y2 y3 y4 y5 y6 y7 y8 y9 y10 y11 zz
    have rc := ra.store12 (a0 := .int .i64 0) (a1 := .int .i64 0) (a2 := .int .i64 0) (a3 := .int .i64 0) (a4 := .int .i64 0) (a5 := .int .i64 0) (a6 := .int .i64 0) (a7 := .int .i64 0) (a8 := .int .i64 0) (a9 := .int .i64 0) (a10 := .int .i64 0) (a11 := .int .i64 0)
    have r0 := rc.cell 0 rfl
    have r1 := rc.cell 1 rfl
    have r2 := rc.cell 2 rfl
    have r3 := rc.cell 3 rfl
    have r4 := rc.cell 4 rfl
    have r5 := rc.cell 5 rfl
    have r6 := rc.cell 6 rfl
    have r7 := rc.cell 7 rfl
    have r8 := rc.cell 8 rfl
    have r9 := rc.cell 9 rfl
    have r10 := rc.cell 10 rfl
    have r11 := rc.cell 11 rfl
    refine bodyPost_ret (v := .tuple #[.agg #[.int .i64 0, .int .i64 0, .int .i64 0, .int .i64 0, .int .i64 0, .int .i64 0, .int .i64 0, .int .i64 0, .int .i64 0, .int .i64 0, .int .i64 0, .int .i64 0], .int .i64 1]) (by simp [results, Try.results22, go_sem, r0, r1, r2, r3, r4, r5, r6, r7, r8, r9, r10, r11]) rfl (MapRet.no HV.out ?_)
    repeat' (first | with_reducible assumption | with_reducible exact Below.refl _ _ | (with_reducible refine Below.setCell ?_ ?_ _) | (with_reducible refine Below.alloc ?_ ?_ _) | (with_reducible refine Below.drew ?_) | (with_reducible refine below_dr ?_ _) | (with_reducible refine Below.trans ?_ (Below.mono (by with_reducible assumption) ?_)) | omega | (simp; done) | (simp; omega))
  · rw [hv] at C
    have HV := Lib.hid hv
    clear hv
    unfold MapRet at C
    simp only [cond_true] at C
    go_enter Try.func22, Try.ntmps22
    go_wp2_with fail
    refine (implId_any _).mono ?_
    rintro e w1 ⟨rfl, hbw1⟩
    have g1 : Below w.heap.size w w1 := (by repeat' (first | with_reducible assumption | with_reducible exact Below.refl _ _ | (with_reducible refine Below.setCell ?_ ?_ _) | (with_reducible refine Below.alloc ?_ ?_ _) | (with_reducible refine Below.drew ?_) | (with_reducible refine below_dr ?_ _) | (with_reducible refine Below.trans ?_ (Below.mono (by with_reducible assumption) ?_)) | omega | (simp; done) | (simp; omega)))
    obtain ⟨hcw1, hfw1⟩ := bcell hbw1
    have hzw1 := hbw1.size
    (try simp only [World.size_alloc] at hcw1 hfw1 hzw1)
    have s1 : w1.cell? ⟨w.heap.size, 0, none⟩ = some (.int .i64 n1) := (hcw1 _ _ (by omega)).trans (by first | assumption | simp [go_sem])
    have s2 : w1.cell? ⟨w.heap.size, 1, none⟩ = some (.int .i64 d1) := (hcw1 _ _ (by omega)).trans (by first | assumption | simp [go_sem])
    have s3 : w1.cell? ⟨w.heap.size + 1, 0, none⟩ = some (.int .i64 n2) := (hcw1 _ _ (by omega)).trans (by first | assumption | simp [go_sem])
    have s4 : w1.cell? ⟨w.heap.size + 1, 1, none⟩ = some (.int .i64 d2) := (hcw1 _ _ (by omega)).trans (by first | assumption | simp [go_sem])
    have s5 : w1.cell? ⟨w.heap.size + 1 + 1, 0, none⟩ = some (.int .i64 0) := (hcw1 _ _ (by omega)).trans (by first | assumption | simp [go_sem])
    have s6 : w1.cell? ⟨w.heap.size + 1 + 1, 1, none⟩ = some (.int .i64 0) := (hcw1 _ _ (by omega)).trans (by first | assumption | simp [go_sem])
    have s7 : w1.cell? ⟨w.heap.size + 1 + 1, 2, none⟩ = some (.int .i64 0) := (hcw1 _ _ (by omega)).trans (by first | assumption | simp [go_sem])
    have s8 : w1.cell? ⟨w.heap.size + 1 + 1, 3, none⟩ = some (.int .i64 0) := (hcw1 _ _ (by omega)).trans (by first | assumption | simp [go_sem])
    have s9 : w1.cell? ⟨w.heap.size + 1 + 1, 4, none⟩ = some (.int .i64 0) := (hcw1 _ _ (by omega)).trans (by first | assumption | simp [go_sem])
    have s10 : w1.cell? ⟨w.heap.size + 1 + 1, 5, none⟩ = some (.int .i64 0) := (hcw1 _ _ (by omega)).trans (by first | assumption | simp [go_sem])
    have s11 : w1.cell? ⟨w.heap.size + 1 + 1, 6, none⟩ = some (.int .i64 0) := (hcw1 _ _ (by omega)).trans (by first | assumption | simp [go_sem])
    have s12 : w1.cell? ⟨w.heap.size + 1 + 1, 7, none⟩ = some (.int .i64 0) := (hcw1 _ _ (by omega)).trans (by first | assumption | simp [go_sem])
    have s13 : w1.cell? ⟨w.heap.size + 1 + 1, 8, none⟩ = some (.int .i64 0) := (hcw1 _ _ (by omega)).trans (by first | assumption | simp [go_sem])
    have s14 : w1.cell? ⟨w.heap.size + 1 + 1, 9, none⟩ = some (.int .i64 0) := (hcw1 _ _ (by omega)).trans (by first | assumption | simp [go_sem])
    have s15 : w1.cell? ⟨w.heap.size + 1 + 1, 10, none⟩ = some (.int .i64 0) := (hcw1 _ _ (by omega)).trans (by first | assumption | simp [go_sem])
    have s16 : w1.cell? ⟨w.heap.size + 1 + 1, 11, none⟩ = some (.int .i64 0) := (hcw1 _ _ (by omega)).trans (by first | assumption | simp [go_sem])
    have szq0 : w.heap.size < w1.heap.size := (by omega)
    have szq1 : w.heap.size + 1 < w1.heap.size := (by omega)
    have sz : w.heap.size + 1 + 1 < w1.heap.size := (by omega)
    have fs20 : w1.frozen? ⟨w.heap.size + 1 + 1, 0, none⟩ = false := (hfw1 _ _ (by omega)).trans (by first | assumption | simp [go_sem])
    have fs21 : w1.frozen? ⟨w.heap.size + 1 + 1, 1, none⟩ = false := (hfw1 _ _ (by omega)).trans (by first | assumption | simp [go_sem])
    have fs22 : w1.frozen? ⟨w.heap.size + 1 + 1, 2, none⟩ = false := (hfw1 _ _ (by omega)).trans (by first | assumption | simp [go_sem])
    have fs23 : w1.frozen? ⟨w.heap.size + 1 + 1, 3, none⟩ = false := (hfw1 _ _ (by omega)).trans (by first | assumption | simp [go_sem])
    have fs24 : w1.frozen? ⟨w.heap.size + 1 + 1, 4, none⟩ = false := (hfw1 _ _ (by omega)).trans (by first | assumption | simp [go_sem])
    have fs25 : w1.frozen? ⟨w.heap.size + 1 + 1, 5, none⟩ = false := (hfw1 _ _ (by omega)).trans (by first | assumption | simp [go_sem])
    have fs26 : w1.frozen? ⟨w.heap.size + 1 + 1, 6, none⟩ = false := (hfw1 _ _ (by omega)).trans (by first | assumption | simp [go_sem])
    have fs27 : w1.frozen? ⟨w.heap.size + 1 + 1, 7, none⟩ = false := (hfw1 _ _ (by omega)).trans (by first | assumption | simp [go_sem])
    have fs28 : w1.frozen? ⟨w.heap.size + 1 + 1, 8, none⟩ = false := (hfw1 _ _ (by omega)).trans (by first | assumption | simp [go_sem])
    have fs29 : w1.frozen? ⟨w.heap.size + 1 + 1, 9, none⟩ = false := (hfw1 _ _ (by omega)).trans (by first | assumption | simp [go_sem])
    have fs210 : w1.frozen? ⟨w.heap.size + 1 + 1, 10, none⟩ = false := (hfw1 _ _ (by omega)).trans (by first | assumption | simp [go_sem])
    have fs211 : w1.frozen? ⟨w.heap.size + 1 + 1, 11, none⟩ = false := (hfw1 _ _ (by omega)).trans (by first | assumption | simp [go_sem])
    clear hcw1 hfw1 hzw1
    go_wp2_with fail
    go_region
    go_wp2_with fail
    refine (C.out _).mono ?_
    rintro e w2 ⟨rfl, hbw2⟩
    have hz2 := hbw2.size
    (try simp only [World.size_drew] at hz2)
    (try simp only [World.size_setCell] at hz2)
    (try simp only [World.size_alloc] at hz2)
    obtain ⟨hc2, hf2⟩ := bcell hbw2
    (try simp only [World.size_drew] at hc2 hf2)
    (try simp only [World.size_alloc] at hc2 hf2)
    have y0 : w2.cell? ⟨w.heap.size + 1 + 1, 0, none⟩ = some (.int .i64 0) := (hc2 _ _ (by omega)).trans (by simp [go_sem, *])
    have y1 : w2.cell? ⟨w.heap.size + 1 + 1, 1, none⟩ = some (.int .i64 0) := (hc2 _ _ (by omega)).trans (by simp [go_sem, *])
    have y2 : w2.cell? ⟨w.heap.size + 1 + 1, 2, none⟩ = some (.int .i64 0) := (hc2 _ _ (by omega)).trans (by simp [go_sem, *])
    have y3 : w2.cell? ⟨w.heap.size + 1 + 1, 3, none⟩ = some (.int .i64 0) := (hc2 _ _ (by omega)).trans (by simp [go_sem, *])
    have y4 : w2.cell? ⟨w.heap.size + 1 + 1, 4, none⟩ = some (.int .i64 0) := (hc2 _ _ (by omega)).trans (by simp [go_sem, *])
    have y5 : w2.cell? ⟨w.heap.size + 1 + 1, 5, none⟩ = some (.int .i64 0) := (hc2 _ _ (by omega)).trans (by simp [go_sem, *])
    have y6 : w2.cell? ⟨w.heap.size + 1 + 1, 6, none⟩ = some (.int .i64 0) := (hc2 _ _ (by omega)).trans (by simp [go_sem, *])
    have y7 : w2.cell? ⟨w.heap.size + 1 + 1, 7, none⟩ = some (.int .i64 0) := (hc2 _ _ (by omega)).trans (by simp [go_sem, *])
    have y8 : w2.cell? ⟨w.heap.size + 1 + 1, 8, none⟩ = some (.int .i64 0) := (hc2 _ _ (by omega)).trans (by simp [go_sem, *])
    have y9 : w2.cell? ⟨w.heap.size + 1 + 1, 9, none⟩ = some (.int .i64 0) := (hc2 _ _ (by omega)).trans (by simp [go_sem, *])
    have y10 : w2.cell? ⟨w.heap.size + 1 + 1, 10, none⟩ = some (.int .i64 0) := (hc2 _ _ (by omega)).trans (by simp [go_sem, *])
    have y11 : w2.cell? ⟨w.heap.size + 1 + 1, 11, none⟩ = some (.int .i64 0) := (hc2 _ _ (by omega)).trans (by simp [go_sem, *])
    have f0 : w2.frozen? ⟨w.heap.size + 1 + 1, 0, none⟩ = false := (hf2 _ _ (by omega)).trans (by simp [go_sem, *])
    have f1 : w2.frozen? ⟨w.heap.size + 1 + 1, 1, none⟩ = false := (hf2 _ _ (by omega)).trans (by simp [go_sem, *])
    have f2 : w2.frozen? ⟨w.heap.size + 1 + 1, 2, none⟩ = false := (hf2 _ _ (by omega)).trans (by simp [go_sem, *])
    have f3 : w2.frozen? ⟨w.heap.size + 1 + 1, 3, none⟩ = false := (hf2 _ _ (by omega)).trans (by simp [go_sem, *])
    have f4 : w2.frozen? ⟨w.heap.size + 1 + 1, 4, none⟩ = false := (hf2 _ _ (by omega)).trans (by simp [go_sem, *])
    have f5 : w2.frozen? ⟨w.heap.size + 1 + 1, 5, none⟩ = false := (hf2 _ _ (by omega)).trans (by simp [go_sem, *])
    have f6 : w2.frozen? ⟨w.heap.size + 1 + 1, 6, none⟩ = false := (hf2 _ _ (by omega)).trans (by simp [go_sem, *])
    have f7 : w2.frozen? ⟨w.heap.size + 1 + 1, 7, none⟩ = false := (hf2 _ _ (by omega)).trans (by simp [go_sem, *])
    have f8 : w2.frozen? ⟨w.heap.size + 1 + 1, 8, none⟩ = false := (hf2 _ _ (by omega)).trans (by simp [go_sem, *])
    have f9 : w2.frozen? ⟨w.heap.size + 1 + 1, 9, none⟩ = false := (hf2 _ _ (by omega)).trans (by simp [go_sem, *])
    have f10 : w2.frozen? ⟨w.heap.size + 1 + 1, 10, none⟩ = false := (hf2 _ _ (by omega)).trans (by simp [go_sem, *])
    have f11 : w2.frozen? ⟨w.heap.size + 1 + 1, 11, none⟩ = false := (hf2 _ _ (by omega)).trans (by simp [go_sem, *])
    have zz : w.heap.size + 1 + 1 < w2.heap.size := by omega
    clear hc2 hf2
    go_wp2
    have ra := AtL.of12 y0 y1 y2 y3 y4 y5 y6 y7 y8 y9 y10 y11 zz
    have rc := ra.store12 (a0 := .int .i64 1) (a1 := .int .i64 1) (a2 := .int .i64 0) (a3 := .int .i64 1) (a4 := .int .i64 0) (a5 := .int .i64 1) (a6 := .int .i64 1) (a7 := .int .i64 1) (a8 := .int .i64 n1) (a9 := .int .i64 d1) (a10 := .int .i64 n2) (a11 := .int .i64 d2)
    have r0 := rc.cell 0 rfl
    have r1 := rc.cell 1 rfl
    have r2 := rc.cell 2 rfl
    have r3 := rc.cell 3 rfl
    have r4 := rc.cell 4 rfl
    have r5 := rc.cell 5 rfl
    have r6 := rc.cell 6 rfl
    have r7 := rc.cell 7 rfl
    have r8 := rc.cell 8 rfl
    have r9 := rc.cell 9 rfl
    have r10 := rc.cell 10 rfl
    have r11 := rc.cell 11 rfl
    refine bodyPost_ret (v := .tuple #[.agg #[.int .i64 1, .int .i64 1, .int .i64 0, .int .i64 1, .int .i64 0, .int .i64 1, .int .i64 1, .int .i64 1, .int .i64 n1, .int .i64 d1, .int .i64 n2, .int .i64 d2], .int .i64 0]) (by simp [results, Try.results22, go_sem, r0, r1, r2, r3, r4, r5, r6, r7, r8, r9, r10, r11]) rfl (MapRet.yes HV.out ?_)
    repeat' (first | with_reducible assumption | with_reducible exact Below.refl _ _ | (with_reducible refine Below.setCell ?_ ?_ _) | (with_reducible refine Below.alloc ?_ ?_ _) | (with_reducible refine Below.drew ?_) | (with_reducible refine below_dr ?_ _) | (with_reducible refine Below.trans ?_ (Below.mono (by with_reducible assumption) ?_)) | omega | (simp; done) | (simp; omega))
theorem valid_ScaleMap (n1 d1 n2 d2 : Int) : validA n1 d1 0 1 0 1 n2 d2 0 1 0 1 = (validB n1 d1 && validB n2 d2) := by simp [validA, valid01]
set_option maxHeartbeats 3200000 in
theorem implScaleMap_any (n1 d1 n2 d2 : Int) (w : World) (h_n1 : -9223372036854775808 ≤ n1 ∧ n1 ≤ 9223372036854775807) (h_d1 : -9223372036854775808 ≤ d1 ∧ d1 ≤ 9223372036854775807) (h_n2 : -9223372036854775808 ≤ n2 ∧ n2 ≤ 9223372036854775807) (h_d2 : -9223372036854775808 ≤ d2 ∧ d2 ≤ 9223372036854775807) :
    Calls Try.prog 24 #[.agg #[.int .i64 n1, .int .i64 d1], .agg #[.int .i64 n2, .int .i64 d2]] w (MapRet (validB n1 d1 && validB n2 d2) n1 d1 0 1 0 1 n2 d2 0 1 0 1 w) := by
  have C := Lib.hid (fun w => checkedMap_any n1 d1 0 1 0 1 n2 d2 0 1 0 1 w h_n1 h_d1 (by omega) (by omega) (by omega) (by omega) h_n2 h_d2 (by omega) (by omega) (by omega) (by omega))
  rw [valid_ScaleMap] at C
  clear h_n1 h_d1 h_n2 h_d2
  rcases (Bool.eq_false_or_eq_true (validB n1 d1 && validB n2 d2)).symm with hv | hv
  · rw [hv] at C
    have HV := Lib.hid hv
    clear hv
    unfold MapRet at C
    simp only [cond_false] at C
    go_enter Try.func24, Try.ntmps24
    go_wp2_with fail
    refine (implId_any _).mono ?_
    rintro e w1 ⟨rfl, hbw1⟩
    have g1 : Below w.heap.size w w1 := (by repeat' (first | with_reducible assumption | with_reducible exact Below.refl _ _ | (with_reducible refine Below.setCell ?_ ?_ _) | (with_reducible refine Below.alloc ?_ ?_ _) | (with_reducible refine Below.drew ?_) | (with_reducible refine below_dr ?_ _) | (with_reducible refine Below.trans ?_ (Below.mono (by with_reducible assumption) ?_)) | omega | (simp; done) | (simp; omega)))
    obtain ⟨hcw1, hfw1⟩ := bcell hbw1
    have hzw1 := hbw1.size
    (try simp only [World.size_alloc] at hcw1 hfw1 hzw1)
    have s1 : w1.cell? ⟨w.heap.size, 0, none⟩ = some (.int .i64 n1) := (hcw1 _ _ (by omega)).trans (by first | assumption | simp [go_sem])
    have s2 : w1.cell? ⟨w.heap.size, 1, none⟩ = some (.int .i64 d1) := (hcw1 _ _ (by omega)).trans (by first | assumption | simp [go_sem])
    have s3 : w1.cell? ⟨w.heap.size + 1, 0, none⟩ = some (.int .i64 n2) := (hcw1 _ _ (by omega)).trans (by first | assumption | simp [go_sem])
    have s4 : w1.cell? ⟨w.heap.size + 1, 1, none⟩ = some (.int .i64 d2) := (hcw1 _ _ (by omega)).trans (by first | assumption | simp [go_sem])
    have s5 : w1.cell? ⟨w.heap.size + 1 + 1, 0, none⟩ = some (.int .i64 0) := (hcw1 _ _ (by omega)).trans (by first | assumption | simp [go_sem])
    have s6 : w1.cell? ⟨w.heap.size + 1 + 1, 1, none⟩ = some (.int .i64 0) := (hcw1 _ _ (by omega)).trans (by first | assumption | simp [go_sem])
    have s7 : w1.cell? ⟨w.heap.size + 1 + 1, 2, none⟩ = some (.int .i64 0) := (hcw1 _ _ (by omega)).trans (by first | assumption | simp [go_sem])
    have s8 : w1.cell? ⟨w.heap.size + 1 + 1, 3, none⟩ = some (.int .i64 0) := (hcw1 _ _ (by omega)).trans (by first | assumption | simp [go_sem])
    have s9 : w1.cell? ⟨w.heap.size + 1 + 1, 4, none⟩ = some (.int .i64 0) := (hcw1 _ _ (by omega)).trans (by first | assumption | simp [go_sem])
    have s10 : w1.cell? ⟨w.heap.size + 1 + 1, 5, none⟩ = some (.int .i64 0) := (hcw1 _ _ (by omega)).trans (by first | assumption | simp [go_sem])
    have s11 : w1.cell? ⟨w.heap.size + 1 + 1, 6, none⟩ = some (.int .i64 0) := (hcw1 _ _ (by omega)).trans (by first | assumption | simp [go_sem])
    have s12 : w1.cell? ⟨w.heap.size + 1 + 1, 7, none⟩ = some (.int .i64 0) := (hcw1 _ _ (by omega)).trans (by first | assumption | simp [go_sem])
    have s13 : w1.cell? ⟨w.heap.size + 1 + 1, 8, none⟩ = some (.int .i64 0) := (hcw1 _ _ (by omega)).trans (by first | assumption | simp [go_sem])
    have s14 : w1.cell? ⟨w.heap.size + 1 + 1, 9, none⟩ = some (.int .i64 0) := (hcw1 _ _ (by omega)).trans (by first | assumption | simp [go_sem])
    have s15 : w1.cell? ⟨w.heap.size + 1 + 1, 10, none⟩ = some (.int .i64 0) := (hcw1 _ _ (by omega)).trans (by first | assumption | simp [go_sem])
    have s16 : w1.cell? ⟨w.heap.size + 1 + 1, 11, none⟩ = some (.int .i64 0) := (hcw1 _ _ (by omega)).trans (by first | assumption | simp [go_sem])
    have szq0 : w.heap.size < w1.heap.size := (by omega)
    have szq1 : w.heap.size + 1 < w1.heap.size := (by omega)
    have sz : w.heap.size + 1 + 1 < w1.heap.size := (by omega)
    have fs20 : w1.frozen? ⟨w.heap.size + 1 + 1, 0, none⟩ = false := (hfw1 _ _ (by omega)).trans (by first | assumption | simp [go_sem])
    have fs21 : w1.frozen? ⟨w.heap.size + 1 + 1, 1, none⟩ = false := (hfw1 _ _ (by omega)).trans (by first | assumption | simp [go_sem])
    have fs22 : w1.frozen? ⟨w.heap.size + 1 + 1, 2, none⟩ = false := (hfw1 _ _ (by omega)).trans (by first | assumption | simp [go_sem])
    have fs23 : w1.frozen? ⟨w.heap.size + 1 + 1, 3, none⟩ = false := (hfw1 _ _ (by omega)).trans (by first | assumption | simp [go_sem])
    have fs24 : w1.frozen? ⟨w.heap.size + 1 + 1, 4, none⟩ = false := (hfw1 _ _ (by omega)).trans (by first | assumption | simp [go_sem])
    have fs25 : w1.frozen? ⟨w.heap.size + 1 + 1, 5, none⟩ = false := (hfw1 _ _ (by omega)).trans (by first | assumption | simp [go_sem])
    have fs26 : w1.frozen? ⟨w.heap.size + 1 + 1, 6, none⟩ = false := (hfw1 _ _ (by omega)).trans (by first | assumption | simp [go_sem])
    have fs27 : w1.frozen? ⟨w.heap.size + 1 + 1, 7, none⟩ = false := (hfw1 _ _ (by omega)).trans (by first | assumption | simp [go_sem])
    have fs28 : w1.frozen? ⟨w.heap.size + 1 + 1, 8, none⟩ = false := (hfw1 _ _ (by omega)).trans (by first | assumption | simp [go_sem])
    have fs29 : w1.frozen? ⟨w.heap.size + 1 + 1, 9, none⟩ = false := (hfw1 _ _ (by omega)).trans (by first | assumption | simp [go_sem])
    have fs210 : w1.frozen? ⟨w.heap.size + 1 + 1, 10, none⟩ = false := (hfw1 _ _ (by omega)).trans (by first | assumption | simp [go_sem])
    have fs211 : w1.frozen? ⟨w.heap.size + 1 + 1, 11, none⟩ = false := (hfw1 _ _ (by omega)).trans (by first | assumption | simp [go_sem])
    clear hcw1 hfw1 hzw1
    go_wp2_with fail
    go_region
    go_wp2_with fail
    refine (C.out _).mono ?_
    rintro e w2 ⟨rfl, hbw2⟩
    have hz2 := hbw2.size
    (try simp only [World.size_drew] at hz2)
    (try simp only [World.size_setCell] at hz2)
    (try simp only [World.size_alloc] at hz2)
    obtain ⟨hc2, hf2⟩ := bcell hbw2
    (try simp only [World.size_drew] at hc2 hf2)
    (try simp only [World.size_alloc] at hc2 hf2)
    have y0 : w2.cell? ⟨w.heap.size + 1 + 1, 0, none⟩ = some (.int .i64 0) := (hc2 _ _ (by omega)).trans (by simp [go_sem, *])
    have y1 : w2.cell? ⟨w.heap.size + 1 + 1, 1, none⟩ = some (.int .i64 0) := (hc2 _ _ (by omega)).trans (by simp [go_sem, *])
    have y2 : w2.cell? ⟨w.heap.size + 1 + 1, 2, none⟩ = some (.int .i64 0) := (hc2 _ _ (by omega)).trans (by simp [go_sem, *])
    have y3 : w2.cell? ⟨w.heap.size + 1 + 1, 3, none⟩ = some (.int .i64 0) := (hc2 _ _ (by omega)).trans (by simp [go_sem, *])
    have y4 : w2.cell? ⟨w.heap.size + 1 + 1, 4, none⟩ = some (.int .i64 0) := (hc2 _ _ (by omega)).trans (by simp [go_sem, *])
    have y5 : w2.cell? ⟨w.heap.size + 1 + 1, 5, none⟩ = some (.int .i64 0) := (hc2 _ _ (by omega)).trans (by simp [go_sem, *])
    have y6 : w2.cell? ⟨w.heap.size + 1 + 1, 6, none⟩ = some (.int .i64 0) := (hc2 _ _ (by omega)).trans (by simp [go_sem, *])
    have y7 : w2.cell? ⟨w.heap.size + 1 + 1, 7, none⟩ = some (.int .i64 0) := (hc2 _ _ (by omega)).trans (by simp [go_sem, *])
    have y8 : w2.cell? ⟨w.heap.size + 1 + 1, 8, none⟩ = some (.int .i64 0) := (hc2 _ _ (by omega)).trans (by simp [go_sem, *])
    have y9 : w2.cell? ⟨w.heap.size + 1 + 1, 9, none⟩ = some (.int .i64 0) := (hc2 _ _ (by omega)).trans (by simp [go_sem, *])
    have y10 : w2.cell? ⟨w.heap.size + 1 + 1, 10, none⟩ = some (.int .i64 0) := (hc2 _ _ (by omega)).trans (by simp [go_sem, *])
    have y11 : w2.cell? ⟨w.heap.size + 1 + 1, 11, none⟩ = some (.int .i64 0) := (hc2 _ _ (by omega)).trans (by simp [go_sem, *])
    have f0 : w2.frozen? ⟨w.heap.size + 1 + 1, 0, none⟩ = false := (hf2 _ _ (by omega)).trans (by simp [go_sem, *])
    have f1 : w2.frozen? ⟨w.heap.size + 1 + 1, 1, none⟩ = false := (hf2 _ _ (by omega)).trans (by simp [go_sem, *])
    have f2 : w2.frozen? ⟨w.heap.size + 1 + 1, 2, none⟩ = false := (hf2 _ _ (by omega)).trans (by simp [go_sem, *])
    have f3 : w2.frozen? ⟨w.heap.size + 1 + 1, 3, none⟩ = false := (hf2 _ _ (by omega)).trans (by simp [go_sem, *])
    have f4 : w2.frozen? ⟨w.heap.size + 1 + 1, 4, none⟩ = false := (hf2 _ _ (by omega)).trans (by simp [go_sem, *])
    have f5 : w2.frozen? ⟨w.heap.size + 1 + 1, 5, none⟩ = false := (hf2 _ _ (by omega)).trans (by simp [go_sem, *])
    have f6 : w2.frozen? ⟨w.heap.size + 1 + 1, 6, none⟩ = false := (hf2 _ _ (by omega)).trans (by simp [go_sem, *])
    have f7 : w2.frozen? ⟨w.heap.size + 1 + 1, 7, none⟩ = false := (hf2 _ _ (by omega)).trans (by simp [go_sem, *])
    have f8 : w2.frozen? ⟨w.heap.size + 1 + 1, 8, none⟩ = false := (hf2 _ _ (by omega)).trans (by simp [go_sem, *])
    have f9 : w2.frozen? ⟨w.heap.size + 1 + 1, 9, none⟩ = false := (hf2 _ _ (by omega)).trans (by simp [go_sem, *])
    have f10 : w2.frozen? ⟨w.heap.size + 1 + 1, 10, none⟩ = false := (hf2 _ _ (by omega)).trans (by simp [go_sem, *])
    have f11 : w2.frozen? ⟨w.heap.size + 1 + 1, 11, none⟩ = false := (hf2 _ _ (by omega)).trans (by simp [go_sem, *])
    have zz : w.heap.size + 1 + 1 < w2.heap.size := by omega
    clear hc2 hf2
    go_wp2
    have ra := AtL.of12 y0 y1 y2 y3 y4 y5 y6 y7 y8 y9 y10 y11 zz
    have rc := ra.store12 (a0 := .int .i64 0) (a1 := .int .i64 0) (a2 := .int .i64 0) (a3 := .int .i64 0) (a4 := .int .i64 0) (a5 := .int .i64 0) (a6 := .int .i64 0) (a7 := .int .i64 0) (a8 := .int .i64 0) (a9 := .int .i64 0) (a10 := .int .i64 0) (a11 := .int .i64 0)
    have r0 := rc.cell 0 rfl
    have r1 := rc.cell 1 rfl
    have r2 := rc.cell 2 rfl
    have r3 := rc.cell 3 rfl
    have r4 := rc.cell 4 rfl
    have r5 := rc.cell 5 rfl
    have r6 := rc.cell 6 rfl
    have r7 := rc.cell 7 rfl
    have r8 := rc.cell 8 rfl
    have r9 := rc.cell 9 rfl
    have r10 := rc.cell 10 rfl
    have r11 := rc.cell 11 rfl
    refine bodyPost_ret (v := .tuple #[.agg #[.int .i64 0, .int .i64 0, .int .i64 0, .int .i64 0, .int .i64 0, .int .i64 0, .int .i64 0, .int .i64 0, .int .i64 0, .int .i64 0, .int .i64 0, .int .i64 0], .int .i64 1]) (by simp [results, Try.results24, go_sem, r0, r1, r2, r3, r4, r5, r6, r7, r8, r9, r10, r11]) rfl (MapRet.no HV.out ?_)
    repeat' (first | with_reducible assumption | with_reducible exact Below.refl _ _ | (with_reducible refine Below.setCell ?_ ?_ _) | (with_reducible refine Below.alloc ?_ ?_ _) | (with_reducible refine Below.drew ?_) | (with_reducible refine below_dr ?_ _) | (with_reducible refine Below.trans ?_ (Below.mono (by with_reducible assumption) ?_)) | omega | (simp; done) | (simp; omega))
  · rw [hv] at C
    have HV := Lib.hid hv
    clear hv
    unfold MapRet at C
    simp only [cond_true] at C
    go_enter Try.func24, Try.ntmps24
    go_wp2_with fail
    refine (implId_any _).mono ?_
    rintro e w1 ⟨rfl, hbw1⟩
    have g1 : Below w.heap.size w w1 := (by repeat' (first | with_reducible assumption | with_reducible exact Below.refl _ _ | (with_reducible refine Below.setCell ?_ ?_ _) | (with_reducible refine Below.alloc ?_ ?_ _) | (with_reducible refine Below.drew ?_) | (with_reducible refine below_dr ?_ _) | (with_reducible refine Below.trans ?_ (Below.mono (by with_reducible assumption) ?_)) | omega | (simp; done) | (simp; omega)))
    obtain ⟨hcw1, hfw1⟩ := bcell hbw1
    have hzw1 := hbw1.size
    (try simp only [World.size_alloc] at hcw1 hfw1 hzw1)
    have s1 : w1.cell? ⟨w.heap.size, 0, none⟩ = some (.int .i64 n1) := (hcw1 _ _ (by omega)).trans (by first | assumption | simp [go_sem])
    have s2 : w1.cell? ⟨w.heap.size, 1, none⟩ = some (.int .i64 d1) := (hcw1 _ _ (by omega)).trans (by first | assumption | simp [go_sem])
    have s3 : w1.cell? ⟨w.heap.size + 1, 0, none⟩ = some (.int .i64 n2) := (hcw1 _ _ (by omega)).trans (by first | assumption | simp [go_sem])
    have s4 : w1.cell? ⟨w.heap.size + 1, 1, none⟩ = some (.int .i64 d2) := (hcw1 _ _ (by omega)).trans (by first | assumption | simp [go_sem])
    have s5 : w1.cell? ⟨w.heap.size + 1 + 1, 0, none⟩ = some (.int .i64 0) := (hcw1 _ _ (by omega)).trans (by first | assumption | simp [go_sem])
    have s6 : w1.cell? ⟨w.heap.size + 1 + 1, 1, none⟩ = some (.int .i64 0) := (hcw1 _ _ (by omega)).trans (by first | assumption | simp [go_sem])
    have s7 : w1.cell? ⟨w.heap.size + 1 + 1, 2, none⟩ = some (.int .i64 0) := (hcw1 _ _ (by omega)).trans (by first | assumption | simp [go_sem])
    have s8 : w1.cell? ⟨w.heap.size + 1 + 1, 3, none⟩ = some (.int .i64 0) := (hcw1 _ _ (by omega)).trans (by first | assumption | simp [go_sem])
    have s9 : w1.cell? ⟨w.heap.size + 1 + 1, 4, none⟩ = some (.int .i64 0) := (hcw1 _ _ (by omega)).trans (by first | assumption | simp [go_sem])
    have s10 : w1.cell? ⟨w.heap.size + 1 + 1, 5, none⟩ = some (.int .i64 0) := (hcw1 _ _ (by omega)).trans (by first | assumption | simp [go_sem])
    have s11 : w1.cell? ⟨w.heap.size + 1 + 1, 6, none⟩ = some (.int .i64 0) := (hcw1 _ _ (by omega)).trans (by first | assumption | simp [go_sem])
    have s12 : w1.cell? ⟨w.heap.size + 1 + 1, 7, none⟩ = some (.int .i64 0) := (hcw1 _ _ (by omega)).trans (by first | assumption | simp [go_sem])
    have s13 : w1.cell? ⟨w.heap.size + 1 + 1, 8, none⟩ = some (.int .i64 0) := (hcw1 _ _ (by omega)).trans (by first | assumption | simp [go_sem])
    have s14 : w1.cell? ⟨w.heap.size + 1 + 1, 9, none⟩ = some (.int .i64 0) := (hcw1 _ _ (by omega)).trans (by first | assumption | simp [go_sem])
    have s15 : w1.cell? ⟨w.heap.size + 1 + 1, 10, none⟩ = some (.int .i64 0) := (hcw1 _ _ (by omega)).trans (by first | assumption | simp [go_sem])
    have s16 : w1.cell? ⟨w.heap.size + 1 + 1, 11, none⟩ = some (.int .i64 0) := (hcw1 _ _ (by omega)).trans (by first | assumption | simp [go_sem])
    have szq0 : w.heap.size < w1.heap.size := (by omega)
    have szq1 : w.heap.size + 1 < w1.heap.size := (by omega)
    have sz : w.heap.size + 1 + 1 < w1.heap.size := (by omega)
    have fs20 : w1.frozen? ⟨w.heap.size + 1 + 1, 0, none⟩ = false := (hfw1 _ _ (by omega)).trans (by first | assumption | simp [go_sem])
    have fs21 : w1.frozen? ⟨w.heap.size + 1 + 1, 1, none⟩ = false := (hfw1 _ _ (by omega)).trans (by first | assumption | simp [go_sem])
    have fs22 : w1.frozen? ⟨w.heap.size + 1 + 1, 2, none⟩ = false := (hfw1 _ _ (by omega)).trans (by first | assumption | simp [go_sem])
    have fs23 : w1.frozen? ⟨w.heap.size + 1 + 1, 3, none⟩ = false := (hfw1 _ _ (by omega)).trans (by first | assumption | simp [go_sem])
    have fs24 : w1.frozen? ⟨w.heap.size + 1 + 1, 4, none⟩ = false := (hfw1 _ _ (by omega)).trans (by first | assumption | simp [go_sem])
    have fs25 : w1.frozen? ⟨w.heap.size + 1 + 1, 5, none⟩ = false := (hfw1 _ _ (by omega)).trans (by first | assumption | simp [go_sem])
    have fs26 : w1.frozen? ⟨w.heap.size + 1 + 1, 6, none⟩ = false := (hfw1 _ _ (by omega)).trans (by first | assumption | simp [go_sem])
    have fs27 : w1.frozen? ⟨w.heap.size + 1 + 1, 7, none⟩ = false := (hfw1 _ _ (by omega)).trans (by first | assumption | simp [go_sem])
    have fs28 : w1.frozen? ⟨w.heap.size + 1 + 1, 8, none⟩ = false := (hfw1 _ _ (by omega)).trans (by first | assumption | simp [go_sem])
    have fs29 : w1.frozen? ⟨w.heap.size + 1 + 1, 9, none⟩ = false := (hfw1 _ _ (by omega)).trans (by first | assumption | simp [go_sem])
    have fs210 : w1.frozen? ⟨w.heap.size + 1 + 1, 10, none⟩ = false := (hfw1 _ _ (by omega)).trans (by first | assumption | simp [go_sem])
    have fs211 : w1.frozen? ⟨w.heap.size + 1 + 1, 11, none⟩ = false := (hfw1 _ _ (by omega)).trans (by first | assumption | simp [go_sem])
    clear hcw1 hfw1 hzw1
    go_wp2_with fail
    go_region
    go_wp2_with fail
    refine (C.out _).mono ?_
    rintro e w2 ⟨rfl, hbw2⟩
    have hz2 := hbw2.size
    (try simp only [World.size_drew] at hz2)
    (try simp only [World.size_setCell] at hz2)
    (try simp only [World.size_alloc] at hz2)
    obtain ⟨hc2, hf2⟩ := bcell hbw2
    (try simp only [World.size_drew] at hc2 hf2)
    (try simp only [World.size_alloc] at hc2 hf2)
    have y0 : w2.cell? ⟨w.heap.size + 1 + 1, 0, none⟩ = some (.int .i64 0) := (hc2 _ _ (by omega)).trans (by simp [go_sem, *])
    have y1 : w2.cell? ⟨w.heap.size + 1 + 1, 1, none⟩ = some (.int .i64 0) := (hc2 _ _ (by omega)).trans (by simp [go_sem, *])
    have y2 : w2.cell? ⟨w.heap.size + 1 + 1, 2, none⟩ = some (.int .i64 0) := (hc2 _ _ (by omega)).trans (by simp [go_sem, *])
    have y3 : w2.cell? ⟨w.heap.size + 1 + 1, 3, none⟩ = some (.int .i64 0) := (hc2 _ _ (by omega)).trans (by simp [go_sem, *])
    have y4 : w2.cell? ⟨w.heap.size + 1 + 1, 4, none⟩ = some (.int .i64 0) := (hc2 _ _ (by omega)).trans (by simp [go_sem, *])
    have y5 : w2.cell? ⟨w.heap.size + 1 + 1, 5, none⟩ = some (.int .i64 0) := (hc2 _ _ (by omega)).trans (by simp [go_sem, *])
    have y6 : w2.cell? ⟨w.heap.size + 1 + 1, 6, none⟩ = some (.int .i64 0) := (hc2 _ _ (by omega)).trans (by simp [go_sem, *])
    have y7 : w2.cell? ⟨w.heap.size + 1 + 1, 7, none⟩ = some (.int .i64 0) := (hc2 _ _ (by omega)).trans (by simp [go_sem, *])
    have y8 : w2.cell? ⟨w.heap.size + 1 + 1, 8, none⟩ = some (.int .i64 0) := (hc2 _ _ (by omega)).trans (by simp [go_sem, *])
    have y9 : w2.cell? ⟨w.heap.size + 1 + 1, 9, none⟩ = some (.int .i64 0) := (hc2 _ _ (by omega)).trans (by simp [go_sem, *])
    have y10 : w2.cell? ⟨w.heap.size + 1 + 1, 10, none⟩ = some (.int .i64 0) := (hc2 _ _ (by omega)).trans (by simp [go_sem, *])
    have y11 : w2.cell? ⟨w.heap.size + 1 + 1, 11, none⟩ = some (.int .i64 0) := (hc2 _ _ (by omega)).trans (by simp [go_sem, *])
    have f0 : w2.frozen? ⟨w.heap.size + 1 + 1, 0, none⟩ = false := (hf2 _ _ (by omega)).trans (by simp [go_sem, *])
    have f1 : w2.frozen? ⟨w.heap.size + 1 + 1, 1, none⟩ = false := (hf2 _ _ (by omega)).trans (by simp [go_sem, *])
    have f2 : w2.frozen? ⟨w.heap.size + 1 + 1, 2, none⟩ = false := (hf2 _ _ (by omega)).trans (by simp [go_sem, *])
    have f3 : w2.frozen? ⟨w.heap.size + 1 + 1, 3, none⟩ = false := (hf2 _ _ (by omega)).trans (by simp [go_sem, *])
    have f4 : w2.frozen? ⟨w.heap.size + 1 + 1, 4, none⟩ = false := (hf2 _ _ (by omega)).trans (by simp [go_sem, *])
    have f5 : w2.frozen? ⟨w.heap.size + 1 + 1, 5, none⟩ = false := (hf2 _ _ (by omega)).trans (by simp [go_sem, *])
    have f6 : w2.frozen? ⟨w.heap.size + 1 + 1, 6, none⟩ = false := (hf2 _ _ (by omega)).trans (by simp [go_sem, *])
    have f7 : w2.frozen? ⟨w.heap.size + 1 + 1, 7, none⟩ = false := (hf2 _ _ (by omega)).trans (by simp [go_sem, *])
    have f8 : w2.frozen? ⟨w.heap.size + 1 + 1, 8, none⟩ = false := (hf2 _ _ (by omega)).trans (by simp [go_sem, *])
    have f9 : w2.frozen? ⟨w.heap.size + 1 + 1, 9, none⟩ = false := (hf2 _ _ (by omega)).trans (by simp [go_sem, *])
    have f10 : w2.frozen? ⟨w.heap.size + 1 + 1, 10, none⟩ = false := (hf2 _ _ (by omega)).trans (by simp [go_sem, *])
    have f11 : w2.frozen? ⟨w.heap.size + 1 + 1, 11, none⟩ = false := (hf2 _ _ (by omega)).trans (by simp [go_sem, *])
    have zz : w.heap.size + 1 + 1 < w2.heap.size := by omega
    clear hc2 hf2
    go_wp2
    have ra := AtL.of12 y0 y1 y2 y3 y4 y5 y6 y7 y8 y9 y10 y11 zz
    have rc := ra.store12 (a0 := .int .i64 n1) (a1 := .int .i64 d1) (a2 := .int .i64 0) (a3 := .int .i64 1) (a4 := .int .i64 0) (a5 := .int .i64 1) (a6 := .int .i64 n2) (a7 := .int .i64 d2) (a8 := .int .i64 0) (a9 := .int .i64 1) (a10 := .int .i64 0) (a11 := .int .i64 1)
    have r0 := rc.cell 0 rfl
    have r1 := rc.cell 1 rfl
    have r2 := rc.cell 2 rfl
    have r3 := rc.cell 3 rfl
    have r4 := rc.cell 4 rfl
    have r5 := rc.cell 5 rfl
    have r6 := rc.cell 6 rfl
    have r7 := rc.cell 7 rfl
    have r8 := rc.cell 8 rfl
    have r9 := rc.cell 9 rfl
    have r10 := rc.cell 10 rfl
    have r11 := rc.cell 11 rfl
    refine bodyPost_ret (v := .tuple #[.agg #[.int .i64 n1, .int .i64 d1, .int .i64 0, .int .i64 1, .int .i64 0, .int .i64 1, .int .i64 n2, .int .i64 d2, .int .i64 0, .int .i64 1, .int .i64 0, .int .i64 1], .int .i64 0]) (by simp [results, Try.results24, go_sem, r0, r1, r2, r3, r4, r5, r6, r7, r8, r9, r10, r11]) rfl (MapRet.yes HV.out ?_)
    repeat' (first | with_reducible assumption | with_reducible exact Below.refl _ _ | (with_reducible refine Below.setCell ?_ ?_ _) | (with_reducible refine Below.alloc ?_ ?_ _) | (with_reducible refine Below.drew ?_) | (with_reducible refine below_dr ?_ _) | (with_reducible refine Below.trans ?_ (Below.mono (by with_reducible assumption) ?_)) | omega | (simp; done) | (simp; omega))
theorem valid_SlantMap (n1 d1 : Int) : validA 1 1 n1 d1 0 1 1 1 0 1 0 1 = (validB n1 d1) := by simp [validA, valid11, valid01]
set_option maxHeartbeats 3200000 in
theorem implSlantMap_any (n1 d1 : Int) (w : World) (h_n1 : -9223372036854775808 ≤ n1 ∧ n1 ≤ 9223372036854775807) (h_d1 : -9223372036854775808 ≤ d1 ∧ d1 ≤ 9223372036854775807) :
    Calls Try.prog 26 #[.agg #[.int .i64 n1, .int .i64 d1]] w (MapRet (validB n1 d1) 1 1 n1 d1 0 1 1 1 0 1 0 1 w) := by
  have C := Lib.hid (fun w => checkedMap_any 1 1 n1 d1 0 1 1 1 0 1 0 1 w (by omega) (by omega) h_n1 h_d1 (by omega) (by omega) (by omega) (by omega) (by omega) (by omega) (by omega) (by omega))
  rw [valid_SlantMap] at C
  clear h_n1 h_d1
  rcases (Bool.eq_false_or_eq_true (validB n1 d1)).symm with hv | hv
  · rw [hv] at C
    have HV := Lib.hid hv
    clear hv
    unfold MapRet at C
    simp only [cond_false] at C
    go_enter Try.func26, Try.ntmps26
    go_wp2_with fail
    refine (implId_any _).mono ?_
    rintro e w1 ⟨rfl, hbw1⟩
    have g1 : Below w.heap.size w w1 := (by repeat' (first | with_reducible assumption | with_reducible exact Below.refl _ _ | (with_reducible refine Below.setCell ?_ ?_ _) | (with_reducible refine Below.alloc ?_ ?_ _) | (with_reducible refine Below.drew ?_) | (with_reducible refine below_dr ?_ _) | (with_reducible refine Below.trans ?_ (Below.mono (by with_reducible assumption) ?_)) | omega | (simp; done) | (simp; omega)))
    obtain ⟨hcw1, hfw1⟩ := bcell hbw1
    have hzw1 := hbw1.size
    (try simp only [World.size_alloc] at hcw1 hfw1 hzw1)
    have s1 : w1.cell? ⟨w.heap.size, 0, none⟩ = some (.int .i64 n1) := (hcw1 _ _ (by omega)).trans (by first | assumption | simp [go_sem])
    have s2 : w1.cell? ⟨w.heap.size, 1, none⟩ = some (.int .i64 d1) := (hcw1 _ _ (by omega)).trans (by first | assumption | simp [go_sem])
    have s3 : w1.cell? ⟨w.heap.size + 1, 0, none⟩ = some (.int .i64 0) := (hcw1 _ _ (by omega)).trans (by first | assumption | simp [go_sem])
    have s4 : w1.cell? ⟨w.heap.size + 1, 1, none⟩ = some (.int .i64 0) := (hcw1 _ _ (by omega)).trans (by first | assumption | simp [go_sem])
    have s5 : w1.cell? ⟨w.heap.size + 1, 2, none⟩ = some (.int .i64 0) := (hcw1 _ _ (by omega)).trans (by first | assumption | simp [go_sem])
    have s6 : w1.cell? ⟨w.heap.size + 1, 3, none⟩ = some (.int .i64 0) := (hcw1 _ _ (by omega)).trans (by first | assumption | simp [go_sem])
    have s7 : w1.cell? ⟨w.heap.size + 1, 4, none⟩ = some (.int .i64 0) := (hcw1 _ _ (by omega)).trans (by first | assumption | simp [go_sem])
    have s8 : w1.cell? ⟨w.heap.size + 1, 5, none⟩ = some (.int .i64 0) := (hcw1 _ _ (by omega)).trans (by first | assumption | simp [go_sem])
    have s9 : w1.cell? ⟨w.heap.size + 1, 6, none⟩ = some (.int .i64 0) := (hcw1 _ _ (by omega)).trans (by first | assumption | simp [go_sem])
    have s10 : w1.cell? ⟨w.heap.size + 1, 7, none⟩ = some (.int .i64 0) := (hcw1 _ _ (by omega)).trans (by first | assumption | simp [go_sem])
    have s11 : w1.cell? ⟨w.heap.size + 1, 8, none⟩ = some (.int .i64 0) := (hcw1 _ _ (by omega)).trans (by first | assumption | simp [go_sem])
    have s12 : w1.cell? ⟨w.heap.size + 1, 9, none⟩ = some (.int .i64 0) := (hcw1 _ _ (by omega)).trans (by first | assumption | simp [go_sem])
    have s13 : w1.cell? ⟨w.heap.size + 1, 10, none⟩ = some (.int .i64 0) := (hcw1 _ _ (by omega)).trans (by first | assumption | simp [go_sem])
    have s14 : w1.cell? ⟨w.heap.size + 1, 11, none⟩ = some (.int .i64 0) := (hcw1 _ _ (by omega)).trans (by first | assumption | simp [go_sem])
    have szq0 : w.heap.size < w1.heap.size := (by omega)
    have sz : w.heap.size + 1 < w1.heap.size := (by omega)
    have fs10 : w1.frozen? ⟨w.heap.size + 1, 0, none⟩ = false := (hfw1 _ _ (by omega)).trans (by first | assumption | simp [go_sem])
    have fs11 : w1.frozen? ⟨w.heap.size + 1, 1, none⟩ = false := (hfw1 _ _ (by omega)).trans (by first | assumption | simp [go_sem])
    have fs12 : w1.frozen? ⟨w.heap.size + 1, 2, none⟩ = false := (hfw1 _ _ (by omega)).trans (by first | assumption | simp [go_sem])
    have fs13 : w1.frozen? ⟨w.heap.size + 1, 3, none⟩ = false := (hfw1 _ _ (by omega)).trans (by first | assumption | simp [go_sem])
    have fs14 : w1.frozen? ⟨w.heap.size + 1, 4, none⟩ = false := (hfw1 _ _ (by omega)).trans (by first | assumption | simp [go_sem])
    have fs15 : w1.frozen? ⟨w.heap.size + 1, 5, none⟩ = false := (hfw1 _ _ (by omega)).trans (by first | assumption | simp [go_sem])
    have fs16 : w1.frozen? ⟨w.heap.size + 1, 6, none⟩ = false := (hfw1 _ _ (by omega)).trans (by first | assumption | simp [go_sem])
    have fs17 : w1.frozen? ⟨w.heap.size + 1, 7, none⟩ = false := (hfw1 _ _ (by omega)).trans (by first | assumption | simp [go_sem])
    have fs18 : w1.frozen? ⟨w.heap.size + 1, 8, none⟩ = false := (hfw1 _ _ (by omega)).trans (by first | assumption | simp [go_sem])
    have fs19 : w1.frozen? ⟨w.heap.size + 1, 9, none⟩ = false := (hfw1 _ _ (by omega)).trans (by first | assumption | simp [go_sem])
    have fs110 : w1.frozen? ⟨w.heap.size + 1, 10, none⟩ = false := (hfw1 _ _ (by omega)).trans (by first | assumption | simp [go_sem])
    have fs111 : w1.frozen? ⟨w.heap.size + 1, 11, none⟩ = false := (hfw1 _ _ (by omega)).trans (by first | assumption | simp [go_sem])
    clear hcw1 hfw1 hzw1
    go_wp2_with fail
    refine (C.out _).mono ?_
    rintro e w2 ⟨rfl, hbw2⟩
    have hz2 := hbw2.size
    (try simp only [World.size_drew] at hz2)
    (try simp only [World.size_setCell] at hz2)
    (try simp only [World.size_alloc] at hz2)
    obtain ⟨hc2, hf2⟩ := bcell hbw2
    (try simp only [World.size_drew] at hc2 hf2)
    (try simp only [World.size_alloc] at hc2 hf2)
    have y0 : w2.cell? ⟨w.heap.size + 1, 0, none⟩ = some (.int .i64 0) := (hc2 _ _ (by omega)).trans (by simp [go_sem, *])
    have y1 : w2.cell? ⟨w.heap.size + 1, 1, none⟩ = some (.int .i64 0) := (hc2 _ _ (by omega)).trans (by simp [go_sem, *])
    have y2 : w2.cell? ⟨w.heap.size + 1, 2, none⟩ = some (.int .i64 0) := (hc2 _ _ (by omega)).trans (by simp [go_sem, *])
    have y3 : w2.cell? ⟨w.heap.size + 1, 3, none⟩ = some (.int .i64 0) := (hc2 _ _ (by omega)).trans (by simp [go_sem, *])
    have y4 : w2.cell? ⟨w.heap.size + 1, 4, none⟩ = some (.int .i64 0) := (hc2 _ _ (by omega)).trans (by simp [go_sem, *])
    have y5 : w2.cell? ⟨w.heap.size + 1, 5, none⟩ = some (.int .i64 0) := (hc2 _ _ (by omega)).trans (by simp [go_sem, *])
    have y6 : w2.cell? ⟨w.heap.size + 1, 6, none⟩ = some (.int .i64 0) := (hc2 _ _ (by omega)).trans (by simp [go_sem, *])
    have y7 : w2.cell? ⟨w.heap.size + 1, 7, none⟩ = some (.int .i64 0) := (hc2 _ _ (by omega)).trans (by simp [go_sem, *])
    have y8 : w2.cell? ⟨w.heap.size + 1, 8, none⟩ = some (.int .i64 0) := (hc2 _ _ (by omega)).trans (by simp [go_sem, *])
    have y9 : w2.cell? ⟨w.heap.size + 1, 9, none⟩ = some (.int .i64 0) := (hc2 _ _ (by omega)).trans (by simp [go_sem, *])
    have y10 : w2.cell? ⟨w.heap.size + 1, 10, none⟩ = some (.int .i64 0) := (hc2 _ _ (by omega)).trans (by simp [go_sem, *])
    have y11 : w2.cell? ⟨w.heap.size + 1, 11, none⟩ = some (.int .i64 0) := (hc2 _ _ (by omega)).trans (by simp [go_sem, *])
    have f0 : w2.frozen? ⟨w.heap.size + 1, 0, none⟩ = false := (hf2 _ _ (by omega)).trans (by simp [go_sem, *])
    have f1 : w2.frozen? ⟨w.heap.size + 1, 1, none⟩ = false := (hf2 _ _ (by omega)).trans (by simp [go_sem, *])
    have f2 : w2.frozen? ⟨w.heap.size + 1, 2, none⟩ = false := (hf2 _ _ (by omega)).trans (by simp [go_sem, *])
    have f3 : w2.frozen? ⟨w.heap.size + 1, 3, none⟩ = false := (hf2 _ _ (by omega)).trans (by simp [go_sem, *])
    have f4 : w2.frozen? ⟨w.heap.size + 1, 4, none⟩ = false := (hf2 _ _ (by omega)).trans (by simp [go_sem, *])
    have f5 : w2.frozen? ⟨w.heap.size + 1, 5, none⟩ = false := (hf2 _ _ (by omega)).trans (by simp [go_sem, *])
    have f6 : w2.frozen? ⟨w.heap.size + 1, 6, none⟩ = false := (hf2 _ _ (by omega)).trans (by simp [go_sem, *])
    have f7 : w2.frozen? ⟨w.heap.size + 1, 7, none⟩ = false := (hf2 _ _ (by omega)).trans (by simp [go_sem, *])
    have f8 : w2.frozen? ⟨w.heap.size + 1, 8, none⟩ = false := (hf2 _ _ (by omega)).trans (by simp [go_sem, *])
    have f9 : w2.frozen? ⟨w.heap.size + 1, 9, none⟩ = false := (hf2 _ _ (by omega)).trans (by simp [go_sem, *])
    have f10 : w2.frozen? ⟨w.heap.size + 1, 10, none⟩ = false := (hf2 _ _ (by omega)).trans (by simp [go_sem, *])
    have f11 : w2.frozen? ⟨w.heap.size + 1, 11, none⟩ = false := (hf2 _ _ (by omega)).trans (by simp [go_sem, *])
    have zz : w.heap.size + 1 < w2.heap.size := by omega
    clear hc2 hf2
    go_wp2
    have ra := AtL.of12 y0 y1 y2 y3 y4 y5 y6 y7 y8 y9 y10 y11 zz
    have rc := ra.store12 (a0 := .int .i64 0) (a1 := .int .i64 0) (a2 := .int .i64 0) (a3 := .int .i64 0) (a4 := .int .i64 0) (a5 := .int .i64 0) (a6 := .int .i64 0) (a7 := .int .i64 0) (a8 := .int .i64 0) (a9 := .int .i64 0) (a10 := .int .i64 0) (a11 := .int .i64 0)
    have r0 := rc.cell 0 rfl
    have r1 := rc.cell 1 rfl
    have r2 := rc.cell 2 rfl
    have r3 := rc.cell 3 rfl
    have r4 := rc.cell 4 rfl
    have r5 := rc.cell 5 rfl
    have r6 := rc.cell 6 rfl
    have r7 := rc.cell 7 rfl
    have r8 := rc.cell 8 rfl
    have r9 := rc.cell 9 rfl
    have r10 := rc.cell 10 rfl
    have r11 := rc.cell 11 rfl
    refine bodyPost_ret (v := .tuple #[.agg #[.int .i64 0, .int .i64 0, .int .i64 0, .int .i64 0, .int .i64 0, .int .i64 0, .int .i64 0, .int .i64 0, .int .i64 0, .int .i64 0, .int .i64 0, .int .i64 0], .int .i64 1]) (by simp [results, Try.results26, go_sem, r0, r1, r2, r3, r4, r5, r6, r7, r8, r9, r10, r11]) rfl (MapRet.no HV.out ?_)
    repeat' (first | with_reducible assumption | with_reducible exact Below.refl _ _ | (with_reducible refine Below.setCell ?_ ?_ _) | (with_reducible refine Below.alloc ?_ ?_ _) | (with_reducible refine Below.drew ?_) | (with_reducible refine below_dr ?_ _) | (with_reducible refine Below.trans ?_ (Below.mono (by with_reducible assumption) ?_)) | omega | (simp; done) | (simp; omega))
  · rw [hv] at C
    have HV := Lib.hid hv
    clear hv
    unfold MapRet at C
    simp only [cond_true] at C
    go_enter Try.func26, Try.ntmps26
    go_wp2_with fail
    refine (implId_any _).mono ?_
    rintro e w1 ⟨rfl, hbw1⟩
    have g1 : Below w.heap.size w w1 := (by repeat' (first | with_reducible assumption | with_reducible exact Below.refl _ _ | (with_reducible refine Below.setCell ?_ ?_ _) | (with_reducible refine Below.alloc ?_ ?_ _) | (with_reducible refine Below.drew ?_) | (with_reducible refine below_dr ?_ _) | (with_reducible refine Below.trans ?_ (Below.mono (by with_reducible assumption) ?_)) | omega | (simp; done) | (simp; omega)))
    obtain ⟨hcw1, hfw1⟩ := bcell hbw1
    have hzw1 := hbw1.size
    (try simp only [World.size_alloc] at hcw1 hfw1 hzw1)
    have s1 : w1.cell? ⟨w.heap.size, 0, none⟩ = some (.int .i64 n1) := (hcw1 _ _ (by omega)).trans (by first | assumption | simp [go_sem])
    have s2 : w1.cell? ⟨w.heap.size, 1, none⟩ = some (.int .i64 d1) := (hcw1 _ _ (by omega)).trans (by first | assumption | simp [go_sem])
    have s3 : w1.cell? ⟨w.heap.size + 1, 0, none⟩ = some (.int .i64 0) := (hcw1 _ _ (by omega)).trans (by first | assumption | simp [go_sem])
    have s4 : w1.cell? ⟨w.heap.size + 1, 1, none⟩ = some (.int .i64 0) := (hcw1 _ _ (by omega)).trans (by first | assumption | simp [go_sem])
    have s5 : w1.cell? ⟨w.heap.size + 1, 2, none⟩ = some (.int .i64 0) := (hcw1 _ _ (by omega)).trans (by first | assumption | simp [go_sem])
    have s6 : w1.cell? ⟨w.heap.size + 1, 3, none⟩ = some (.int .i64 0) := (hcw1 _ _ (by omega)).trans (by first | assumption | simp [go_sem])
    have s7 : w1.cell? ⟨w.heap.size + 1, 4, none⟩ = some (.int .i64 0) := (hcw1 _ _ (by omega)).trans (by first | assumption | simp [go_sem])
    have s8 : w1.cell? ⟨w.heap.size + 1, 5, none⟩ = some (.int .i64 0) := (hcw1 _ _ (by omega)).trans (by first | assumption | simp [go_sem])
    have s9 : w1.cell? ⟨w.heap.size + 1, 6, none⟩ = some (.int .i64 0) := (hcw1 _ _ (by omega)).trans (by first | assumption | simp [go_sem])
    have s10 : w1.cell? ⟨w.heap.size + 1, 7, none⟩ = some (.int .i64 0) := (hcw1 _ _ (by omega)).trans (by first | assumption | simp [go_sem])
    have s11 : w1.cell? ⟨w.heap.size + 1, 8, none⟩ = some (.int .i64 0) := (hcw1 _ _ (by omega)).trans (by first | assumption | simp [go_sem])
    have s12 : w1.cell? ⟨w.heap.size + 1, 9, none⟩ = some (.int .i64 0) := (hcw1 _ _ (by omega)).trans (by first | assumption | simp [go_sem])
    have s13 : w1.cell? ⟨w.heap.size + 1, 10, none⟩ = some (.int .i64 0) := (hcw1 _ _ (by omega)).trans (by first | assumption | simp [go_sem])
    have s14 : w1.cell? ⟨w.heap.size + 1, 11, none⟩ = some (.int .i64 0) := (hcw1 _ _ (by omega)).trans (by first | assumption | simp [go_sem])
    have szq0 : w.heap.size < w1.heap.size := (by omega)
    have sz : w.heap.size + 1 < w1.heap.size := (by omega)
    have fs10 : w1.frozen? ⟨w.heap.size + 1, 0, none⟩ = false := (hfw1 _ _ (by omega)).trans (by first | assumption | simp [go_sem])
    have fs11 : w1.frozen? ⟨w.heap.size + 1, 1, none⟩ = false := (hfw1 _ _ (by omega)).trans (by first | assumption | simp [go_sem])
    have fs12 : w1.frozen? ⟨w.heap.size + 1, 2, none⟩ = false := (hfw1 _ _ (by omega)).trans (by first | assumption | simp [go_sem])
    have fs13 : w1.frozen? ⟨w.heap.size + 1, 3, none⟩ = false := (hfw1 _ _ (by omega)).trans (by first | assumption | simp [go_sem])
    have fs14 : w1.frozen? ⟨w.heap.size + 1, 4, none⟩ = false := (hfw1 _ _ (by omega)).trans (by first | assumption | simp [go_sem])
    have fs15 : w1.frozen? ⟨w.heap.size + 1, 5, none⟩ = false := (hfw1 _ _ (by omega)).trans (by first | assumption | simp [go_sem])
    have fs16 : w1.frozen? ⟨w.heap.size + 1, 6, none⟩ = false := (hfw1 _ _ (by omega)).trans (by first | assumption | simp [go_sem])
    have fs17 : w1.frozen? ⟨w.heap.size + 1, 7, none⟩ = false := (hfw1 _ _ (by omega)).trans (by first | assumption | simp [go_sem])
    have fs18 : w1.frozen? ⟨w.heap.size + 1, 8, none⟩ = false := (hfw1 _ _ (by omega)).trans (by first | assumption | simp [go_sem])
    have fs19 : w1.frozen? ⟨w.heap.size + 1, 9, none⟩ = false := (hfw1 _ _ (by omega)).trans (by first | assumption | simp [go_sem])
    have fs110 : w1.frozen? ⟨w.heap.size + 1, 10, none⟩ = false := (hfw1 _ _ (by omega)).trans (by first | assumption | simp [go_sem])
    have fs111 : w1.frozen? ⟨w.heap.size + 1, 11, none⟩ = false := (hfw1 _ _ (by omega)).trans (by first | assumption | simp [go_sem])
    clear hcw1 hfw1 hzw1
    go_wp2_with fail
    refine (C.out _).mono ?_
    rintro e w2 ⟨rfl, hbw2⟩
    have hz2 := hbw2.size
    (try simp only [World.size_drew] at hz2)
    (try simp only [World.size_setCell] at hz2)
    (try simp only [World.size_alloc] at hz2)
    obtain ⟨hc2, hf2⟩ := bcell hbw2
    (try simp only [World.size_drew] at hc2 hf2)
    (try simp only [World.size_alloc] at hc2 hf2)
    have y0 : w2.cell? ⟨w.heap.size + 1, 0, none⟩ = some (.int .i64 0) := (hc2 _ _ (by omega)).trans (by simp [go_sem, *])
    have y1 : w2.cell? ⟨w.heap.size + 1, 1, none⟩ = some (.int .i64 0) := (hc2 _ _ (by omega)).trans (by simp [go_sem, *])
    have y2 : w2.cell? ⟨w.heap.size + 1, 2, none⟩ = some (.int .i64 0) := (hc2 _ _ (by omega)).trans (by simp [go_sem, *])
    have y3 : w2.cell? ⟨w.heap.size + 1, 3, none⟩ = some (.int .i64 0) := (hc2 _ _ (by omega)).trans (by simp [go_sem, *])
    have y4 : w2.cell? ⟨w.heap.size + 1, 4, none⟩ = some (.int .i64 0) := (hc2 _ _ (by omega)).trans (by simp [go_sem, *])
    have y5 : w2.cell? ⟨w.heap.size + 1, 5, none⟩ = some (.int .i64 0) := (hc2 _ _ (by omega)).trans (by simp [go_sem, *])
    have y6 : w2.cell? ⟨w.heap.size + 1, 6, none⟩ = some (.int .i64 0) := (hc2 _ _ (by omega)).trans (by simp [go_sem, *])
    have y7 : w2.cell? ⟨w.heap.size + 1, 7, none⟩ = some (.int .i64 0) := (hc2 _ _ (by omega)).trans (by simp [go_sem, *])
    have y8 : w2.cell? ⟨w.heap.size + 1, 8, none⟩ = some (.int .i64 0) := (hc2 _ _ (by omega)).trans (by simp [go_sem, *])
    have y9 : w2.cell? ⟨w.heap.size + 1, 9, none⟩ = some (.int .i64 0) := (hc2 _ _ (by omega)).trans (by simp [go_sem, *])
    have y10 : w2.cell? ⟨w.heap.size + 1, 10, none⟩ = some (.int .i64 0) := (hc2 _ _ (by omega)).trans (by simp [go_sem, *])
    have y11 : w2.cell? ⟨w.heap.size + 1, 11, none⟩ = some (.int .i64 0) := (hc2 _ _ (by omega)).trans (by simp [go_sem, *])
    have f0 : w2.frozen? ⟨w.heap.size + 1, 0, none⟩ = false := (hf2 _ _ (by omega)).trans (by simp [go_sem, *])
    have f1 : w2.frozen? ⟨w.heap.size + 1, 1, none⟩ = false := (hf2 _ _ (by omega)).trans (by simp [go_sem, *])
    have f2 : w2.frozen? ⟨w.heap.size + 1, 2, none⟩ = false := (hf2 _ _ (by omega)).trans (by simp [go_sem, *])
    have f3 : w2.frozen? ⟨w.heap.size + 1, 3, none⟩ = false := (hf2 _ _ (by omega)).trans (by simp [go_sem, *])
    have f4 : w2.frozen? ⟨w.heap.size + 1, 4, none⟩ = false := (hf2 _ _ (by omega)).trans (by simp [go_sem, *])
    have f5 : w2.frozen? ⟨w.heap.size + 1, 5, none⟩ = false := (hf2 _ _ (by omega)).trans (by simp [go_sem, *])
    have f6 : w2.frozen? ⟨w.heap.size + 1, 6, none⟩ = false := (hf2 _ _ (by omega)).trans (by simp [go_sem, *])
    have f7 : w2.frozen? ⟨w.heap.size + 1, 7, none⟩ = false := (hf2 _ _ (by omega)).trans (by simp [go_sem, *])
    have f8 : w2.frozen? ⟨w.heap.size + 1, 8, none⟩ = false := (hf2 _ _ (by omega)).trans (by simp [go_sem, *])
    have f9 : w2.frozen? ⟨w.heap.size + 1, 9, none⟩ = false := (hf2 _ _ (by omega)).trans (by simp [go_sem, *])
    have f10 : w2.frozen? ⟨w.heap.size + 1, 10, none⟩ = false := (hf2 _ _ (by omega)).trans (by simp [go_sem, *])
    have f11 : w2.frozen? ⟨w.heap.size + 1, 11, none⟩ = false := (hf2 _ _ (by omega)).trans (by simp [go_sem, *])
    have zz : w.heap.size + 1 < w2.heap.size := by omega
    clear hc2 hf2
    go_wp2
    have ra := AtL.of12 y0 y1 y2 y3 y4 y5 y6 y7 y8 y9 y10 y11 zz
    have rc := ra.store12 (a0 := .int .i64 1) (a1 := .int .i64 1) (a2 := .int .i64 n1) (a3 := .int .i64 d1) (a4 := .int .i64 0) (a5 := .int .i64 1) (a6 := .int .i64 1) (a7 := .int .i64 1) (a8 := .int .i64 0) (a9 := .int .i64 1) (a10 := .int .i64 0) (a11 := .int .i64 1)
    have r0 := rc.cell 0 rfl
    have r1 := rc.cell 1 rfl
    have r2 := rc.cell 2 rfl
    have r3 := rc.cell 3 rfl
    have r4 := rc.cell 4 rfl
    have r5 := rc.cell 5 rfl
    have r6 := rc.cell 6 rfl
    have r7 := rc.cell 7 rfl
    have r8 := rc.cell 8 rfl
    have r9 := rc.cell 9 rfl
    have r10 := rc.cell 10 rfl
    have r11 := rc.cell 11 rfl
    refine bodyPost_ret (v := .tuple #[.agg #[.int .i64 1, .int .i64 1, .int .i64 n1, .int .i64 d1, .int .i64 0, .int .i64 1, .int .i64 1, .int .i64 1, .int .i64 0, .int .i64 1, .int .i64 0, .int .i64 1], .int .i64 0]) (by simp [results, Try.results26, go_sem, r0, r1, r2, r3, r4, r5, r6, r7, r8, r9, r10, r11]) rfl (MapRet.yes HV.out ?_)
    repeat' (first | with_reducible assumption | with_reducible exact Below.refl _ _ | (with_reducible refine Below.setCell ?_ ?_ _) | (with_reducible refine Below.alloc ?_ ?_ _) | (with_reducible refine Below.drew ?_) | (with_reducible refine below_dr ?_ _) | (with_reducible refine Below.trans ?_ (Below.mono (by with_reducible assumption) ?_)) | omega | (simp; done) | (simp; omega))
end Go.Proofs.Ytiljdnfhojpgnab
