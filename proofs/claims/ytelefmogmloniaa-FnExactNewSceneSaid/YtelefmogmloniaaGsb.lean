/- Walks: new scenes; the law on NewScene. -/
import Derived.Test.YtelefmogmloniaaGsa
namespace Go.Proofs.Ytelefmogmloniaa
open Go.RowKit
set_option linter.unusedVariables false
set_option maxRecDepth 100000 in
set_option maxHeartbeats 3200000 in
theorem markScene_nil (u : Int) (w : World) : Calls Try.prog 28 #[.agg #[.slice none 0 0, .slice none 0 0, .slice none 0 0, .int .i64 u, .slice none 0 0, .bool false, .string E0, .int .i64 0, .int .i64 0, .slice none 0 0, .slice none 0 0, .slice none 0 0, .string E0, .slice none 0 0], .int .i64 1] w fun e w' => e = .returned (.int .i64 1) ∧ Below w.heap.size w w' := by
  go_enter Try.func28, Try.ntmps28
  go_wp2_with fail
  refine (markSystem_nil _).mono ?_
  rintro e w1 ⟨rfl, hbw1⟩
  obtain ⟨hcw1, hfw1⟩ := bcell hbw1
  have hzw1 := hbw1.size
  (try simp only [World.size_alloc] at hcw1 hfw1 hzw1)
  have yw1_0_0 : w1.cell? ⟨w.heap.size, 0, none⟩ = some (.slice none 0 0) := (hcw1 _ _ (by first | omega | (simp; done) | (simp; omega))).trans (by simp [go_sem])
  have yw1_0_1 : w1.cell? ⟨w.heap.size, 1, none⟩ = some (.slice none 0 0) := (hcw1 _ _ (by first | omega | (simp; done) | (simp; omega))).trans (by simp [go_sem])
  have yw1_0_2 : w1.cell? ⟨w.heap.size, 2, none⟩ = some (.slice none 0 0) := (hcw1 _ _ (by first | omega | (simp; done) | (simp; omega))).trans (by simp [go_sem])
  have yw1_0_3 : w1.cell? ⟨w.heap.size, 3, none⟩ = some (.int .i64 u) := (hcw1 _ _ (by first | omega | (simp; done) | (simp; omega))).trans (by simp [go_sem])
  have yw1_0_4 : w1.cell? ⟨w.heap.size, 4, none⟩ = some (.slice none 0 0) := (hcw1 _ _ (by first | omega | (simp; done) | (simp; omega))).trans (by simp [go_sem])
  have yw1_0_5 : w1.cell? ⟨w.heap.size, 5, none⟩ = some (.bool false) := (hcw1 _ _ (by first | omega | (simp; done) | (simp; omega))).trans (by simp [go_sem])
  have yw1_0_6 : w1.cell? ⟨w.heap.size, 6, none⟩ = some (.string E0) := (hcw1 _ _ (by first | omega | (simp; done) | (simp; omega))).trans (by simp [go_sem])
  have yw1_0_7 : w1.cell? ⟨w.heap.size, 7, none⟩ = some (.int .i64 0) := (hcw1 _ _ (by first | omega | (simp; done) | (simp; omega))).trans (by simp [go_sem])
  have yw1_0_8 : w1.cell? ⟨w.heap.size, 8, none⟩ = some (.int .i64 0) := (hcw1 _ _ (by first | omega | (simp; done) | (simp; omega))).trans (by simp [go_sem])
  have yw1_0_9 : w1.cell? ⟨w.heap.size, 9, none⟩ = some (.slice none 0 0) := (hcw1 _ _ (by first | omega | (simp; done) | (simp; omega))).trans (by simp [go_sem])
  have yw1_0_10 : w1.cell? ⟨w.heap.size, 10, none⟩ = some (.slice none 0 0) := (hcw1 _ _ (by first | omega | (simp; done) | (simp; omega))).trans (by simp [go_sem])
  have yw1_0_11 : w1.cell? ⟨w.heap.size, 11, none⟩ = some (.slice none 0 0) := (hcw1 _ _ (by first | omega | (simp; done) | (simp; omega))).trans (by simp [go_sem])
  have yw1_0_12 : w1.cell? ⟨w.heap.size, 12, none⟩ = some (.string E0) := (hcw1 _ _ (by first | omega | (simp; done) | (simp; omega))).trans (by simp [go_sem])
  have yw1_0_13 : w1.cell? ⟨w.heap.size, 13, none⟩ = some (.slice none 0 0) := (hcw1 _ _ (by first | omega | (simp; done) | (simp; omega))).trans (by simp [go_sem])
  have qw1_0 : w.heap.size < w1.heap.size := by omega
  clear hcw1 hfw1
  go_wp2_with fail
  refine (markNamedPenS_nil _).mono ?_
  rintro e w2 ⟨rfl, hbw2⟩
  obtain ⟨hcw2, hfw2⟩ := bcell hbw2
  have hzw2 := hbw2.size
  (try simp only [World.size_alloc] at hcw2 hfw2 hzw2)
  have yw2_0_0 : w2.cell? ⟨w.heap.size, 0, none⟩ = some (.slice none 0 0) := (hcw2 _ _ (by omega)).trans yw1_0_0
  have yw2_0_1 : w2.cell? ⟨w.heap.size, 1, none⟩ = some (.slice none 0 0) := (hcw2 _ _ (by omega)).trans yw1_0_1
  have yw2_0_2 : w2.cell? ⟨w.heap.size, 2, none⟩ = some (.slice none 0 0) := (hcw2 _ _ (by omega)).trans yw1_0_2
  have yw2_0_3 : w2.cell? ⟨w.heap.size, 3, none⟩ = some (.int .i64 u) := (hcw2 _ _ (by omega)).trans yw1_0_3
  have yw2_0_4 : w2.cell? ⟨w.heap.size, 4, none⟩ = some (.slice none 0 0) := (hcw2 _ _ (by omega)).trans yw1_0_4
  have yw2_0_5 : w2.cell? ⟨w.heap.size, 5, none⟩ = some (.bool false) := (hcw2 _ _ (by omega)).trans yw1_0_5
  have yw2_0_6 : w2.cell? ⟨w.heap.size, 6, none⟩ = some (.string E0) := (hcw2 _ _ (by omega)).trans yw1_0_6
  have yw2_0_7 : w2.cell? ⟨w.heap.size, 7, none⟩ = some (.int .i64 0) := (hcw2 _ _ (by omega)).trans yw1_0_7
  have yw2_0_8 : w2.cell? ⟨w.heap.size, 8, none⟩ = some (.int .i64 0) := (hcw2 _ _ (by omega)).trans yw1_0_8
  have yw2_0_9 : w2.cell? ⟨w.heap.size, 9, none⟩ = some (.slice none 0 0) := (hcw2 _ _ (by omega)).trans yw1_0_9
  have yw2_0_10 : w2.cell? ⟨w.heap.size, 10, none⟩ = some (.slice none 0 0) := (hcw2 _ _ (by omega)).trans yw1_0_10
  have yw2_0_11 : w2.cell? ⟨w.heap.size, 11, none⟩ = some (.slice none 0 0) := (hcw2 _ _ (by omega)).trans yw1_0_11
  have yw2_0_12 : w2.cell? ⟨w.heap.size, 12, none⟩ = some (.string E0) := (hcw2 _ _ (by omega)).trans yw1_0_12
  have yw2_0_13 : w2.cell? ⟨w.heap.size, 13, none⟩ = some (.slice none 0 0) := (hcw2 _ _ (by omega)).trans yw1_0_13
  have qw2_0 : w.heap.size < w2.heap.size := by omega
  clear hcw2 hfw2 yw1_0_0 yw1_0_1 yw1_0_2 yw1_0_3 yw1_0_4 yw1_0_5 yw1_0_6 yw1_0_7 yw1_0_8 yw1_0_9 yw1_0_10 yw1_0_11 yw1_0_12 yw1_0_13
  go_wp2_with fail
  refine (markNamedPathS_nil _).mono ?_
  rintro e w3 ⟨rfl, hbw3⟩
  obtain ⟨hcw3, hfw3⟩ := bcell hbw3
  have hzw3 := hbw3.size
  (try simp only [World.size_alloc] at hcw3 hfw3 hzw3)
  have yw3_0_0 : w3.cell? ⟨w.heap.size, 0, none⟩ = some (.slice none 0 0) := (hcw3 _ _ (by omega)).trans yw2_0_0
  have yw3_0_1 : w3.cell? ⟨w.heap.size, 1, none⟩ = some (.slice none 0 0) := (hcw3 _ _ (by omega)).trans yw2_0_1
  have yw3_0_2 : w3.cell? ⟨w.heap.size, 2, none⟩ = some (.slice none 0 0) := (hcw3 _ _ (by omega)).trans yw2_0_2
  have yw3_0_3 : w3.cell? ⟨w.heap.size, 3, none⟩ = some (.int .i64 u) := (hcw3 _ _ (by omega)).trans yw2_0_3
  have yw3_0_4 : w3.cell? ⟨w.heap.size, 4, none⟩ = some (.slice none 0 0) := (hcw3 _ _ (by omega)).trans yw2_0_4
  have yw3_0_5 : w3.cell? ⟨w.heap.size, 5, none⟩ = some (.bool false) := (hcw3 _ _ (by omega)).trans yw2_0_5
  have yw3_0_6 : w3.cell? ⟨w.heap.size, 6, none⟩ = some (.string E0) := (hcw3 _ _ (by omega)).trans yw2_0_6
  have yw3_0_7 : w3.cell? ⟨w.heap.size, 7, none⟩ = some (.int .i64 0) := (hcw3 _ _ (by omega)).trans yw2_0_7
  have yw3_0_8 : w3.cell? ⟨w.heap.size, 8, none⟩ = some (.int .i64 0) := (hcw3 _ _ (by omega)).trans yw2_0_8
  have yw3_0_9 : w3.cell? ⟨w.heap.size, 9, none⟩ = some (.slice none 0 0) := (hcw3 _ _ (by omega)).trans yw2_0_9
  have yw3_0_10 : w3.cell? ⟨w.heap.size, 10, none⟩ = some (.slice none 0 0) := (hcw3 _ _ (by omega)).trans yw2_0_10
  have yw3_0_11 : w3.cell? ⟨w.heap.size, 11, none⟩ = some (.slice none 0 0) := (hcw3 _ _ (by omega)).trans yw2_0_11
  have yw3_0_12 : w3.cell? ⟨w.heap.size, 12, none⟩ = some (.string E0) := (hcw3 _ _ (by omega)).trans yw2_0_12
  have yw3_0_13 : w3.cell? ⟨w.heap.size, 13, none⟩ = some (.slice none 0 0) := (hcw3 _ _ (by omega)).trans yw2_0_13
  have qw3_0 : w.heap.size < w3.heap.size := by omega
  clear hcw3 hfw3 yw2_0_0 yw2_0_1 yw2_0_2 yw2_0_3 yw2_0_4 yw2_0_5 yw2_0_6 yw2_0_7 yw2_0_8 yw2_0_9 yw2_0_10 yw2_0_11 yw2_0_12 yw2_0_13
  go_wp2_with fail
  refine (markGlyphSet_nil u _).mono ?_
  rintro e w4 ⟨rfl, hbw4⟩
  obtain ⟨hcw4, hfw4⟩ := bcell hbw4
  have hzw4 := hbw4.size
  (try simp only [World.size_alloc] at hcw4 hfw4 hzw4)
  have yw4_0_0 : w4.cell? ⟨w.heap.size, 0, none⟩ = some (.slice none 0 0) := (hcw4 _ _ (by omega)).trans yw3_0_0
  have yw4_0_1 : w4.cell? ⟨w.heap.size, 1, none⟩ = some (.slice none 0 0) := (hcw4 _ _ (by omega)).trans yw3_0_1
  have yw4_0_2 : w4.cell? ⟨w.heap.size, 2, none⟩ = some (.slice none 0 0) := (hcw4 _ _ (by omega)).trans yw3_0_2
  have yw4_0_3 : w4.cell? ⟨w.heap.size, 3, none⟩ = some (.int .i64 u) := (hcw4 _ _ (by omega)).trans yw3_0_3
  have yw4_0_4 : w4.cell? ⟨w.heap.size, 4, none⟩ = some (.slice none 0 0) := (hcw4 _ _ (by omega)).trans yw3_0_4
  have yw4_0_5 : w4.cell? ⟨w.heap.size, 5, none⟩ = some (.bool false) := (hcw4 _ _ (by omega)).trans yw3_0_5
  have yw4_0_6 : w4.cell? ⟨w.heap.size, 6, none⟩ = some (.string E0) := (hcw4 _ _ (by omega)).trans yw3_0_6
  have yw4_0_7 : w4.cell? ⟨w.heap.size, 7, none⟩ = some (.int .i64 0) := (hcw4 _ _ (by omega)).trans yw3_0_7
  have yw4_0_8 : w4.cell? ⟨w.heap.size, 8, none⟩ = some (.int .i64 0) := (hcw4 _ _ (by omega)).trans yw3_0_8
  have yw4_0_9 : w4.cell? ⟨w.heap.size, 9, none⟩ = some (.slice none 0 0) := (hcw4 _ _ (by omega)).trans yw3_0_9
  have yw4_0_10 : w4.cell? ⟨w.heap.size, 10, none⟩ = some (.slice none 0 0) := (hcw4 _ _ (by omega)).trans yw3_0_10
  have yw4_0_11 : w4.cell? ⟨w.heap.size, 11, none⟩ = some (.slice none 0 0) := (hcw4 _ _ (by omega)).trans yw3_0_11
  have yw4_0_12 : w4.cell? ⟨w.heap.size, 12, none⟩ = some (.string E0) := (hcw4 _ _ (by omega)).trans yw3_0_12
  have yw4_0_13 : w4.cell? ⟨w.heap.size, 13, none⟩ = some (.slice none 0 0) := (hcw4 _ _ (by omega)).trans yw3_0_13
  have qw4_0 : w.heap.size < w4.heap.size := by omega
  clear hcw4 hfw4 yw3_0_0 yw3_0_1 yw3_0_2 yw3_0_3 yw3_0_4 yw3_0_5 yw3_0_6 yw3_0_7 yw3_0_8 yw3_0_9 yw3_0_10 yw3_0_11 yw3_0_12 yw3_0_13
  go_wp2_with fail
  refine (markGlyph_nil _).mono ?_
  rintro e w5 ⟨rfl, hbw5⟩
  obtain ⟨hcw5, hfw5⟩ := bcell hbw5
  have hzw5 := hbw5.size
  (try simp only [World.size_alloc] at hcw5 hfw5 hzw5)
  have yw5_0_0 : w5.cell? ⟨w.heap.size, 0, none⟩ = some (.slice none 0 0) := (hcw5 _ _ (by omega)).trans yw4_0_0
  have yw5_0_1 : w5.cell? ⟨w.heap.size, 1, none⟩ = some (.slice none 0 0) := (hcw5 _ _ (by omega)).trans yw4_0_1
  have yw5_0_2 : w5.cell? ⟨w.heap.size, 2, none⟩ = some (.slice none 0 0) := (hcw5 _ _ (by omega)).trans yw4_0_2
  have yw5_0_3 : w5.cell? ⟨w.heap.size, 3, none⟩ = some (.int .i64 u) := (hcw5 _ _ (by omega)).trans yw4_0_3
  have yw5_0_4 : w5.cell? ⟨w.heap.size, 4, none⟩ = some (.slice none 0 0) := (hcw5 _ _ (by omega)).trans yw4_0_4
  have yw5_0_5 : w5.cell? ⟨w.heap.size, 5, none⟩ = some (.bool false) := (hcw5 _ _ (by omega)).trans yw4_0_5
  have yw5_0_6 : w5.cell? ⟨w.heap.size, 6, none⟩ = some (.string E0) := (hcw5 _ _ (by omega)).trans yw4_0_6
  have yw5_0_7 : w5.cell? ⟨w.heap.size, 7, none⟩ = some (.int .i64 0) := (hcw5 _ _ (by omega)).trans yw4_0_7
  have yw5_0_8 : w5.cell? ⟨w.heap.size, 8, none⟩ = some (.int .i64 0) := (hcw5 _ _ (by omega)).trans yw4_0_8
  have yw5_0_9 : w5.cell? ⟨w.heap.size, 9, none⟩ = some (.slice none 0 0) := (hcw5 _ _ (by omega)).trans yw4_0_9
  have yw5_0_10 : w5.cell? ⟨w.heap.size, 10, none⟩ = some (.slice none 0 0) := (hcw5 _ _ (by omega)).trans yw4_0_10
  have yw5_0_11 : w5.cell? ⟨w.heap.size, 11, none⟩ = some (.slice none 0 0) := (hcw5 _ _ (by omega)).trans yw4_0_11
  have yw5_0_12 : w5.cell? ⟨w.heap.size, 12, none⟩ = some (.string E0) := (hcw5 _ _ (by omega)).trans yw4_0_12
  have yw5_0_13 : w5.cell? ⟨w.heap.size, 13, none⟩ = some (.slice none 0 0) := (hcw5 _ _ (by omega)).trans yw4_0_13
  have qw5_0 : w.heap.size < w5.heap.size := by omega
  clear hcw5 hfw5 yw4_0_0 yw4_0_1 yw4_0_2 yw4_0_3 yw4_0_4 yw4_0_5 yw4_0_6 yw4_0_7 yw4_0_8 yw4_0_9 yw4_0_10 yw4_0_11 yw4_0_12 yw4_0_13
  go_wp2_with fail
  refine (markRegion_nil _).mono ?_
  rintro e w6 ⟨rfl, hbw6⟩
  obtain ⟨hcw6, hfw6⟩ := bcell hbw6
  have hzw6 := hbw6.size
  (try simp only [World.size_alloc] at hcw6 hfw6 hzw6)
  have yw6_0_0 : w6.cell? ⟨w.heap.size, 0, none⟩ = some (.slice none 0 0) := (hcw6 _ _ (by omega)).trans yw5_0_0
  have yw6_0_1 : w6.cell? ⟨w.heap.size, 1, none⟩ = some (.slice none 0 0) := (hcw6 _ _ (by omega)).trans yw5_0_1
  have yw6_0_2 : w6.cell? ⟨w.heap.size, 2, none⟩ = some (.slice none 0 0) := (hcw6 _ _ (by omega)).trans yw5_0_2
  have yw6_0_3 : w6.cell? ⟨w.heap.size, 3, none⟩ = some (.int .i64 u) := (hcw6 _ _ (by omega)).trans yw5_0_3
  have yw6_0_4 : w6.cell? ⟨w.heap.size, 4, none⟩ = some (.slice none 0 0) := (hcw6 _ _ (by omega)).trans yw5_0_4
  have yw6_0_5 : w6.cell? ⟨w.heap.size, 5, none⟩ = some (.bool false) := (hcw6 _ _ (by omega)).trans yw5_0_5
  have yw6_0_6 : w6.cell? ⟨w.heap.size, 6, none⟩ = some (.string E0) := (hcw6 _ _ (by omega)).trans yw5_0_6
  have yw6_0_7 : w6.cell? ⟨w.heap.size, 7, none⟩ = some (.int .i64 0) := (hcw6 _ _ (by omega)).trans yw5_0_7
  have yw6_0_8 : w6.cell? ⟨w.heap.size, 8, none⟩ = some (.int .i64 0) := (hcw6 _ _ (by omega)).trans yw5_0_8
  have yw6_0_9 : w6.cell? ⟨w.heap.size, 9, none⟩ = some (.slice none 0 0) := (hcw6 _ _ (by omega)).trans yw5_0_9
  have yw6_0_10 : w6.cell? ⟨w.heap.size, 10, none⟩ = some (.slice none 0 0) := (hcw6 _ _ (by omega)).trans yw5_0_10
  have yw6_0_11 : w6.cell? ⟨w.heap.size, 11, none⟩ = some (.slice none 0 0) := (hcw6 _ _ (by omega)).trans yw5_0_11
  have yw6_0_12 : w6.cell? ⟨w.heap.size, 12, none⟩ = some (.string E0) := (hcw6 _ _ (by omega)).trans yw5_0_12
  have yw6_0_13 : w6.cell? ⟨w.heap.size, 13, none⟩ = some (.slice none 0 0) := (hcw6 _ _ (by omega)).trans yw5_0_13
  have qw6_0 : w.heap.size < w6.heap.size := by omega
  clear hcw6 hfw6 yw5_0_0 yw5_0_1 yw5_0_2 yw5_0_3 yw5_0_4 yw5_0_5 yw5_0_6 yw5_0_7 yw5_0_8 yw5_0_9 yw5_0_10 yw5_0_11 yw5_0_12 yw5_0_13
  go_wp2_with fail
  go_ret
  exact ⟨rfl, by repeat' (first | with_reducible assumption | with_reducible exact Below.refl _ _ | (with_reducible refine Below.setCell ?_ ?_ _) | (with_reducible refine Below.alloc ?_ ?_ _) | (with_reducible refine Below.drew ?_) | (with_reducible refine below_dr ?_ _) | (with_reducible refine Below.trans ?_ (Below.mono (by with_reducible assumption) ?_)) | omega | (simp; done) | (simp; omega))⟩
set_option maxRecDepth 100000 in
set_option maxHeartbeats 3200000 in
theorem heldScene_nil (u : Int) (w : World) : Calls Try.prog 29 #[.agg #[.slice none 0 0, .slice none 0 0, .slice none 0 0, .int .i64 u, .slice none 0 0, .bool false, .string E0, .int .i64 0, .int .i64 0, .slice none 0 0, .slice none 0 0, .slice none 0 0, .string E0, .slice none 0 0], .int .i64 1] w fun e w' => e = .returned (.int .i64 1) ∧ Below w.heap.size w w' := by
  go_enter Try.func29, Try.ntmps29
  go_wp2_with fail
  refine (heldSystem_nil _).mono ?_
  rintro e w1 ⟨rfl, hbw1⟩
  obtain ⟨hcw1, hfw1⟩ := bcell hbw1
  have hzw1 := hbw1.size
  (try simp only [World.size_alloc] at hcw1 hfw1 hzw1)
  have yw1_0_0 : w1.cell? ⟨w.heap.size, 0, none⟩ = some (.slice none 0 0) := (hcw1 _ _ (by first | omega | (simp; done) | (simp; omega))).trans (by simp [go_sem])
  have yw1_0_1 : w1.cell? ⟨w.heap.size, 1, none⟩ = some (.slice none 0 0) := (hcw1 _ _ (by first | omega | (simp; done) | (simp; omega))).trans (by simp [go_sem])
  have yw1_0_2 : w1.cell? ⟨w.heap.size, 2, none⟩ = some (.slice none 0 0) := (hcw1 _ _ (by first | omega | (simp; done) | (simp; omega))).trans (by simp [go_sem])
  have yw1_0_3 : w1.cell? ⟨w.heap.size, 3, none⟩ = some (.int .i64 u) := (hcw1 _ _ (by first | omega | (simp; done) | (simp; omega))).trans (by simp [go_sem])
  have yw1_0_4 : w1.cell? ⟨w.heap.size, 4, none⟩ = some (.slice none 0 0) := (hcw1 _ _ (by first | omega | (simp; done) | (simp; omega))).trans (by simp [go_sem])
  have yw1_0_5 : w1.cell? ⟨w.heap.size, 5, none⟩ = some (.bool false) := (hcw1 _ _ (by first | omega | (simp; done) | (simp; omega))).trans (by simp [go_sem])
  have yw1_0_6 : w1.cell? ⟨w.heap.size, 6, none⟩ = some (.string E0) := (hcw1 _ _ (by first | omega | (simp; done) | (simp; omega))).trans (by simp [go_sem])
  have yw1_0_7 : w1.cell? ⟨w.heap.size, 7, none⟩ = some (.int .i64 0) := (hcw1 _ _ (by first | omega | (simp; done) | (simp; omega))).trans (by simp [go_sem])
  have yw1_0_8 : w1.cell? ⟨w.heap.size, 8, none⟩ = some (.int .i64 0) := (hcw1 _ _ (by first | omega | (simp; done) | (simp; omega))).trans (by simp [go_sem])
  have yw1_0_9 : w1.cell? ⟨w.heap.size, 9, none⟩ = some (.slice none 0 0) := (hcw1 _ _ (by first | omega | (simp; done) | (simp; omega))).trans (by simp [go_sem])
  have yw1_0_10 : w1.cell? ⟨w.heap.size, 10, none⟩ = some (.slice none 0 0) := (hcw1 _ _ (by first | omega | (simp; done) | (simp; omega))).trans (by simp [go_sem])
  have yw1_0_11 : w1.cell? ⟨w.heap.size, 11, none⟩ = some (.slice none 0 0) := (hcw1 _ _ (by first | omega | (simp; done) | (simp; omega))).trans (by simp [go_sem])
  have yw1_0_12 : w1.cell? ⟨w.heap.size, 12, none⟩ = some (.string E0) := (hcw1 _ _ (by first | omega | (simp; done) | (simp; omega))).trans (by simp [go_sem])
  have yw1_0_13 : w1.cell? ⟨w.heap.size, 13, none⟩ = some (.slice none 0 0) := (hcw1 _ _ (by first | omega | (simp; done) | (simp; omega))).trans (by simp [go_sem])
  have qw1_0 : w.heap.size < w1.heap.size := by omega
  clear hcw1 hfw1
  go_wp2_with fail
  refine (heldNamedPenS_nil _).mono ?_
  rintro e w2 ⟨rfl, hbw2⟩
  obtain ⟨hcw2, hfw2⟩ := bcell hbw2
  have hzw2 := hbw2.size
  (try simp only [World.size_alloc] at hcw2 hfw2 hzw2)
  have yw2_0_0 : w2.cell? ⟨w.heap.size, 0, none⟩ = some (.slice none 0 0) := (hcw2 _ _ (by omega)).trans yw1_0_0
  have yw2_0_1 : w2.cell? ⟨w.heap.size, 1, none⟩ = some (.slice none 0 0) := (hcw2 _ _ (by omega)).trans yw1_0_1
  have yw2_0_2 : w2.cell? ⟨w.heap.size, 2, none⟩ = some (.slice none 0 0) := (hcw2 _ _ (by omega)).trans yw1_0_2
  have yw2_0_3 : w2.cell? ⟨w.heap.size, 3, none⟩ = some (.int .i64 u) := (hcw2 _ _ (by omega)).trans yw1_0_3
  have yw2_0_4 : w2.cell? ⟨w.heap.size, 4, none⟩ = some (.slice none 0 0) := (hcw2 _ _ (by omega)).trans yw1_0_4
  have yw2_0_5 : w2.cell? ⟨w.heap.size, 5, none⟩ = some (.bool false) := (hcw2 _ _ (by omega)).trans yw1_0_5
  have yw2_0_6 : w2.cell? ⟨w.heap.size, 6, none⟩ = some (.string E0) := (hcw2 _ _ (by omega)).trans yw1_0_6
  have yw2_0_7 : w2.cell? ⟨w.heap.size, 7, none⟩ = some (.int .i64 0) := (hcw2 _ _ (by omega)).trans yw1_0_7
  have yw2_0_8 : w2.cell? ⟨w.heap.size, 8, none⟩ = some (.int .i64 0) := (hcw2 _ _ (by omega)).trans yw1_0_8
  have yw2_0_9 : w2.cell? ⟨w.heap.size, 9, none⟩ = some (.slice none 0 0) := (hcw2 _ _ (by omega)).trans yw1_0_9
  have yw2_0_10 : w2.cell? ⟨w.heap.size, 10, none⟩ = some (.slice none 0 0) := (hcw2 _ _ (by omega)).trans yw1_0_10
  have yw2_0_11 : w2.cell? ⟨w.heap.size, 11, none⟩ = some (.slice none 0 0) := (hcw2 _ _ (by omega)).trans yw1_0_11
  have yw2_0_12 : w2.cell? ⟨w.heap.size, 12, none⟩ = some (.string E0) := (hcw2 _ _ (by omega)).trans yw1_0_12
  have yw2_0_13 : w2.cell? ⟨w.heap.size, 13, none⟩ = some (.slice none 0 0) := (hcw2 _ _ (by omega)).trans yw1_0_13
  have qw2_0 : w.heap.size < w2.heap.size := by omega
  clear hcw2 hfw2 yw1_0_0 yw1_0_1 yw1_0_2 yw1_0_3 yw1_0_4 yw1_0_5 yw1_0_6 yw1_0_7 yw1_0_8 yw1_0_9 yw1_0_10 yw1_0_11 yw1_0_12 yw1_0_13
  go_wp2_with fail
  refine (heldNamedPathS_nil _).mono ?_
  rintro e w3 ⟨rfl, hbw3⟩
  obtain ⟨hcw3, hfw3⟩ := bcell hbw3
  have hzw3 := hbw3.size
  (try simp only [World.size_alloc] at hcw3 hfw3 hzw3)
  have yw3_0_0 : w3.cell? ⟨w.heap.size, 0, none⟩ = some (.slice none 0 0) := (hcw3 _ _ (by omega)).trans yw2_0_0
  have yw3_0_1 : w3.cell? ⟨w.heap.size, 1, none⟩ = some (.slice none 0 0) := (hcw3 _ _ (by omega)).trans yw2_0_1
  have yw3_0_2 : w3.cell? ⟨w.heap.size, 2, none⟩ = some (.slice none 0 0) := (hcw3 _ _ (by omega)).trans yw2_0_2
  have yw3_0_3 : w3.cell? ⟨w.heap.size, 3, none⟩ = some (.int .i64 u) := (hcw3 _ _ (by omega)).trans yw2_0_3
  have yw3_0_4 : w3.cell? ⟨w.heap.size, 4, none⟩ = some (.slice none 0 0) := (hcw3 _ _ (by omega)).trans yw2_0_4
  have yw3_0_5 : w3.cell? ⟨w.heap.size, 5, none⟩ = some (.bool false) := (hcw3 _ _ (by omega)).trans yw2_0_5
  have yw3_0_6 : w3.cell? ⟨w.heap.size, 6, none⟩ = some (.string E0) := (hcw3 _ _ (by omega)).trans yw2_0_6
  have yw3_0_7 : w3.cell? ⟨w.heap.size, 7, none⟩ = some (.int .i64 0) := (hcw3 _ _ (by omega)).trans yw2_0_7
  have yw3_0_8 : w3.cell? ⟨w.heap.size, 8, none⟩ = some (.int .i64 0) := (hcw3 _ _ (by omega)).trans yw2_0_8
  have yw3_0_9 : w3.cell? ⟨w.heap.size, 9, none⟩ = some (.slice none 0 0) := (hcw3 _ _ (by omega)).trans yw2_0_9
  have yw3_0_10 : w3.cell? ⟨w.heap.size, 10, none⟩ = some (.slice none 0 0) := (hcw3 _ _ (by omega)).trans yw2_0_10
  have yw3_0_11 : w3.cell? ⟨w.heap.size, 11, none⟩ = some (.slice none 0 0) := (hcw3 _ _ (by omega)).trans yw2_0_11
  have yw3_0_12 : w3.cell? ⟨w.heap.size, 12, none⟩ = some (.string E0) := (hcw3 _ _ (by omega)).trans yw2_0_12
  have yw3_0_13 : w3.cell? ⟨w.heap.size, 13, none⟩ = some (.slice none 0 0) := (hcw3 _ _ (by omega)).trans yw2_0_13
  have qw3_0 : w.heap.size < w3.heap.size := by omega
  clear hcw3 hfw3 yw2_0_0 yw2_0_1 yw2_0_2 yw2_0_3 yw2_0_4 yw2_0_5 yw2_0_6 yw2_0_7 yw2_0_8 yw2_0_9 yw2_0_10 yw2_0_11 yw2_0_12 yw2_0_13
  go_wp2_with fail
  refine (heldGlyphSet_nil u _).mono ?_
  rintro e w4 ⟨rfl, hbw4⟩
  obtain ⟨hcw4, hfw4⟩ := bcell hbw4
  have hzw4 := hbw4.size
  (try simp only [World.size_alloc] at hcw4 hfw4 hzw4)
  have yw4_0_0 : w4.cell? ⟨w.heap.size, 0, none⟩ = some (.slice none 0 0) := (hcw4 _ _ (by omega)).trans yw3_0_0
  have yw4_0_1 : w4.cell? ⟨w.heap.size, 1, none⟩ = some (.slice none 0 0) := (hcw4 _ _ (by omega)).trans yw3_0_1
  have yw4_0_2 : w4.cell? ⟨w.heap.size, 2, none⟩ = some (.slice none 0 0) := (hcw4 _ _ (by omega)).trans yw3_0_2
  have yw4_0_3 : w4.cell? ⟨w.heap.size, 3, none⟩ = some (.int .i64 u) := (hcw4 _ _ (by omega)).trans yw3_0_3
  have yw4_0_4 : w4.cell? ⟨w.heap.size, 4, none⟩ = some (.slice none 0 0) := (hcw4 _ _ (by omega)).trans yw3_0_4
  have yw4_0_5 : w4.cell? ⟨w.heap.size, 5, none⟩ = some (.bool false) := (hcw4 _ _ (by omega)).trans yw3_0_5
  have yw4_0_6 : w4.cell? ⟨w.heap.size, 6, none⟩ = some (.string E0) := (hcw4 _ _ (by omega)).trans yw3_0_6
  have yw4_0_7 : w4.cell? ⟨w.heap.size, 7, none⟩ = some (.int .i64 0) := (hcw4 _ _ (by omega)).trans yw3_0_7
  have yw4_0_8 : w4.cell? ⟨w.heap.size, 8, none⟩ = some (.int .i64 0) := (hcw4 _ _ (by omega)).trans yw3_0_8
  have yw4_0_9 : w4.cell? ⟨w.heap.size, 9, none⟩ = some (.slice none 0 0) := (hcw4 _ _ (by omega)).trans yw3_0_9
  have yw4_0_10 : w4.cell? ⟨w.heap.size, 10, none⟩ = some (.slice none 0 0) := (hcw4 _ _ (by omega)).trans yw3_0_10
  have yw4_0_11 : w4.cell? ⟨w.heap.size, 11, none⟩ = some (.slice none 0 0) := (hcw4 _ _ (by omega)).trans yw3_0_11
  have yw4_0_12 : w4.cell? ⟨w.heap.size, 12, none⟩ = some (.string E0) := (hcw4 _ _ (by omega)).trans yw3_0_12
  have yw4_0_13 : w4.cell? ⟨w.heap.size, 13, none⟩ = some (.slice none 0 0) := (hcw4 _ _ (by omega)).trans yw3_0_13
  have qw4_0 : w.heap.size < w4.heap.size := by omega
  clear hcw4 hfw4 yw3_0_0 yw3_0_1 yw3_0_2 yw3_0_3 yw3_0_4 yw3_0_5 yw3_0_6 yw3_0_7 yw3_0_8 yw3_0_9 yw3_0_10 yw3_0_11 yw3_0_12 yw3_0_13
  go_wp2_with fail
  refine (heldGlyph_nil _).mono ?_
  rintro e w5 ⟨rfl, hbw5⟩
  obtain ⟨hcw5, hfw5⟩ := bcell hbw5
  have hzw5 := hbw5.size
  (try simp only [World.size_alloc] at hcw5 hfw5 hzw5)
  have yw5_0_0 : w5.cell? ⟨w.heap.size, 0, none⟩ = some (.slice none 0 0) := (hcw5 _ _ (by omega)).trans yw4_0_0
  have yw5_0_1 : w5.cell? ⟨w.heap.size, 1, none⟩ = some (.slice none 0 0) := (hcw5 _ _ (by omega)).trans yw4_0_1
  have yw5_0_2 : w5.cell? ⟨w.heap.size, 2, none⟩ = some (.slice none 0 0) := (hcw5 _ _ (by omega)).trans yw4_0_2
  have yw5_0_3 : w5.cell? ⟨w.heap.size, 3, none⟩ = some (.int .i64 u) := (hcw5 _ _ (by omega)).trans yw4_0_3
  have yw5_0_4 : w5.cell? ⟨w.heap.size, 4, none⟩ = some (.slice none 0 0) := (hcw5 _ _ (by omega)).trans yw4_0_4
  have yw5_0_5 : w5.cell? ⟨w.heap.size, 5, none⟩ = some (.bool false) := (hcw5 _ _ (by omega)).trans yw4_0_5
  have yw5_0_6 : w5.cell? ⟨w.heap.size, 6, none⟩ = some (.string E0) := (hcw5 _ _ (by omega)).trans yw4_0_6
  have yw5_0_7 : w5.cell? ⟨w.heap.size, 7, none⟩ = some (.int .i64 0) := (hcw5 _ _ (by omega)).trans yw4_0_7
  have yw5_0_8 : w5.cell? ⟨w.heap.size, 8, none⟩ = some (.int .i64 0) := (hcw5 _ _ (by omega)).trans yw4_0_8
  have yw5_0_9 : w5.cell? ⟨w.heap.size, 9, none⟩ = some (.slice none 0 0) := (hcw5 _ _ (by omega)).trans yw4_0_9
  have yw5_0_10 : w5.cell? ⟨w.heap.size, 10, none⟩ = some (.slice none 0 0) := (hcw5 _ _ (by omega)).trans yw4_0_10
  have yw5_0_11 : w5.cell? ⟨w.heap.size, 11, none⟩ = some (.slice none 0 0) := (hcw5 _ _ (by omega)).trans yw4_0_11
  have yw5_0_12 : w5.cell? ⟨w.heap.size, 12, none⟩ = some (.string E0) := (hcw5 _ _ (by omega)).trans yw4_0_12
  have yw5_0_13 : w5.cell? ⟨w.heap.size, 13, none⟩ = some (.slice none 0 0) := (hcw5 _ _ (by omega)).trans yw4_0_13
  have qw5_0 : w.heap.size < w5.heap.size := by omega
  clear hcw5 hfw5 yw4_0_0 yw4_0_1 yw4_0_2 yw4_0_3 yw4_0_4 yw4_0_5 yw4_0_6 yw4_0_7 yw4_0_8 yw4_0_9 yw4_0_10 yw4_0_11 yw4_0_12 yw4_0_13
  go_wp2_with fail
  refine (heldRegion_nil _).mono ?_
  rintro e w6 ⟨rfl, hbw6⟩
  obtain ⟨hcw6, hfw6⟩ := bcell hbw6
  have hzw6 := hbw6.size
  (try simp only [World.size_alloc] at hcw6 hfw6 hzw6)
  have yw6_0_0 : w6.cell? ⟨w.heap.size, 0, none⟩ = some (.slice none 0 0) := (hcw6 _ _ (by omega)).trans yw5_0_0
  have yw6_0_1 : w6.cell? ⟨w.heap.size, 1, none⟩ = some (.slice none 0 0) := (hcw6 _ _ (by omega)).trans yw5_0_1
  have yw6_0_2 : w6.cell? ⟨w.heap.size, 2, none⟩ = some (.slice none 0 0) := (hcw6 _ _ (by omega)).trans yw5_0_2
  have yw6_0_3 : w6.cell? ⟨w.heap.size, 3, none⟩ = some (.int .i64 u) := (hcw6 _ _ (by omega)).trans yw5_0_3
  have yw6_0_4 : w6.cell? ⟨w.heap.size, 4, none⟩ = some (.slice none 0 0) := (hcw6 _ _ (by omega)).trans yw5_0_4
  have yw6_0_5 : w6.cell? ⟨w.heap.size, 5, none⟩ = some (.bool false) := (hcw6 _ _ (by omega)).trans yw5_0_5
  have yw6_0_6 : w6.cell? ⟨w.heap.size, 6, none⟩ = some (.string E0) := (hcw6 _ _ (by omega)).trans yw5_0_6
  have yw6_0_7 : w6.cell? ⟨w.heap.size, 7, none⟩ = some (.int .i64 0) := (hcw6 _ _ (by omega)).trans yw5_0_7
  have yw6_0_8 : w6.cell? ⟨w.heap.size, 8, none⟩ = some (.int .i64 0) := (hcw6 _ _ (by omega)).trans yw5_0_8
  have yw6_0_9 : w6.cell? ⟨w.heap.size, 9, none⟩ = some (.slice none 0 0) := (hcw6 _ _ (by omega)).trans yw5_0_9
  have yw6_0_10 : w6.cell? ⟨w.heap.size, 10, none⟩ = some (.slice none 0 0) := (hcw6 _ _ (by omega)).trans yw5_0_10
  have yw6_0_11 : w6.cell? ⟨w.heap.size, 11, none⟩ = some (.slice none 0 0) := (hcw6 _ _ (by omega)).trans yw5_0_11
  have yw6_0_12 : w6.cell? ⟨w.heap.size, 12, none⟩ = some (.string E0) := (hcw6 _ _ (by omega)).trans yw5_0_12
  have yw6_0_13 : w6.cell? ⟨w.heap.size, 13, none⟩ = some (.slice none 0 0) := (hcw6 _ _ (by omega)).trans yw5_0_13
  have qw6_0 : w.heap.size < w6.heap.size := by omega
  clear hcw6 hfw6 yw5_0_0 yw5_0_1 yw5_0_2 yw5_0_3 yw5_0_4 yw5_0_5 yw5_0_6 yw5_0_7 yw5_0_8 yw5_0_9 yw5_0_10 yw5_0_11 yw5_0_12 yw5_0_13
  go_wp2_with fail
  go_ret
  exact ⟨rfl, by repeat' (first | with_reducible assumption | with_reducible exact Below.refl _ _ | (with_reducible refine Below.setCell ?_ ?_ _) | (with_reducible refine Below.alloc ?_ ?_ _) | (with_reducible refine Below.drew ?_) | (with_reducible refine below_dr ?_ _) | (with_reducible refine Below.trans ?_ (Below.mono (by with_reducible assumption) ?_)) | omega | (simp; done) | (simp; omega))⟩
set_option maxRecDepth 100000 in
set_option maxHeartbeats 3200000 in
theorem eqScene_ra (RA : Option Addr) (u : Int) (w : World) : Calls Try.prog 27 #[.agg #[.slice none 0 0, .slice none 0 0, .slice none 0 0, .int .i64 u, .slice none 0 0, .bool false, .string E0, .int .i64 0, .int .i64 0, .slice none 0 0, .slice none 0 0, .slice none 0 0, .string E0, .slice none 0 0], .agg #[.slice RA 0 0, .slice none 0 0, .slice none 0 0, .int .i64 u, .slice none 0 0, .bool false, .string E0, .int .i64 0, .int .i64 0, .slice none 0 0, .slice none 0 0, .slice none 0 0, .string E0, .slice none 0 0]] w fun e w' => e = .returned (.bool true) ∧ Below w.heap.size w w' := by
  have hu : (u != u) = false := by simp
  go_enter Try.func27, Try.ntmps27
  go_wp2_with fail
  refine (eqSystem_ra RA _).mono ?_
  rintro e w1 ⟨rfl, hbw1⟩
  obtain ⟨hcw1, hfw1⟩ := bcell hbw1
  have hzw1 := hbw1.size
  (try simp only [World.size_alloc] at hcw1 hfw1 hzw1)
  have yw1_0_0 : w1.cell? ⟨w.heap.size, 0, none⟩ = some (.slice none 0 0) := (hcw1 _ _ (by first | omega | (simp; done) | (simp; omega))).trans (by simp [go_sem])
  have yw1_0_1 : w1.cell? ⟨w.heap.size, 1, none⟩ = some (.slice none 0 0) := (hcw1 _ _ (by first | omega | (simp; done) | (simp; omega))).trans (by simp [go_sem])
  have yw1_0_2 : w1.cell? ⟨w.heap.size, 2, none⟩ = some (.slice none 0 0) := (hcw1 _ _ (by first | omega | (simp; done) | (simp; omega))).trans (by simp [go_sem])
  have yw1_0_3 : w1.cell? ⟨w.heap.size, 3, none⟩ = some (.int .i64 u) := (hcw1 _ _ (by first | omega | (simp; done) | (simp; omega))).trans (by simp [go_sem])
  have yw1_0_4 : w1.cell? ⟨w.heap.size, 4, none⟩ = some (.slice none 0 0) := (hcw1 _ _ (by first | omega | (simp; done) | (simp; omega))).trans (by simp [go_sem])
  have yw1_0_5 : w1.cell? ⟨w.heap.size, 5, none⟩ = some (.bool false) := (hcw1 _ _ (by first | omega | (simp; done) | (simp; omega))).trans (by simp [go_sem])
  have yw1_0_6 : w1.cell? ⟨w.heap.size, 6, none⟩ = some (.string E0) := (hcw1 _ _ (by first | omega | (simp; done) | (simp; omega))).trans (by simp [go_sem])
  have yw1_0_7 : w1.cell? ⟨w.heap.size, 7, none⟩ = some (.int .i64 0) := (hcw1 _ _ (by first | omega | (simp; done) | (simp; omega))).trans (by simp [go_sem])
  have yw1_0_8 : w1.cell? ⟨w.heap.size, 8, none⟩ = some (.int .i64 0) := (hcw1 _ _ (by first | omega | (simp; done) | (simp; omega))).trans (by simp [go_sem])
  have yw1_0_9 : w1.cell? ⟨w.heap.size, 9, none⟩ = some (.slice none 0 0) := (hcw1 _ _ (by first | omega | (simp; done) | (simp; omega))).trans (by simp [go_sem])
  have yw1_0_10 : w1.cell? ⟨w.heap.size, 10, none⟩ = some (.slice none 0 0) := (hcw1 _ _ (by first | omega | (simp; done) | (simp; omega))).trans (by simp [go_sem])
  have yw1_0_11 : w1.cell? ⟨w.heap.size, 11, none⟩ = some (.slice none 0 0) := (hcw1 _ _ (by first | omega | (simp; done) | (simp; omega))).trans (by simp [go_sem])
  have yw1_0_12 : w1.cell? ⟨w.heap.size, 12, none⟩ = some (.string E0) := (hcw1 _ _ (by first | omega | (simp; done) | (simp; omega))).trans (by simp [go_sem])
  have yw1_0_13 : w1.cell? ⟨w.heap.size, 13, none⟩ = some (.slice none 0 0) := (hcw1 _ _ (by first | omega | (simp; done) | (simp; omega))).trans (by simp [go_sem])
  have yw1_1_0 : w1.cell? ⟨w.heap.size + 1, 0, none⟩ = some (.slice RA 0 0) := (hcw1 _ _ (by first | omega | (simp; done) | (simp; omega))).trans (by simp [go_sem])
  have yw1_1_1 : w1.cell? ⟨w.heap.size + 1, 1, none⟩ = some (.slice none 0 0) := (hcw1 _ _ (by first | omega | (simp; done) | (simp; omega))).trans (by simp [go_sem])
  have yw1_1_2 : w1.cell? ⟨w.heap.size + 1, 2, none⟩ = some (.slice none 0 0) := (hcw1 _ _ (by first | omega | (simp; done) | (simp; omega))).trans (by simp [go_sem])
  have yw1_1_3 : w1.cell? ⟨w.heap.size + 1, 3, none⟩ = some (.int .i64 u) := (hcw1 _ _ (by first | omega | (simp; done) | (simp; omega))).trans (by simp [go_sem])
  have yw1_1_4 : w1.cell? ⟨w.heap.size + 1, 4, none⟩ = some (.slice none 0 0) := (hcw1 _ _ (by first | omega | (simp; done) | (simp; omega))).trans (by simp [go_sem])
  have yw1_1_5 : w1.cell? ⟨w.heap.size + 1, 5, none⟩ = some (.bool false) := (hcw1 _ _ (by first | omega | (simp; done) | (simp; omega))).trans (by simp [go_sem])
  have yw1_1_6 : w1.cell? ⟨w.heap.size + 1, 6, none⟩ = some (.string E0) := (hcw1 _ _ (by first | omega | (simp; done) | (simp; omega))).trans (by simp [go_sem])
  have yw1_1_7 : w1.cell? ⟨w.heap.size + 1, 7, none⟩ = some (.int .i64 0) := (hcw1 _ _ (by first | omega | (simp; done) | (simp; omega))).trans (by simp [go_sem])
  have yw1_1_8 : w1.cell? ⟨w.heap.size + 1, 8, none⟩ = some (.int .i64 0) := (hcw1 _ _ (by first | omega | (simp; done) | (simp; omega))).trans (by simp [go_sem])
  have yw1_1_9 : w1.cell? ⟨w.heap.size + 1, 9, none⟩ = some (.slice none 0 0) := (hcw1 _ _ (by first | omega | (simp; done) | (simp; omega))).trans (by simp [go_sem])
  have yw1_1_10 : w1.cell? ⟨w.heap.size + 1, 10, none⟩ = some (.slice none 0 0) := (hcw1 _ _ (by first | omega | (simp; done) | (simp; omega))).trans (by simp [go_sem])
  have yw1_1_11 : w1.cell? ⟨w.heap.size + 1, 11, none⟩ = some (.slice none 0 0) := (hcw1 _ _ (by first | omega | (simp; done) | (simp; omega))).trans (by simp [go_sem])
  have yw1_1_12 : w1.cell? ⟨w.heap.size + 1, 12, none⟩ = some (.string E0) := (hcw1 _ _ (by first | omega | (simp; done) | (simp; omega))).trans (by simp [go_sem])
  have yw1_1_13 : w1.cell? ⟨w.heap.size + 1, 13, none⟩ = some (.slice none 0 0) := (hcw1 _ _ (by first | omega | (simp; done) | (simp; omega))).trans (by simp [go_sem])
  have qw1_0 : w.heap.size < w1.heap.size := by omega
  have qw1_1 : w.heap.size + 1 < w1.heap.size := by omega
  clear hcw1 hfw1
  go_wp2_with fail
  refine (eqNamedPenS_nil _).mono ?_
  rintro e w2 ⟨rfl, hbw2⟩
  obtain ⟨hcw2, hfw2⟩ := bcell hbw2
  have hzw2 := hbw2.size
  (try simp only [World.size_alloc] at hcw2 hfw2 hzw2)
  have yw2_0_0 : w2.cell? ⟨w.heap.size, 0, none⟩ = some (.slice none 0 0) := (hcw2 _ _ (by omega)).trans yw1_0_0
  have yw2_0_1 : w2.cell? ⟨w.heap.size, 1, none⟩ = some (.slice none 0 0) := (hcw2 _ _ (by omega)).trans yw1_0_1
  have yw2_0_2 : w2.cell? ⟨w.heap.size, 2, none⟩ = some (.slice none 0 0) := (hcw2 _ _ (by omega)).trans yw1_0_2
  have yw2_0_3 : w2.cell? ⟨w.heap.size, 3, none⟩ = some (.int .i64 u) := (hcw2 _ _ (by omega)).trans yw1_0_3
  have yw2_0_4 : w2.cell? ⟨w.heap.size, 4, none⟩ = some (.slice none 0 0) := (hcw2 _ _ (by omega)).trans yw1_0_4
  have yw2_0_5 : w2.cell? ⟨w.heap.size, 5, none⟩ = some (.bool false) := (hcw2 _ _ (by omega)).trans yw1_0_5
  have yw2_0_6 : w2.cell? ⟨w.heap.size, 6, none⟩ = some (.string E0) := (hcw2 _ _ (by omega)).trans yw1_0_6
  have yw2_0_7 : w2.cell? ⟨w.heap.size, 7, none⟩ = some (.int .i64 0) := (hcw2 _ _ (by omega)).trans yw1_0_7
  have yw2_0_8 : w2.cell? ⟨w.heap.size, 8, none⟩ = some (.int .i64 0) := (hcw2 _ _ (by omega)).trans yw1_0_8
  have yw2_0_9 : w2.cell? ⟨w.heap.size, 9, none⟩ = some (.slice none 0 0) := (hcw2 _ _ (by omega)).trans yw1_0_9
  have yw2_0_10 : w2.cell? ⟨w.heap.size, 10, none⟩ = some (.slice none 0 0) := (hcw2 _ _ (by omega)).trans yw1_0_10
  have yw2_0_11 : w2.cell? ⟨w.heap.size, 11, none⟩ = some (.slice none 0 0) := (hcw2 _ _ (by omega)).trans yw1_0_11
  have yw2_0_12 : w2.cell? ⟨w.heap.size, 12, none⟩ = some (.string E0) := (hcw2 _ _ (by omega)).trans yw1_0_12
  have yw2_0_13 : w2.cell? ⟨w.heap.size, 13, none⟩ = some (.slice none 0 0) := (hcw2 _ _ (by omega)).trans yw1_0_13
  have yw2_1_0 : w2.cell? ⟨w.heap.size + 1, 0, none⟩ = some (.slice RA 0 0) := (hcw2 _ _ (by omega)).trans yw1_1_0
  have yw2_1_1 : w2.cell? ⟨w.heap.size + 1, 1, none⟩ = some (.slice none 0 0) := (hcw2 _ _ (by omega)).trans yw1_1_1
  have yw2_1_2 : w2.cell? ⟨w.heap.size + 1, 2, none⟩ = some (.slice none 0 0) := (hcw2 _ _ (by omega)).trans yw1_1_2
  have yw2_1_3 : w2.cell? ⟨w.heap.size + 1, 3, none⟩ = some (.int .i64 u) := (hcw2 _ _ (by omega)).trans yw1_1_3
  have yw2_1_4 : w2.cell? ⟨w.heap.size + 1, 4, none⟩ = some (.slice none 0 0) := (hcw2 _ _ (by omega)).trans yw1_1_4
  have yw2_1_5 : w2.cell? ⟨w.heap.size + 1, 5, none⟩ = some (.bool false) := (hcw2 _ _ (by omega)).trans yw1_1_5
  have yw2_1_6 : w2.cell? ⟨w.heap.size + 1, 6, none⟩ = some (.string E0) := (hcw2 _ _ (by omega)).trans yw1_1_6
  have yw2_1_7 : w2.cell? ⟨w.heap.size + 1, 7, none⟩ = some (.int .i64 0) := (hcw2 _ _ (by omega)).trans yw1_1_7
  have yw2_1_8 : w2.cell? ⟨w.heap.size + 1, 8, none⟩ = some (.int .i64 0) := (hcw2 _ _ (by omega)).trans yw1_1_8
  have yw2_1_9 : w2.cell? ⟨w.heap.size + 1, 9, none⟩ = some (.slice none 0 0) := (hcw2 _ _ (by omega)).trans yw1_1_9
  have yw2_1_10 : w2.cell? ⟨w.heap.size + 1, 10, none⟩ = some (.slice none 0 0) := (hcw2 _ _ (by omega)).trans yw1_1_10
  have yw2_1_11 : w2.cell? ⟨w.heap.size + 1, 11, none⟩ = some (.slice none 0 0) := (hcw2 _ _ (by omega)).trans yw1_1_11
  have yw2_1_12 : w2.cell? ⟨w.heap.size + 1, 12, none⟩ = some (.string E0) := (hcw2 _ _ (by omega)).trans yw1_1_12
  have yw2_1_13 : w2.cell? ⟨w.heap.size + 1, 13, none⟩ = some (.slice none 0 0) := (hcw2 _ _ (by omega)).trans yw1_1_13
  have qw2_0 : w.heap.size < w2.heap.size := by omega
  have qw2_1 : w.heap.size + 1 < w2.heap.size := by omega
  clear hcw2 hfw2 yw1_0_0 yw1_0_1 yw1_0_2 yw1_0_3 yw1_0_4 yw1_0_5 yw1_0_6 yw1_0_7 yw1_0_8 yw1_0_9 yw1_0_10 yw1_0_11 yw1_0_12 yw1_0_13 yw1_1_0 yw1_1_1 yw1_1_2 yw1_1_3 yw1_1_4 yw1_1_5 yw1_1_6 yw1_1_7 yw1_1_8 yw1_1_9 yw1_1_10 yw1_1_11 yw1_1_12 yw1_1_13
  go_wp2_with fail
  refine (eqNamedPathS_nil _).mono ?_
  rintro e w3 ⟨rfl, hbw3⟩
  obtain ⟨hcw3, hfw3⟩ := bcell hbw3
  have hzw3 := hbw3.size
  (try simp only [World.size_alloc] at hcw3 hfw3 hzw3)
  have yw3_0_0 : w3.cell? ⟨w.heap.size, 0, none⟩ = some (.slice none 0 0) := (hcw3 _ _ (by omega)).trans yw2_0_0
  have yw3_0_1 : w3.cell? ⟨w.heap.size, 1, none⟩ = some (.slice none 0 0) := (hcw3 _ _ (by omega)).trans yw2_0_1
  have yw3_0_2 : w3.cell? ⟨w.heap.size, 2, none⟩ = some (.slice none 0 0) := (hcw3 _ _ (by omega)).trans yw2_0_2
  have yw3_0_3 : w3.cell? ⟨w.heap.size, 3, none⟩ = some (.int .i64 u) := (hcw3 _ _ (by omega)).trans yw2_0_3
  have yw3_0_4 : w3.cell? ⟨w.heap.size, 4, none⟩ = some (.slice none 0 0) := (hcw3 _ _ (by omega)).trans yw2_0_4
  have yw3_0_5 : w3.cell? ⟨w.heap.size, 5, none⟩ = some (.bool false) := (hcw3 _ _ (by omega)).trans yw2_0_5
  have yw3_0_6 : w3.cell? ⟨w.heap.size, 6, none⟩ = some (.string E0) := (hcw3 _ _ (by omega)).trans yw2_0_6
  have yw3_0_7 : w3.cell? ⟨w.heap.size, 7, none⟩ = some (.int .i64 0) := (hcw3 _ _ (by omega)).trans yw2_0_7
  have yw3_0_8 : w3.cell? ⟨w.heap.size, 8, none⟩ = some (.int .i64 0) := (hcw3 _ _ (by omega)).trans yw2_0_8
  have yw3_0_9 : w3.cell? ⟨w.heap.size, 9, none⟩ = some (.slice none 0 0) := (hcw3 _ _ (by omega)).trans yw2_0_9
  have yw3_0_10 : w3.cell? ⟨w.heap.size, 10, none⟩ = some (.slice none 0 0) := (hcw3 _ _ (by omega)).trans yw2_0_10
  have yw3_0_11 : w3.cell? ⟨w.heap.size, 11, none⟩ = some (.slice none 0 0) := (hcw3 _ _ (by omega)).trans yw2_0_11
  have yw3_0_12 : w3.cell? ⟨w.heap.size, 12, none⟩ = some (.string E0) := (hcw3 _ _ (by omega)).trans yw2_0_12
  have yw3_0_13 : w3.cell? ⟨w.heap.size, 13, none⟩ = some (.slice none 0 0) := (hcw3 _ _ (by omega)).trans yw2_0_13
  have yw3_1_0 : w3.cell? ⟨w.heap.size + 1, 0, none⟩ = some (.slice RA 0 0) := (hcw3 _ _ (by omega)).trans yw2_1_0
  have yw3_1_1 : w3.cell? ⟨w.heap.size + 1, 1, none⟩ = some (.slice none 0 0) := (hcw3 _ _ (by omega)).trans yw2_1_1
  have yw3_1_2 : w3.cell? ⟨w.heap.size + 1, 2, none⟩ = some (.slice none 0 0) := (hcw3 _ _ (by omega)).trans yw2_1_2
  have yw3_1_3 : w3.cell? ⟨w.heap.size + 1, 3, none⟩ = some (.int .i64 u) := (hcw3 _ _ (by omega)).trans yw2_1_3
  have yw3_1_4 : w3.cell? ⟨w.heap.size + 1, 4, none⟩ = some (.slice none 0 0) := (hcw3 _ _ (by omega)).trans yw2_1_4
  have yw3_1_5 : w3.cell? ⟨w.heap.size + 1, 5, none⟩ = some (.bool false) := (hcw3 _ _ (by omega)).trans yw2_1_5
  have yw3_1_6 : w3.cell? ⟨w.heap.size + 1, 6, none⟩ = some (.string E0) := (hcw3 _ _ (by omega)).trans yw2_1_6
  have yw3_1_7 : w3.cell? ⟨w.heap.size + 1, 7, none⟩ = some (.int .i64 0) := (hcw3 _ _ (by omega)).trans yw2_1_7
  have yw3_1_8 : w3.cell? ⟨w.heap.size + 1, 8, none⟩ = some (.int .i64 0) := (hcw3 _ _ (by omega)).trans yw2_1_8
  have yw3_1_9 : w3.cell? ⟨w.heap.size + 1, 9, none⟩ = some (.slice none 0 0) := (hcw3 _ _ (by omega)).trans yw2_1_9
  have yw3_1_10 : w3.cell? ⟨w.heap.size + 1, 10, none⟩ = some (.slice none 0 0) := (hcw3 _ _ (by omega)).trans yw2_1_10
  have yw3_1_11 : w3.cell? ⟨w.heap.size + 1, 11, none⟩ = some (.slice none 0 0) := (hcw3 _ _ (by omega)).trans yw2_1_11
  have yw3_1_12 : w3.cell? ⟨w.heap.size + 1, 12, none⟩ = some (.string E0) := (hcw3 _ _ (by omega)).trans yw2_1_12
  have yw3_1_13 : w3.cell? ⟨w.heap.size + 1, 13, none⟩ = some (.slice none 0 0) := (hcw3 _ _ (by omega)).trans yw2_1_13
  have qw3_0 : w.heap.size < w3.heap.size := by omega
  have qw3_1 : w.heap.size + 1 < w3.heap.size := by omega
  clear hcw3 hfw3 yw2_0_0 yw2_0_1 yw2_0_2 yw2_0_3 yw2_0_4 yw2_0_5 yw2_0_6 yw2_0_7 yw2_0_8 yw2_0_9 yw2_0_10 yw2_0_11 yw2_0_12 yw2_0_13 yw2_1_0 yw2_1_1 yw2_1_2 yw2_1_3 yw2_1_4 yw2_1_5 yw2_1_6 yw2_1_7 yw2_1_8 yw2_1_9 yw2_1_10 yw2_1_11 yw2_1_12 yw2_1_13
  go_wp2_with fail
  refine (eqGlyphSet_nil u _).mono ?_
  rintro e w4 ⟨rfl, hbw4⟩
  obtain ⟨hcw4, hfw4⟩ := bcell hbw4
  have hzw4 := hbw4.size
  (try simp only [World.size_alloc] at hcw4 hfw4 hzw4)
  have yw4_0_0 : w4.cell? ⟨w.heap.size, 0, none⟩ = some (.slice none 0 0) := (hcw4 _ _ (by omega)).trans yw3_0_0
  have yw4_0_1 : w4.cell? ⟨w.heap.size, 1, none⟩ = some (.slice none 0 0) := (hcw4 _ _ (by omega)).trans yw3_0_1
  have yw4_0_2 : w4.cell? ⟨w.heap.size, 2, none⟩ = some (.slice none 0 0) := (hcw4 _ _ (by omega)).trans yw3_0_2
  have yw4_0_3 : w4.cell? ⟨w.heap.size, 3, none⟩ = some (.int .i64 u) := (hcw4 _ _ (by omega)).trans yw3_0_3
  have yw4_0_4 : w4.cell? ⟨w.heap.size, 4, none⟩ = some (.slice none 0 0) := (hcw4 _ _ (by omega)).trans yw3_0_4
  have yw4_0_5 : w4.cell? ⟨w.heap.size, 5, none⟩ = some (.bool false) := (hcw4 _ _ (by omega)).trans yw3_0_5
  have yw4_0_6 : w4.cell? ⟨w.heap.size, 6, none⟩ = some (.string E0) := (hcw4 _ _ (by omega)).trans yw3_0_6
  have yw4_0_7 : w4.cell? ⟨w.heap.size, 7, none⟩ = some (.int .i64 0) := (hcw4 _ _ (by omega)).trans yw3_0_7
  have yw4_0_8 : w4.cell? ⟨w.heap.size, 8, none⟩ = some (.int .i64 0) := (hcw4 _ _ (by omega)).trans yw3_0_8
  have yw4_0_9 : w4.cell? ⟨w.heap.size, 9, none⟩ = some (.slice none 0 0) := (hcw4 _ _ (by omega)).trans yw3_0_9
  have yw4_0_10 : w4.cell? ⟨w.heap.size, 10, none⟩ = some (.slice none 0 0) := (hcw4 _ _ (by omega)).trans yw3_0_10
  have yw4_0_11 : w4.cell? ⟨w.heap.size, 11, none⟩ = some (.slice none 0 0) := (hcw4 _ _ (by omega)).trans yw3_0_11
  have yw4_0_12 : w4.cell? ⟨w.heap.size, 12, none⟩ = some (.string E0) := (hcw4 _ _ (by omega)).trans yw3_0_12
  have yw4_0_13 : w4.cell? ⟨w.heap.size, 13, none⟩ = some (.slice none 0 0) := (hcw4 _ _ (by omega)).trans yw3_0_13
  have yw4_1_0 : w4.cell? ⟨w.heap.size + 1, 0, none⟩ = some (.slice RA 0 0) := (hcw4 _ _ (by omega)).trans yw3_1_0
  have yw4_1_1 : w4.cell? ⟨w.heap.size + 1, 1, none⟩ = some (.slice none 0 0) := (hcw4 _ _ (by omega)).trans yw3_1_1
  have yw4_1_2 : w4.cell? ⟨w.heap.size + 1, 2, none⟩ = some (.slice none 0 0) := (hcw4 _ _ (by omega)).trans yw3_1_2
  have yw4_1_3 : w4.cell? ⟨w.heap.size + 1, 3, none⟩ = some (.int .i64 u) := (hcw4 _ _ (by omega)).trans yw3_1_3
  have yw4_1_4 : w4.cell? ⟨w.heap.size + 1, 4, none⟩ = some (.slice none 0 0) := (hcw4 _ _ (by omega)).trans yw3_1_4
  have yw4_1_5 : w4.cell? ⟨w.heap.size + 1, 5, none⟩ = some (.bool false) := (hcw4 _ _ (by omega)).trans yw3_1_5
  have yw4_1_6 : w4.cell? ⟨w.heap.size + 1, 6, none⟩ = some (.string E0) := (hcw4 _ _ (by omega)).trans yw3_1_6
  have yw4_1_7 : w4.cell? ⟨w.heap.size + 1, 7, none⟩ = some (.int .i64 0) := (hcw4 _ _ (by omega)).trans yw3_1_7
  have yw4_1_8 : w4.cell? ⟨w.heap.size + 1, 8, none⟩ = some (.int .i64 0) := (hcw4 _ _ (by omega)).trans yw3_1_8
  have yw4_1_9 : w4.cell? ⟨w.heap.size + 1, 9, none⟩ = some (.slice none 0 0) := (hcw4 _ _ (by omega)).trans yw3_1_9
  have yw4_1_10 : w4.cell? ⟨w.heap.size + 1, 10, none⟩ = some (.slice none 0 0) := (hcw4 _ _ (by omega)).trans yw3_1_10
  have yw4_1_11 : w4.cell? ⟨w.heap.size + 1, 11, none⟩ = some (.slice none 0 0) := (hcw4 _ _ (by omega)).trans yw3_1_11
  have yw4_1_12 : w4.cell? ⟨w.heap.size + 1, 12, none⟩ = some (.string E0) := (hcw4 _ _ (by omega)).trans yw3_1_12
  have yw4_1_13 : w4.cell? ⟨w.heap.size + 1, 13, none⟩ = some (.slice none 0 0) := (hcw4 _ _ (by omega)).trans yw3_1_13
  have qw4_0 : w.heap.size < w4.heap.size := by omega
  have qw4_1 : w.heap.size + 1 < w4.heap.size := by omega
  clear hcw4 hfw4 yw3_0_0 yw3_0_1 yw3_0_2 yw3_0_3 yw3_0_4 yw3_0_5 yw3_0_6 yw3_0_7 yw3_0_8 yw3_0_9 yw3_0_10 yw3_0_11 yw3_0_12 yw3_0_13 yw3_1_0 yw3_1_1 yw3_1_2 yw3_1_3 yw3_1_4 yw3_1_5 yw3_1_6 yw3_1_7 yw3_1_8 yw3_1_9 yw3_1_10 yw3_1_11 yw3_1_12 yw3_1_13
  go_wp2_with fail
  refine (eqGlyph_nil _).mono ?_
  rintro e w5 ⟨rfl, hbw5⟩
  obtain ⟨hcw5, hfw5⟩ := bcell hbw5
  have hzw5 := hbw5.size
  (try simp only [World.size_alloc] at hcw5 hfw5 hzw5)
  have yw5_0_0 : w5.cell? ⟨w.heap.size, 0, none⟩ = some (.slice none 0 0) := (hcw5 _ _ (by omega)).trans yw4_0_0
  have yw5_0_1 : w5.cell? ⟨w.heap.size, 1, none⟩ = some (.slice none 0 0) := (hcw5 _ _ (by omega)).trans yw4_0_1
  have yw5_0_2 : w5.cell? ⟨w.heap.size, 2, none⟩ = some (.slice none 0 0) := (hcw5 _ _ (by omega)).trans yw4_0_2
  have yw5_0_3 : w5.cell? ⟨w.heap.size, 3, none⟩ = some (.int .i64 u) := (hcw5 _ _ (by omega)).trans yw4_0_3
  have yw5_0_4 : w5.cell? ⟨w.heap.size, 4, none⟩ = some (.slice none 0 0) := (hcw5 _ _ (by omega)).trans yw4_0_4
  have yw5_0_5 : w5.cell? ⟨w.heap.size, 5, none⟩ = some (.bool false) := (hcw5 _ _ (by omega)).trans yw4_0_5
  have yw5_0_6 : w5.cell? ⟨w.heap.size, 6, none⟩ = some (.string E0) := (hcw5 _ _ (by omega)).trans yw4_0_6
  have yw5_0_7 : w5.cell? ⟨w.heap.size, 7, none⟩ = some (.int .i64 0) := (hcw5 _ _ (by omega)).trans yw4_0_7
  have yw5_0_8 : w5.cell? ⟨w.heap.size, 8, none⟩ = some (.int .i64 0) := (hcw5 _ _ (by omega)).trans yw4_0_8
  have yw5_0_9 : w5.cell? ⟨w.heap.size, 9, none⟩ = some (.slice none 0 0) := (hcw5 _ _ (by omega)).trans yw4_0_9
  have yw5_0_10 : w5.cell? ⟨w.heap.size, 10, none⟩ = some (.slice none 0 0) := (hcw5 _ _ (by omega)).trans yw4_0_10
  have yw5_0_11 : w5.cell? ⟨w.heap.size, 11, none⟩ = some (.slice none 0 0) := (hcw5 _ _ (by omega)).trans yw4_0_11
  have yw5_0_12 : w5.cell? ⟨w.heap.size, 12, none⟩ = some (.string E0) := (hcw5 _ _ (by omega)).trans yw4_0_12
  have yw5_0_13 : w5.cell? ⟨w.heap.size, 13, none⟩ = some (.slice none 0 0) := (hcw5 _ _ (by omega)).trans yw4_0_13
  have yw5_1_0 : w5.cell? ⟨w.heap.size + 1, 0, none⟩ = some (.slice RA 0 0) := (hcw5 _ _ (by omega)).trans yw4_1_0
  have yw5_1_1 : w5.cell? ⟨w.heap.size + 1, 1, none⟩ = some (.slice none 0 0) := (hcw5 _ _ (by omega)).trans yw4_1_1
  have yw5_1_2 : w5.cell? ⟨w.heap.size + 1, 2, none⟩ = some (.slice none 0 0) := (hcw5 _ _ (by omega)).trans yw4_1_2
  have yw5_1_3 : w5.cell? ⟨w.heap.size + 1, 3, none⟩ = some (.int .i64 u) := (hcw5 _ _ (by omega)).trans yw4_1_3
  have yw5_1_4 : w5.cell? ⟨w.heap.size + 1, 4, none⟩ = some (.slice none 0 0) := (hcw5 _ _ (by omega)).trans yw4_1_4
  have yw5_1_5 : w5.cell? ⟨w.heap.size + 1, 5, none⟩ = some (.bool false) := (hcw5 _ _ (by omega)).trans yw4_1_5
  have yw5_1_6 : w5.cell? ⟨w.heap.size + 1, 6, none⟩ = some (.string E0) := (hcw5 _ _ (by omega)).trans yw4_1_6
  have yw5_1_7 : w5.cell? ⟨w.heap.size + 1, 7, none⟩ = some (.int .i64 0) := (hcw5 _ _ (by omega)).trans yw4_1_7
  have yw5_1_8 : w5.cell? ⟨w.heap.size + 1, 8, none⟩ = some (.int .i64 0) := (hcw5 _ _ (by omega)).trans yw4_1_8
  have yw5_1_9 : w5.cell? ⟨w.heap.size + 1, 9, none⟩ = some (.slice none 0 0) := (hcw5 _ _ (by omega)).trans yw4_1_9
  have yw5_1_10 : w5.cell? ⟨w.heap.size + 1, 10, none⟩ = some (.slice none 0 0) := (hcw5 _ _ (by omega)).trans yw4_1_10
  have yw5_1_11 : w5.cell? ⟨w.heap.size + 1, 11, none⟩ = some (.slice none 0 0) := (hcw5 _ _ (by omega)).trans yw4_1_11
  have yw5_1_12 : w5.cell? ⟨w.heap.size + 1, 12, none⟩ = some (.string E0) := (hcw5 _ _ (by omega)).trans yw4_1_12
  have yw5_1_13 : w5.cell? ⟨w.heap.size + 1, 13, none⟩ = some (.slice none 0 0) := (hcw5 _ _ (by omega)).trans yw4_1_13
  have qw5_0 : w.heap.size < w5.heap.size := by omega
  have qw5_1 : w.heap.size + 1 < w5.heap.size := by omega
  clear hcw5 hfw5 yw4_0_0 yw4_0_1 yw4_0_2 yw4_0_3 yw4_0_4 yw4_0_5 yw4_0_6 yw4_0_7 yw4_0_8 yw4_0_9 yw4_0_10 yw4_0_11 yw4_0_12 yw4_0_13 yw4_1_0 yw4_1_1 yw4_1_2 yw4_1_3 yw4_1_4 yw4_1_5 yw4_1_6 yw4_1_7 yw4_1_8 yw4_1_9 yw4_1_10 yw4_1_11 yw4_1_12 yw4_1_13
  go_wp2_with fail
  refine (eqRegion_nil _).mono ?_
  rintro e w6 ⟨rfl, hbw6⟩
  obtain ⟨hcw6, hfw6⟩ := bcell hbw6
  have hzw6 := hbw6.size
  (try simp only [World.size_alloc] at hcw6 hfw6 hzw6)
  have yw6_0_0 : w6.cell? ⟨w.heap.size, 0, none⟩ = some (.slice none 0 0) := (hcw6 _ _ (by omega)).trans yw5_0_0
  have yw6_0_1 : w6.cell? ⟨w.heap.size, 1, none⟩ = some (.slice none 0 0) := (hcw6 _ _ (by omega)).trans yw5_0_1
  have yw6_0_2 : w6.cell? ⟨w.heap.size, 2, none⟩ = some (.slice none 0 0) := (hcw6 _ _ (by omega)).trans yw5_0_2
  have yw6_0_3 : w6.cell? ⟨w.heap.size, 3, none⟩ = some (.int .i64 u) := (hcw6 _ _ (by omega)).trans yw5_0_3
  have yw6_0_4 : w6.cell? ⟨w.heap.size, 4, none⟩ = some (.slice none 0 0) := (hcw6 _ _ (by omega)).trans yw5_0_4
  have yw6_0_5 : w6.cell? ⟨w.heap.size, 5, none⟩ = some (.bool false) := (hcw6 _ _ (by omega)).trans yw5_0_5
  have yw6_0_6 : w6.cell? ⟨w.heap.size, 6, none⟩ = some (.string E0) := (hcw6 _ _ (by omega)).trans yw5_0_6
  have yw6_0_7 : w6.cell? ⟨w.heap.size, 7, none⟩ = some (.int .i64 0) := (hcw6 _ _ (by omega)).trans yw5_0_7
  have yw6_0_8 : w6.cell? ⟨w.heap.size, 8, none⟩ = some (.int .i64 0) := (hcw6 _ _ (by omega)).trans yw5_0_8
  have yw6_0_9 : w6.cell? ⟨w.heap.size, 9, none⟩ = some (.slice none 0 0) := (hcw6 _ _ (by omega)).trans yw5_0_9
  have yw6_0_10 : w6.cell? ⟨w.heap.size, 10, none⟩ = some (.slice none 0 0) := (hcw6 _ _ (by omega)).trans yw5_0_10
  have yw6_0_11 : w6.cell? ⟨w.heap.size, 11, none⟩ = some (.slice none 0 0) := (hcw6 _ _ (by omega)).trans yw5_0_11
  have yw6_0_12 : w6.cell? ⟨w.heap.size, 12, none⟩ = some (.string E0) := (hcw6 _ _ (by omega)).trans yw5_0_12
  have yw6_0_13 : w6.cell? ⟨w.heap.size, 13, none⟩ = some (.slice none 0 0) := (hcw6 _ _ (by omega)).trans yw5_0_13
  have yw6_1_0 : w6.cell? ⟨w.heap.size + 1, 0, none⟩ = some (.slice RA 0 0) := (hcw6 _ _ (by omega)).trans yw5_1_0
  have yw6_1_1 : w6.cell? ⟨w.heap.size + 1, 1, none⟩ = some (.slice none 0 0) := (hcw6 _ _ (by omega)).trans yw5_1_1
  have yw6_1_2 : w6.cell? ⟨w.heap.size + 1, 2, none⟩ = some (.slice none 0 0) := (hcw6 _ _ (by omega)).trans yw5_1_2
  have yw6_1_3 : w6.cell? ⟨w.heap.size + 1, 3, none⟩ = some (.int .i64 u) := (hcw6 _ _ (by omega)).trans yw5_1_3
  have yw6_1_4 : w6.cell? ⟨w.heap.size + 1, 4, none⟩ = some (.slice none 0 0) := (hcw6 _ _ (by omega)).trans yw5_1_4
  have yw6_1_5 : w6.cell? ⟨w.heap.size + 1, 5, none⟩ = some (.bool false) := (hcw6 _ _ (by omega)).trans yw5_1_5
  have yw6_1_6 : w6.cell? ⟨w.heap.size + 1, 6, none⟩ = some (.string E0) := (hcw6 _ _ (by omega)).trans yw5_1_6
  have yw6_1_7 : w6.cell? ⟨w.heap.size + 1, 7, none⟩ = some (.int .i64 0) := (hcw6 _ _ (by omega)).trans yw5_1_7
  have yw6_1_8 : w6.cell? ⟨w.heap.size + 1, 8, none⟩ = some (.int .i64 0) := (hcw6 _ _ (by omega)).trans yw5_1_8
  have yw6_1_9 : w6.cell? ⟨w.heap.size + 1, 9, none⟩ = some (.slice none 0 0) := (hcw6 _ _ (by omega)).trans yw5_1_9
  have yw6_1_10 : w6.cell? ⟨w.heap.size + 1, 10, none⟩ = some (.slice none 0 0) := (hcw6 _ _ (by omega)).trans yw5_1_10
  have yw6_1_11 : w6.cell? ⟨w.heap.size + 1, 11, none⟩ = some (.slice none 0 0) := (hcw6 _ _ (by omega)).trans yw5_1_11
  have yw6_1_12 : w6.cell? ⟨w.heap.size + 1, 12, none⟩ = some (.string E0) := (hcw6 _ _ (by omega)).trans yw5_1_12
  have yw6_1_13 : w6.cell? ⟨w.heap.size + 1, 13, none⟩ = some (.slice none 0 0) := (hcw6 _ _ (by omega)).trans yw5_1_13
  have qw6_0 : w.heap.size < w6.heap.size := by omega
  have qw6_1 : w.heap.size + 1 < w6.heap.size := by omega
  clear hcw6 hfw6 yw5_0_0 yw5_0_1 yw5_0_2 yw5_0_3 yw5_0_4 yw5_0_5 yw5_0_6 yw5_0_7 yw5_0_8 yw5_0_9 yw5_0_10 yw5_0_11 yw5_0_12 yw5_0_13 yw5_1_0 yw5_1_1 yw5_1_2 yw5_1_3 yw5_1_4 yw5_1_5 yw5_1_6 yw5_1_7 yw5_1_8 yw5_1_9 yw5_1_10 yw5_1_11 yw5_1_12 yw5_1_13
  go_wp2_with fail
  go_ret
  exact ⟨rfl, by repeat' (first | with_reducible assumption | with_reducible exact Below.refl _ _ | (with_reducible refine Below.setCell ?_ ?_ _) | (with_reducible refine Below.alloc ?_ ?_ _) | (with_reducible refine Below.drew ?_) | (with_reducible refine below_dr ?_ _) | (with_reducible refine Below.trans ?_ (Below.mono (by with_reducible assumption) ?_)) | omega | (simp; done) | (simp; omega))⟩
def scU (u : Int) : Int := if 16 ≤ u ∧ u ≤ 16384 then u else 0
def scC (u : Int) : Int := if 16 ≤ u ∧ u ≤ 16384 then 0 else 2
set_option maxRecDepth 100000 in
set_option maxHeartbeats 3200000 in
theorem l08New_any (u : Int) (w : World) : Calls Try.prog 72 #[.int .i64 u] w fun e w' => (∃ RA : Option Addr, e = .returned (.agg #[.slice RA 0 0, .slice none 0 0, .slice none 0 0, .int .i64 u, .slice none 0 0, .bool false, .string E0, .int .i64 0, .int .i64 0, .slice none 0 0, .slice none 0 0, .slice none 0 0, .string E0, .slice none 0 0])) ∧ Below w.heap.size w w' := by
  go_enter Try.func72, Try.ntmps72
  go_wp2_with fail
  refine bodyPost_ret (v := .agg #[.slice (some ⟨w.heap.size + 1, 0, none⟩) 0 0, .slice none 0 0, .slice none 0 0, .int .i64 u, .slice none 0 0, .bool false, .string E0, .int .i64 0, .int .i64 0, .slice none 0 0, .slice none 0 0, .slice none 0 0, .string E0, .slice none 0 0]) (by simp [results, Try.results72, go_sem, *]) rfl ?_
  exact ⟨⟨_, rfl⟩, by repeat' (first | with_reducible assumption | with_reducible exact Below.refl _ _ | (with_reducible refine Below.setCell ?_ ?_ _) | (with_reducible refine Below.alloc ?_ ?_ _) | (with_reducible refine Below.drew ?_) | (with_reducible refine below_dr ?_ _) | (with_reducible refine Below.trans ?_ (Below.mono (by with_reducible assumption) ?_)) | omega | (simp; done) | (simp; omega))⟩
set_option maxRecDepth 100000 in
set_option maxHeartbeats 3200000 in
theorem specNewScene_any (u : Int) (w : World) : Calls Try.prog 25 #[.int .i64 u] w fun e w' => (∃ RA : Option Addr, e = .returned (.tuple #[.agg #[.slice RA 0 0, .slice none 0 0, .slice none 0 0, .int .i64 (scU u), .slice none 0 0, .bool false, .string E0, .int .i64 0, .int .i64 0, .slice none 0 0, .slice none 0 0, .slice none 0 0, .string E0, .slice none 0 0], .int .i64 (scC u)])) ∧ Below w.heap.size w w' := by
  by_cases h : 16 ≤ u ∧ u ≤ 16384
  case pos =>
    have HU := Lib.hid (show scU u = u from if_pos h)
    have HC := Lib.hid (show scC u = 0 from if_pos h)
    rw [HU.out, HC.out]
    obtain ⟨h1, h2⟩ := h
    have CN := Lib.hid (fun w => l08New_any u w)
    go_enter Try.func25, Try.ntmps25
    go_wp2_with fail
    refine (l00In_yes _ _ _ _ h1 h2).mono ?_
    rintro e w1 ⟨rfl, rfl⟩
    go_wp2_with fail
    refine (CN.out _).mono ?_
    rintro e w2 ⟨⟨RA, rfl⟩, hb2⟩
    obtain ⟨hc2, hf2⟩ := bcell hb2
    have hz2 := hb2.size
    (try simp only [World.size_alloc] at hc2 hf2 hz2)
    have y0 : w2.cell? ⟨w.heap.size, 0, none⟩ = some (.slice none 0 0) := (hc2 _ _ (by simp)).trans (by simp [go_sem])
    have y1 : w2.cell? ⟨w.heap.size, 1, none⟩ = some (.slice none 0 0) := (hc2 _ _ (by simp)).trans (by simp [go_sem])
    have y2 : w2.cell? ⟨w.heap.size, 2, none⟩ = some (.slice none 0 0) := (hc2 _ _ (by simp)).trans (by simp [go_sem])
    have y3 : w2.cell? ⟨w.heap.size, 3, none⟩ = some (.int .i64 0) := (hc2 _ _ (by simp)).trans (by simp [go_sem])
    have y4 : w2.cell? ⟨w.heap.size, 4, none⟩ = some (.slice none 0 0) := (hc2 _ _ (by simp)).trans (by simp [go_sem])
    have y5 : w2.cell? ⟨w.heap.size, 5, none⟩ = some (.bool false) := (hc2 _ _ (by simp)).trans (by simp [go_sem])
    have y6 : w2.cell? ⟨w.heap.size, 6, none⟩ = some (.string E0) := (hc2 _ _ (by simp)).trans (by simp [go_sem])
    have y7 : w2.cell? ⟨w.heap.size, 7, none⟩ = some (.int .i64 0) := (hc2 _ _ (by simp)).trans (by simp [go_sem])
    have y8 : w2.cell? ⟨w.heap.size, 8, none⟩ = some (.int .i64 0) := (hc2 _ _ (by simp)).trans (by simp [go_sem])
    have y9 : w2.cell? ⟨w.heap.size, 9, none⟩ = some (.slice none 0 0) := (hc2 _ _ (by simp)).trans (by simp [go_sem])
    have y10 : w2.cell? ⟨w.heap.size, 10, none⟩ = some (.slice none 0 0) := (hc2 _ _ (by simp)).trans (by simp [go_sem])
    have y11 : w2.cell? ⟨w.heap.size, 11, none⟩ = some (.slice none 0 0) := (hc2 _ _ (by simp)).trans (by simp [go_sem])
    have y12 : w2.cell? ⟨w.heap.size, 12, none⟩ = some (.string E0) := (hc2 _ _ (by simp)).trans (by simp [go_sem])
    have y13 : w2.cell? ⟨w.heap.size, 13, none⟩ = some (.slice none 0 0) := (hc2 _ _ (by simp)).trans (by simp [go_sem])
    have yf0 : w2.frozen? ⟨w.heap.size, 0, none⟩ = false := (hf2 _ _ (by simp)).trans (by simp [go_sem])
    have yf1 : w2.frozen? ⟨w.heap.size, 1, none⟩ = false := (hf2 _ _ (by simp)).trans (by simp [go_sem])
    have yf2 : w2.frozen? ⟨w.heap.size, 2, none⟩ = false := (hf2 _ _ (by simp)).trans (by simp [go_sem])
    have yf3 : w2.frozen? ⟨w.heap.size, 3, none⟩ = false := (hf2 _ _ (by simp)).trans (by simp [go_sem])
    have yf4 : w2.frozen? ⟨w.heap.size, 4, none⟩ = false := (hf2 _ _ (by simp)).trans (by simp [go_sem])
    have yf5 : w2.frozen? ⟨w.heap.size, 5, none⟩ = false := (hf2 _ _ (by simp)).trans (by simp [go_sem])
    have yf6 : w2.frozen? ⟨w.heap.size, 6, none⟩ = false := (hf2 _ _ (by simp)).trans (by simp [go_sem])
    have yf7 : w2.frozen? ⟨w.heap.size, 7, none⟩ = false := (hf2 _ _ (by simp)).trans (by simp [go_sem])
    have yf8 : w2.frozen? ⟨w.heap.size, 8, none⟩ = false := (hf2 _ _ (by simp)).trans (by simp [go_sem])
    have yf9 : w2.frozen? ⟨w.heap.size, 9, none⟩ = false := (hf2 _ _ (by simp)).trans (by simp [go_sem])
    have yf10 : w2.frozen? ⟨w.heap.size, 10, none⟩ = false := (hf2 _ _ (by simp)).trans (by simp [go_sem])
    have yf11 : w2.frozen? ⟨w.heap.size, 11, none⟩ = false := (hf2 _ _ (by simp)).trans (by simp [go_sem])
    have yf12 : w2.frozen? ⟨w.heap.size, 12, none⟩ = false := (hf2 _ _ (by simp)).trans (by simp [go_sem])
    have yf13 : w2.frozen? ⟨w.heap.size, 13, none⟩ = false := (hf2 _ _ (by simp)).trans (by simp [go_sem])
    have q1 : w.heap.size < w2.heap.size := by omega
    clear hc2 hf2
    go_wp2_with fail
    refine bodyPost_ret (v := .tuple #[.agg #[.slice RA 0 0, .slice none 0 0, .slice none 0 0, .int .i64 u, .slice none 0 0, .bool false, .string E0, .int .i64 0, .int .i64 0, .slice none 0 0, .slice none 0 0, .slice none 0 0, .string E0, .slice none 0 0], .int .i64 0]) (by simp [results, Try.results25, go_sem, *]) rfl ?_
    exact ⟨⟨_, rfl⟩, by repeat' (first | with_reducible assumption | with_reducible exact Below.refl _ _ | (with_reducible refine Below.setCell ?_ ?_ _) | (with_reducible refine Below.alloc ?_ ?_ _) | (with_reducible refine Below.drew ?_) | (with_reducible refine below_dr ?_ _) | (with_reducible refine Below.trans ?_ (Below.mono (by with_reducible assumption) ?_)) | omega | (simp; done) | (simp; omega))⟩
  case neg =>
    have HU := Lib.hid (show scU u = 0 from if_neg h)
    have HC := Lib.hid (show scC u = 2 from if_neg h)
    rw [HU.out, HC.out]
    go_enter Try.func25, Try.ntmps25
    go_wp2_with fail
    refine (l00In_no _ _ _ _ (by omega)).mono ?_
    rintro e w1 ⟨rfl, rfl⟩
    go_wp2_with fail
    refine bodyPost_ret (v := .tuple #[.agg #[.slice none 0 0, .slice none 0 0, .slice none 0 0, .int .i64 0, .slice none 0 0, .bool false, .string E0, .int .i64 0, .int .i64 0, .slice none 0 0, .slice none 0 0, .slice none 0 0, .string E0, .slice none 0 0], .int .i64 2]) (by simp [results, Try.results25, go_sem, *]) rfl ?_
    exact ⟨⟨_, rfl⟩, by repeat' (first | with_reducible assumption | with_reducible exact Below.refl _ _ | (with_reducible refine Below.setCell ?_ ?_ _) | (with_reducible refine Below.alloc ?_ ?_ _) | (with_reducible refine Below.drew ?_) | (with_reducible refine below_dr ?_ _) | (with_reducible refine Below.trans ?_ (Below.mono (by with_reducible assumption) ?_)) | omega | (simp; done) | (simp; omega))⟩
set_option maxRecDepth 100000 in
set_option maxHeartbeats 3200000 in
theorem implNewScene_any (u : Int) (w : World) : Calls Try.prog 26 #[.int .i64 u] w fun e w' => e = .returned (.tuple #[.agg #[.slice none 0 0, .slice none 0 0, .slice none 0 0, .int .i64 (scU u), .slice none 0 0, .bool false, .string E0, .int .i64 0, .int .i64 0, .slice none 0 0, .slice none 0 0, .slice none 0 0, .string E0, .slice none 0 0], .int .i64 (scC u)]) ∧ Below w.heap.size w w' := by
  have CU := Lib.hid (fun w => isUnit_any u w)
  by_cases h : 16 ≤ u ∧ u ≤ 16384
  case pos =>
    have HU := Lib.hid (show scU u = u from if_pos h)
    have HC := Lib.hid (show scC u = 0 from if_pos h)
    rw [HU.out, HC.out]
    rw [decide_eq_true h] at CU
    go_enter Try.func26, Try.ntmps26
    go_wp2_with fail
    refine (CU.out _).mono ?_
    rintro e w1 ⟨rfl, hb1⟩
    obtain ⟨hc1, hf1⟩ := bcell hb1
    have hz1 := hb1.size
    (try simp only [World.size_alloc] at hc1 hf1 hz1)
    have y0 : w1.cell? ⟨w.heap.size, 0, none⟩ = some (.slice none 0 0) := (hc1 _ _ (by simp)).trans (by simp [go_sem])
    have y1 : w1.cell? ⟨w.heap.size, 1, none⟩ = some (.slice none 0 0) := (hc1 _ _ (by simp)).trans (by simp [go_sem])
    have y2 : w1.cell? ⟨w.heap.size, 2, none⟩ = some (.slice none 0 0) := (hc1 _ _ (by simp)).trans (by simp [go_sem])
    have y3 : w1.cell? ⟨w.heap.size, 3, none⟩ = some (.int .i64 0) := (hc1 _ _ (by simp)).trans (by simp [go_sem])
    have y4 : w1.cell? ⟨w.heap.size, 4, none⟩ = some (.slice none 0 0) := (hc1 _ _ (by simp)).trans (by simp [go_sem])
    have y5 : w1.cell? ⟨w.heap.size, 5, none⟩ = some (.bool false) := (hc1 _ _ (by simp)).trans (by simp [go_sem])
    have y6 : w1.cell? ⟨w.heap.size, 6, none⟩ = some (.string E0) := (hc1 _ _ (by simp)).trans (by simp [go_sem])
    have y7 : w1.cell? ⟨w.heap.size, 7, none⟩ = some (.int .i64 0) := (hc1 _ _ (by simp)).trans (by simp [go_sem])
    have y8 : w1.cell? ⟨w.heap.size, 8, none⟩ = some (.int .i64 0) := (hc1 _ _ (by simp)).trans (by simp [go_sem])
    have y9 : w1.cell? ⟨w.heap.size, 9, none⟩ = some (.slice none 0 0) := (hc1 _ _ (by simp)).trans (by simp [go_sem])
    have y10 : w1.cell? ⟨w.heap.size, 10, none⟩ = some (.slice none 0 0) := (hc1 _ _ (by simp)).trans (by simp [go_sem])
    have y11 : w1.cell? ⟨w.heap.size, 11, none⟩ = some (.slice none 0 0) := (hc1 _ _ (by simp)).trans (by simp [go_sem])
    have y12 : w1.cell? ⟨w.heap.size, 12, none⟩ = some (.string E0) := (hc1 _ _ (by simp)).trans (by simp [go_sem])
    have y13 : w1.cell? ⟨w.heap.size, 13, none⟩ = some (.slice none 0 0) := (hc1 _ _ (by simp)).trans (by simp [go_sem])
    have yf0 : w1.frozen? ⟨w.heap.size, 0, none⟩ = false := (hf1 _ _ (by simp)).trans (by simp [go_sem])
    have yf1 : w1.frozen? ⟨w.heap.size, 1, none⟩ = false := (hf1 _ _ (by simp)).trans (by simp [go_sem])
    have yf2 : w1.frozen? ⟨w.heap.size, 2, none⟩ = false := (hf1 _ _ (by simp)).trans (by simp [go_sem])
    have yf3 : w1.frozen? ⟨w.heap.size, 3, none⟩ = false := (hf1 _ _ (by simp)).trans (by simp [go_sem])
    have yf4 : w1.frozen? ⟨w.heap.size, 4, none⟩ = false := (hf1 _ _ (by simp)).trans (by simp [go_sem])
    have yf5 : w1.frozen? ⟨w.heap.size, 5, none⟩ = false := (hf1 _ _ (by simp)).trans (by simp [go_sem])
    have yf6 : w1.frozen? ⟨w.heap.size, 6, none⟩ = false := (hf1 _ _ (by simp)).trans (by simp [go_sem])
    have yf7 : w1.frozen? ⟨w.heap.size, 7, none⟩ = false := (hf1 _ _ (by simp)).trans (by simp [go_sem])
    have yf8 : w1.frozen? ⟨w.heap.size, 8, none⟩ = false := (hf1 _ _ (by simp)).trans (by simp [go_sem])
    have yf9 : w1.frozen? ⟨w.heap.size, 9, none⟩ = false := (hf1 _ _ (by simp)).trans (by simp [go_sem])
    have yf10 : w1.frozen? ⟨w.heap.size, 10, none⟩ = false := (hf1 _ _ (by simp)).trans (by simp [go_sem])
    have yf11 : w1.frozen? ⟨w.heap.size, 11, none⟩ = false := (hf1 _ _ (by simp)).trans (by simp [go_sem])
    have yf12 : w1.frozen? ⟨w.heap.size, 12, none⟩ = false := (hf1 _ _ (by simp)).trans (by simp [go_sem])
    have yf13 : w1.frozen? ⟨w.heap.size, 13, none⟩ = false := (hf1 _ _ (by simp)).trans (by simp [go_sem])
    have q1 : w.heap.size < w1.heap.size := by omega
    clear hc1 hf1
    go_wp2_with fail
    refine bodyPost_ret (v := .tuple #[.agg #[.slice none 0 0, .slice none 0 0, .slice none 0 0, .int .i64 u, .slice none 0 0, .bool false, .string E0, .int .i64 0, .int .i64 0, .slice none 0 0, .slice none 0 0, .slice none 0 0, .string E0, .slice none 0 0], .int .i64 0]) (by simp [results, Try.results26, go_sem, *]) rfl ?_
    exact ⟨rfl, by repeat' (first | with_reducible assumption | with_reducible exact Below.refl _ _ | (with_reducible refine Below.setCell ?_ ?_ _) | (with_reducible refine Below.alloc ?_ ?_ _) | (with_reducible refine Below.drew ?_) | (with_reducible refine below_dr ?_ _) | (with_reducible refine Below.trans ?_ (Below.mono (by with_reducible assumption) ?_)) | omega | (simp; done) | (simp; omega))⟩
  case neg =>
    have HU := Lib.hid (show scU u = 0 from if_neg h)
    have HC := Lib.hid (show scC u = 2 from if_neg h)
    rw [HU.out, HC.out]
    rw [decide_eq_false h] at CU
    go_enter Try.func26, Try.ntmps26
    go_wp2_with fail
    refine (CU.out _).mono ?_
    rintro e w1 ⟨rfl, hb1⟩
    obtain ⟨hc1, hf1⟩ := bcell hb1
    have hz1 := hb1.size
    (try simp only [World.size_alloc] at hc1 hf1 hz1)
    have y0 : w1.cell? ⟨w.heap.size, 0, none⟩ = some (.slice none 0 0) := (hc1 _ _ (by simp)).trans (by simp [go_sem])
    have y1 : w1.cell? ⟨w.heap.size, 1, none⟩ = some (.slice none 0 0) := (hc1 _ _ (by simp)).trans (by simp [go_sem])
    have y2 : w1.cell? ⟨w.heap.size, 2, none⟩ = some (.slice none 0 0) := (hc1 _ _ (by simp)).trans (by simp [go_sem])
    have y3 : w1.cell? ⟨w.heap.size, 3, none⟩ = some (.int .i64 0) := (hc1 _ _ (by simp)).trans (by simp [go_sem])
    have y4 : w1.cell? ⟨w.heap.size, 4, none⟩ = some (.slice none 0 0) := (hc1 _ _ (by simp)).trans (by simp [go_sem])
    have y5 : w1.cell? ⟨w.heap.size, 5, none⟩ = some (.bool false) := (hc1 _ _ (by simp)).trans (by simp [go_sem])
    have y6 : w1.cell? ⟨w.heap.size, 6, none⟩ = some (.string E0) := (hc1 _ _ (by simp)).trans (by simp [go_sem])
    have y7 : w1.cell? ⟨w.heap.size, 7, none⟩ = some (.int .i64 0) := (hc1 _ _ (by simp)).trans (by simp [go_sem])
    have y8 : w1.cell? ⟨w.heap.size, 8, none⟩ = some (.int .i64 0) := (hc1 _ _ (by simp)).trans (by simp [go_sem])
    have y9 : w1.cell? ⟨w.heap.size, 9, none⟩ = some (.slice none 0 0) := (hc1 _ _ (by simp)).trans (by simp [go_sem])
    have y10 : w1.cell? ⟨w.heap.size, 10, none⟩ = some (.slice none 0 0) := (hc1 _ _ (by simp)).trans (by simp [go_sem])
    have y11 : w1.cell? ⟨w.heap.size, 11, none⟩ = some (.slice none 0 0) := (hc1 _ _ (by simp)).trans (by simp [go_sem])
    have y12 : w1.cell? ⟨w.heap.size, 12, none⟩ = some (.string E0) := (hc1 _ _ (by simp)).trans (by simp [go_sem])
    have y13 : w1.cell? ⟨w.heap.size, 13, none⟩ = some (.slice none 0 0) := (hc1 _ _ (by simp)).trans (by simp [go_sem])
    have yf0 : w1.frozen? ⟨w.heap.size, 0, none⟩ = false := (hf1 _ _ (by simp)).trans (by simp [go_sem])
    have yf1 : w1.frozen? ⟨w.heap.size, 1, none⟩ = false := (hf1 _ _ (by simp)).trans (by simp [go_sem])
    have yf2 : w1.frozen? ⟨w.heap.size, 2, none⟩ = false := (hf1 _ _ (by simp)).trans (by simp [go_sem])
    have yf3 : w1.frozen? ⟨w.heap.size, 3, none⟩ = false := (hf1 _ _ (by simp)).trans (by simp [go_sem])
    have yf4 : w1.frozen? ⟨w.heap.size, 4, none⟩ = false := (hf1 _ _ (by simp)).trans (by simp [go_sem])
    have yf5 : w1.frozen? ⟨w.heap.size, 5, none⟩ = false := (hf1 _ _ (by simp)).trans (by simp [go_sem])
    have yf6 : w1.frozen? ⟨w.heap.size, 6, none⟩ = false := (hf1 _ _ (by simp)).trans (by simp [go_sem])
    have yf7 : w1.frozen? ⟨w.heap.size, 7, none⟩ = false := (hf1 _ _ (by simp)).trans (by simp [go_sem])
    have yf8 : w1.frozen? ⟨w.heap.size, 8, none⟩ = false := (hf1 _ _ (by simp)).trans (by simp [go_sem])
    have yf9 : w1.frozen? ⟨w.heap.size, 9, none⟩ = false := (hf1 _ _ (by simp)).trans (by simp [go_sem])
    have yf10 : w1.frozen? ⟨w.heap.size, 10, none⟩ = false := (hf1 _ _ (by simp)).trans (by simp [go_sem])
    have yf11 : w1.frozen? ⟨w.heap.size, 11, none⟩ = false := (hf1 _ _ (by simp)).trans (by simp [go_sem])
    have yf12 : w1.frozen? ⟨w.heap.size, 12, none⟩ = false := (hf1 _ _ (by simp)).trans (by simp [go_sem])
    have yf13 : w1.frozen? ⟨w.heap.size, 13, none⟩ = false := (hf1 _ _ (by simp)).trans (by simp [go_sem])
    have q1 : w.heap.size < w1.heap.size := by omega
    clear hc1 hf1
    go_wp2_with fail
    refine bodyPost_ret (v := .tuple #[.agg #[.slice none 0 0, .slice none 0 0, .slice none 0 0, .int .i64 0, .slice none 0 0, .bool false, .string E0, .int .i64 0, .int .i64 0, .slice none 0 0, .slice none 0 0, .slice none 0 0, .string E0, .slice none 0 0], .int .i64 2]) (by simp [results, Try.results26, go_sem, *]) rfl ?_
    exact ⟨rfl, by repeat' (first | with_reducible assumption | with_reducible exact Below.refl _ _ | (with_reducible refine Below.setCell ?_ ?_ _) | (with_reducible refine Below.alloc ?_ ?_ _) | (with_reducible refine Below.drew ?_) | (with_reducible refine below_dr ?_ _) | (with_reducible refine Below.trans ?_ (Below.mono (by with_reducible assumption) ?_)) | omega | (simp; done) | (simp; omega))⟩
end Go.Proofs.Ytelefmogmloniaa
