/- Walks: scenes without anything are compared, marked, held; new scenes. -/
import Derived.Test.YtelefmogmloniaaGpg
namespace Go.Proofs.Ytelefmogmloniaa
open Go.RowKit
set_option linter.unusedVariables false
abbrev E0 : ByteArray := ⟨#[]⟩
set_option maxRecDepth 100000 in
set_option maxHeartbeats 3200000 in
theorem eqRowS_ra (RA : Option Addr) (w : World) : Calls Try.prog 133 #[.slice none 0 0, .slice RA 0 0] w fun e w' => e = .returned (.bool true) ∧ Below w.heap.size w w' := by
  go_enter Try.func133, Try.ntmps133
  go_wp2_with fail
  refine wp_loop_rounds 1 ?_
  rw [rounds_succ]
  go_wp2
  go_ret
  exact ⟨rfl, by repeat' (first | with_reducible assumption | with_reducible exact Below.refl _ _ | (with_reducible refine Below.setCell ?_ ?_ _) | (with_reducible refine Below.alloc ?_ ?_ _) | (with_reducible refine Below.drew ?_) | (with_reducible refine below_dr ?_ _) | (with_reducible refine Below.trans ?_ (Below.mono (by with_reducible assumption) ?_)) | omega | (simp; done) | (simp; omega))⟩
set_option maxRecDepth 100000 in
set_option maxHeartbeats 3200000 in
theorem eqRowS_nil (w : World) : Calls Try.prog 133 #[.slice none 0 0, .slice none 0 0] w fun e w' => e = .returned (.bool true) ∧ Below w.heap.size w w' := by
  go_enter Try.func133, Try.ntmps133
  go_wp2_with fail
  refine wp_loop_rounds 1 ?_
  rw [rounds_succ]
  go_wp2
  go_ret
  exact ⟨rfl, by repeat' (first | with_reducible assumption | with_reducible exact Below.refl _ _ | (with_reducible refine Below.setCell ?_ ?_ _) | (with_reducible refine Below.alloc ?_ ?_ _) | (with_reducible refine Below.drew ?_) | (with_reducible refine below_dr ?_ _) | (with_reducible refine Below.trans ?_ (Below.mono (by with_reducible assumption) ?_)) | omega | (simp; done) | (simp; omega))⟩
set_option maxRecDepth 100000 in
set_option maxHeartbeats 3200000 in
theorem markRowS_nil (w : World) : Calls Try.prog 137 #[.slice none 0 0, .int .i64 1] w fun e w' => e = .returned (.int .i64 1) ∧ Below w.heap.size w w' := by
  go_enter Try.func137, Try.ntmps137
  go_wp2_with fail
  refine wp_loop_rounds 1 ?_
  rw [rounds_succ]
  go_wp2
  go_ret
  exact ⟨rfl, by repeat' (first | with_reducible assumption | with_reducible exact Below.refl _ _ | (with_reducible refine Below.setCell ?_ ?_ _) | (with_reducible refine Below.alloc ?_ ?_ _) | (with_reducible refine Below.drew ?_) | (with_reducible refine below_dr ?_ _) | (with_reducible refine Below.trans ?_ (Below.mono (by with_reducible assumption) ?_)) | omega | (simp; done) | (simp; omega))⟩
set_option maxRecDepth 100000 in
set_option maxHeartbeats 3200000 in
theorem heldRowS_nil (w : World) : Calls Try.prog 144 #[.slice none 0 0, .int .i64 1] w fun e w' => e = .returned (.int .i64 1) ∧ Below w.heap.size w w' := by
  go_enter Try.func144, Try.ntmps144
  go_wp2_with fail
  refine wp_loop_rounds 1 ?_
  rw [rounds_succ]
  go_wp2
  go_ret
  exact ⟨rfl, by repeat' (first | with_reducible assumption | with_reducible exact Below.refl _ _ | (with_reducible refine Below.setCell ?_ ?_ _) | (with_reducible refine Below.alloc ?_ ?_ _) | (with_reducible refine Below.drew ?_) | (with_reducible refine below_dr ?_ _) | (with_reducible refine Below.trans ?_ (Below.mono (by with_reducible assumption) ?_)) | omega | (simp; done) | (simp; omega))⟩
set_option maxRecDepth 100000 in
set_option maxHeartbeats 3200000 in
theorem eqNamedPenS_nil (w : World) : Calls Try.prog 75 #[.slice none 0 0, .slice none 0 0] w fun e w' => e = .returned (.bool true) ∧ Below w.heap.size w w' := by
  go_enter Try.func75, Try.ntmps75
  go_wp2_with fail
  refine wp_loop_rounds 1 ?_
  rw [rounds_succ]
  go_wp2
  go_ret
  exact ⟨rfl, by repeat' (first | with_reducible assumption | with_reducible exact Below.refl _ _ | (with_reducible refine Below.setCell ?_ ?_ _) | (with_reducible refine Below.alloc ?_ ?_ _) | (with_reducible refine Below.drew ?_) | (with_reducible refine below_dr ?_ _) | (with_reducible refine Below.trans ?_ (Below.mono (by with_reducible assumption) ?_)) | omega | (simp; done) | (simp; omega))⟩
set_option maxRecDepth 100000 in
set_option maxHeartbeats 3200000 in
theorem markNamedPenS_nil (w : World) : Calls Try.prog 79 #[.slice none 0 0, .int .i64 1] w fun e w' => e = .returned (.int .i64 1) ∧ Below w.heap.size w w' := by
  go_enter Try.func79, Try.ntmps79
  go_wp2_with fail
  refine wp_loop_rounds 1 ?_
  rw [rounds_succ]
  go_wp2
  go_ret
  exact ⟨rfl, by repeat' (first | with_reducible assumption | with_reducible exact Below.refl _ _ | (with_reducible refine Below.setCell ?_ ?_ _) | (with_reducible refine Below.alloc ?_ ?_ _) | (with_reducible refine Below.drew ?_) | (with_reducible refine below_dr ?_ _) | (with_reducible refine Below.trans ?_ (Below.mono (by with_reducible assumption) ?_)) | omega | (simp; done) | (simp; omega))⟩
set_option maxRecDepth 100000 in
set_option maxHeartbeats 3200000 in
theorem heldNamedPenS_nil (w : World) : Calls Try.prog 84 #[.slice none 0 0, .int .i64 1] w fun e w' => e = .returned (.int .i64 1) ∧ Below w.heap.size w w' := by
  go_enter Try.func84, Try.ntmps84
  go_wp2_with fail
  refine wp_loop_rounds 1 ?_
  rw [rounds_succ]
  go_wp2
  go_ret
  exact ⟨rfl, by repeat' (first | with_reducible assumption | with_reducible exact Below.refl _ _ | (with_reducible refine Below.setCell ?_ ?_ _) | (with_reducible refine Below.alloc ?_ ?_ _) | (with_reducible refine Below.drew ?_) | (with_reducible refine below_dr ?_ _) | (with_reducible refine Below.trans ?_ (Below.mono (by with_reducible assumption) ?_)) | omega | (simp; done) | (simp; omega))⟩
set_option maxRecDepth 100000 in
set_option maxHeartbeats 3200000 in
theorem eqNamedPathS_nil (w : World) : Calls Try.prog 76 #[.slice none 0 0, .slice none 0 0] w fun e w' => e = .returned (.bool true) ∧ Below w.heap.size w w' := by
  go_enter Try.func76, Try.ntmps76
  go_wp2_with fail
  refine wp_loop_rounds 1 ?_
  rw [rounds_succ]
  go_wp2
  go_ret
  exact ⟨rfl, by repeat' (first | with_reducible assumption | with_reducible exact Below.refl _ _ | (with_reducible refine Below.setCell ?_ ?_ _) | (with_reducible refine Below.alloc ?_ ?_ _) | (with_reducible refine Below.drew ?_) | (with_reducible refine below_dr ?_ _) | (with_reducible refine Below.trans ?_ (Below.mono (by with_reducible assumption) ?_)) | omega | (simp; done) | (simp; omega))⟩
set_option maxRecDepth 100000 in
set_option maxHeartbeats 3200000 in
theorem markNamedPathS_nil (w : World) : Calls Try.prog 80 #[.slice none 0 0, .int .i64 1] w fun e w' => e = .returned (.int .i64 1) ∧ Below w.heap.size w w' := by
  go_enter Try.func80, Try.ntmps80
  go_wp2_with fail
  refine wp_loop_rounds 1 ?_
  rw [rounds_succ]
  go_wp2
  go_ret
  exact ⟨rfl, by repeat' (first | with_reducible assumption | with_reducible exact Below.refl _ _ | (with_reducible refine Below.setCell ?_ ?_ _) | (with_reducible refine Below.alloc ?_ ?_ _) | (with_reducible refine Below.drew ?_) | (with_reducible refine below_dr ?_ _) | (with_reducible refine Below.trans ?_ (Below.mono (by with_reducible assumption) ?_)) | omega | (simp; done) | (simp; omega))⟩
set_option maxRecDepth 100000 in
set_option maxHeartbeats 3200000 in
theorem heldNamedPathS_nil (w : World) : Calls Try.prog 85 #[.slice none 0 0, .int .i64 1] w fun e w' => e = .returned (.int .i64 1) ∧ Below w.heap.size w w' := by
  go_enter Try.func85, Try.ntmps85
  go_wp2_with fail
  refine wp_loop_rounds 1 ?_
  rw [rounds_succ]
  go_wp2
  go_ret
  exact ⟨rfl, by repeat' (first | with_reducible assumption | with_reducible exact Below.refl _ _ | (with_reducible refine Below.setCell ?_ ?_ _) | (with_reducible refine Below.alloc ?_ ?_ _) | (with_reducible refine Below.drew ?_) | (with_reducible refine below_dr ?_ _) | (with_reducible refine Below.trans ?_ (Below.mono (by with_reducible assumption) ?_)) | omega | (simp; done) | (simp; omega))⟩
set_option maxRecDepth 100000 in
set_option maxHeartbeats 3200000 in
theorem eqGlyphS_nil (w : World) : Calls Try.prog 70 #[.slice none 0 0, .slice none 0 0] w fun e w' => e = .returned (.bool true) ∧ Below w.heap.size w w' := by
  go_enter Try.func70, Try.ntmps70
  go_wp2_with fail
  refine wp_loop_rounds 1 ?_
  rw [rounds_succ]
  go_wp2
  go_ret
  exact ⟨rfl, by repeat' (first | with_reducible assumption | with_reducible exact Below.refl _ _ | (with_reducible refine Below.setCell ?_ ?_ _) | (with_reducible refine Below.alloc ?_ ?_ _) | (with_reducible refine Below.drew ?_) | (with_reducible refine below_dr ?_ _) | (with_reducible refine Below.trans ?_ (Below.mono (by with_reducible assumption) ?_)) | omega | (simp; done) | (simp; omega))⟩
set_option maxRecDepth 100000 in
set_option maxHeartbeats 3200000 in
theorem markGlyphS_nil (w : World) : Calls Try.prog 105 #[.slice none 0 0, .int .i64 1] w fun e w' => e = .returned (.int .i64 1) ∧ Below w.heap.size w w' := by
  go_enter Try.func105, Try.ntmps105
  go_wp2_with fail
  refine wp_loop_rounds 1 ?_
  rw [rounds_succ]
  go_wp2
  go_ret
  exact ⟨rfl, by repeat' (first | with_reducible assumption | with_reducible exact Below.refl _ _ | (with_reducible refine Below.setCell ?_ ?_ _) | (with_reducible refine Below.alloc ?_ ?_ _) | (with_reducible refine Below.drew ?_) | (with_reducible refine below_dr ?_ _) | (with_reducible refine Below.trans ?_ (Below.mono (by with_reducible assumption) ?_)) | omega | (simp; done) | (simp; omega))⟩
set_option maxRecDepth 100000 in
set_option maxHeartbeats 3200000 in
theorem heldGlyphS_nil (w : World) : Calls Try.prog 146 #[.slice none 0 0, .int .i64 1] w fun e w' => e = .returned (.int .i64 1) ∧ Below w.heap.size w w' := by
  go_enter Try.func146, Try.ntmps146
  go_wp2_with fail
  refine wp_loop_rounds 1 ?_
  rw [rounds_succ]
  go_wp2
  go_ret
  exact ⟨rfl, by repeat' (first | with_reducible assumption | with_reducible exact Below.refl _ _ | (with_reducible refine Below.setCell ?_ ?_ _) | (with_reducible refine Below.alloc ?_ ?_ _) | (with_reducible refine Below.drew ?_) | (with_reducible refine below_dr ?_ _) | (with_reducible refine Below.trans ?_ (Below.mono (by with_reducible assumption) ?_)) | omega | (simp; done) | (simp; omega))⟩
set_option maxRecDepth 100000 in
set_option maxHeartbeats 3200000 in
theorem eqLoopS_nil (w : World) : Calls Try.prog 127 #[.slice none 0 0, .slice none 0 0] w fun e w' => e = .returned (.bool true) ∧ Below w.heap.size w w' := by
  go_enter Try.func127, Try.ntmps127
  go_wp2_with fail
  refine wp_loop_rounds 1 ?_
  rw [rounds_succ]
  go_wp2
  go_ret
  exact ⟨rfl, by repeat' (first | with_reducible assumption | with_reducible exact Below.refl _ _ | (with_reducible refine Below.setCell ?_ ?_ _) | (with_reducible refine Below.alloc ?_ ?_ _) | (with_reducible refine Below.drew ?_) | (with_reducible refine below_dr ?_ _) | (with_reducible refine Below.trans ?_ (Below.mono (by with_reducible assumption) ?_)) | omega | (simp; done) | (simp; omega))⟩
set_option maxRecDepth 100000 in
set_option maxHeartbeats 3200000 in
theorem markLoopS_nil (w : World) : Calls Try.prog 158 #[.slice none 0 0, .int .i64 1] w fun e w' => e = .returned (.int .i64 1) ∧ Below w.heap.size w w' := by
  go_enter Try.func158, Try.ntmps158
  go_wp2_with fail
  refine wp_loop_rounds 1 ?_
  rw [rounds_succ]
  go_wp2
  go_ret
  exact ⟨rfl, by repeat' (first | with_reducible assumption | with_reducible exact Below.refl _ _ | (with_reducible refine Below.setCell ?_ ?_ _) | (with_reducible refine Below.alloc ?_ ?_ _) | (with_reducible refine Below.drew ?_) | (with_reducible refine below_dr ?_ _) | (with_reducible refine Below.trans ?_ (Below.mono (by with_reducible assumption) ?_)) | omega | (simp; done) | (simp; omega))⟩
set_option maxRecDepth 100000 in
set_option maxHeartbeats 3200000 in
theorem heldLoopS_nil (w : World) : Calls Try.prog 180 #[.slice none 0 0, .int .i64 1] w fun e w' => e = .returned (.int .i64 1) ∧ Below w.heap.size w w' := by
  go_enter Try.func180, Try.ntmps180
  go_wp2_with fail
  refine wp_loop_rounds 1 ?_
  rw [rounds_succ]
  go_wp2
  go_ret
  exact ⟨rfl, by repeat' (first | with_reducible assumption | with_reducible exact Below.refl _ _ | (with_reducible refine Below.setCell ?_ ?_ _) | (with_reducible refine Below.alloc ?_ ?_ _) | (with_reducible refine Below.drew ?_) | (with_reducible refine below_dr ?_ _) | (with_reducible refine Below.trans ?_ (Below.mono (by with_reducible assumption) ?_)) | omega | (simp; done) | (simp; omega))⟩
set_option maxRecDepth 100000 in
set_option maxHeartbeats 3200000 in
theorem eqPartS_nil (w : World) : Calls Try.prog 61 #[.slice none 0 0, .slice none 0 0] w fun e w' => e = .returned (.bool true) ∧ Below w.heap.size w w' := by
  go_enter Try.func61, Try.ntmps61
  go_wp2_with fail
  refine wp_loop_rounds 1 ?_
  rw [rounds_succ]
  go_wp2
  go_ret
  exact ⟨rfl, by repeat' (first | with_reducible assumption | with_reducible exact Below.refl _ _ | (with_reducible refine Below.setCell ?_ ?_ _) | (with_reducible refine Below.alloc ?_ ?_ _) | (with_reducible refine Below.drew ?_) | (with_reducible refine below_dr ?_ _) | (with_reducible refine Below.trans ?_ (Below.mono (by with_reducible assumption) ?_)) | omega | (simp; done) | (simp; omega))⟩
set_option maxRecDepth 100000 in
set_option maxHeartbeats 3200000 in
theorem markPartS_nil (w : World) : Calls Try.prog 141 #[.slice none 0 0, .int .i64 1] w fun e w' => e = .returned (.int .i64 1) ∧ Below w.heap.size w w' := by
  go_enter Try.func141, Try.ntmps141
  go_wp2_with fail
  refine wp_loop_rounds 1 ?_
  rw [rounds_succ]
  go_wp2
  go_ret
  exact ⟨rfl, by repeat' (first | with_reducible assumption | with_reducible exact Below.refl _ _ | (with_reducible refine Below.setCell ?_ ?_ _) | (with_reducible refine Below.alloc ?_ ?_ _) | (with_reducible refine Below.drew ?_) | (with_reducible refine below_dr ?_ _) | (with_reducible refine Below.trans ?_ (Below.mono (by with_reducible assumption) ?_)) | omega | (simp; done) | (simp; omega))⟩
set_option maxRecDepth 100000 in
set_option maxHeartbeats 3200000 in
theorem heldPartS_nil (w : World) : Calls Try.prog 148 #[.slice none 0 0, .int .i64 1] w fun e w' => e = .returned (.int .i64 1) ∧ Below w.heap.size w w' := by
  go_enter Try.func148, Try.ntmps148
  go_wp2_with fail
  refine wp_loop_rounds 1 ?_
  rw [rounds_succ]
  go_wp2
  go_ret
  exact ⟨rfl, by repeat' (first | with_reducible assumption | with_reducible exact Below.refl _ _ | (with_reducible refine Below.setCell ?_ ?_ _) | (with_reducible refine Below.alloc ?_ ?_ _) | (with_reducible refine Below.drew ?_) | (with_reducible refine below_dr ?_ _) | (with_reducible refine Below.trans ?_ (Below.mono (by with_reducible assumption) ?_)) | omega | (simp; done) | (simp; omega))⟩
set_option maxRecDepth 100000 in
set_option maxHeartbeats 3200000 in
theorem eqAnchorS_nil (w : World) : Calls Try.prog 62 #[.slice none 0 0, .slice none 0 0] w fun e w' => e = .returned (.bool true) ∧ Below w.heap.size w w' := by
  go_enter Try.func62, Try.ntmps62
  go_wp2_with fail
  refine wp_loop_rounds 1 ?_
  rw [rounds_succ]
  go_wp2
  go_ret
  exact ⟨rfl, by repeat' (first | with_reducible assumption | with_reducible exact Below.refl _ _ | (with_reducible refine Below.setCell ?_ ?_ _) | (with_reducible refine Below.alloc ?_ ?_ _) | (with_reducible refine Below.drew ?_) | (with_reducible refine below_dr ?_ _) | (with_reducible refine Below.trans ?_ (Below.mono (by with_reducible assumption) ?_)) | omega | (simp; done) | (simp; omega))⟩
set_option maxRecDepth 100000 in
set_option maxHeartbeats 3200000 in
theorem markAnchorS_nil (w : World) : Calls Try.prog 142 #[.slice none 0 0, .int .i64 1] w fun e w' => e = .returned (.int .i64 1) ∧ Below w.heap.size w w' := by
  go_enter Try.func142, Try.ntmps142
  go_wp2_with fail
  refine wp_loop_rounds 1 ?_
  rw [rounds_succ]
  go_wp2
  go_ret
  exact ⟨rfl, by repeat' (first | with_reducible assumption | with_reducible exact Below.refl _ _ | (with_reducible refine Below.setCell ?_ ?_ _) | (with_reducible refine Below.alloc ?_ ?_ _) | (with_reducible refine Below.drew ?_) | (with_reducible refine below_dr ?_ _) | (with_reducible refine Below.trans ?_ (Below.mono (by with_reducible assumption) ?_)) | omega | (simp; done) | (simp; omega))⟩
set_option maxRecDepth 100000 in
set_option maxHeartbeats 3200000 in
theorem heldAnchorS_nil (w : World) : Calls Try.prog 149 #[.slice none 0 0, .int .i64 1] w fun e w' => e = .returned (.int .i64 1) ∧ Below w.heap.size w w' := by
  go_enter Try.func149, Try.ntmps149
  go_wp2_with fail
  refine wp_loop_rounds 1 ?_
  rw [rounds_succ]
  go_wp2
  go_ret
  exact ⟨rfl, by repeat' (first | with_reducible assumption | with_reducible exact Below.refl _ _ | (with_reducible refine Below.setCell ?_ ?_ _) | (with_reducible refine Below.alloc ?_ ?_ _) | (with_reducible refine Below.drew ?_) | (with_reducible refine below_dr ?_ _) | (with_reducible refine Below.trans ?_ (Below.mono (by with_reducible assumption) ?_)) | omega | (simp; done) | (simp; omega))⟩
set_option maxRecDepth 100000 in
set_option maxHeartbeats 3200000 in
theorem eqRingS_nil (w : World) : Calls Try.prog 136 #[.slice none 0 0, .slice none 0 0] w fun e w' => e = .returned (.bool true) ∧ Below w.heap.size w w' := by
  go_enter Try.func136, Try.ntmps136
  go_wp2_with fail
  refine wp_loop_rounds 1 ?_
  rw [rounds_succ]
  go_wp2
  go_ret
  exact ⟨rfl, by repeat' (first | with_reducible assumption | with_reducible exact Below.refl _ _ | (with_reducible refine Below.setCell ?_ ?_ _) | (with_reducible refine Below.alloc ?_ ?_ _) | (with_reducible refine Below.drew ?_) | (with_reducible refine below_dr ?_ _) | (with_reducible refine Below.trans ?_ (Below.mono (by with_reducible assumption) ?_)) | omega | (simp; done) | (simp; omega))⟩
set_option maxRecDepth 100000 in
set_option maxHeartbeats 3200000 in
theorem markRingS_nil (w : World) : Calls Try.prog 143 #[.slice none 0 0, .int .i64 1] w fun e w' => e = .returned (.int .i64 1) ∧ Below w.heap.size w w' := by
  go_enter Try.func143, Try.ntmps143
  go_wp2_with fail
  refine wp_loop_rounds 1 ?_
  rw [rounds_succ]
  go_wp2
  go_ret
  exact ⟨rfl, by repeat' (first | with_reducible assumption | with_reducible exact Below.refl _ _ | (with_reducible refine Below.setCell ?_ ?_ _) | (with_reducible refine Below.alloc ?_ ?_ _) | (with_reducible refine Below.drew ?_) | (with_reducible refine below_dr ?_ _) | (with_reducible refine Below.trans ?_ (Below.mono (by with_reducible assumption) ?_)) | omega | (simp; done) | (simp; omega))⟩
set_option maxRecDepth 100000 in
set_option maxHeartbeats 3200000 in
theorem heldRingS_nil (w : World) : Calls Try.prog 150 #[.slice none 0 0, .int .i64 1] w fun e w' => e = .returned (.int .i64 1) ∧ Below w.heap.size w w' := by
  go_enter Try.func150, Try.ntmps150
  go_wp2_with fail
  refine wp_loop_rounds 1 ?_
  rw [rounds_succ]
  go_wp2
  go_ret
  exact ⟨rfl, by repeat' (first | with_reducible assumption | with_reducible exact Below.refl _ _ | (with_reducible refine Below.setCell ?_ ?_ _) | (with_reducible refine Below.alloc ?_ ?_ _) | (with_reducible refine Below.drew ?_) | (with_reducible refine below_dr ?_ _) | (with_reducible refine Below.trans ?_ (Below.mono (by with_reducible assumption) ?_)) | omega | (simp; done) | (simp; omega))⟩
set_option maxRecDepth 100000 in
set_option maxHeartbeats 3200000 in
theorem eqSystem_ra (RA : Option Addr) (w : World) : Calls Try.prog 74 #[.agg #[.slice none 0 0], .agg #[.slice RA 0 0]] w fun e w' => e = .returned (.bool true) ∧ Below w.heap.size w w' := by
  go_enter Try.func74, Try.ntmps74
  go_wp2_with fail
  refine (eqRowS_ra RA _).mono ?_
  rintro e w1 ⟨rfl, hbw1⟩
  obtain ⟨hcw1, hfw1⟩ := bcell hbw1
  have hzw1 := hbw1.size
  (try simp only [World.size_alloc] at hcw1 hfw1 hzw1)
  have yw1_0_0 : w1.cell? ⟨w.heap.size, 0, none⟩ = some (.slice none 0 0) := (hcw1 _ _ (by first | omega | (simp; done) | (simp; omega))).trans (by simp [go_sem])
  have yw1_1_0 : w1.cell? ⟨w.heap.size + 1, 0, none⟩ = some (.slice RA 0 0) := (hcw1 _ _ (by first | omega | (simp; done) | (simp; omega))).trans (by simp [go_sem])
  have qw1_0 : w.heap.size < w1.heap.size := by omega
  have qw1_1 : w.heap.size + 1 < w1.heap.size := by omega
  clear hcw1 hfw1
  go_wp2_with fail
  go_ret
  exact ⟨rfl, by repeat' (first | with_reducible assumption | with_reducible exact Below.refl _ _ | (with_reducible refine Below.setCell ?_ ?_ _) | (with_reducible refine Below.alloc ?_ ?_ _) | (with_reducible refine Below.drew ?_) | (with_reducible refine below_dr ?_ _) | (with_reducible refine Below.trans ?_ (Below.mono (by with_reducible assumption) ?_)) | omega | (simp; done) | (simp; omega))⟩
set_option maxRecDepth 100000 in
set_option maxHeartbeats 3200000 in
theorem eqSystem_nil (w : World) : Calls Try.prog 74 #[.agg #[.slice none 0 0], .agg #[.slice none 0 0]] w fun e w' => e = .returned (.bool true) ∧ Below w.heap.size w w' := by
  go_enter Try.func74, Try.ntmps74
  go_wp2_with fail
  refine (eqRowS_nil _).mono ?_
  rintro e w1 ⟨rfl, hbw1⟩
  obtain ⟨hcw1, hfw1⟩ := bcell hbw1
  have hzw1 := hbw1.size
  (try simp only [World.size_alloc] at hcw1 hfw1 hzw1)
  have yw1_0_0 : w1.cell? ⟨w.heap.size, 0, none⟩ = some (.slice none 0 0) := (hcw1 _ _ (by first | omega | (simp; done) | (simp; omega))).trans (by simp [go_sem])
  have yw1_1_0 : w1.cell? ⟨w.heap.size + 1, 0, none⟩ = some (.slice none 0 0) := (hcw1 _ _ (by first | omega | (simp; done) | (simp; omega))).trans (by simp [go_sem])
  have qw1_0 : w.heap.size < w1.heap.size := by omega
  have qw1_1 : w.heap.size + 1 < w1.heap.size := by omega
  clear hcw1 hfw1
  go_wp2_with fail
  go_ret
  exact ⟨rfl, by repeat' (first | with_reducible assumption | with_reducible exact Below.refl _ _ | (with_reducible refine Below.setCell ?_ ?_ _) | (with_reducible refine Below.alloc ?_ ?_ _) | (with_reducible refine Below.drew ?_) | (with_reducible refine below_dr ?_ _) | (with_reducible refine Below.trans ?_ (Below.mono (by with_reducible assumption) ?_)) | omega | (simp; done) | (simp; omega))⟩
set_option maxRecDepth 100000 in
set_option maxHeartbeats 3200000 in
theorem markSystem_nil (w : World) : Calls Try.prog 78 #[.agg #[.slice none 0 0], .int .i64 1] w fun e w' => e = .returned (.int .i64 1) ∧ Below w.heap.size w w' := by
  go_enter Try.func78, Try.ntmps78
  go_wp2_with fail
  refine (markRowS_nil _).mono ?_
  rintro e w1 ⟨rfl, hbw1⟩
  obtain ⟨hcw1, hfw1⟩ := bcell hbw1
  have hzw1 := hbw1.size
  (try simp only [World.size_alloc] at hcw1 hfw1 hzw1)
  have yw1_0_0 : w1.cell? ⟨w.heap.size, 0, none⟩ = some (.slice none 0 0) := (hcw1 _ _ (by first | omega | (simp; done) | (simp; omega))).trans (by simp [go_sem])
  have qw1_0 : w.heap.size < w1.heap.size := by omega
  clear hcw1 hfw1
  go_wp2_with fail
  go_ret
  exact ⟨rfl, by repeat' (first | with_reducible assumption | with_reducible exact Below.refl _ _ | (with_reducible refine Below.setCell ?_ ?_ _) | (with_reducible refine Below.alloc ?_ ?_ _) | (with_reducible refine Below.drew ?_) | (with_reducible refine below_dr ?_ _) | (with_reducible refine Below.trans ?_ (Below.mono (by with_reducible assumption) ?_)) | omega | (simp; done) | (simp; omega))⟩
set_option maxRecDepth 100000 in
set_option maxHeartbeats 3200000 in
theorem heldSystem_nil (w : World) : Calls Try.prog 83 #[.agg #[.slice none 0 0], .int .i64 1] w fun e w' => e = .returned (.int .i64 1) ∧ Below w.heap.size w w' := by
  go_enter Try.func83, Try.ntmps83
  go_wp2_with fail
  refine (heldRowS_nil _).mono ?_
  rintro e w1 ⟨rfl, hbw1⟩
  obtain ⟨hcw1, hfw1⟩ := bcell hbw1
  have hzw1 := hbw1.size
  (try simp only [World.size_alloc] at hcw1 hfw1 hzw1)
  have yw1_0_0 : w1.cell? ⟨w.heap.size, 0, none⟩ = some (.slice none 0 0) := (hcw1 _ _ (by first | omega | (simp; done) | (simp; omega))).trans (by simp [go_sem])
  have qw1_0 : w.heap.size < w1.heap.size := by omega
  clear hcw1 hfw1
  go_wp2_with fail
  go_ret
  exact ⟨rfl, by repeat' (first | with_reducible assumption | with_reducible exact Below.refl _ _ | (with_reducible refine Below.setCell ?_ ?_ _) | (with_reducible refine Below.alloc ?_ ?_ _) | (with_reducible refine Below.drew ?_) | (with_reducible refine below_dr ?_ _) | (with_reducible refine Below.trans ?_ (Below.mono (by with_reducible assumption) ?_)) | omega | (simp; done) | (simp; omega))⟩
set_option maxRecDepth 100000 in
set_option maxHeartbeats 3200000 in
theorem eqRegion_nil (w : World) : Calls Try.prog 77 #[.agg #[.slice none 0 0], .agg #[.slice none 0 0]] w fun e w' => e = .returned (.bool true) ∧ Below w.heap.size w w' := by
  go_enter Try.func77, Try.ntmps77
  go_wp2_with fail
  refine (eqRingS_nil _).mono ?_
  rintro e w1 ⟨rfl, hbw1⟩
  obtain ⟨hcw1, hfw1⟩ := bcell hbw1
  have hzw1 := hbw1.size
  (try simp only [World.size_alloc] at hcw1 hfw1 hzw1)
  have yw1_0_0 : w1.cell? ⟨w.heap.size, 0, none⟩ = some (.slice none 0 0) := (hcw1 _ _ (by first | omega | (simp; done) | (simp; omega))).trans (by simp [go_sem])
  have yw1_1_0 : w1.cell? ⟨w.heap.size + 1, 0, none⟩ = some (.slice none 0 0) := (hcw1 _ _ (by first | omega | (simp; done) | (simp; omega))).trans (by simp [go_sem])
  have qw1_0 : w.heap.size < w1.heap.size := by omega
  have qw1_1 : w.heap.size + 1 < w1.heap.size := by omega
  clear hcw1 hfw1
  go_wp2_with fail
  go_ret
  exact ⟨rfl, by repeat' (first | with_reducible assumption | with_reducible exact Below.refl _ _ | (with_reducible refine Below.setCell ?_ ?_ _) | (with_reducible refine Below.alloc ?_ ?_ _) | (with_reducible refine Below.drew ?_) | (with_reducible refine below_dr ?_ _) | (with_reducible refine Below.trans ?_ (Below.mono (by with_reducible assumption) ?_)) | omega | (simp; done) | (simp; omega))⟩
set_option maxRecDepth 100000 in
set_option maxHeartbeats 3200000 in
theorem markRegion_nil (w : World) : Calls Try.prog 82 #[.agg #[.slice none 0 0], .int .i64 1] w fun e w' => e = .returned (.int .i64 1) ∧ Below w.heap.size w w' := by
  go_enter Try.func82, Try.ntmps82
  go_wp2_with fail
  refine (markRingS_nil _).mono ?_
  rintro e w1 ⟨rfl, hbw1⟩
  obtain ⟨hcw1, hfw1⟩ := bcell hbw1
  have hzw1 := hbw1.size
  (try simp only [World.size_alloc] at hcw1 hfw1 hzw1)
  have yw1_0_0 : w1.cell? ⟨w.heap.size, 0, none⟩ = some (.slice none 0 0) := (hcw1 _ _ (by first | omega | (simp; done) | (simp; omega))).trans (by simp [go_sem])
  have qw1_0 : w.heap.size < w1.heap.size := by omega
  clear hcw1 hfw1
  go_wp2_with fail
  go_ret
  exact ⟨rfl, by repeat' (first | with_reducible assumption | with_reducible exact Below.refl _ _ | (with_reducible refine Below.setCell ?_ ?_ _) | (with_reducible refine Below.alloc ?_ ?_ _) | (with_reducible refine Below.drew ?_) | (with_reducible refine below_dr ?_ _) | (with_reducible refine Below.trans ?_ (Below.mono (by with_reducible assumption) ?_)) | omega | (simp; done) | (simp; omega))⟩
set_option maxRecDepth 100000 in
set_option maxHeartbeats 3200000 in
theorem heldRegion_nil (w : World) : Calls Try.prog 88 #[.agg #[.slice none 0 0], .int .i64 1] w fun e w' => e = .returned (.int .i64 1) ∧ Below w.heap.size w w' := by
  go_enter Try.func88, Try.ntmps88
  go_wp2_with fail
  refine (heldRingS_nil _).mono ?_
  rintro e w1 ⟨rfl, hbw1⟩
  obtain ⟨hcw1, hfw1⟩ := bcell hbw1
  have hzw1 := hbw1.size
  (try simp only [World.size_alloc] at hcw1 hfw1 hzw1)
  have yw1_0_0 : w1.cell? ⟨w.heap.size, 0, none⟩ = some (.slice none 0 0) := (hcw1 _ _ (by first | omega | (simp; done) | (simp; omega))).trans (by simp [go_sem])
  have qw1_0 : w.heap.size < w1.heap.size := by omega
  clear hcw1 hfw1
  go_wp2_with fail
  go_ret
  exact ⟨rfl, by repeat' (first | with_reducible assumption | with_reducible exact Below.refl _ _ | (with_reducible refine Below.setCell ?_ ?_ _) | (with_reducible refine Below.alloc ?_ ?_ _) | (with_reducible refine Below.drew ?_) | (with_reducible refine below_dr ?_ _) | (with_reducible refine Below.trans ?_ (Below.mono (by with_reducible assumption) ?_)) | omega | (simp; done) | (simp; omega))⟩
set_option maxRecDepth 100000 in
set_option maxHeartbeats 3200000 in
theorem eqOutline_nil (w : World) : Calls Try.prog 60 #[.agg #[.slice none 0 0], .agg #[.slice none 0 0]] w fun e w' => e = .returned (.bool true) ∧ Below w.heap.size w w' := by
  go_enter Try.func60, Try.ntmps60
  go_wp2_with fail
  refine (eqLoopS_nil _).mono ?_
  rintro e w1 ⟨rfl, hbw1⟩
  obtain ⟨hcw1, hfw1⟩ := bcell hbw1
  have hzw1 := hbw1.size
  (try simp only [World.size_alloc] at hcw1 hfw1 hzw1)
  have yw1_0_0 : w1.cell? ⟨w.heap.size, 0, none⟩ = some (.slice none 0 0) := (hcw1 _ _ (by first | omega | (simp; done) | (simp; omega))).trans (by simp [go_sem])
  have yw1_1_0 : w1.cell? ⟨w.heap.size + 1, 0, none⟩ = some (.slice none 0 0) := (hcw1 _ _ (by first | omega | (simp; done) | (simp; omega))).trans (by simp [go_sem])
  have qw1_0 : w.heap.size < w1.heap.size := by omega
  have qw1_1 : w.heap.size + 1 < w1.heap.size := by omega
  clear hcw1 hfw1
  go_wp2_with fail
  go_ret
  exact ⟨rfl, by repeat' (first | with_reducible assumption | with_reducible exact Below.refl _ _ | (with_reducible refine Below.setCell ?_ ?_ _) | (with_reducible refine Below.alloc ?_ ?_ _) | (with_reducible refine Below.drew ?_) | (with_reducible refine below_dr ?_ _) | (with_reducible refine Below.trans ?_ (Below.mono (by with_reducible assumption) ?_)) | omega | (simp; done) | (simp; omega))⟩
set_option maxRecDepth 100000 in
set_option maxHeartbeats 3200000 in
theorem markOutline_nil (w : World) : Calls Try.prog 140 #[.agg #[.slice none 0 0], .int .i64 1] w fun e w' => e = .returned (.int .i64 1) ∧ Below w.heap.size w w' := by
  go_enter Try.func140, Try.ntmps140
  go_wp2_with fail
  refine (markLoopS_nil _).mono ?_
  rintro e w1 ⟨rfl, hbw1⟩
  obtain ⟨hcw1, hfw1⟩ := bcell hbw1
  have hzw1 := hbw1.size
  (try simp only [World.size_alloc] at hcw1 hfw1 hzw1)
  have yw1_0_0 : w1.cell? ⟨w.heap.size, 0, none⟩ = some (.slice none 0 0) := (hcw1 _ _ (by first | omega | (simp; done) | (simp; omega))).trans (by simp [go_sem])
  have qw1_0 : w.heap.size < w1.heap.size := by omega
  clear hcw1 hfw1
  go_wp2_with fail
  go_ret
  exact ⟨rfl, by repeat' (first | with_reducible assumption | with_reducible exact Below.refl _ _ | (with_reducible refine Below.setCell ?_ ?_ _) | (with_reducible refine Below.alloc ?_ ?_ _) | (with_reducible refine Below.drew ?_) | (with_reducible refine below_dr ?_ _) | (with_reducible refine Below.trans ?_ (Below.mono (by with_reducible assumption) ?_)) | omega | (simp; done) | (simp; omega))⟩
set_option maxRecDepth 100000 in
set_option maxHeartbeats 3200000 in
theorem heldOutline_nil (w : World) : Calls Try.prog 147 #[.agg #[.slice none 0 0], .int .i64 1] w fun e w' => e = .returned (.int .i64 1) ∧ Below w.heap.size w w' := by
  go_enter Try.func147, Try.ntmps147
  go_wp2_with fail
  refine (heldLoopS_nil _).mono ?_
  rintro e w1 ⟨rfl, hbw1⟩
  obtain ⟨hcw1, hfw1⟩ := bcell hbw1
  have hzw1 := hbw1.size
  (try simp only [World.size_alloc] at hcw1 hfw1 hzw1)
  have yw1_0_0 : w1.cell? ⟨w.heap.size, 0, none⟩ = some (.slice none 0 0) := (hcw1 _ _ (by first | omega | (simp; done) | (simp; omega))).trans (by simp [go_sem])
  have qw1_0 : w.heap.size < w1.heap.size := by omega
  clear hcw1 hfw1
  go_wp2_with fail
  go_ret
  exact ⟨rfl, by repeat' (first | with_reducible assumption | with_reducible exact Below.refl _ _ | (with_reducible refine Below.setCell ?_ ?_ _) | (with_reducible refine Below.alloc ?_ ?_ _) | (with_reducible refine Below.drew ?_) | (with_reducible refine below_dr ?_ _) | (with_reducible refine Below.trans ?_ (Below.mono (by with_reducible assumption) ?_)) | omega | (simp; done) | (simp; omega))⟩
set_option maxRecDepth 100000 in
set_option maxHeartbeats 3200000 in
theorem eqGlyphSet_nil (u : Int) (w : World) : Calls Try.prog 24 #[.agg #[.int .i64 u, .slice none 0 0], .agg #[.int .i64 u, .slice none 0 0]] w fun e w' => e = .returned (.bool true) ∧ Below w.heap.size w w' := by
  have hu : (u != u) = false := by simp
  go_enter Try.func24, Try.ntmps24
  go_wp2_with fail
  refine (eqGlyphS_nil _).mono ?_
  rintro e w1 ⟨rfl, hbw1⟩
  obtain ⟨hcw1, hfw1⟩ := bcell hbw1
  have hzw1 := hbw1.size
  (try simp only [World.size_alloc] at hcw1 hfw1 hzw1)
  have yw1_0_0 : w1.cell? ⟨w.heap.size, 0, none⟩ = some (.int .i64 u) := (hcw1 _ _ (by first | omega | (simp; done) | (simp; omega))).trans (by simp [go_sem])
  have yw1_0_1 : w1.cell? ⟨w.heap.size, 1, none⟩ = some (.slice none 0 0) := (hcw1 _ _ (by first | omega | (simp; done) | (simp; omega))).trans (by simp [go_sem])
  have yw1_1_0 : w1.cell? ⟨w.heap.size + 1, 0, none⟩ = some (.int .i64 u) := (hcw1 _ _ (by first | omega | (simp; done) | (simp; omega))).trans (by simp [go_sem])
  have yw1_1_1 : w1.cell? ⟨w.heap.size + 1, 1, none⟩ = some (.slice none 0 0) := (hcw1 _ _ (by first | omega | (simp; done) | (simp; omega))).trans (by simp [go_sem])
  have qw1_0 : w.heap.size < w1.heap.size := by omega
  have qw1_1 : w.heap.size + 1 < w1.heap.size := by omega
  clear hcw1 hfw1
  go_wp2_with fail
  go_ret
  exact ⟨rfl, by repeat' (first | with_reducible assumption | with_reducible exact Below.refl _ _ | (with_reducible refine Below.setCell ?_ ?_ _) | (with_reducible refine Below.alloc ?_ ?_ _) | (with_reducible refine Below.drew ?_) | (with_reducible refine below_dr ?_ _) | (with_reducible refine Below.trans ?_ (Below.mono (by with_reducible assumption) ?_)) | omega | (simp; done) | (simp; omega))⟩
set_option maxRecDepth 100000 in
set_option maxHeartbeats 3200000 in
theorem markGlyphSet_nil (u : Int) (w : World) : Calls Try.prog 39 #[.agg #[.int .i64 u, .slice none 0 0], .int .i64 1] w fun e w' => e = .returned (.int .i64 1) ∧ Below w.heap.size w w' := by
  go_enter Try.func39, Try.ntmps39
  go_wp2_with fail
  refine (markGlyphS_nil _).mono ?_
  rintro e w1 ⟨rfl, hbw1⟩
  obtain ⟨hcw1, hfw1⟩ := bcell hbw1
  have hzw1 := hbw1.size
  (try simp only [World.size_alloc] at hcw1 hfw1 hzw1)
  have yw1_0_0 : w1.cell? ⟨w.heap.size, 0, none⟩ = some (.int .i64 u) := (hcw1 _ _ (by first | omega | (simp; done) | (simp; omega))).trans (by simp [go_sem])
  have yw1_0_1 : w1.cell? ⟨w.heap.size, 1, none⟩ = some (.slice none 0 0) := (hcw1 _ _ (by first | omega | (simp; done) | (simp; omega))).trans (by simp [go_sem])
  have qw1_0 : w.heap.size < w1.heap.size := by omega
  clear hcw1 hfw1
  go_wp2_with fail
  go_ret
  exact ⟨rfl, by repeat' (first | with_reducible assumption | with_reducible exact Below.refl _ _ | (with_reducible refine Below.setCell ?_ ?_ _) | (with_reducible refine Below.alloc ?_ ?_ _) | (with_reducible refine Below.drew ?_) | (with_reducible refine below_dr ?_ _) | (with_reducible refine Below.trans ?_ (Below.mono (by with_reducible assumption) ?_)) | omega | (simp; done) | (simp; omega))⟩
set_option maxRecDepth 100000 in
set_option maxHeartbeats 3200000 in
theorem heldGlyphSet_nil (u : Int) (w : World) : Calls Try.prog 86 #[.agg #[.int .i64 u, .slice none 0 0], .int .i64 1] w fun e w' => e = .returned (.int .i64 1) ∧ Below w.heap.size w w' := by
  go_enter Try.func86, Try.ntmps86
  go_wp2_with fail
  refine (heldGlyphS_nil _).mono ?_
  rintro e w1 ⟨rfl, hbw1⟩
  obtain ⟨hcw1, hfw1⟩ := bcell hbw1
  have hzw1 := hbw1.size
  (try simp only [World.size_alloc] at hcw1 hfw1 hzw1)
  have yw1_0_0 : w1.cell? ⟨w.heap.size, 0, none⟩ = some (.int .i64 u) := (hcw1 _ _ (by first | omega | (simp; done) | (simp; omega))).trans (by simp [go_sem])
  have yw1_0_1 : w1.cell? ⟨w.heap.size, 1, none⟩ = some (.slice none 0 0) := (hcw1 _ _ (by first | omega | (simp; done) | (simp; omega))).trans (by simp [go_sem])
  have qw1_0 : w.heap.size < w1.heap.size := by omega
  clear hcw1 hfw1
  go_wp2_with fail
  go_ret
  exact ⟨rfl, by repeat' (first | with_reducible assumption | with_reducible exact Below.refl _ _ | (with_reducible refine Below.setCell ?_ ?_ _) | (with_reducible refine Below.alloc ?_ ?_ _) | (with_reducible refine Below.drew ?_) | (with_reducible refine below_dr ?_ _) | (with_reducible refine Below.trans ?_ (Below.mono (by with_reducible assumption) ?_)) | omega | (simp; done) | (simp; omega))⟩
set_option maxRecDepth 100000 in
set_option maxHeartbeats 3200000 in
theorem eqGlyph_nil (w : World) : Calls Try.prog 17 #[.agg #[.string E0, .int .i64 0, .int .i64 0, .slice none 0 0, .slice none 0 0, .slice none 0 0, .string E0], .agg #[.string E0, .int .i64 0, .int .i64 0, .slice none 0 0, .slice none 0 0, .slice none 0 0, .string E0]] w fun e w' => e = .returned (.bool true) ∧ Below w.heap.size w w' := by
  go_enter Try.func17, Try.ntmps17
  go_wp2_with fail
  refine (eqOutline_nil _).mono ?_
  rintro e w1 ⟨rfl, hbw1⟩
  obtain ⟨hcw1, hfw1⟩ := bcell hbw1
  have hzw1 := hbw1.size
  (try simp only [World.size_alloc] at hcw1 hfw1 hzw1)
  have yw1_0_0 : w1.cell? ⟨w.heap.size, 0, none⟩ = some (.string E0) := (hcw1 _ _ (by first | omega | (simp; done) | (simp; omega))).trans (by simp [go_sem])
  have yw1_0_1 : w1.cell? ⟨w.heap.size, 1, none⟩ = some (.int .i64 0) := (hcw1 _ _ (by first | omega | (simp; done) | (simp; omega))).trans (by simp [go_sem])
  have yw1_0_2 : w1.cell? ⟨w.heap.size, 2, none⟩ = some (.int .i64 0) := (hcw1 _ _ (by first | omega | (simp; done) | (simp; omega))).trans (by simp [go_sem])
  have yw1_0_3 : w1.cell? ⟨w.heap.size, 3, none⟩ = some (.slice none 0 0) := (hcw1 _ _ (by first | omega | (simp; done) | (simp; omega))).trans (by simp [go_sem])
  have yw1_0_4 : w1.cell? ⟨w.heap.size, 4, none⟩ = some (.slice none 0 0) := (hcw1 _ _ (by first | omega | (simp; done) | (simp; omega))).trans (by simp [go_sem])
  have yw1_0_5 : w1.cell? ⟨w.heap.size, 5, none⟩ = some (.slice none 0 0) := (hcw1 _ _ (by first | omega | (simp; done) | (simp; omega))).trans (by simp [go_sem])
  have yw1_0_6 : w1.cell? ⟨w.heap.size, 6, none⟩ = some (.string E0) := (hcw1 _ _ (by first | omega | (simp; done) | (simp; omega))).trans (by simp [go_sem])
  have yw1_1_0 : w1.cell? ⟨w.heap.size + 1, 0, none⟩ = some (.string E0) := (hcw1 _ _ (by first | omega | (simp; done) | (simp; omega))).trans (by simp [go_sem])
  have yw1_1_1 : w1.cell? ⟨w.heap.size + 1, 1, none⟩ = some (.int .i64 0) := (hcw1 _ _ (by first | omega | (simp; done) | (simp; omega))).trans (by simp [go_sem])
  have yw1_1_2 : w1.cell? ⟨w.heap.size + 1, 2, none⟩ = some (.int .i64 0) := (hcw1 _ _ (by first | omega | (simp; done) | (simp; omega))).trans (by simp [go_sem])
  have yw1_1_3 : w1.cell? ⟨w.heap.size + 1, 3, none⟩ = some (.slice none 0 0) := (hcw1 _ _ (by first | omega | (simp; done) | (simp; omega))).trans (by simp [go_sem])
  have yw1_1_4 : w1.cell? ⟨w.heap.size + 1, 4, none⟩ = some (.slice none 0 0) := (hcw1 _ _ (by first | omega | (simp; done) | (simp; omega))).trans (by simp [go_sem])
  have yw1_1_5 : w1.cell? ⟨w.heap.size + 1, 5, none⟩ = some (.slice none 0 0) := (hcw1 _ _ (by first | omega | (simp; done) | (simp; omega))).trans (by simp [go_sem])
  have yw1_1_6 : w1.cell? ⟨w.heap.size + 1, 6, none⟩ = some (.string E0) := (hcw1 _ _ (by first | omega | (simp; done) | (simp; omega))).trans (by simp [go_sem])
  have qw1_0 : w.heap.size < w1.heap.size := by omega
  have qw1_1 : w.heap.size + 1 < w1.heap.size := by omega
  clear hcw1 hfw1
  go_wp2_with fail
  refine (eqPartS_nil _).mono ?_
  rintro e w2 ⟨rfl, hbw2⟩
  obtain ⟨hcw2, hfw2⟩ := bcell hbw2
  have hzw2 := hbw2.size
  (try simp only [World.size_alloc] at hcw2 hfw2 hzw2)
  have yw2_0_0 : w2.cell? ⟨w.heap.size, 0, none⟩ = some (.string E0) := (hcw2 _ _ (by omega)).trans yw1_0_0
  have yw2_0_1 : w2.cell? ⟨w.heap.size, 1, none⟩ = some (.int .i64 0) := (hcw2 _ _ (by omega)).trans yw1_0_1
  have yw2_0_2 : w2.cell? ⟨w.heap.size, 2, none⟩ = some (.int .i64 0) := (hcw2 _ _ (by omega)).trans yw1_0_2
  have yw2_0_3 : w2.cell? ⟨w.heap.size, 3, none⟩ = some (.slice none 0 0) := (hcw2 _ _ (by omega)).trans yw1_0_3
  have yw2_0_4 : w2.cell? ⟨w.heap.size, 4, none⟩ = some (.slice none 0 0) := (hcw2 _ _ (by omega)).trans yw1_0_4
  have yw2_0_5 : w2.cell? ⟨w.heap.size, 5, none⟩ = some (.slice none 0 0) := (hcw2 _ _ (by omega)).trans yw1_0_5
  have yw2_0_6 : w2.cell? ⟨w.heap.size, 6, none⟩ = some (.string E0) := (hcw2 _ _ (by omega)).trans yw1_0_6
  have yw2_1_0 : w2.cell? ⟨w.heap.size + 1, 0, none⟩ = some (.string E0) := (hcw2 _ _ (by omega)).trans yw1_1_0
  have yw2_1_1 : w2.cell? ⟨w.heap.size + 1, 1, none⟩ = some (.int .i64 0) := (hcw2 _ _ (by omega)).trans yw1_1_1
  have yw2_1_2 : w2.cell? ⟨w.heap.size + 1, 2, none⟩ = some (.int .i64 0) := (hcw2 _ _ (by omega)).trans yw1_1_2
  have yw2_1_3 : w2.cell? ⟨w.heap.size + 1, 3, none⟩ = some (.slice none 0 0) := (hcw2 _ _ (by omega)).trans yw1_1_3
  have yw2_1_4 : w2.cell? ⟨w.heap.size + 1, 4, none⟩ = some (.slice none 0 0) := (hcw2 _ _ (by omega)).trans yw1_1_4
  have yw2_1_5 : w2.cell? ⟨w.heap.size + 1, 5, none⟩ = some (.slice none 0 0) := (hcw2 _ _ (by omega)).trans yw1_1_5
  have yw2_1_6 : w2.cell? ⟨w.heap.size + 1, 6, none⟩ = some (.string E0) := (hcw2 _ _ (by omega)).trans yw1_1_6
  have qw2_0 : w.heap.size < w2.heap.size := by omega
  have qw2_1 : w.heap.size + 1 < w2.heap.size := by omega
  clear hcw2 hfw2 yw1_0_0 yw1_0_1 yw1_0_2 yw1_0_3 yw1_0_4 yw1_0_5 yw1_0_6 yw1_1_0 yw1_1_1 yw1_1_2 yw1_1_3 yw1_1_4 yw1_1_5 yw1_1_6
  go_wp2_with fail
  refine (eqAnchorS_nil _).mono ?_
  rintro e w3 ⟨rfl, hbw3⟩
  obtain ⟨hcw3, hfw3⟩ := bcell hbw3
  have hzw3 := hbw3.size
  (try simp only [World.size_alloc] at hcw3 hfw3 hzw3)
  have yw3_0_0 : w3.cell? ⟨w.heap.size, 0, none⟩ = some (.string E0) := (hcw3 _ _ (by omega)).trans yw2_0_0
  have yw3_0_1 : w3.cell? ⟨w.heap.size, 1, none⟩ = some (.int .i64 0) := (hcw3 _ _ (by omega)).trans yw2_0_1
  have yw3_0_2 : w3.cell? ⟨w.heap.size, 2, none⟩ = some (.int .i64 0) := (hcw3 _ _ (by omega)).trans yw2_0_2
  have yw3_0_3 : w3.cell? ⟨w.heap.size, 3, none⟩ = some (.slice none 0 0) := (hcw3 _ _ (by omega)).trans yw2_0_3
  have yw3_0_4 : w3.cell? ⟨w.heap.size, 4, none⟩ = some (.slice none 0 0) := (hcw3 _ _ (by omega)).trans yw2_0_4
  have yw3_0_5 : w3.cell? ⟨w.heap.size, 5, none⟩ = some (.slice none 0 0) := (hcw3 _ _ (by omega)).trans yw2_0_5
  have yw3_0_6 : w3.cell? ⟨w.heap.size, 6, none⟩ = some (.string E0) := (hcw3 _ _ (by omega)).trans yw2_0_6
  have yw3_1_0 : w3.cell? ⟨w.heap.size + 1, 0, none⟩ = some (.string E0) := (hcw3 _ _ (by omega)).trans yw2_1_0
  have yw3_1_1 : w3.cell? ⟨w.heap.size + 1, 1, none⟩ = some (.int .i64 0) := (hcw3 _ _ (by omega)).trans yw2_1_1
  have yw3_1_2 : w3.cell? ⟨w.heap.size + 1, 2, none⟩ = some (.int .i64 0) := (hcw3 _ _ (by omega)).trans yw2_1_2
  have yw3_1_3 : w3.cell? ⟨w.heap.size + 1, 3, none⟩ = some (.slice none 0 0) := (hcw3 _ _ (by omega)).trans yw2_1_3
  have yw3_1_4 : w3.cell? ⟨w.heap.size + 1, 4, none⟩ = some (.slice none 0 0) := (hcw3 _ _ (by omega)).trans yw2_1_4
  have yw3_1_5 : w3.cell? ⟨w.heap.size + 1, 5, none⟩ = some (.slice none 0 0) := (hcw3 _ _ (by omega)).trans yw2_1_5
  have yw3_1_6 : w3.cell? ⟨w.heap.size + 1, 6, none⟩ = some (.string E0) := (hcw3 _ _ (by omega)).trans yw2_1_6
  have qw3_0 : w.heap.size < w3.heap.size := by omega
  have qw3_1 : w.heap.size + 1 < w3.heap.size := by omega
  clear hcw3 hfw3 yw2_0_0 yw2_0_1 yw2_0_2 yw2_0_3 yw2_0_4 yw2_0_5 yw2_0_6 yw2_1_0 yw2_1_1 yw2_1_2 yw2_1_3 yw2_1_4 yw2_1_5 yw2_1_6
  go_wp2_with fail
  go_ret
  exact ⟨rfl, by repeat' (first | with_reducible assumption | with_reducible exact Below.refl _ _ | (with_reducible refine Below.setCell ?_ ?_ _) | (with_reducible refine Below.alloc ?_ ?_ _) | (with_reducible refine Below.drew ?_) | (with_reducible refine below_dr ?_ _) | (with_reducible refine Below.trans ?_ (Below.mono (by with_reducible assumption) ?_)) | omega | (simp; done) | (simp; omega))⟩
set_option maxRecDepth 100000 in
set_option maxHeartbeats 3200000 in
theorem markGlyph_nil (w : World) : Calls Try.prog 81 #[.agg #[.string E0, .int .i64 0, .int .i64 0, .slice none 0 0, .slice none 0 0, .slice none 0 0, .string E0], .int .i64 1] w fun e w' => e = .returned (.int .i64 1) ∧ Below w.heap.size w w' := by
  go_enter Try.func81, Try.ntmps81
  go_wp2_with fail
  refine (markOutline_nil _).mono ?_
  rintro e w1 ⟨rfl, hbw1⟩
  obtain ⟨hcw1, hfw1⟩ := bcell hbw1
  have hzw1 := hbw1.size
  (try simp only [World.size_alloc] at hcw1 hfw1 hzw1)
  have yw1_0_0 : w1.cell? ⟨w.heap.size, 0, none⟩ = some (.string E0) := (hcw1 _ _ (by first | omega | (simp; done) | (simp; omega))).trans (by simp [go_sem])
  have yw1_0_1 : w1.cell? ⟨w.heap.size, 1, none⟩ = some (.int .i64 0) := (hcw1 _ _ (by first | omega | (simp; done) | (simp; omega))).trans (by simp [go_sem])
  have yw1_0_2 : w1.cell? ⟨w.heap.size, 2, none⟩ = some (.int .i64 0) := (hcw1 _ _ (by first | omega | (simp; done) | (simp; omega))).trans (by simp [go_sem])
  have yw1_0_3 : w1.cell? ⟨w.heap.size, 3, none⟩ = some (.slice none 0 0) := (hcw1 _ _ (by first | omega | (simp; done) | (simp; omega))).trans (by simp [go_sem])
  have yw1_0_4 : w1.cell? ⟨w.heap.size, 4, none⟩ = some (.slice none 0 0) := (hcw1 _ _ (by first | omega | (simp; done) | (simp; omega))).trans (by simp [go_sem])
  have yw1_0_5 : w1.cell? ⟨w.heap.size, 5, none⟩ = some (.slice none 0 0) := (hcw1 _ _ (by first | omega | (simp; done) | (simp; omega))).trans (by simp [go_sem])
  have yw1_0_6 : w1.cell? ⟨w.heap.size, 6, none⟩ = some (.string E0) := (hcw1 _ _ (by first | omega | (simp; done) | (simp; omega))).trans (by simp [go_sem])
  have qw1_0 : w.heap.size < w1.heap.size := by omega
  clear hcw1 hfw1
  go_wp2_with fail
  refine (markPartS_nil _).mono ?_
  rintro e w2 ⟨rfl, hbw2⟩
  obtain ⟨hcw2, hfw2⟩ := bcell hbw2
  have hzw2 := hbw2.size
  (try simp only [World.size_alloc] at hcw2 hfw2 hzw2)
  have yw2_0_0 : w2.cell? ⟨w.heap.size, 0, none⟩ = some (.string E0) := (hcw2 _ _ (by omega)).trans yw1_0_0
  have yw2_0_1 : w2.cell? ⟨w.heap.size, 1, none⟩ = some (.int .i64 0) := (hcw2 _ _ (by omega)).trans yw1_0_1
  have yw2_0_2 : w2.cell? ⟨w.heap.size, 2, none⟩ = some (.int .i64 0) := (hcw2 _ _ (by omega)).trans yw1_0_2
  have yw2_0_3 : w2.cell? ⟨w.heap.size, 3, none⟩ = some (.slice none 0 0) := (hcw2 _ _ (by omega)).trans yw1_0_3
  have yw2_0_4 : w2.cell? ⟨w.heap.size, 4, none⟩ = some (.slice none 0 0) := (hcw2 _ _ (by omega)).trans yw1_0_4
  have yw2_0_5 : w2.cell? ⟨w.heap.size, 5, none⟩ = some (.slice none 0 0) := (hcw2 _ _ (by omega)).trans yw1_0_5
  have yw2_0_6 : w2.cell? ⟨w.heap.size, 6, none⟩ = some (.string E0) := (hcw2 _ _ (by omega)).trans yw1_0_6
  have qw2_0 : w.heap.size < w2.heap.size := by omega
  clear hcw2 hfw2 yw1_0_0 yw1_0_1 yw1_0_2 yw1_0_3 yw1_0_4 yw1_0_5 yw1_0_6
  go_wp2_with fail
  refine (markAnchorS_nil _).mono ?_
  rintro e w3 ⟨rfl, hbw3⟩
  obtain ⟨hcw3, hfw3⟩ := bcell hbw3
  have hzw3 := hbw3.size
  (try simp only [World.size_alloc] at hcw3 hfw3 hzw3)
  have yw3_0_0 : w3.cell? ⟨w.heap.size, 0, none⟩ = some (.string E0) := (hcw3 _ _ (by omega)).trans yw2_0_0
  have yw3_0_1 : w3.cell? ⟨w.heap.size, 1, none⟩ = some (.int .i64 0) := (hcw3 _ _ (by omega)).trans yw2_0_1
  have yw3_0_2 : w3.cell? ⟨w.heap.size, 2, none⟩ = some (.int .i64 0) := (hcw3 _ _ (by omega)).trans yw2_0_2
  have yw3_0_3 : w3.cell? ⟨w.heap.size, 3, none⟩ = some (.slice none 0 0) := (hcw3 _ _ (by omega)).trans yw2_0_3
  have yw3_0_4 : w3.cell? ⟨w.heap.size, 4, none⟩ = some (.slice none 0 0) := (hcw3 _ _ (by omega)).trans yw2_0_4
  have yw3_0_5 : w3.cell? ⟨w.heap.size, 5, none⟩ = some (.slice none 0 0) := (hcw3 _ _ (by omega)).trans yw2_0_5
  have yw3_0_6 : w3.cell? ⟨w.heap.size, 6, none⟩ = some (.string E0) := (hcw3 _ _ (by omega)).trans yw2_0_6
  have qw3_0 : w.heap.size < w3.heap.size := by omega
  clear hcw3 hfw3 yw2_0_0 yw2_0_1 yw2_0_2 yw2_0_3 yw2_0_4 yw2_0_5 yw2_0_6
  go_wp2_with fail
  go_ret
  exact ⟨rfl, by repeat' (first | with_reducible assumption | with_reducible exact Below.refl _ _ | (with_reducible refine Below.setCell ?_ ?_ _) | (with_reducible refine Below.alloc ?_ ?_ _) | (with_reducible refine Below.drew ?_) | (with_reducible refine below_dr ?_ _) | (with_reducible refine Below.trans ?_ (Below.mono (by with_reducible assumption) ?_)) | omega | (simp; done) | (simp; omega))⟩
set_option maxRecDepth 100000 in
set_option maxHeartbeats 3200000 in
theorem heldGlyph_nil (w : World) : Calls Try.prog 87 #[.agg #[.string E0, .int .i64 0, .int .i64 0, .slice none 0 0, .slice none 0 0, .slice none 0 0, .string E0], .int .i64 1] w fun e w' => e = .returned (.int .i64 1) ∧ Below w.heap.size w w' := by
  go_enter Try.func87, Try.ntmps87
  go_wp2_with fail
  refine (heldOutline_nil _).mono ?_
  rintro e w1 ⟨rfl, hbw1⟩
  obtain ⟨hcw1, hfw1⟩ := bcell hbw1
  have hzw1 := hbw1.size
  (try simp only [World.size_alloc] at hcw1 hfw1 hzw1)
  have yw1_0_0 : w1.cell? ⟨w.heap.size, 0, none⟩ = some (.string E0) := (hcw1 _ _ (by first | omega | (simp; done) | (simp; omega))).trans (by simp [go_sem])
  have yw1_0_1 : w1.cell? ⟨w.heap.size, 1, none⟩ = some (.int .i64 0) := (hcw1 _ _ (by first | omega | (simp; done) | (simp; omega))).trans (by simp [go_sem])
  have yw1_0_2 : w1.cell? ⟨w.heap.size, 2, none⟩ = some (.int .i64 0) := (hcw1 _ _ (by first | omega | (simp; done) | (simp; omega))).trans (by simp [go_sem])
  have yw1_0_3 : w1.cell? ⟨w.heap.size, 3, none⟩ = some (.slice none 0 0) := (hcw1 _ _ (by first | omega | (simp; done) | (simp; omega))).trans (by simp [go_sem])
  have yw1_0_4 : w1.cell? ⟨w.heap.size, 4, none⟩ = some (.slice none 0 0) := (hcw1 _ _ (by first | omega | (simp; done) | (simp; omega))).trans (by simp [go_sem])
  have yw1_0_5 : w1.cell? ⟨w.heap.size, 5, none⟩ = some (.slice none 0 0) := (hcw1 _ _ (by first | omega | (simp; done) | (simp; omega))).trans (by simp [go_sem])
  have yw1_0_6 : w1.cell? ⟨w.heap.size, 6, none⟩ = some (.string E0) := (hcw1 _ _ (by first | omega | (simp; done) | (simp; omega))).trans (by simp [go_sem])
  have qw1_0 : w.heap.size < w1.heap.size := by omega
  clear hcw1 hfw1
  go_wp2_with fail
  refine (heldPartS_nil _).mono ?_
  rintro e w2 ⟨rfl, hbw2⟩
  obtain ⟨hcw2, hfw2⟩ := bcell hbw2
  have hzw2 := hbw2.size
  (try simp only [World.size_alloc] at hcw2 hfw2 hzw2)
  have yw2_0_0 : w2.cell? ⟨w.heap.size, 0, none⟩ = some (.string E0) := (hcw2 _ _ (by omega)).trans yw1_0_0
  have yw2_0_1 : w2.cell? ⟨w.heap.size, 1, none⟩ = some (.int .i64 0) := (hcw2 _ _ (by omega)).trans yw1_0_1
  have yw2_0_2 : w2.cell? ⟨w.heap.size, 2, none⟩ = some (.int .i64 0) := (hcw2 _ _ (by omega)).trans yw1_0_2
  have yw2_0_3 : w2.cell? ⟨w.heap.size, 3, none⟩ = some (.slice none 0 0) := (hcw2 _ _ (by omega)).trans yw1_0_3
  have yw2_0_4 : w2.cell? ⟨w.heap.size, 4, none⟩ = some (.slice none 0 0) := (hcw2 _ _ (by omega)).trans yw1_0_4
  have yw2_0_5 : w2.cell? ⟨w.heap.size, 5, none⟩ = some (.slice none 0 0) := (hcw2 _ _ (by omega)).trans yw1_0_5
  have yw2_0_6 : w2.cell? ⟨w.heap.size, 6, none⟩ = some (.string E0) := (hcw2 _ _ (by omega)).trans yw1_0_6
  have qw2_0 : w.heap.size < w2.heap.size := by omega
  clear hcw2 hfw2 yw1_0_0 yw1_0_1 yw1_0_2 yw1_0_3 yw1_0_4 yw1_0_5 yw1_0_6
  go_wp2_with fail
  refine (heldAnchorS_nil _).mono ?_
  rintro e w3 ⟨rfl, hbw3⟩
  obtain ⟨hcw3, hfw3⟩ := bcell hbw3
  have hzw3 := hbw3.size
  (try simp only [World.size_alloc] at hcw3 hfw3 hzw3)
  have yw3_0_0 : w3.cell? ⟨w.heap.size, 0, none⟩ = some (.string E0) := (hcw3 _ _ (by omega)).trans yw2_0_0
  have yw3_0_1 : w3.cell? ⟨w.heap.size, 1, none⟩ = some (.int .i64 0) := (hcw3 _ _ (by omega)).trans yw2_0_1
  have yw3_0_2 : w3.cell? ⟨w.heap.size, 2, none⟩ = some (.int .i64 0) := (hcw3 _ _ (by omega)).trans yw2_0_2
  have yw3_0_3 : w3.cell? ⟨w.heap.size, 3, none⟩ = some (.slice none 0 0) := (hcw3 _ _ (by omega)).trans yw2_0_3
  have yw3_0_4 : w3.cell? ⟨w.heap.size, 4, none⟩ = some (.slice none 0 0) := (hcw3 _ _ (by omega)).trans yw2_0_4
  have yw3_0_5 : w3.cell? ⟨w.heap.size, 5, none⟩ = some (.slice none 0 0) := (hcw3 _ _ (by omega)).trans yw2_0_5
  have yw3_0_6 : w3.cell? ⟨w.heap.size, 6, none⟩ = some (.string E0) := (hcw3 _ _ (by omega)).trans yw2_0_6
  have qw3_0 : w.heap.size < w3.heap.size := by omega
  clear hcw3 hfw3 yw2_0_0 yw2_0_1 yw2_0_2 yw2_0_3 yw2_0_4 yw2_0_5 yw2_0_6
  go_wp2_with fail
  go_ret
  exact ⟨rfl, by repeat' (first | with_reducible assumption | with_reducible exact Below.refl _ _ | (with_reducible refine Below.setCell ?_ ?_ _) | (with_reducible refine Below.alloc ?_ ?_ _) | (with_reducible refine Below.drew ?_) | (with_reducible refine below_dr ?_ _) | (with_reducible refine Below.trans ?_ (Below.mono (by with_reducible assumption) ?_)) | omega | (simp; done) | (simp; omega))⟩
end Go.Proofs.Ytelefmogmloniaa
