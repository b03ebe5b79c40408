/- Walks: the sign of an operand's bytes. -/
import Derived.Test.YtdikenapnncmfaaDoorPof
namespace Go.Proofs.YtdikenapnncmfaaDoor
open Go.RowKit
set_option linter.unusedVariables false
/-- The number that is meant by n of b bytes. -/
def sgI (n b : Int) : Int := if b = 1 then (if n < 128 then n else n - 256) else if b = 2 then (if n < 32768 then n else n - 65536) else 0
theorem sg_1 {n : Int} (h0 : 0 ≤ n) (h1 : n < 256) : wrap64 (n * 72057594037927936) / 72057594037927936 = sgI n 1 := by
  unfold sgI wrap64
  rw [if_pos rfl]
  split <;> omega
theorem sg_2 {n : Int} (h0 : 0 ≤ n) (h1 : n < 65536) : wrap64 (n * 281474976710656) / 281474976710656 = sgI n 2 := by
  unfold sgI wrap64
  rw [if_neg (by decide), if_pos rfl]
  split <;> omega
set_option maxHeartbeats 800000 in
theorem signed_1 (n : Int) (w : World) (h0 : 0 ≤ n) (h1 : n < 256) : Calls Tryd.prog 62 #[.int .i64 n, .int .i64 1] w fun e w' => e = .returned (.int .i64 (sgI n 1)) ∧ w = w' := by
  have hs := sg_1 h0 h1
  go_enter Tryd.func62, Tryd.ntmps62
  go_wp2
  refine bodyPost_ret (v := .int .i64 (sgI n 1)) (by simp [results, Tryd.results62, go_sem]) rfl ⟨rfl, rfl⟩
set_option maxHeartbeats 800000 in
theorem signed_2 (n : Int) (w : World) (h0 : 0 ≤ n) (h1 : n < 65536) : Calls Tryd.prog 62 #[.int .i64 n, .int .i64 2] w fun e w' => e = .returned (.int .i64 (sgI n 2)) ∧ w = w' := by
  have hs := sg_2 h0 h1
  go_enter Tryd.func62, Tryd.ntmps62
  go_wp2
  refine bodyPost_ret (v := .int .i64 (sgI n 2)) (by simp [results, Tryd.results62, go_sem]) rfl ⟨rfl, rfl⟩
set_option maxHeartbeats 800000 in
theorem signed_0 (w : World) : Calls Tryd.prog 62 #[.int .i64 0, .int .i64 0] w fun e w' => e = .returned (.int .i64 (sgI 0 0)) ∧ w = w' := by
  go_enter Tryd.func62, Tryd.ntmps62
  go_wp2
  refine bodyPost_ret (v := .int .i64 0) (by simp [results, Tryd.results62, go_sem]) rfl ⟨rfl, rfl⟩
end Go.Proofs.YtdikenapnncmfaaDoor
