/- Walks: points taken from one another, with the world that is left. -/
import Derived.Test.YticgomikfleabaaPg
import Derived.Test.YticgomikfleabaaAw
namespace Go.Proofs.Yticgomikfleabaa
open Go.RowKit
set_option maxHeartbeats 800000 in
theorem minus_x (a b c d : Int) (w : World) (h1 : -262144 ≤ a ∧ a ≤ 262144) (h2 : -262144 ≤ b ∧ b ≤ 262144) (h3 : -262144 ≤ c ∧ c ≤ 262144) (h4 : -262144 ≤ d ∧ d ≤ 262144) :
    Calls Try.prog 66 #[.agg #[.int .i64 a, .int .i64 b], .agg #[.int .i64 c, .int .i64 d]] w fun e w' => e = .returned (.agg #[.int .i64 (a - c), .int .i64 (b - d)]) ∧ w' = ((w.alloc (.cells #[.int .i64 a, .int .i64 b] 29)).alloc (.cells #[.int .i64 c, .int .i64 d] 29)).alloc (.cells #[.int .i64 (a - c), .int .i64 (b - d)] 29) := by
  obtain ⟨h1, k1⟩ := h1
  obtain ⟨h2, k2⟩ := h2
  obtain ⟨h3, k3⟩ := h3
  obtain ⟨h4, k4⟩ := h4
  go_enter Try.func66, Try.ntmps66
  go_wp2
  exact bodyPost_ret (v := .agg #[.int .i64 (a - c), .int .i64 (b - d)]) (by simp [results, Try.results66, go_sem]) rfl ⟨rfl, rfl⟩
end Go.Proofs.Yticgomikfleabaa
