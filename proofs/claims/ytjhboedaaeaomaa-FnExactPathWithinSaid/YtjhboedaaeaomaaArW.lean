/- Walks: points taken from one another, with the world that is left. -/
import Derived.Test.YtjhboedaaeaomaaPg
import Derived.Test.YtjhboedaaeaomaaAw
namespace Go.Proofs.Ytjhboedaaeaomaa
open Go.RowKit
set_option maxHeartbeats 800000 in
theorem minus_x (a b c d : Int) (w : World) (h1 : -262144 ≤ a ∧ a ≤ 262144) (h2 : -262144 ≤ b ∧ b ≤ 262144) (h3 : -262144 ≤ c ∧ c ≤ 262144) (h4 : -262144 ≤ d ∧ d ≤ 262144) :
    Calls Try.prog 42 #[.agg #[.int .i64 a, .int .i64 b], .agg #[.int .i64 c, .int .i64 d]] w fun e w' => e = .returned (.agg #[.int .i64 (a - c), .int .i64 (b - d)]) ∧ w' = ((w.alloc (.cells #[.int .i64 a, .int .i64 b] 25)).alloc (.cells #[.int .i64 c, .int .i64 d] 25)).alloc (.cells #[.int .i64 (a - c), .int .i64 (b - d)] 25) := by
  obtain ⟨h1, k1⟩ := h1
  obtain ⟨h2, k2⟩ := h2
  obtain ⟨h3, k3⟩ := h3
  obtain ⟨h4, k4⟩ := h4
  go_enter Try.func42, Try.ntmps42
  go_wp2
  exact bodyPost_ret (v := .agg #[.int .i64 (a - c), .int .i64 (b - d)]) (by simp [results, Try.results42, go_sem]) rfl ⟨rfl, rfl⟩
end Go.Proofs.Ytjhboedaaeaomaa
