/- Walks: vectors added, subtracted, multiplied and divided. -/
import Derived.Test.YtjhboedaaeaomaaAw
import Derived.Test.YtjhboedaaeaomaaPd
namespace Go.Proofs.Ytjhboedaaeaomaa
open Go.RowKit

set_option maxHeartbeats 800000 in
theorem plus_g (a b c d : Int) (w : World) (h1 : (-9223372036854775808 ≤ a + c ∧ a + c ≤ 9223372036854775807)) (h2 : (-9223372036854775808 ≤ b + d ∧ b + d ≤ 9223372036854775807)) :
    Calls Try.prog 112 #[.agg #[.int .i64 a, .int .i64 b], .agg #[.int .i64 c, .int .i64 d]] w fun e w' => e = .returned (.agg #[.int .i64 (a + c), .int .i64 (b + d)]) ∧ Below w.heap.size w w' := by
  have e1 : IntKind.i64.wrap (a + c) = a + c := IntWalk.i64_in _ h1
  have e2 : IntKind.i64.wrap (b + d) = b + d := IntWalk.i64_in _ h2
  clear h1 h2
  go_enter Try.func112, Try.ntmps112
  go_wp2
  refine bodyPost_ret (v := .agg #[.int .i64 (a + c), .int .i64 (b + d)]) (by simp [results, Try.results112, go_sem]) rfl ⟨rfl, ?_⟩
  repeat' (first | with_reducible assumption | with_reducible exact Below.refl _ _ | (with_reducible refine Below.setCell ?_ ?_ _) | (with_reducible refine Below.alloc ?_ ?_ _) | (with_reducible refine Below.drew ?_) | (with_reducible refine below_dr ?_ _) | (with_reducible refine Below.trans ?_ (Below.mono (by with_reducible assumption) ?_)) | omega | (simp; done) | (simp; omega))
set_option maxHeartbeats 800000 in
theorem minus_g (a b c d : Int) (w : World) (h1 : (-9223372036854775808 ≤ a - c ∧ a - c ≤ 9223372036854775807)) (h2 : (-9223372036854775808 ≤ b - d ∧ b - d ≤ 9223372036854775807)) :
    Calls Try.prog 42 #[.agg #[.int .i64 a, .int .i64 b], .agg #[.int .i64 c, .int .i64 d]] w fun e w' => e = .returned (.agg #[.int .i64 (a - c), .int .i64 (b - d)]) ∧ Below w.heap.size w w' := by
  have e1 : IntKind.i64.wrap (a - c) = a - c := IntWalk.i64_in _ h1
  have e2 : IntKind.i64.wrap (b - d) = b - d := IntWalk.i64_in _ h2
  clear h1 h2
  go_enter Try.func42, Try.ntmps42
  go_wp2
  refine bodyPost_ret (v := .agg #[.int .i64 (a - c), .int .i64 (b - d)]) (by simp [results, Try.results42, go_sem]) rfl ⟨rfl, ?_⟩
  repeat' (first | with_reducible assumption | with_reducible exact Below.refl _ _ | (with_reducible refine Below.setCell ?_ ?_ _) | (with_reducible refine Below.alloc ?_ ?_ _) | (with_reducible refine Below.drew ?_) | (with_reducible refine below_dr ?_ _) | (with_reducible refine Below.trans ?_ (Below.mono (by with_reducible assumption) ?_)) | omega | (simp; done) | (simp; omega))
theorem near_i64 {n d : Int} (hn : -4611686018427387904 ≤ n ∧ n ≤ 4611686018427387904) (hd : 1 ≤ d) : -4611686018427387905 ≤ near n d ∧ near n d ≤ 4611686018427387905 := by
  unfold near
  have h1 := Int.ediv_mul_le (2 * n + d) (show 2 * d ≠ 0 by omega)
  have h2 := Int.lt_ediv_add_one_mul_self (2 * n + d) (show 0 < 2 * d by omega)
  generalize (2 * n + d) / (2 * d) = q at *
  constructor
  · apply Classical.byContradiction
    intro h
    have h3 : q + 1 ≤ -4611686018427387905 := by omega
    have h4 : (q + 1) * (2 * d) ≤ -4611686018427387905 * (2 * d) := Int.mul_le_mul_of_nonneg_right h3 (by omega)
    omega
  · apply Classical.byContradiction
    intro h
    have h3 : 4611686018427387906 ≤ q := by omega
    have h4 : 4611686018427387906 * (2 * d) ≤ q * (2 * d) := Int.mul_le_mul_of_nonneg_right h3 (by omega)
    omega
end Go.Proofs.Ytjhboedaaeaomaa
