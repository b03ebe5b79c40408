/- Walks: which maps are valid. -/
import Derived.Test.YtjlmoadnbbeloaaQd
import Derived.Test.YtjlmoadnbbeloaaQb
import Derived.Test.YtjlmoadnbbeloaaAu
import Derived.Test.YtjlmoadnbbeloaaFl
namespace Go.Proofs.Ytjlmoadnbbeloaa
open Go.RowKit
def validA (m0 m1 m2 m3 m4 m5 m6 m7 m8 m9 m10 m11 : Int) : Bool := validB m0 m1 && validB m2 m3 && validB m4 m5 && validB m6 m7 && validB m8 m9 && validB m10 m11
theorem allV_is (m0 m1 m2 m3 m4 m5 m6 m7 m8 m9 m10 m11 : Int) : allV (fun i => [m0, m2, m4, m6, m8, m10].getD i 0) (fun i => [m1, m3, m5, m7, m9, m11].getD i 0) 6 = validA m0 m1 m2 m3 m4 m5 m6 m7 m8 m9 m10 m11 := by
  simp [allV, validA, List.range_succ, Bool.and_assoc]
theorem implValidAffine_any (m0 m1 m2 m3 m4 m5 m6 m7 m8 m9 m10 m11 : Int) (w : World) (h0 : -9223372036854775808 ≤ m0 ∧ m0 ≤ 9223372036854775807) (h1 : -9223372036854775808 ≤ m1 ∧ m1 ≤ 9223372036854775807) (h2 : -9223372036854775808 ≤ m2 ∧ m2 ≤ 9223372036854775807) (h3 : -9223372036854775808 ≤ m3 ∧ m3 ≤ 9223372036854775807) (h4 : -9223372036854775808 ≤ m4 ∧ m4 ≤ 9223372036854775807) (h5 : -9223372036854775808 ≤ m5 ∧ m5 ≤ 9223372036854775807) (h6 : -9223372036854775808 ≤ m6 ∧ m6 ≤ 9223372036854775807) (h7 : -9223372036854775808 ≤ m7 ∧ m7 ≤ 9223372036854775807) (h8 : -9223372036854775808 ≤ m8 ∧ m8 ≤ 9223372036854775807) (h9 : -9223372036854775808 ≤ m9 ∧ m9 ≤ 9223372036854775807) (h10 : -9223372036854775808 ≤ m10 ∧ m10 ≤ 9223372036854775807) (h11 : -9223372036854775808 ≤ m11 ∧ m11 ≤ 9223372036854775807) :
    Calls Try.prog 25 #[.agg #[.int .i64 m0, .int .i64 m1, .int .i64 m2, .int .i64 m3, .int .i64 m4, .int .i64 m5, .int .i64 m6, .int .i64 m7, .int .i64 m8, .int .i64 m9, .int .i64 m10, .int .i64 m11]] w fun e w' => e = .returned (.bool (validA m0 m1 m2 m3 m4 m5 m6 m7 m8 m9 m10 m11)) ∧ Below w.heap.size w w' := by
  have h := implValidAffine_fn (fun i => [m0, m2, m4, m6, m8, m10].getD i 0) (fun i => [m1, m3, m5, m7, m9, m11].getD i 0) w (by
    intro i hi
    match i, hi with
    | 0, _ => exact h0
    | 1, _ => exact h2
    | 2, _ => exact h4
    | 3, _ => exact h6
    | 4, _ => exact h8
    | 5, _ => exact h10) (by
    intro i hi
    match i, hi with
    | 0, _ => exact h1
    | 1, _ => exact h3
    | 2, _ => exact h5
    | 3, _ => exact h7
    | 4, _ => exact h9
    | 5, _ => exact h11)
  rw [allV_is] at h
  exact h
end Go.Proofs.Ytjlmoadnbbeloaa
