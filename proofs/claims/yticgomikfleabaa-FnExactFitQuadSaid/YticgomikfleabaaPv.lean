/- Walks: vectors added, subtracted, multiplied and divided. -/
import Derived.Test.YticgomikfleabaaAw
import Derived.Test.YticgomikfleabaaPd
namespace Go.Proofs.Yticgomikfleabaa
open Go.RowKit

set_option maxHeartbeats 800000 in
theorem plus_g (a b c d : Int) (w : World) (h1 : (-9223372036854775808 ≤ a + c ∧ a + c ≤ 9223372036854775807)) (h2 : (-9223372036854775808 ≤ b + d ∧ b + d ≤ 9223372036854775807)) :
    Calls Try.prog 68 #[.agg #[.int .i64 a, .int .i64 b], .agg #[.int .i64 c, .int .i64 d]] w fun e w' => e = .returned (.agg #[.int .i64 (a + c), .int .i64 (b + d)]) ∧ Below w.heap.size w w' := by
  have e1 : IntKind.i64.wrap (a + c) = a + c := IntWalk.i64_in _ h1
  have e2 : IntKind.i64.wrap (b + d) = b + d := IntWalk.i64_in _ h2
  clear h1 h2
  go_enter Try.func68, Try.ntmps68
  go_wp2
  refine bodyPost_ret (v := .agg #[.int .i64 (a + c), .int .i64 (b + d)]) (by simp [results, Try.results68, go_sem]) rfl ⟨rfl, ?_⟩
  repeat' (first | with_reducible assumption | with_reducible exact Below.refl _ _ | (with_reducible refine Below.setCell ?_ ?_ _) | (with_reducible refine Below.alloc ?_ ?_ _) | (with_reducible refine Below.drew ?_) | (with_reducible refine below_dr ?_ _) | (with_reducible refine Below.trans ?_ (Below.mono (by with_reducible assumption) ?_)) | omega | (simp; done) | (simp; omega))
set_option maxHeartbeats 800000 in
theorem minus_g (a b c d : Int) (w : World) (h1 : (-9223372036854775808 ≤ a - c ∧ a - c ≤ 9223372036854775807)) (h2 : (-9223372036854775808 ≤ b - d ∧ b - d ≤ 9223372036854775807)) :
    Calls Try.prog 66 #[.agg #[.int .i64 a, .int .i64 b], .agg #[.int .i64 c, .int .i64 d]] w fun e w' => e = .returned (.agg #[.int .i64 (a - c), .int .i64 (b - d)]) ∧ Below w.heap.size w w' := by
  have e1 : IntKind.i64.wrap (a - c) = a - c := IntWalk.i64_in _ h1
  have e2 : IntKind.i64.wrap (b - d) = b - d := IntWalk.i64_in _ h2
  clear h1 h2
  go_enter Try.func66, Try.ntmps66
  go_wp2
  refine bodyPost_ret (v := .agg #[.int .i64 (a - c), .int .i64 (b - d)]) (by simp [results, Try.results66, go_sem]) rfl ⟨rfl, ?_⟩
  repeat' (first | with_reducible assumption | with_reducible exact Below.refl _ _ | (with_reducible refine Below.setCell ?_ ?_ _) | (with_reducible refine Below.alloc ?_ ?_ _) | (with_reducible refine Below.drew ?_) | (with_reducible refine below_dr ?_ _) | (with_reducible refine Below.trans ?_ (Below.mono (by with_reducible assumption) ?_)) | omega | (simp; done) | (simp; omega))
set_option maxHeartbeats 800000 in
theorem times_g (a b c : Int) (w : World) (h1 : (-9223372036854775808 ≤ c * a ∧ c * a ≤ 9223372036854775807)) (h2 : (-9223372036854775808 ≤ c * b ∧ c * b ≤ 9223372036854775807)) :
    Calls Try.prog 67 #[.agg #[.int .i64 a, .int .i64 b], .int .i64 c] w fun e w' => e = .returned (.agg #[.int .i64 (c * a), .int .i64 (c * b)]) ∧ Below w.heap.size w w' := by
  have e1 : IntKind.i64.wrap (c * a) = c * a := IntWalk.i64_in _ h1
  have e2 : IntKind.i64.wrap (c * b) = c * b := IntWalk.i64_in _ h2
  clear h1 h2
  go_enter Try.func67, Try.ntmps67
  go_wp2
  refine bodyPost_ret (v := .agg #[.int .i64 (c * a), .int .i64 (c * b)]) (by simp [results, Try.results67, go_sem]) rfl ⟨rfl, ?_⟩
  repeat' (first | with_reducible assumption | with_reducible exact Below.refl _ _ | (with_reducible refine Below.setCell ?_ ?_ _) | (with_reducible refine Below.alloc ?_ ?_ _) | (with_reducible refine Below.drew ?_) | (with_reducible refine below_dr ?_ _) | (with_reducible refine Below.trans ?_ (Below.mono (by with_reducible assumption) ?_)) | omega | (simp; done) | (simp; omega))
theorem near_i64 {n d : Int} (hn : -4611686018427387904 ≤ n ∧ n ≤ 4611686018427387904) (hd : 1 ≤ d) : -4611686018427387905 ≤ near n d ∧ near n d ≤ 4611686018427387905 := by
  unfold near
  have h1 := Int.ediv_mul_le (2 * n + d) (show 2 * d ≠ 0 by omega)
  have h2 := Int.lt_ediv_add_one_mul_self (2 * n + d) (show 0 < 2 * d by omega)
  generalize (2 * n + d) / (2 * d) = q at *
  constructor
  · apply Classical.byContradiction
    intro h
    have h3 : q + 1 ≤ -4611686018427387905 := by omega
    have h4 : (q + 1) * (2 * d) ≤ -4611686018427387905 * (2 * d) := Int.mul_le_mul_of_nonneg_right h3 (by omega)
    omega
  · apply Classical.byContradiction
    intro h
    have h3 : 4611686018427387906 ≤ q := by omega
    have h4 : 4611686018427387906 * (2 * d) ≤ q * (2 * d) := Int.mul_le_mul_of_nonneg_right h3 (by omega)
    omega
set_option maxHeartbeats 1600000 in
theorem over_any (a b d : Int) (w : World) (h1 : (-9223372036854775808 ≤ a ∧ a ≤ 9223372036854775807)) (h2 : (-9223372036854775808 ≤ b ∧ b ≤ 9223372036854775807)) (hd : 1 ≤ d) (hd2 : d ≤ 9223372036854775807) :
    Calls Try.prog 97 #[.agg #[.int .i64 a, .int .i64 b], .int .i64 d] w fun e w' => e = .returned (.agg #[.int .i64 (near a d), .int .i64 (near b d)]) ∧ Below w.heap.size w w' := by
  have C1 := Lib.hid (fun w => implDR_any a d w h1 hd hd2)
  have C2 := Lib.hid (fun w => implDR_any b d w h2 hd hd2)
  generalize near a d = x at C1 ⊢
  generalize near b d = y at C2 ⊢
  clear h1 h2 hd hd2
  go_enter Try.func97, Try.ntmps97
  go_wp2_with fail
  generalize hW : ((w.alloc (.cells #[.int .i64 a, .int .i64 b] 29)).alloc (.cells #[.int .i64 0, .int .i64 0] 29)) = W0
  have g0 : Below w.heap.size w W0 := by rw [← hW]; repeat' (first | assumption | exact Below.refl _ _ | (refine Below.setCell ?_ ?_ _) | (refine Below.alloc ?_ ?_ _) | (refine below_dr ?_ _) | exact Nat.le_refl _ | (simp; done) | (simp; omega))
  have s1 : W0.cell? ⟨w.heap.size, 0, none⟩ = some (.int .i64 a) := by rw [← hW]; simp [go_sem]
  have s2 : W0.cell? ⟨w.heap.size, 1, none⟩ = some (.int .i64 b) := by rw [← hW]; simp [go_sem]
  have s3 : W0.cell? ⟨w.heap.size + 1, 0, none⟩ = some (.int .i64 0) := by rw [← hW]; simp [go_sem]
  have s4 : W0.cell? ⟨w.heap.size + 1, 1, none⟩ = some (.int .i64 0) := by rw [← hW]; simp [go_sem]
  have f0 : W0.frozen? ⟨w.heap.size + 1, 0, none⟩ = false := by rw [← hW]; simp [go_sem]
  have f1 : W0.frozen? ⟨w.heap.size + 1, 1, none⟩ = false := by rw [← hW]; simp [go_sem]
  have sz : w.heap.size + 1 < W0.heap.size := by rw [← hW]; simp
  clear hW
  go_region_held3 (fun w' => w'.frozen? ⟨w.heap.size + 1, 0, none⟩ = false ∧ w'.frozen? ⟨w.heap.size + 1, 1, none⟩ = false ∧ w'.cell? ⟨w.heap.size, 0, none⟩ = some (.int .i64 a) ∧ w'.cell? ⟨w.heap.size, 1, none⟩ = some (.int .i64 b) ∧ w.heap.size + 1 < w'.heap.size)
    (first | ((try dsimp only); (repeat' apply And.intro); all_goals (first | assumption | omega | (simp (disch := first | omega | (simp; omega)) [*]; done) | (rw [cell_set_at _ _ (by first | omega | (simp; omega)), cell_set_at _ _ (by first | omega | (simp; omega))]; first | assumption | (simp (disch := first | omega | (simp; omega)) [*]; done)) | (simp; omega))) | fail)
    (first
      | (go_at_call 107; (first | (with_reducible refine (C1.out _).mono ?_) | (with_reducible refine (C2.out _).mono ?_)); rintro e wA ⟨rfl, hbwA⟩; obtain ⟨hcwA, hfwA⟩ := bcell hbwA; have hzwA := hbwA.size; (try simp only [World.size_drew] at hcwA hfwA hzwA); have qwA : w.heap.size + 1 < wA.heap.size := (by omega)))
  have ra := AtL.of2 s3 s4 sz
  have rb : AtL (w.heap.size + 1) [.int .i64 0, .int .i64 0] wA := by repeat' (first | with_reducible assumption | with_reducible exact AtL.new _ _ _ | (with_reducible refine AtL.drew ?_) | (with_reducible apply AtL.store2) | (with_reducible refine AtL.alloc ?_ _) | (with_reducible refine AtL.far ?_ ?_ _ _) | (with_reducible refine AtL.below ?_ (by with_reducible assumption)) | omega | (simp; done) | (simp; omega))
  have rc := rb.store2 (a := .int .i64 x) (b := .int .i64 y)
  have r0 := rc.cell 0 rfl
  have r1 := rc.cell 1 rfl
  clear ra rb rc
  go_wp2
  refine bodyPost_ret (v := .agg #[.int .i64 x, .int .i64 y]) (by simp [results, Try.results97, go_sem, r0, r1]) rfl ⟨rfl, ?_⟩
  repeat' (first | with_reducible assumption | with_reducible exact Below.refl _ _ | (with_reducible refine Below.setCell ?_ ?_ _) | (with_reducible refine Below.alloc ?_ ?_ _) | (with_reducible refine Below.drew ?_) | (with_reducible refine below_dr ?_ _) | (with_reducible refine Below.trans ?_ (Below.mono (by with_reducible assumption) ?_)) | omega | (simp; done) | (simp; omega))
end Go.Proofs.Yticgomikfleabaa
