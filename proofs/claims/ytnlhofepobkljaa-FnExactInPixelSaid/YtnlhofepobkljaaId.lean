/- Walks: the pixels that a segment meets, the reference's side. -/
import Derived.Test.YtnlhofepobkljaaIc
import Derived.Test.YtnlhofepobkljaaBl
import Derived.Deep.RegionHeld3
namespace Go.Proofs.Ytnlhofepobkljaa
open Go.RowKit
set_option linter.unusedVariables false
theorem m22 {a b : Int} (h1 : -4194304 ≤ a ∧ a ≤ 4194304) (h2 : -4194304 ≤ b ∧ b ≤ 4194304) : -17592186044416 ≤ a * b ∧ a * b ≤ 17592186044416 := by
  have := mulB (a := a) (b := b) (A := 4194304) (B := 4194304) h1.1 h1.2 h2.1 h2.2
  omega
theorem tLo1 {l b L B : Int} {F : Bool} (h : l * B - L * b < 0) : takeLo l b L B F = true := by unfold takeLo; rw [decide_eq_true h]; rfl
theorem tLo2 {l b L B : Int} (h : l * B - L * b = 0) : takeLo l b L B false = true := by unfold takeLo; rw [decide_eq_true h]; simp
theorem tLo3 {l b L B : Int} (h : l * B - L * b = 0) : takeLo l b L B true = false := by unfold takeLo; rw [h]; simp
theorem tLo4 {l b L B : Int} {F : Bool} (h : 0 < l * B - L * b) : takeLo l b L B F = false := by unfold takeLo; rw [decide_eq_false (by omega), decide_eq_false (by omega)]; rfl
theorem tHi1 {h c H C : Int} {G : Bool} (k : 0 < h * C - H * c) : takeHi h c H C G = true := by unfold takeHi; rw [decide_eq_true k]; rfl
theorem tHi2 {h c H C : Int} (k : h * C - H * c = 0) : takeHi h c H C false = true := by unfold takeHi; rw [decide_eq_true k]; simp
theorem tHi3 {h c H C : Int} (k : h * C - H * c = 0) : takeHi h c H C true = false := by unfold takeHi; rw [k]; simp
theorem tHi4 {h c H C : Int} {G : Bool} (k : h * C - H * c < 0) : takeHi h c H C G = false := by unfold takeHi; rw [decide_eq_false (by omega), decide_eq_false (by omega)]; rfl
set_option maxHeartbeats 3200000 in
theorem l13Clip_any (fr by_ lo hi : Int) (w : World) (h1 : -2000000 ≤ fr ∧ fr ≤ 2000000) (h2 : -2000000 ≤ by_ ∧ by_ ≤ 2000000) (h3 : -2000000 ≤ lo ∧ lo ≤ 2000000) (h4 : -2000000 ≤ hi ∧ hi ≤ 2000000) :
    Calls Try.prog 106 #[.int .i64 fr, .int .i64 by_, .int .i64 lo, .int .i64 hi] w fun e w' => e = .returned (.tuple #[.agg #[.int .i64 (clL fr by_ lo hi), .int .i64 (clB by_), .int .i64 (clH fr by_ lo hi), .int .i64 (clB by_), .bool (clF by_), .bool (clG by_)], .bool (clK fr by_ lo hi)]) ∧ Below w.heap.size w w' := by
  obtain ⟨h1, k1⟩ := h1
  obtain ⟨h2, k2⟩ := h2
  obtain ⟨h3, k3⟩ := h3
  obtain ⟨h4, k4⟩ := h4
  by_cases hp : 0 < by_
  case pos =>
    rw [show clL fr by_ lo hi = (lo - fr) from by unfold clL; rw [if_pos hp]]
    rw [show clB by_ = by_ from by unfold clB; rw [if_pos hp]]
    rw [show clH fr by_ lo hi = (hi - fr) from by unfold clH; rw [if_pos hp]]
    rw [show clF by_ = true from by unfold clF; rw [if_pos hp]]
    rw [show clG by_ = false from by unfold clG; rw [if_pos hp]]
    rw [show clK fr by_ lo hi = true from by unfold clK; rw [if_pos hp]]
    go_enter Try.func106, Try.ntmps106
    go_wp2
    refine bodyPost_ret (v := .tuple #[.agg #[.int .i64 (lo - fr), .int .i64 by_, .int .i64 (hi - fr), .int .i64 by_, .bool true, .bool false], .bool true]) (by simp [results, Try.results106, go_sem]) rfl ⟨rfl, ?_⟩
    repeat' (first | with_reducible assumption | with_reducible exact Below.refl _ _ | (with_reducible refine Below.setCell ?_ ?_ _) | (with_reducible refine Below.alloc ?_ ?_ _) | (with_reducible refine Below.drew ?_) | (with_reducible refine below_dr ?_ _) | (with_reducible refine Below.trans ?_ (Below.mono (by with_reducible assumption) ?_)) | omega | (simp; done) | (simp; omega))
  case neg =>
    by_cases hn : by_ < 0
    case pos =>
      rw [show clL fr by_ lo hi = (fr - hi) from by unfold clL; rw [if_neg hp, if_pos hn]]
      rw [show clB by_ = (-by_) from by unfold clB; rw [if_neg hp, if_pos hn]]
      rw [show clH fr by_ lo hi = (fr - lo) from by unfold clH; rw [if_neg hp, if_pos hn]]
      rw [show clF by_ = false from by unfold clF; rw [if_neg hp, if_pos hn]]
      rw [show clK fr by_ lo hi = true from by unfold clK; rw [if_neg hp, if_pos hn]]
      rw [show clG by_ = true from by unfold clG; rw [if_neg hp]]
      have d1 : decide (0 < by_) = false := by simpa using hp
      clear hp
      go_enter Try.func106, Try.ntmps106
      go_wp2
      refine bodyPost_ret (v := .tuple #[.agg #[.int .i64 (fr - hi), .int .i64 (-by_), .int .i64 (fr - lo), .int .i64 (-by_), .bool false, .bool true], .bool true]) (by simp [results, Try.results106, go_sem]) rfl ⟨rfl, ?_⟩
      repeat' (first | with_reducible assumption | with_reducible exact Below.refl _ _ | (with_reducible refine Below.setCell ?_ ?_ _) | (with_reducible refine Below.alloc ?_ ?_ _) | (with_reducible refine Below.drew ?_) | (with_reducible refine below_dr ?_ _) | (with_reducible refine Below.trans ?_ (Below.mono (by with_reducible assumption) ?_)) | omega | (simp; done) | (simp; omega))
    case neg =>
      by_cases hc : lo ≤ fr
      case neg =>
        rw [show clL fr by_ lo hi = 0 from by unfold clL; rw [if_neg hp, if_neg hn]]
        rw [show clB by_ = 1 from by unfold clB; rw [if_neg hp, if_neg hn]]
        rw [show clH fr by_ lo hi = 1 from by unfold clH; rw [if_neg hp, if_neg hn]]
        rw [show clF by_ = true from by unfold clF; rw [if_neg hp, if_neg hn]]
        rw [show clG by_ = true from by unfold clG; rw [if_neg hp]]
        rw [show clK fr by_ lo hi = false from by unfold clK; rw [if_neg hp, if_neg hn]; simp; omega]
        obtain rfl : by_ = 0 := by omega
        have d1 : decide (lo ≤ fr) = false := by simpa using hc
        clear hp hn hc
        go_enter Try.func106, Try.ntmps106
        go_wp2
        refine bodyPost_ret (v := .tuple #[.agg #[.int .i64 0, .int .i64 1, .int .i64 1, .int .i64 1, .bool true, .bool true], .bool false]) (by simp [results, Try.results106, go_sem]) rfl ⟨rfl, ?_⟩
        repeat' (first | with_reducible assumption | with_reducible exact Below.refl _ _ | (with_reducible refine Below.setCell ?_ ?_ _) | (with_reducible refine Below.alloc ?_ ?_ _) | (with_reducible refine Below.drew ?_) | (with_reducible refine below_dr ?_ _) | (with_reducible refine Below.trans ?_ (Below.mono (by with_reducible assumption) ?_)) | omega | (simp; done) | (simp; omega))
      case pos =>
        by_cases hd : fr < hi
        case pos =>
          rw [show clL fr by_ lo hi = 0 from by unfold clL; rw [if_neg hp, if_neg hn]]
          rw [show clB by_ = 1 from by unfold clB; rw [if_neg hp, if_neg hn]]
          rw [show clH fr by_ lo hi = 1 from by unfold clH; rw [if_neg hp, if_neg hn]]
          rw [show clF by_ = true from by unfold clF; rw [if_neg hp, if_neg hn]]
          rw [show clG by_ = true from by unfold clG; rw [if_neg hp]]
          rw [show clK fr by_ lo hi = true from by unfold clK; rw [if_neg hp, if_neg hn]; simp; omega]
          obtain rfl : by_ = 0 := by omega
          clear hp hn
          go_enter Try.func106, Try.ntmps106
          go_wp2
          refine bodyPost_ret (v := .tuple #[.agg #[.int .i64 0, .int .i64 1, .int .i64 1, .int .i64 1, .bool true, .bool true], .bool true]) (by simp [results, Try.results106, go_sem]) rfl ⟨rfl, ?_⟩
          repeat' (first | with_reducible assumption | with_reducible exact Below.refl _ _ | (with_reducible refine Below.setCell ?_ ?_ _) | (with_reducible refine Below.alloc ?_ ?_ _) | (with_reducible refine Below.drew ?_) | (with_reducible refine below_dr ?_ _) | (with_reducible refine Below.trans ?_ (Below.mono (by with_reducible assumption) ?_)) | omega | (simp; done) | (simp; omega))
        case neg =>
          rw [show clL fr by_ lo hi = 0 from by unfold clL; rw [if_neg hp, if_neg hn]]
          rw [show clB by_ = 1 from by unfold clB; rw [if_neg hp, if_neg hn]]
          rw [show clH fr by_ lo hi = 1 from by unfold clH; rw [if_neg hp, if_neg hn]]
          rw [show clF by_ = true from by unfold clF; rw [if_neg hp, if_neg hn]]
          rw [show clG by_ = true from by unfold clG; rw [if_neg hp]]
          rw [show clK fr by_ lo hi = false from by unfold clK; rw [if_neg hp, if_neg hn]; simp; omega]
          obtain rfl : by_ = 0 := by omega
          have d1 : decide (fr < hi) = false := by simpa using hd
          clear hp hn hd
          go_enter Try.func106, Try.ntmps106
          go_wp2
          refine bodyPost_ret (v := .tuple #[.agg #[.int .i64 0, .int .i64 1, .int .i64 1, .int .i64 1, .bool true, .bool true], .bool false]) (by simp [results, Try.results106, go_sem]) rfl ⟨rfl, ?_⟩
          repeat' (first | with_reducible assumption | with_reducible exact Below.refl _ _ | (with_reducible refine Below.setCell ?_ ?_ _) | (with_reducible refine Below.alloc ?_ ?_ _) | (with_reducible refine Below.drew ?_) | (with_reducible refine below_dr ?_ _) | (with_reducible refine Below.trans ?_ (Below.mono (by with_reducible assumption) ?_)) | omega | (simp; done) | (simp; omega))
set_option maxRecDepth 100000 in
set_option maxHeartbeats 3200000 in
theorem l13Meet_11 (l b h c L B H C : Int) (f g F G : Bool) (w : World) (b_l : -4194304 ≤ l ∧ l ≤ 4194304) (b_b : -4194304 ≤ b ∧ b ≤ 4194304) (b_h : -4194304 ≤ h ∧ h ≤ 4194304) (b_c : -4194304 ≤ c ∧ c ≤ 4194304) (b_L : -4194304 ≤ L ∧ L ≤ 4194304) (b_B : -4194304 ≤ B ∧ B ≤ 4194304) (b_H : -4194304 ≤ H ∧ H ≤ 4194304) (b_C : -4194304 ≤ C ∧ C ≤ 4194304) (hx : l * B - L * b < 0) (hz : 0 < h * C - H * c) :
    Calls Try.prog 107 #[.agg #[.int .i64 l, .int .i64 b, .int .i64 h, .int .i64 c, .bool f, .bool g], .agg #[.int .i64 L, .int .i64 B, .int .i64 H, .int .i64 C, .bool F, .bool G]] w fun e w' => e = .returned (.agg #[.int .i64 (bif true then L else l), .int .i64 (bif true then B else b), .int .i64 (bif true then H else h), .int .i64 (bif true then C else c), .bool (bif true then F else f), .bool (bif true then G else g)]) ∧ Below w.heap.size w w' := by
  have p1 := m22 b_l b_B
  have p2 := m22 b_L b_b
  have p3 := m22 b_h b_C
  have p4 := m22 b_H b_c
  clear b_l b_b b_h b_c b_L b_B b_H b_C
  obtain ⟨p1, q1⟩ := p1
  obtain ⟨p2, q2⟩ := p2
  obtain ⟨p3, q3⟩ := p3
  obtain ⟨p4, q4⟩ := p4
  obtain ⟨x, ex⟩ : ∃ x, l * B - L * b = x := ⟨_, rfl⟩
  obtain ⟨z, ez⟩ : ∃ z, h * C - H * c = z := ⟨_, rfl⟩
  rw [ex] at hx
  rw [ez] at hz
  have r1 : -9223372036854775808 ≤ x := by omega
  have r2 : x ≤ 9223372036854775807 := by omega
  have r3 : -9223372036854775808 ≤ z := by omega
  have r4 : z ≤ 9223372036854775807 := by omega
  have dx1 : decide (x < 0) = true := decide_eq_true hx
  have dz1 : decide (0 < z) = true := decide_eq_true hz
  go_enter Try.func107, Try.ntmps107
  go_wp2
  refine bodyPost_ret (by simp [results, Try.results107, go_sem]) rfl ⟨rfl, ?_⟩
  repeat' (first | with_reducible assumption | with_reducible exact Below.refl _ _ | (with_reducible refine Below.setCell ?_ ?_ _) | (with_reducible refine Below.alloc ?_ ?_ _) | (with_reducible refine Below.drew ?_) | (with_reducible refine below_dr ?_ _) | (with_reducible refine Below.trans ?_ (Below.mono (by with_reducible assumption) ?_)) | omega | (simp; done) | (simp; omega))
set_option maxRecDepth 100000 in
set_option maxHeartbeats 3200000 in
theorem l13Meet_12 (l b h c L B H C : Int) (f g F G : Bool) (w : World) (b_l : -4194304 ≤ l ∧ l ≤ 4194304) (b_b : -4194304 ≤ b ∧ b ≤ 4194304) (b_h : -4194304 ≤ h ∧ h ≤ 4194304) (b_c : -4194304 ≤ c ∧ c ≤ 4194304) (b_L : -4194304 ≤ L ∧ L ≤ 4194304) (b_B : -4194304 ≤ B ∧ B ≤ 4194304) (b_H : -4194304 ≤ H ∧ H ≤ 4194304) (b_C : -4194304 ≤ C ∧ C ≤ 4194304) (hx : l * B - L * b < 0) (hz : h * C - H * c = 0) :
    Calls Try.prog 107 #[.agg #[.int .i64 l, .int .i64 b, .int .i64 h, .int .i64 c, .bool f, .bool g], .agg #[.int .i64 L, .int .i64 B, .int .i64 H, .int .i64 C, .bool F, .bool false]] w fun e w' => e = .returned (.agg #[.int .i64 (bif true then L else l), .int .i64 (bif true then B else b), .int .i64 (bif true then H else h), .int .i64 (bif true then C else c), .bool (bif true then F else f), .bool (bif true then false else g)]) ∧ Below w.heap.size w w' := by
  have p1 := m22 b_l b_B
  have p2 := m22 b_L b_b
  have p3 := m22 b_h b_C
  have p4 := m22 b_H b_c
  clear b_l b_b b_h b_c b_L b_B b_H b_C
  obtain ⟨p1, q1⟩ := p1
  obtain ⟨p2, q2⟩ := p2
  obtain ⟨p3, q3⟩ := p3
  obtain ⟨p4, q4⟩ := p4
  obtain ⟨x, ex⟩ : ∃ x, l * B - L * b = x := ⟨_, rfl⟩
  obtain ⟨z, ez⟩ : ∃ z, h * C - H * c = z := ⟨_, rfl⟩
  rw [ex] at hx
  rw [ez] at hz
  have r1 : -9223372036854775808 ≤ x := by omega
  have r2 : x ≤ 9223372036854775807 := by omega
  have r3 : -9223372036854775808 ≤ z := by omega
  have r4 : z ≤ 9223372036854775807 := by omega
  have dx1 : decide (x < 0) = true := decide_eq_true hx
  subst hz
  go_enter Try.func107, Try.ntmps107
  go_wp2
  refine bodyPost_ret (by simp [results, Try.results107, go_sem]) rfl ⟨rfl, ?_⟩
  repeat' (first | with_reducible assumption | with_reducible exact Below.refl _ _ | (with_reducible refine Below.setCell ?_ ?_ _) | (with_reducible refine Below.alloc ?_ ?_ _) | (with_reducible refine Below.drew ?_) | (with_reducible refine below_dr ?_ _) | (with_reducible refine Below.trans ?_ (Below.mono (by with_reducible assumption) ?_)) | omega | (simp; done) | (simp; omega))
set_option maxRecDepth 100000 in
set_option maxHeartbeats 3200000 in
theorem l13Meet_13 (l b h c L B H C : Int) (f g F G : Bool) (w : World) (b_l : -4194304 ≤ l ∧ l ≤ 4194304) (b_b : -4194304 ≤ b ∧ b ≤ 4194304) (b_h : -4194304 ≤ h ∧ h ≤ 4194304) (b_c : -4194304 ≤ c ∧ c ≤ 4194304) (b_L : -4194304 ≤ L ∧ L ≤ 4194304) (b_B : -4194304 ≤ B ∧ B ≤ 4194304) (b_H : -4194304 ≤ H ∧ H ≤ 4194304) (b_C : -4194304 ≤ C ∧ C ≤ 4194304) (hx : l * B - L * b < 0) (hz : h * C - H * c = 0) :
    Calls Try.prog 107 #[.agg #[.int .i64 l, .int .i64 b, .int .i64 h, .int .i64 c, .bool f, .bool g], .agg #[.int .i64 L, .int .i64 B, .int .i64 H, .int .i64 C, .bool F, .bool true]] w fun e w' => e = .returned (.agg #[.int .i64 (bif true then L else l), .int .i64 (bif true then B else b), .int .i64 (bif false then H else h), .int .i64 (bif false then C else c), .bool (bif true then F else f), .bool (bif false then true else g)]) ∧ Below w.heap.size w w' := by
  have p1 := m22 b_l b_B
  have p2 := m22 b_L b_b
  have p3 := m22 b_h b_C
  have p4 := m22 b_H b_c
  clear b_l b_b b_h b_c b_L b_B b_H b_C
  obtain ⟨p1, q1⟩ := p1
  obtain ⟨p2, q2⟩ := p2
  obtain ⟨p3, q3⟩ := p3
  obtain ⟨p4, q4⟩ := p4
  obtain ⟨x, ex⟩ : ∃ x, l * B - L * b = x := ⟨_, rfl⟩
  obtain ⟨z, ez⟩ : ∃ z, h * C - H * c = z := ⟨_, rfl⟩
  rw [ex] at hx
  rw [ez] at hz
  have r1 : -9223372036854775808 ≤ x := by omega
  have r2 : x ≤ 9223372036854775807 := by omega
  have r3 : -9223372036854775808 ≤ z := by omega
  have r4 : z ≤ 9223372036854775807 := by omega
  have dx1 : decide (x < 0) = true := decide_eq_true hx
  subst hz
  go_enter Try.func107, Try.ntmps107
  go_wp2
  refine bodyPost_ret (by simp [results, Try.results107, go_sem]) rfl ⟨rfl, ?_⟩
  repeat' (first | with_reducible assumption | with_reducible exact Below.refl _ _ | (with_reducible refine Below.setCell ?_ ?_ _) | (with_reducible refine Below.alloc ?_ ?_ _) | (with_reducible refine Below.drew ?_) | (with_reducible refine below_dr ?_ _) | (with_reducible refine Below.trans ?_ (Below.mono (by with_reducible assumption) ?_)) | omega | (simp; done) | (simp; omega))
set_option maxRecDepth 100000 in
set_option maxHeartbeats 3200000 in
theorem l13Meet_14 (l b h c L B H C : Int) (f g F G : Bool) (w : World) (b_l : -4194304 ≤ l ∧ l ≤ 4194304) (b_b : -4194304 ≤ b ∧ b ≤ 4194304) (b_h : -4194304 ≤ h ∧ h ≤ 4194304) (b_c : -4194304 ≤ c ∧ c ≤ 4194304) (b_L : -4194304 ≤ L ∧ L ≤ 4194304) (b_B : -4194304 ≤ B ∧ B ≤ 4194304) (b_H : -4194304 ≤ H ∧ H ≤ 4194304) (b_C : -4194304 ≤ C ∧ C ≤ 4194304) (hx : l * B - L * b < 0) (hz : h * C - H * c < 0) :
    Calls Try.prog 107 #[.agg #[.int .i64 l, .int .i64 b, .int .i64 h, .int .i64 c, .bool f, .bool g], .agg #[.int .i64 L, .int .i64 B, .int .i64 H, .int .i64 C, .bool F, .bool G]] w fun e w' => e = .returned (.agg #[.int .i64 (bif true then L else l), .int .i64 (bif true then B else b), .int .i64 (bif false then H else h), .int .i64 (bif false then C else c), .bool (bif true then F else f), .bool (bif false then G else g)]) ∧ Below w.heap.size w w' := by
  have p1 := m22 b_l b_B
  have p2 := m22 b_L b_b
  have p3 := m22 b_h b_C
  have p4 := m22 b_H b_c
  clear b_l b_b b_h b_c b_L b_B b_H b_C
  obtain ⟨p1, q1⟩ := p1
  obtain ⟨p2, q2⟩ := p2
  obtain ⟨p3, q3⟩ := p3
  obtain ⟨p4, q4⟩ := p4
  obtain ⟨x, ex⟩ : ∃ x, l * B - L * b = x := ⟨_, rfl⟩
  obtain ⟨z, ez⟩ : ∃ z, h * C - H * c = z := ⟨_, rfl⟩
  rw [ex] at hx
  rw [ez] at hz
  have r1 : -9223372036854775808 ≤ x := by omega
  have r2 : x ≤ 9223372036854775807 := by omega
  have r3 : -9223372036854775808 ≤ z := by omega
  have r4 : z ≤ 9223372036854775807 := by omega
  have dx1 : decide (x < 0) = true := decide_eq_true hx
  have dz1 : decide (0 < z) = false := decide_eq_false (by omega)
  have dz2 : (z == 0) = false := by simp; omega
  go_enter Try.func107, Try.ntmps107
  go_wp2
  refine bodyPost_ret (by simp [results, Try.results107, go_sem]) rfl ⟨rfl, ?_⟩
  repeat' (first | with_reducible assumption | with_reducible exact Below.refl _ _ | (with_reducible refine Below.setCell ?_ ?_ _) | (with_reducible refine Below.alloc ?_ ?_ _) | (with_reducible refine Below.drew ?_) | (with_reducible refine below_dr ?_ _) | (with_reducible refine Below.trans ?_ (Below.mono (by with_reducible assumption) ?_)) | omega | (simp; done) | (simp; omega))
set_option maxRecDepth 100000 in
set_option maxHeartbeats 3200000 in
theorem l13Meet_21 (l b h c L B H C : Int) (f g F G : Bool) (w : World) (b_l : -4194304 ≤ l ∧ l ≤ 4194304) (b_b : -4194304 ≤ b ∧ b ≤ 4194304) (b_h : -4194304 ≤ h ∧ h ≤ 4194304) (b_c : -4194304 ≤ c ∧ c ≤ 4194304) (b_L : -4194304 ≤ L ∧ L ≤ 4194304) (b_B : -4194304 ≤ B ∧ B ≤ 4194304) (b_H : -4194304 ≤ H ∧ H ≤ 4194304) (b_C : -4194304 ≤ C ∧ C ≤ 4194304) (hx : l * B - L * b = 0) (hz : 0 < h * C - H * c) :
    Calls Try.prog 107 #[.agg #[.int .i64 l, .int .i64 b, .int .i64 h, .int .i64 c, .bool f, .bool g], .agg #[.int .i64 L, .int .i64 B, .int .i64 H, .int .i64 C, .bool false, .bool G]] w fun e w' => e = .returned (.agg #[.int .i64 (bif true then L else l), .int .i64 (bif true then B else b), .int .i64 (bif true then H else h), .int .i64 (bif true then C else c), .bool (bif true then false else f), .bool (bif true then G else g)]) ∧ Below w.heap.size w w' := by
  have p1 := m22 b_l b_B
  have p2 := m22 b_L b_b
  have p3 := m22 b_h b_C
  have p4 := m22 b_H b_c
  clear b_l b_b b_h b_c b_L b_B b_H b_C
  obtain ⟨p1, q1⟩ := p1
  obtain ⟨p2, q2⟩ := p2
  obtain ⟨p3, q3⟩ := p3
  obtain ⟨p4, q4⟩ := p4
  obtain ⟨x, ex⟩ : ∃ x, l * B - L * b = x := ⟨_, rfl⟩
  obtain ⟨z, ez⟩ : ∃ z, h * C - H * c = z := ⟨_, rfl⟩
  rw [ex] at hx
  rw [ez] at hz
  have r1 : -9223372036854775808 ≤ x := by omega
  have r2 : x ≤ 9223372036854775807 := by omega
  have r3 : -9223372036854775808 ≤ z := by omega
  have r4 : z ≤ 9223372036854775807 := by omega
  subst hx
  have dz1 : decide (0 < z) = true := decide_eq_true hz
  go_enter Try.func107, Try.ntmps107
  go_wp2
  refine bodyPost_ret (by simp [results, Try.results107, go_sem]) rfl ⟨rfl, ?_⟩
  repeat' (first | with_reducible assumption | with_reducible exact Below.refl _ _ | (with_reducible refine Below.setCell ?_ ?_ _) | (with_reducible refine Below.alloc ?_ ?_ _) | (with_reducible refine Below.drew ?_) | (with_reducible refine below_dr ?_ _) | (with_reducible refine Below.trans ?_ (Below.mono (by with_reducible assumption) ?_)) | omega | (simp; done) | (simp; omega))
set_option maxRecDepth 100000 in
set_option maxHeartbeats 3200000 in
theorem l13Meet_22 (l b h c L B H C : Int) (f g F G : Bool) (w : World) (b_l : -4194304 ≤ l ∧ l ≤ 4194304) (b_b : -4194304 ≤ b ∧ b ≤ 4194304) (b_h : -4194304 ≤ h ∧ h ≤ 4194304) (b_c : -4194304 ≤ c ∧ c ≤ 4194304) (b_L : -4194304 ≤ L ∧ L ≤ 4194304) (b_B : -4194304 ≤ B ∧ B ≤ 4194304) (b_H : -4194304 ≤ H ∧ H ≤ 4194304) (b_C : -4194304 ≤ C ∧ C ≤ 4194304) (hx : l * B - L * b = 0) (hz : h * C - H * c = 0) :
    Calls Try.prog 107 #[.agg #[.int .i64 l, .int .i64 b, .int .i64 h, .int .i64 c, .bool f, .bool g], .agg #[.int .i64 L, .int .i64 B, .int .i64 H, .int .i64 C, .bool false, .bool false]] w fun e w' => e = .returned (.agg #[.int .i64 (bif true then L else l), .int .i64 (bif true then B else b), .int .i64 (bif true then H else h), .int .i64 (bif true then C else c), .bool (bif true then false else f), .bool (bif true then false else g)]) ∧ Below w.heap.size w w' := by
  have p1 := m22 b_l b_B
  have p2 := m22 b_L b_b
  have p3 := m22 b_h b_C
  have p4 := m22 b_H b_c
  clear b_l b_b b_h b_c b_L b_B b_H b_C
  obtain ⟨p1, q1⟩ := p1
  obtain ⟨p2, q2⟩ := p2
  obtain ⟨p3, q3⟩ := p3
  obtain ⟨p4, q4⟩ := p4
  obtain ⟨x, ex⟩ : ∃ x, l * B - L * b = x := ⟨_, rfl⟩
  obtain ⟨z, ez⟩ : ∃ z, h * C - H * c = z := ⟨_, rfl⟩
  rw [ex] at hx
  rw [ez] at hz
  have r1 : -9223372036854775808 ≤ x := by omega
  have r2 : x ≤ 9223372036854775807 := by omega
  have r3 : -9223372036854775808 ≤ z := by omega
  have r4 : z ≤ 9223372036854775807 := by omega
  subst hx
  subst hz
  go_enter Try.func107, Try.ntmps107
  go_wp2
  refine bodyPost_ret (by simp [results, Try.results107, go_sem]) rfl ⟨rfl, ?_⟩
  repeat' (first | with_reducible assumption | with_reducible exact Below.refl _ _ | (with_reducible refine Below.setCell ?_ ?_ _) | (with_reducible refine Below.alloc ?_ ?_ _) | (with_reducible refine Below.drew ?_) | (with_reducible refine below_dr ?_ _) | (with_reducible refine Below.trans ?_ (Below.mono (by with_reducible assumption) ?_)) | omega | (simp; done) | (simp; omega))
set_option maxRecDepth 100000 in
set_option maxHeartbeats 3200000 in
theorem l13Meet_23 (l b h c L B H C : Int) (f g F G : Bool) (w : World) (b_l : -4194304 ≤ l ∧ l ≤ 4194304) (b_b : -4194304 ≤ b ∧ b ≤ 4194304) (b_h : -4194304 ≤ h ∧ h ≤ 4194304) (b_c : -4194304 ≤ c ∧ c ≤ 4194304) (b_L : -4194304 ≤ L ∧ L ≤ 4194304) (b_B : -4194304 ≤ B ∧ B ≤ 4194304) (b_H : -4194304 ≤ H ∧ H ≤ 4194304) (b_C : -4194304 ≤ C ∧ C ≤ 4194304) (hx : l * B - L * b = 0) (hz : h * C - H * c = 0) :
    Calls Try.prog 107 #[.agg #[.int .i64 l, .int .i64 b, .int .i64 h, .int .i64 c, .bool f, .bool g], .agg #[.int .i64 L, .int .i64 B, .int .i64 H, .int .i64 C, .bool false, .bool true]] w fun e w' => e = .returned (.agg #[.int .i64 (bif true then L else l), .int .i64 (bif true then B else b), .int .i64 (bif false then H else h), .int .i64 (bif false then C else c), .bool (bif true then false else f), .bool (bif false then true else g)]) ∧ Below w.heap.size w w' := by
  have p1 := m22 b_l b_B
  have p2 := m22 b_L b_b
  have p3 := m22 b_h b_C
  have p4 := m22 b_H b_c
  clear b_l b_b b_h b_c b_L b_B b_H b_C
  obtain ⟨p1, q1⟩ := p1
  obtain ⟨p2, q2⟩ := p2
  obtain ⟨p3, q3⟩ := p3
  obtain ⟨p4, q4⟩ := p4
  obtain ⟨x, ex⟩ : ∃ x, l * B - L * b = x := ⟨_, rfl⟩
  obtain ⟨z, ez⟩ : ∃ z, h * C - H * c = z := ⟨_, rfl⟩
  rw [ex] at hx
  rw [ez] at hz
  have r1 : -9223372036854775808 ≤ x := by omega
  have r2 : x ≤ 9223372036854775807 := by omega
  have r3 : -9223372036854775808 ≤ z := by omega
  have r4 : z ≤ 9223372036854775807 := by omega
  subst hx
  subst hz
  go_enter Try.func107, Try.ntmps107
  go_wp2
  refine bodyPost_ret (by simp [results, Try.results107, go_sem]) rfl ⟨rfl, ?_⟩
  repeat' (first | with_reducible assumption | with_reducible exact Below.refl _ _ | (with_reducible refine Below.setCell ?_ ?_ _) | (with_reducible refine Below.alloc ?_ ?_ _) | (with_reducible refine Below.drew ?_) | (with_reducible refine below_dr ?_ _) | (with_reducible refine Below.trans ?_ (Below.mono (by with_reducible assumption) ?_)) | omega | (simp; done) | (simp; omega))
set_option maxRecDepth 100000 in
set_option maxHeartbeats 3200000 in
theorem l13Meet_24 (l b h c L B H C : Int) (f g F G : Bool) (w : World) (b_l : -4194304 ≤ l ∧ l ≤ 4194304) (b_b : -4194304 ≤ b ∧ b ≤ 4194304) (b_h : -4194304 ≤ h ∧ h ≤ 4194304) (b_c : -4194304 ≤ c ∧ c ≤ 4194304) (b_L : -4194304 ≤ L ∧ L ≤ 4194304) (b_B : -4194304 ≤ B ∧ B ≤ 4194304) (b_H : -4194304 ≤ H ∧ H ≤ 4194304) (b_C : -4194304 ≤ C ∧ C ≤ 4194304) (hx : l * B - L * b = 0) (hz : h * C - H * c < 0) :
    Calls Try.prog 107 #[.agg #[.int .i64 l, .int .i64 b, .int .i64 h, .int .i64 c, .bool f, .bool g], .agg #[.int .i64 L, .int .i64 B, .int .i64 H, .int .i64 C, .bool false, .bool G]] w fun e w' => e = .returned (.agg #[.int .i64 (bif true then L else l), .int .i64 (bif true then B else b), .int .i64 (bif false then H else h), .int .i64 (bif false then C else c), .bool (bif true then false else f), .bool (bif false then G else g)]) ∧ Below w.heap.size w w' := by
  have p1 := m22 b_l b_B
  have p2 := m22 b_L b_b
  have p3 := m22 b_h b_C
  have p4 := m22 b_H b_c
  clear b_l b_b b_h b_c b_L b_B b_H b_C
  obtain ⟨p1, q1⟩ := p1
  obtain ⟨p2, q2⟩ := p2
  obtain ⟨p3, q3⟩ := p3
  obtain ⟨p4, q4⟩ := p4
  obtain ⟨x, ex⟩ : ∃ x, l * B - L * b = x := ⟨_, rfl⟩
  obtain ⟨z, ez⟩ : ∃ z, h * C - H * c = z := ⟨_, rfl⟩
  rw [ex] at hx
  rw [ez] at hz
  have r1 : -9223372036854775808 ≤ x := by omega
  have r2 : x ≤ 9223372036854775807 := by omega
  have r3 : -9223372036854775808 ≤ z := by omega
  have r4 : z ≤ 9223372036854775807 := by omega
  subst hx
  have dz1 : decide (0 < z) = false := decide_eq_false (by omega)
  have dz2 : (z == 0) = false := by simp; omega
  go_enter Try.func107, Try.ntmps107
  go_wp2
  refine bodyPost_ret (by simp [results, Try.results107, go_sem]) rfl ⟨rfl, ?_⟩
  repeat' (first | with_reducible assumption | with_reducible exact Below.refl _ _ | (with_reducible refine Below.setCell ?_ ?_ _) | (with_reducible refine Below.alloc ?_ ?_ _) | (with_reducible refine Below.drew ?_) | (with_reducible refine below_dr ?_ _) | (with_reducible refine Below.trans ?_ (Below.mono (by with_reducible assumption) ?_)) | omega | (simp; done) | (simp; omega))
set_option maxRecDepth 100000 in
set_option maxHeartbeats 3200000 in
theorem l13Meet_31 (l b h c L B H C : Int) (f g F G : Bool) (w : World) (b_l : -4194304 ≤ l ∧ l ≤ 4194304) (b_b : -4194304 ≤ b ∧ b ≤ 4194304) (b_h : -4194304 ≤ h ∧ h ≤ 4194304) (b_c : -4194304 ≤ c ∧ c ≤ 4194304) (b_L : -4194304 ≤ L ∧ L ≤ 4194304) (b_B : -4194304 ≤ B ∧ B ≤ 4194304) (b_H : -4194304 ≤ H ∧ H ≤ 4194304) (b_C : -4194304 ≤ C ∧ C ≤ 4194304) (hx : l * B - L * b = 0) (hz : 0 < h * C - H * c) :
    Calls Try.prog 107 #[.agg #[.int .i64 l, .int .i64 b, .int .i64 h, .int .i64 c, .bool f, .bool g], .agg #[.int .i64 L, .int .i64 B, .int .i64 H, .int .i64 C, .bool true, .bool G]] w fun e w' => e = .returned (.agg #[.int .i64 (bif false then L else l), .int .i64 (bif false then B else b), .int .i64 (bif true then H else h), .int .i64 (bif true then C else c), .bool (bif false then true else f), .bool (bif true then G else g)]) ∧ Below w.heap.size w w' := by
  have p1 := m22 b_l b_B
  have p2 := m22 b_L b_b
  have p3 := m22 b_h b_C
  have p4 := m22 b_H b_c
  clear b_l b_b b_h b_c b_L b_B b_H b_C
  obtain ⟨p1, q1⟩ := p1
  obtain ⟨p2, q2⟩ := p2
  obtain ⟨p3, q3⟩ := p3
  obtain ⟨p4, q4⟩ := p4
  obtain ⟨x, ex⟩ : ∃ x, l * B - L * b = x := ⟨_, rfl⟩
  obtain ⟨z, ez⟩ : ∃ z, h * C - H * c = z := ⟨_, rfl⟩
  rw [ex] at hx
  rw [ez] at hz
  have r1 : -9223372036854775808 ≤ x := by omega
  have r2 : x ≤ 9223372036854775807 := by omega
  have r3 : -9223372036854775808 ≤ z := by omega
  have r4 : z ≤ 9223372036854775807 := by omega
  subst hx
  have dz1 : decide (0 < z) = true := decide_eq_true hz
  go_enter Try.func107, Try.ntmps107
  go_wp2
  refine bodyPost_ret (by simp [results, Try.results107, go_sem]) rfl ⟨rfl, ?_⟩
  repeat' (first | with_reducible assumption | with_reducible exact Below.refl _ _ | (with_reducible refine Below.setCell ?_ ?_ _) | (with_reducible refine Below.alloc ?_ ?_ _) | (with_reducible refine Below.drew ?_) | (with_reducible refine below_dr ?_ _) | (with_reducible refine Below.trans ?_ (Below.mono (by with_reducible assumption) ?_)) | omega | (simp; done) | (simp; omega))
set_option maxRecDepth 100000 in
set_option maxHeartbeats 3200000 in
theorem l13Meet_32 (l b h c L B H C : Int) (f g F G : Bool) (w : World) (b_l : -4194304 ≤ l ∧ l ≤ 4194304) (b_b : -4194304 ≤ b ∧ b ≤ 4194304) (b_h : -4194304 ≤ h ∧ h ≤ 4194304) (b_c : -4194304 ≤ c ∧ c ≤ 4194304) (b_L : -4194304 ≤ L ∧ L ≤ 4194304) (b_B : -4194304 ≤ B ∧ B ≤ 4194304) (b_H : -4194304 ≤ H ∧ H ≤ 4194304) (b_C : -4194304 ≤ C ∧ C ≤ 4194304) (hx : l * B - L * b = 0) (hz : h * C - H * c = 0) :
    Calls Try.prog 107 #[.agg #[.int .i64 l, .int .i64 b, .int .i64 h, .int .i64 c, .bool f, .bool g], .agg #[.int .i64 L, .int .i64 B, .int .i64 H, .int .i64 C, .bool true, .bool false]] w fun e w' => e = .returned (.agg #[.int .i64 (bif false then L else l), .int .i64 (bif false then B else b), .int .i64 (bif true then H else h), .int .i64 (bif true then C else c), .bool (bif false then true else f), .bool (bif true then false else g)]) ∧ Below w.heap.size w w' := by
  have p1 := m22 b_l b_B
  have p2 := m22 b_L b_b
  have p3 := m22 b_h b_C
  have p4 := m22 b_H b_c
  clear b_l b_b b_h b_c b_L b_B b_H b_C
  obtain ⟨p1, q1⟩ := p1
  obtain ⟨p2, q2⟩ := p2
  obtain ⟨p3, q3⟩ := p3
  obtain ⟨p4, q4⟩ := p4
  obtain ⟨x, ex⟩ : ∃ x, l * B - L * b = x := ⟨_, rfl⟩
  obtain ⟨z, ez⟩ : ∃ z, h * C - H * c = z := ⟨_, rfl⟩
  rw [ex] at hx
  rw [ez] at hz
  have r1 : -9223372036854775808 ≤ x := by omega
  have r2 : x ≤ 9223372036854775807 := by omega
  have r3 : -9223372036854775808 ≤ z := by omega
  have r4 : z ≤ 9223372036854775807 := by omega
  subst hx
  subst hz
  go_enter Try.func107, Try.ntmps107
  go_wp2
  refine bodyPost_ret (by simp [results, Try.results107, go_sem]) rfl ⟨rfl, ?_⟩
  repeat' (first | with_reducible assumption | with_reducible exact Below.refl _ _ | (with_reducible refine Below.setCell ?_ ?_ _) | (with_reducible refine Below.alloc ?_ ?_ _) | (with_reducible refine Below.drew ?_) | (with_reducible refine below_dr ?_ _) | (with_reducible refine Below.trans ?_ (Below.mono (by with_reducible assumption) ?_)) | omega | (simp; done) | (simp; omega))
set_option maxRecDepth 100000 in
set_option maxHeartbeats 3200000 in
theorem l13Meet_33 (l b h c L B H C : Int) (f g F G : Bool) (w : World) (b_l : -4194304 ≤ l ∧ l ≤ 4194304) (b_b : -4194304 ≤ b ∧ b ≤ 4194304) (b_h : -4194304 ≤ h ∧ h ≤ 4194304) (b_c : -4194304 ≤ c ∧ c ≤ 4194304) (b_L : -4194304 ≤ L ∧ L ≤ 4194304) (b_B : -4194304 ≤ B ∧ B ≤ 4194304) (b_H : -4194304 ≤ H ∧ H ≤ 4194304) (b_C : -4194304 ≤ C ∧ C ≤ 4194304) (hx : l * B - L * b = 0) (hz : h * C - H * c = 0) :
    Calls Try.prog 107 #[.agg #[.int .i64 l, .int .i64 b, .int .i64 h, .int .i64 c, .bool f, .bool g], .agg #[.int .i64 L, .int .i64 B, .int .i64 H, .int .i64 C, .bool true, .bool true]] w fun e w' => e = .returned (.agg #[.int .i64 (bif false then L else l), .int .i64 (bif false then B else b), .int .i64 (bif false then H else h), .int .i64 (bif false then C else c), .bool (bif false then true else f), .bool (bif false then true else g)]) ∧ Below w.heap.size w w' := by
  have p1 := m22 b_l b_B
  have p2 := m22 b_L b_b
  have p3 := m22 b_h b_C
  have p4 := m22 b_H b_c
  clear b_l b_b b_h b_c b_L b_B b_H b_C
  obtain ⟨p1, q1⟩ := p1
  obtain ⟨p2, q2⟩ := p2
  obtain ⟨p3, q3⟩ := p3
  obtain ⟨p4, q4⟩ := p4
  obtain ⟨x, ex⟩ : ∃ x, l * B - L * b = x := ⟨_, rfl⟩
  obtain ⟨z, ez⟩ : ∃ z, h * C - H * c = z := ⟨_, rfl⟩
  rw [ex] at hx
  rw [ez] at hz
  have r1 : -9223372036854775808 ≤ x := by omega
  have r2 : x ≤ 9223372036854775807 := by omega
  have r3 : -9223372036854775808 ≤ z := by omega
  have r4 : z ≤ 9223372036854775807 := by omega
  subst hx
  subst hz
  go_enter Try.func107, Try.ntmps107
  go_wp2
  refine bodyPost_ret (by simp [results, Try.results107, go_sem]) rfl ⟨rfl, ?_⟩
  repeat' (first | with_reducible assumption | with_reducible exact Below.refl _ _ | (with_reducible refine Below.setCell ?_ ?_ _) | (with_reducible refine Below.alloc ?_ ?_ _) | (with_reducible refine Below.drew ?_) | (with_reducible refine below_dr ?_ _) | (with_reducible refine Below.trans ?_ (Below.mono (by with_reducible assumption) ?_)) | omega | (simp; done) | (simp; omega))
set_option maxRecDepth 100000 in
set_option maxHeartbeats 3200000 in
theorem l13Meet_34 (l b h c L B H C : Int) (f g F G : Bool) (w : World) (b_l : -4194304 ≤ l ∧ l ≤ 4194304) (b_b : -4194304 ≤ b ∧ b ≤ 4194304) (b_h : -4194304 ≤ h ∧ h ≤ 4194304) (b_c : -4194304 ≤ c ∧ c ≤ 4194304) (b_L : -4194304 ≤ L ∧ L ≤ 4194304) (b_B : -4194304 ≤ B ∧ B ≤ 4194304) (b_H : -4194304 ≤ H ∧ H ≤ 4194304) (b_C : -4194304 ≤ C ∧ C ≤ 4194304) (hx : l * B - L * b = 0) (hz : h * C - H * c < 0) :
    Calls Try.prog 107 #[.agg #[.int .i64 l, .int .i64 b, .int .i64 h, .int .i64 c, .bool f, .bool g], .agg #[.int .i64 L, .int .i64 B, .int .i64 H, .int .i64 C, .bool true, .bool G]] w fun e w' => e = .returned (.agg #[.int .i64 (bif false then L else l), .int .i64 (bif false then B else b), .int .i64 (bif false then H else h), .int .i64 (bif false then C else c), .bool (bif false then true else f), .bool (bif false then G else g)]) ∧ Below w.heap.size w w' := by
  have p1 := m22 b_l b_B
  have p2 := m22 b_L b_b
  have p3 := m22 b_h b_C
  have p4 := m22 b_H b_c
  clear b_l b_b b_h b_c b_L b_B b_H b_C
  obtain ⟨p1, q1⟩ := p1
  obtain ⟨p2, q2⟩ := p2
  obtain ⟨p3, q3⟩ := p3
  obtain ⟨p4, q4⟩ := p4
  obtain ⟨x, ex⟩ : ∃ x, l * B - L * b = x := ⟨_, rfl⟩
  obtain ⟨z, ez⟩ : ∃ z, h * C - H * c = z := ⟨_, rfl⟩
  rw [ex] at hx
  rw [ez] at hz
  have r1 : -9223372036854775808 ≤ x := by omega
  have r2 : x ≤ 9223372036854775807 := by omega
  have r3 : -9223372036854775808 ≤ z := by omega
  have r4 : z ≤ 9223372036854775807 := by omega
  subst hx
  have dz1 : decide (0 < z) = false := decide_eq_false (by omega)
  have dz2 : (z == 0) = false := by simp; omega
  go_enter Try.func107, Try.ntmps107
  go_wp2
  refine bodyPost_ret (by simp [results, Try.results107, go_sem]) rfl ⟨rfl, ?_⟩
  repeat' (first | with_reducible assumption | with_reducible exact Below.refl _ _ | (with_reducible refine Below.setCell ?_ ?_ _) | (with_reducible refine Below.alloc ?_ ?_ _) | (with_reducible refine Below.drew ?_) | (with_reducible refine below_dr ?_ _) | (with_reducible refine Below.trans ?_ (Below.mono (by with_reducible assumption) ?_)) | omega | (simp; done) | (simp; omega))
set_option maxRecDepth 100000 in
set_option maxHeartbeats 3200000 in
theorem l13Meet_41 (l b h c L B H C : Int) (f g F G : Bool) (w : World) (b_l : -4194304 ≤ l ∧ l ≤ 4194304) (b_b : -4194304 ≤ b ∧ b ≤ 4194304) (b_h : -4194304 ≤ h ∧ h ≤ 4194304) (b_c : -4194304 ≤ c ∧ c ≤ 4194304) (b_L : -4194304 ≤ L ∧ L ≤ 4194304) (b_B : -4194304 ≤ B ∧ B ≤ 4194304) (b_H : -4194304 ≤ H ∧ H ≤ 4194304) (b_C : -4194304 ≤ C ∧ C ≤ 4194304) (hx : 0 < l * B - L * b) (hz : 0 < h * C - H * c) :
    Calls Try.prog 107 #[.agg #[.int .i64 l, .int .i64 b, .int .i64 h, .int .i64 c, .bool f, .bool g], .agg #[.int .i64 L, .int .i64 B, .int .i64 H, .int .i64 C, .bool F, .bool G]] w fun e w' => e = .returned (.agg #[.int .i64 (bif false then L else l), .int .i64 (bif false then B else b), .int .i64 (bif true then H else h), .int .i64 (bif true then C else c), .bool (bif false then F else f), .bool (bif true then G else g)]) ∧ Below w.heap.size w w' := by
  have p1 := m22 b_l b_B
  have p2 := m22 b_L b_b
  have p3 := m22 b_h b_C
  have p4 := m22 b_H b_c
  clear b_l b_b b_h b_c b_L b_B b_H b_C
  obtain ⟨p1, q1⟩ := p1
  obtain ⟨p2, q2⟩ := p2
  obtain ⟨p3, q3⟩ := p3
  obtain ⟨p4, q4⟩ := p4
  obtain ⟨x, ex⟩ : ∃ x, l * B - L * b = x := ⟨_, rfl⟩
  obtain ⟨z, ez⟩ : ∃ z, h * C - H * c = z := ⟨_, rfl⟩
  rw [ex] at hx
  rw [ez] at hz
  have r1 : -9223372036854775808 ≤ x := by omega
  have r2 : x ≤ 9223372036854775807 := by omega
  have r3 : -9223372036854775808 ≤ z := by omega
  have r4 : z ≤ 9223372036854775807 := by omega
  have dx1 : decide (x < 0) = false := decide_eq_false (by omega)
  have dx2 : (x == 0) = false := by simp; omega
  have dz1 : decide (0 < z) = true := decide_eq_true hz
  go_enter Try.func107, Try.ntmps107
  go_wp2
  refine bodyPost_ret (by simp [results, Try.results107, go_sem]) rfl ⟨rfl, ?_⟩
  repeat' (first | with_reducible assumption | with_reducible exact Below.refl _ _ | (with_reducible refine Below.setCell ?_ ?_ _) | (with_reducible refine Below.alloc ?_ ?_ _) | (with_reducible refine Below.drew ?_) | (with_reducible refine below_dr ?_ _) | (with_reducible refine Below.trans ?_ (Below.mono (by with_reducible assumption) ?_)) | omega | (simp; done) | (simp; omega))
set_option maxRecDepth 100000 in
set_option maxHeartbeats 3200000 in
theorem l13Meet_42 (l b h c L B H C : Int) (f g F G : Bool) (w : World) (b_l : -4194304 ≤ l ∧ l ≤ 4194304) (b_b : -4194304 ≤ b ∧ b ≤ 4194304) (b_h : -4194304 ≤ h ∧ h ≤ 4194304) (b_c : -4194304 ≤ c ∧ c ≤ 4194304) (b_L : -4194304 ≤ L ∧ L ≤ 4194304) (b_B : -4194304 ≤ B ∧ B ≤ 4194304) (b_H : -4194304 ≤ H ∧ H ≤ 4194304) (b_C : -4194304 ≤ C ∧ C ≤ 4194304) (hx : 0 < l * B - L * b) (hz : h * C - H * c = 0) :
    Calls Try.prog 107 #[.agg #[.int .i64 l, .int .i64 b, .int .i64 h, .int .i64 c, .bool f, .bool g], .agg #[.int .i64 L, .int .i64 B, .int .i64 H, .int .i64 C, .bool F, .bool false]] w fun e w' => e = .returned (.agg #[.int .i64 (bif false then L else l), .int .i64 (bif false then B else b), .int .i64 (bif true then H else h), .int .i64 (bif true then C else c), .bool (bif false then F else f), .bool (bif true then false else g)]) ∧ Below w.heap.size w w' := by
  have p1 := m22 b_l b_B
  have p2 := m22 b_L b_b
  have p3 := m22 b_h b_C
  have p4 := m22 b_H b_c
  clear b_l b_b b_h b_c b_L b_B b_H b_C
  obtain ⟨p1, q1⟩ := p1
  obtain ⟨p2, q2⟩ := p2
  obtain ⟨p3, q3⟩ := p3
  obtain ⟨p4, q4⟩ := p4
  obtain ⟨x, ex⟩ : ∃ x, l * B - L * b = x := ⟨_, rfl⟩
  obtain ⟨z, ez⟩ : ∃ z, h * C - H * c = z := ⟨_, rfl⟩
  rw [ex] at hx
  rw [ez] at hz
  have r1 : -9223372036854775808 ≤ x := by omega
  have r2 : x ≤ 9223372036854775807 := by omega
  have r3 : -9223372036854775808 ≤ z := by omega
  have r4 : z ≤ 9223372036854775807 := by omega
  have dx1 : decide (x < 0) = false := decide_eq_false (by omega)
  have dx2 : (x == 0) = false := by simp; omega
  subst hz
  go_enter Try.func107, Try.ntmps107
  go_wp2
  refine bodyPost_ret (by simp [results, Try.results107, go_sem]) rfl ⟨rfl, ?_⟩
  repeat' (first | with_reducible assumption | with_reducible exact Below.refl _ _ | (with_reducible refine Below.setCell ?_ ?_ _) | (with_reducible refine Below.alloc ?_ ?_ _) | (with_reducible refine Below.drew ?_) | (with_reducible refine below_dr ?_ _) | (with_reducible refine Below.trans ?_ (Below.mono (by with_reducible assumption) ?_)) | omega | (simp; done) | (simp; omega))
set_option maxRecDepth 100000 in
set_option maxHeartbeats 3200000 in
theorem l13Meet_43 (l b h c L B H C : Int) (f g F G : Bool) (w : World) (b_l : -4194304 ≤ l ∧ l ≤ 4194304) (b_b : -4194304 ≤ b ∧ b ≤ 4194304) (b_h : -4194304 ≤ h ∧ h ≤ 4194304) (b_c : -4194304 ≤ c ∧ c ≤ 4194304) (b_L : -4194304 ≤ L ∧ L ≤ 4194304) (b_B : -4194304 ≤ B ∧ B ≤ 4194304) (b_H : -4194304 ≤ H ∧ H ≤ 4194304) (b_C : -4194304 ≤ C ∧ C ≤ 4194304) (hx : 0 < l * B - L * b) (hz : h * C - H * c = 0) :
    Calls Try.prog 107 #[.agg #[.int .i64 l, .int .i64 b, .int .i64 h, .int .i64 c, .bool f, .bool g], .agg #[.int .i64 L, .int .i64 B, .int .i64 H, .int .i64 C, .bool F, .bool true]] w fun e w' => e = .returned (.agg #[.int .i64 (bif false then L else l), .int .i64 (bif false then B else b), .int .i64 (bif false then H else h), .int .i64 (bif false then C else c), .bool (bif false then F else f), .bool (bif false then true else g)]) ∧ Below w.heap.size w w' := by
  have p1 := m22 b_l b_B
  have p2 := m22 b_L b_b
  have p3 := m22 b_h b_C
  have p4 := m22 b_H b_c
  clear b_l b_b b_h b_c b_L b_B b_H b_C
  obtain ⟨p1, q1⟩ := p1
  obtain ⟨p2, q2⟩ := p2
  obtain ⟨p3, q3⟩ := p3
  obtain ⟨p4, q4⟩ := p4
  obtain ⟨x, ex⟩ : ∃ x, l * B - L * b = x := ⟨_, rfl⟩
  obtain ⟨z, ez⟩ : ∃ z, h * C - H * c = z := ⟨_, rfl⟩
  rw [ex] at hx
  rw [ez] at hz
  have r1 : -9223372036854775808 ≤ x := by omega
  have r2 : x ≤ 9223372036854775807 := by omega
  have r3 : -9223372036854775808 ≤ z := by omega
  have r4 : z ≤ 9223372036854775807 := by omega
  have dx1 : decide (x < 0) = false := decide_eq_false (by omega)
  have dx2 : (x == 0) = false := by simp; omega
  subst hz
  go_enter Try.func107, Try.ntmps107
  go_wp2
  refine bodyPost_ret (by simp [results, Try.results107, go_sem]) rfl ⟨rfl, ?_⟩
  repeat' (first | with_reducible assumption | with_reducible exact Below.refl _ _ | (with_reducible refine Below.setCell ?_ ?_ _) | (with_reducible refine Below.alloc ?_ ?_ _) | (with_reducible refine Below.drew ?_) | (with_reducible refine below_dr ?_ _) | (with_reducible refine Below.trans ?_ (Below.mono (by with_reducible assumption) ?_)) | omega | (simp; done) | (simp; omega))
set_option maxRecDepth 100000 in
set_option maxHeartbeats 3200000 in
theorem l13Meet_44 (l b h c L B H C : Int) (f g F G : Bool) (w : World) (b_l : -4194304 ≤ l ∧ l ≤ 4194304) (b_b : -4194304 ≤ b ∧ b ≤ 4194304) (b_h : -4194304 ≤ h ∧ h ≤ 4194304) (b_c : -4194304 ≤ c ∧ c ≤ 4194304) (b_L : -4194304 ≤ L ∧ L ≤ 4194304) (b_B : -4194304 ≤ B ∧ B ≤ 4194304) (b_H : -4194304 ≤ H ∧ H ≤ 4194304) (b_C : -4194304 ≤ C ∧ C ≤ 4194304) (hx : 0 < l * B - L * b) (hz : h * C - H * c < 0) :
    Calls Try.prog 107 #[.agg #[.int .i64 l, .int .i64 b, .int .i64 h, .int .i64 c, .bool f, .bool g], .agg #[.int .i64 L, .int .i64 B, .int .i64 H, .int .i64 C, .bool F, .bool G]] w fun e w' => e = .returned (.agg #[.int .i64 (bif false then L else l), .int .i64 (bif false then B else b), .int .i64 (bif false then H else h), .int .i64 (bif false then C else c), .bool (bif false then F else f), .bool (bif false then G else g)]) ∧ Below w.heap.size w w' := by
  have p1 := m22 b_l b_B
  have p2 := m22 b_L b_b
  have p3 := m22 b_h b_C
  have p4 := m22 b_H b_c
  clear b_l b_b b_h b_c b_L b_B b_H b_C
  obtain ⟨p1, q1⟩ := p1
  obtain ⟨p2, q2⟩ := p2
  obtain ⟨p3, q3⟩ := p3
  obtain ⟨p4, q4⟩ := p4
  obtain ⟨x, ex⟩ : ∃ x, l * B - L * b = x := ⟨_, rfl⟩
  obtain ⟨z, ez⟩ : ∃ z, h * C - H * c = z := ⟨_, rfl⟩
  rw [ex] at hx
  rw [ez] at hz
  have r1 : -9223372036854775808 ≤ x := by omega
  have r2 : x ≤ 9223372036854775807 := by omega
  have r3 : -9223372036854775808 ≤ z := by omega
  have r4 : z ≤ 9223372036854775807 := by omega
  have dx1 : decide (x < 0) = false := decide_eq_false (by omega)
  have dx2 : (x == 0) = false := by simp; omega
  have dz1 : decide (0 < z) = false := decide_eq_false (by omega)
  have dz2 : (z == 0) = false := by simp; omega
  go_enter Try.func107, Try.ntmps107
  go_wp2
  refine bodyPost_ret (by simp [results, Try.results107, go_sem]) rfl ⟨rfl, ?_⟩
  repeat' (first | with_reducible assumption | with_reducible exact Below.refl _ _ | (with_reducible refine Below.setCell ?_ ?_ _) | (with_reducible refine Below.alloc ?_ ?_ _) | (with_reducible refine Below.drew ?_) | (with_reducible refine below_dr ?_ _) | (with_reducible refine Below.trans ?_ (Below.mono (by with_reducible assumption) ?_)) | omega | (simp; done) | (simp; omega))
set_option maxRecDepth 100000 in
set_option maxHeartbeats 3200000 in
theorem l13Meet_any (l b h c L B H C : Int) (f g F G : Bool) (w : World) (b_l : -4194304 ≤ l ∧ l ≤ 4194304) (b_b : -4194304 ≤ b ∧ b ≤ 4194304) (b_h : -4194304 ≤ h ∧ h ≤ 4194304) (b_c : -4194304 ≤ c ∧ c ≤ 4194304) (b_L : -4194304 ≤ L ∧ L ≤ 4194304) (b_B : -4194304 ≤ B ∧ B ≤ 4194304) (b_H : -4194304 ≤ H ∧ H ≤ 4194304) (b_C : -4194304 ≤ C ∧ C ≤ 4194304) :
    Calls Try.prog 107 #[.agg #[.int .i64 l, .int .i64 b, .int .i64 h, .int .i64 c, .bool f, .bool g], .agg #[.int .i64 L, .int .i64 B, .int .i64 H, .int .i64 C, .bool F, .bool G]] w fun e w' => e = .returned (.agg #[.int .i64 (bif takeLo l b L B F then L else l), .int .i64 (bif takeLo l b L B F then B else b), .int .i64 (bif takeHi h c H C G then H else h), .int .i64 (bif takeHi h c H C G then C else c), .bool (bif takeLo l b L B F then F else f), .bool (bif takeHi h c H C G then G else g)]) ∧ Below w.heap.size w w' := by
  rcases Int.lt_trichotomy (l * B - L * b) 0 with hx | hx | hx
  · rw [tLo1 hx]
    rcases Int.lt_trichotomy (h * C - H * c) 0 with hz | hz | hz
    · rw [tHi4 hz]
      exact l13Meet_14 l b h c L B H C f g F G w b_l b_b b_h b_c b_L b_B b_H b_C hx hz
    · rcases G with _ | _
      · rw [tHi2 hz]
        exact l13Meet_12 l b h c L B H C f g F false w b_l b_b b_h b_c b_L b_B b_H b_C hx hz
      · rw [tHi3 hz]
        exact l13Meet_13 l b h c L B H C f g F true w b_l b_b b_h b_c b_L b_B b_H b_C hx hz
    · rw [tHi1 hz]
      exact l13Meet_11 l b h c L B H C f g F G w b_l b_b b_h b_c b_L b_B b_H b_C hx hz
  · rcases F with _ | _
    · rw [tLo2 hx]
      rcases Int.lt_trichotomy (h * C - H * c) 0 with hz | hz | hz
      · rw [tHi4 hz]
        exact l13Meet_24 l b h c L B H C f g false G w b_l b_b b_h b_c b_L b_B b_H b_C hx hz
      · rcases G with _ | _
        · rw [tHi2 hz]
          exact l13Meet_22 l b h c L B H C f g false false w b_l b_b b_h b_c b_L b_B b_H b_C hx hz
        · rw [tHi3 hz]
          exact l13Meet_23 l b h c L B H C f g false true w b_l b_b b_h b_c b_L b_B b_H b_C hx hz
      · rw [tHi1 hz]
        exact l13Meet_21 l b h c L B H C f g false G w b_l b_b b_h b_c b_L b_B b_H b_C hx hz
    · rw [tLo3 hx]
      rcases Int.lt_trichotomy (h * C - H * c) 0 with hz | hz | hz
      · rw [tHi4 hz]
        exact l13Meet_34 l b h c L B H C f g true G w b_l b_b b_h b_c b_L b_B b_H b_C hx hz
      · rcases G with _ | _
        · rw [tHi2 hz]
          exact l13Meet_32 l b h c L B H C f g true false w b_l b_b b_h b_c b_L b_B b_H b_C hx hz
        · rw [tHi3 hz]
          exact l13Meet_33 l b h c L B H C f g true true w b_l b_b b_h b_c b_L b_B b_H b_C hx hz
      · rw [tHi1 hz]
        exact l13Meet_31 l b h c L B H C f g true G w b_l b_b b_h b_c b_L b_B b_H b_C hx hz
  · rw [tLo4 hx]
    rcases Int.lt_trichotomy (h * C - H * c) 0 with hz | hz | hz
    · rw [tHi4 hz]
      exact l13Meet_44 l b h c L B H C f g F G w b_l b_b b_h b_c b_L b_B b_H b_C hx hz
    · rcases G with _ | _
      · rw [tHi2 hz]
        exact l13Meet_42 l b h c L B H C f g F false w b_l b_b b_h b_c b_L b_B b_H b_C hx hz
      · rw [tHi3 hz]
        exact l13Meet_43 l b h c L B H C f g F true w b_l b_b b_h b_c b_L b_B b_H b_C hx hz
    · rw [tHi1 hz]
      exact l13Meet_41 l b h c L B H C f g F G w b_l b_b b_h b_c b_L b_B b_H b_C hx hz
end Go.Proofs.Ytnlhofepobkljaa
