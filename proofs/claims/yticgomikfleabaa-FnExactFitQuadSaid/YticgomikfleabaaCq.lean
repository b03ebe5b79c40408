/- Walks: the construction of de Casteljau, the program's side. -/
import Derived.Test.YticgomikfleabaaCa
import Derived.Test.YticgomikfleabaaPv
namespace Go.Proofs.Yticgomikfleabaa
open Go.RowKit
def lpI (n t x y : Int) : Int := (n - t) * x + t * y
theorem lp_bound {n t x y B : Int} (hn : n ≤ 64) (h0 : 0 ≤ t) (h1 : t ≤ n) (hx : -B ≤ x ∧ x ≤ B) (hy : -B ≤ y ∧ y ≤ B) :
    (-(64 * B) ≤ (n - t) * x ∧ (n - t) * x ≤ 64 * B) ∧ (-(64 * B) ≤ t * y ∧ t * y ≤ 64 * B) ∧ (-(64 * B) ≤ lpI n t x y ∧ lpI n t x y ≤ 64 * B) := by
  have hB : 0 ≤ B := by omega
  have a1 : (n - t) * x ≤ (n - t) * B := Int.mul_le_mul_of_nonneg_left hx.2 (by omega)
  have a2 : (n - t) * (-B) ≤ (n - t) * x := Int.mul_le_mul_of_nonneg_left hx.1 (by omega)
  have b1 : t * y ≤ t * B := Int.mul_le_mul_of_nonneg_left hy.2 h0
  have b2 : t * (-B) ≤ t * y := Int.mul_le_mul_of_nonneg_left hy.1 h0
  rw [Int.mul_neg] at a2 b2
  have c1 : (n - t) * B ≤ 64 * B := Int.mul_le_mul_of_nonneg_right (by omega) hB
  have c2 : t * B ≤ 64 * B := Int.mul_le_mul_of_nonneg_right (by omega) hB
  have c3 : (n - t) * B + t * B ≤ 64 * B := by rw [← Int.add_mul]; exact Int.mul_le_mul_of_nonneg_right (by omega) hB
  unfold lpI
  omega
theorem lerp_step (n T x0 y0 x1 y1 B : Int) (hn : n ≤ 64) (h0 : 0 ≤ T) (h1 : T ≤ n) (hB : B ≤ 17179869184) (h2 : -B ≤ x0 ∧ x0 ≤ B) (h3 : -B ≤ y0 ∧ y0 ≤ B) (h4 : -B ≤ x1 ∧ x1 ≤ B) (h5 : -B ≤ y1 ∧ y1 ≤ B) :
    ∃ u0 u1 v0 v1 r0 r1 : Int, (∀ w, Calls Try.prog 67 #[.agg #[.int .i64 x0, .int .i64 y0], .int .i64 (n - T)] w fun e w' => e = .returned (.agg #[.int .i64 u0, .int .i64 u1]) ∧ Below w.heap.size w w') ∧
      (∀ w, Calls Try.prog 67 #[.agg #[.int .i64 x1, .int .i64 y1], .int .i64 T] w fun e w' => e = .returned (.agg #[.int .i64 v0, .int .i64 v1]) ∧ Below w.heap.size w w') ∧
      (∀ w, Calls Try.prog 68 #[.agg #[.int .i64 u0, .int .i64 u1], .agg #[.int .i64 v0, .int .i64 v1]] w fun e w' => e = .returned (.agg #[.int .i64 r0, .int .i64 r1]) ∧ Below w.heap.size w w') ∧
      r0 = lpI n T x0 x1 ∧ r1 = lpI n T y0 y1 ∧ (-(64 * B) ≤ r0 ∧ r0 ≤ 64 * B) ∧ (-(64 * B) ≤ r1 ∧ r1 ≤ 64 * B) := by
  obtain ⟨a1, a2, a3⟩ := lp_bound (B := B) hn h0 h1 h2 h4
  obtain ⟨b1, b2, b3⟩ := lp_bound (B := B) hn h0 h1 h3 h5
  refine ⟨(n - T) * x0, (n - T) * y0, T * x1, T * y1, lpI n T x0 x1, lpI n T y0 y1, fun w => times_g x0 y0 (n - T) w (by omega) (by omega), fun w => times_g x1 y1 T w (by omega) (by omega), fun w => plus_g _ _ _ _ w ?_ ?_, rfl, rfl, a3, b3⟩
  · show -9223372036854775808 ≤ lpI n T x0 x1 ∧ lpI n T x0 x1 ≤ 9223372036854775807
    omega
  · show -9223372036854775808 ≤ lpI n T y0 y1 ∧ lpI n T y0 y1 ≤ 9223372036854775807
    omega
def tl (k late left : Int) : Int := if left ≤ late then k + 1 else k
theorem tl_cases {k n late left : Int} (hk0 : 0 ≤ k) (hk : k ≤ n) (hl : late ≤ 0 ∨ k + 1 ≤ n) (hq : 1 ≤ left) : (0 ≤ tl k late left ∧ tl k late left ≤ n) ∧ (left ≤ late ∧ tl k late left = k + 1 ∨ late < left ∧ tl k late left = k) := by
  unfold tl; split <;> omega
/-- The rounds of de Casteljau: r of them done. -/
def casF (n k late : Int) (D : Nat) (X : Nat → Int) : Nat → Nat → Int
  | 0, q => X q
  | r + 1, q => if q < D - r then lpI n (tl k late ((D - r : Nat) : Int)) (casF n k late D X r q) (casF n k late D X r (q + 1)) else casF n k late D X r q
/-- Within a round: the first i are done. -/
def casG (n T : Int) (F : Nat → Int) (i q : Nat) : Int := if q < i then lpI n T (F q) (F (q + 1)) else F q
theorem casG_zero (n T : Int) (F : Nat → Int) : casG n T F 0 = F := by funext q; simp [casG]
theorem casG_step (n T : Int) (F : Nat → Int) (i : Nat) : (fun q => if q = i then lpI n T (F i) (F (i + 1)) else casG n T F i q) = casG n T F (i + 1) := by
  funext q
  unfold casG
  by_cases h : q = i
  · subst h; simp
  · by_cases h2 : q < i
    · simp [h, h2, show q < i + 1 by omega]
    · simp [h, h2, show ¬ q < i + 1 by omega]
theorem casG_at (n T : Int) (F : Nat → Int) (i : Nat) : casG n T F i i = F i := by simp [casG]
theorem casG_at1 (n T : Int) (F : Nat → Int) (i : Nat) : casG n T F i (i + 1) = F (i + 1) := by simp [casG]; intro h; omega
theorem casF_succ (n k late : Int) (D : Nat) (X : Nat → Int) (j : Nat) (h1 : 1 ≤ j) (h2 : j ≤ D) : casG n (tl k late (j : Int)) (casF n k late D X (D - j)) j = casF n k late D X (D - (j - 1)) := by
  funext q
  rw [show D - (j - 1) = (D - j) + 1 by omega]
  unfold casG
  conv => rhs; unfold casF
  rw [show D - (D - j) = j by omega]
theorem casF_bound {n k late : Int} {D : Nat} {X : Nat → Int} (hn : n ≤ 64) (hk0 : 0 ≤ k) (hk : k ≤ n) (hl : late ≤ 0 ∨ k + 1 ≤ n) (hX : ∀ q, q ≤ D → -262144 ≤ X q ∧ X q ≤ 262144) :
    ∀ r, r ≤ D → ∀ q, q ≤ D → -(262144 * 64 ^ r) ≤ casF n k late D X r q ∧ casF n k late D X r q ≤ 262144 * 64 ^ r
  | 0, _, q, hq => by simpa [casF] using hX q hq
  | r + 1, hr, q, hq => by
    have ih := casF_bound (late := late) hn hk0 hk hl hX r (by omega)
    have hp : (0 : Int) < 64 ^ r := Int.pow_pos (by omega)
    rw [Int.pow_succ]
    unfold casF
    split
    case isTrue h =>
      have a := ih q hq
      have b := ih (q + 1) (by omega)
      have c := (tl_cases (late := late) (left := ((D - r : Nat) : Int)) hk0 hk hl (by omega)).1
      have d := (lp_bound (B := 262144 * 64 ^ r) hn c.1 c.2 a b).2.2
      rw [show (262144 : Int) * (64 ^ r * 64) = 64 * (262144 * 64 ^ r) by rw [Int.mul_comm (64 ^ r) 64, ← Int.mul_assoc, Int.mul_comm 262144 64, Int.mul_assoc]]
      exact d
    case isFalse h =>
      have a := ih q hq
      omega
def arr4 (X Y : Nat → Int) : Array Value := #[.int .i64 (X 0), .int .i64 (Y 0), .int .i64 (X 1), .int .i64 (Y 1), .int .i64 (X 2), .int .i64 (Y 2), .int .i64 (X 3), .int .i64 (Y 3)]
theorem arr4_x {X Y : Nat → Int} {i : Nat} (h : i < 4) : (arr4 X Y)[i * 2]? = some (.int .i64 (X i)) := by
  match i, h with
  | 0, _ => rfl
  | 1, _ => rfl
  | 2, _ => rfl
  | 3, _ => rfl
theorem arr4_y {X Y : Nat → Int} {i : Nat} (h : i < 4) : (arr4 X Y)[i * 2 + 1]? = some (.int .i64 (Y i)) := by
  match i, h with
  | 0, _ => rfl
  | 1, _ => rfl
  | 2, _ => rfl
  | 3, _ => rfl
theorem arr4_set {X Y : Nat → Int} {i : Nat} (h : i < 4) (u v : Int) : ((arr4 X Y).setIfInBounds (i * 2) (.int .i64 u)).setIfInBounds (i * 2 + 1) (.int .i64 v) = arr4 (fun q => if q = i then u else X q) (fun q => if q = i then v else Y q) := by
  match i, h with
  | 0, _ => rfl
  | 1, _ => rfl
  | 2, _ => rfl
  | 3, _ => rfl
def arr3 (X Y : Nat → Int) : Array Value := #[.int .i64 (X 0), .int .i64 (Y 0), .int .i64 (X 1), .int .i64 (Y 1), .int .i64 (X 2), .int .i64 (Y 2)]
theorem arr3_x {X Y : Nat → Int} {i : Nat} (h : i < 3) : (arr3 X Y)[i * 2]? = some (.int .i64 (X i)) := by
  match i, h with
  | 0, _ => rfl
  | 1, _ => rfl
  | 2, _ => rfl
theorem arr3_y {X Y : Nat → Int} {i : Nat} (h : i < 3) : (arr3 X Y)[i * 2 + 1]? = some (.int .i64 (Y i)) := by
  match i, h with
  | 0, _ => rfl
  | 1, _ => rfl
  | 2, _ => rfl
theorem arr3_set {X Y : Nat → Int} {i : Nat} (h : i < 3) (u v : Int) : ((arr3 X Y).setIfInBounds (i * 2) (.int .i64 u)).setIfInBounds (i * 2 + 1) (.int .i64 v) = arr3 (fun q => if q = i then u else X q) (fun q => if q = i then v else Y q) := by
  match i, h with
  | 0, _ => rfl
  | 1, _ => rfl
  | 2, _ => rfl
set_option maxRecDepth 100000 in
set_option maxHeartbeats 12800000 in
theorem blossom4_any (m0 m1 m2 m3 m4 m5 m6 m7 k n late : Int) (w : World) (hok : okC m0 m1 m2 m3 m4 m5 m6 m7 = true) (hn0 : 1 ≤ n) (hn : n ≤ 64) (hk0 : 0 ≤ k) (hk : k ≤ n) (hl : late ≤ 0 ∨ k + 1 ≤ n) :
    Calls Try.prog 102 #[.agg #[.int .i64 m0, .int .i64 m1, .int .i64 m2, .int .i64 m3, .int .i64 m4, .int .i64 m5, .int .i64 m6, .int .i64 m7], .int .i64 k, .int .i64 n, .int .i64 late] w fun e w' => e = .returned (.agg #[.int .i64 (casF n k late 3 (fun q => [m0, m2, m4, m6].getD q 0) 3 0), .int .i64 (casF n k late 3 (fun q => [m1, m3, m5, m7].getD q 0) 3 0)]) ∧ Below w.heap.size w w' := by
  unfold okC at hok
  simp only [Bool.and_eq_true] at hok
  obtain ⟨⟨⟨h0, h1⟩, h2⟩, h3⟩ := hok
  obtain ⟨b00, b01, b02, b03⟩ := okB_bounds h0
  obtain ⟨b10, b11, b12, b13⟩ := okB_bounds h1
  obtain ⟨b20, b21, b22, b23⟩ := okB_bounds h2
  obtain ⟨b30, b31, b32, b33⟩ := okB_bounds h3
  clear h0 h1 h2 h3
  have hX : ∀ q, q ≤ 3 → -262144 ≤ (fun q => [m0, m2, m4, m6].getD q 0) q ∧ (fun q => [m0, m2, m4, m6].getD q 0) q ≤ 262144 := by
    intro q hq
    match q, hq with
    | 0, _ => exact ⟨b00, b01⟩
    | 1, _ => exact ⟨b10, b11⟩
    | 2, _ => exact ⟨b20, b21⟩
    | 3, _ => exact ⟨b30, b31⟩
  have hY : ∀ q, q ≤ 3 → -262144 ≤ (fun q => [m1, m3, m5, m7].getD q 0) q ∧ (fun q => [m1, m3, m5, m7].getD q 0) q ≤ 262144 := by
    intro q hq
    match q, hq with
    | 0, _ => exact ⟨b02, b03⟩
    | 1, _ => exact ⟨b12, b13⟩
    | 2, _ => exact ⟨b22, b23⟩
    | 3, _ => exact ⟨b32, b33⟩
  have h0x : (#[.int .i64 m0, .int .i64 m1, .int .i64 m2, .int .i64 m3, .int .i64 m4, .int .i64 m5, .int .i64 m6, .int .i64 m7] : Array Value) = arr4 (fun q => [m0, m2, m4, m6].getD q 0) (fun q => [m1, m3, m5, m7].getD q 0) := rfl
  clear b00 b01 b02 b03 b10 b11 b12 b13 b20 b21 b22 b23 b30 b31 b32 b33
  rw [h0x]
  clear h0x
  generalize (fun q => [m0, m2, m4, m6].getD q 0) = X at *
  generalize (fun q => [m1, m3, m5, m7].getD q 0) = Y at *
  have BX := casF_bound (late := late) hn hk0 hk hl hX
  have BY := casF_bound (late := late) hn hk0 hk hl hY
  clear hX hY
  have HX := Lib.hid (show ∀ j, 1 ≤ j → j ≤ 3 → ∀ q, q ≤ 3 → -1073741824 ≤ casF n k late 3 X (3 - j) q ∧ casF n k late 3 X (3 - j) q ≤ 1073741824 from fun j h1 h2 q hq => by have h := BX (3 - j) (by omega) q hq; match j, h1, h2 with | 1, _, _ => (simp only [Nat.reduceSub, Int.reducePow, Int.reduceMul] at h ⊢; omega) | 2, _, _ => (simp only [Nat.reduceSub, Int.reducePow, Int.reduceMul] at h ⊢; omega) | 3, _, _ => (simp only [Nat.reduceSub, Int.reducePow, Int.reduceMul] at h ⊢; omega))
  have HY := Lib.hid (show ∀ j, 1 ≤ j → j ≤ 3 → ∀ q, q ≤ 3 → -1073741824 ≤ casF n k late 3 Y (3 - j) q ∧ casF n k late 3 Y (3 - j) q ≤ 1073741824 from fun j h1 h2 q hq => by have h := BY (3 - j) (by omega) q hq; match j, h1, h2 with | 1, _, _ => (simp only [Nat.reduceSub, Int.reducePow, Int.reduceMul] at h ⊢; omega) | 2, _, _ => (simp only [Nat.reduceSub, Int.reducePow, Int.reduceMul] at h ⊢; omega) | 3, _, _ => (simp only [Nat.reduceSub, Int.reducePow, Int.reduceMul] at h ⊢; omega))
  clear BX BY
  have HU := Lib.hid (show arr4 (casF n k late 3 X (3 - 3)) (casF n k late 3 Y (3 - 3)) = arr4 X Y from by simp only [Nat.sub_self]; rfl)
  have HTL := Lib.hid (fun (left : Int) (h : 1 ≤ left) => tl_cases (k := k) (n := n) (late := late) (left := left) hk0 hk hl h)
  clear hl
  show Calls Try.prog 102 #[.agg #[.int .i64 (X 0), .int .i64 (Y 0), .int .i64 (X 1), .int .i64 (Y 1), .int .i64 (X 2), .int .i64 (Y 2), .int .i64 (X 3), .int .i64 (Y 3)], _, _, _] w _
  go_enter Try.func102, Try.ntmps102
  go_wp2_with fail
  generalize hW : (((w.alloc (.cells #[.int .i64 (X 0), .int .i64 (Y 0), .int .i64 (X 1), .int .i64 (Y 1), .int .i64 (X 2), .int .i64 (Y 2), .int .i64 (X 3), .int .i64 (Y 3)] 93)).alloc (.cells #[.int .i64 0, .int .i64 0] 29)).alloc (.cells #[.int .i64 (X 0), .int .i64 (Y 0), .int .i64 (X 1), .int .i64 (Y 1), .int .i64 (X 2), .int .i64 (Y 2), .int .i64 (X 3), .int .i64 (Y 3)] 91)) = W0
  have b2 : Blk W0 (w.heap.size + 1 + 1) 91 (arr4 (casF n k late 3 X (3 - 3)) (casF n k late 3 Y (3 - 3))) := by rw [HU.out, ← hW]; exact Blk.newAt _ _ _ (by simp)
  have b1 : Blk W0 (w.heap.size + 1) 29 #[.int .i64 0, .int .i64 0] := by rw [← hW]; exact (Blk.newAt _ _ _ (by simp)).alloc _
  have g0 : Below w.heap.size w W0 := by rw [← hW]; repeat' (first | with_reducible assumption | with_reducible exact Below.refl _ _ | (with_reducible refine Below.setCell ?_ ?_ _) | (with_reducible refine Below.alloc ?_ ?_ _) | (with_reducible refine Below.drew ?_) | (with_reducible refine below_dr ?_ _) | (with_reducible refine Below.trans ?_ (Below.mono (by with_reducible assumption) ?_)) | omega | (simp; done) | (simp; omega))
  clear hW
  go_loopw [10] (fun v wr => ∃ j : Nat, j ≤ 3 ∧ v = .int .i64 j ∧ Blk wr (w.heap.size + 1 + 1) 91 (arr4 (casF n k late 3 X (3 - j)) (casF n k late 3 Y (3 - j))) ∧ Blk wr (w.heap.size + 1) 29 #[.int .i64 0, .int .i64 0] ∧ Below w.heap.size w wr) (fun v _ => (intOf v).toNat)
  case atStart => exact ⟨3, by omega, rfl, b2, b1, g0⟩
  case round =>
    clear b2 b1 g0
    obtain ⟨j, hj, rfl, b2, b1, g0⟩ := hrel
    have lt2 := b2.lt
    by_cases hlt : 1 ≤ j
    case neg =>
      obtain rfl : j = 0 := by omega
      have y0 : wr.cell? ⟨w.heap.size + 1 + 1, 0, none⟩ = some (.int .i64 (casF n k late 3 X 3 0)) := b2.cell 0 rfl
      have y1 : wr.cell? ⟨w.heap.size + 1 + 1, 1, none⟩ = some (.int .i64 (casF n k late 3 Y 3 0)) := b2.cell 1 rfl
      have f0 := b1.frozen 0
      have f1 := b1.frozen 1
      have n0 : wr.cell? ⟨w.heap.size + 1, 0, none⟩ = some (.int .i64 0) := b1.cell 0 rfl
      have n1 : wr.cell? ⟨w.heap.size + 1, 1, none⟩ = some (.int .i64 0) := b1.cell 1 rfl
      obtain ⟨rx, hrx⟩ : ∃ r, r = casF n k late 3 X 3 0 := ⟨_, rfl⟩
      obtain ⟨ry, hry⟩ : ∃ r, r = casF n k late 3 Y 3 0 := ⟨_, rfl⟩
      rw [← hrx] at y0
      rw [← hry] at y1
      have HRX := Lib.hid hrx
      have HRY := Lib.hid hry
      clear hrx hry
      go_wp2_with fail
      refine bodyPost_ret (v := .agg #[.int .i64 rx, .int .i64 ry]) (by simp [results, Try.results102, go_sem, *]) rfl ⟨by rw [HRX.out, HRY.out], ?_⟩
      repeat' (first | with_reducible assumption | with_reducible exact Below.refl _ _ | (with_reducible refine Below.setCell ?_ ?_ _) | (with_reducible refine Below.alloc ?_ ?_ _) | (with_reducible refine Below.drew ?_) | (with_reducible refine below_dr ?_ _) | (with_reducible refine Below.trans ?_ (Below.mono (by with_reducible assumption) ?_)) | omega | (simp; done) | (simp; omega))
    case pos =>
      have hjp : (0 : Int) < (j : Int) := by omega
      obtain ⟨tb, tc⟩ := HTL.out (j : Int) (by omega)
      have BX := HX.out j hlt hj
      have BY := HY.out j hlt hj
      have EX := Lib.hid (casF_succ n k late 3 X j hlt hj)
      have EY := Lib.hid (casF_succ n k late 3 Y j hlt hj)
      generalize casF n k late 3 X (3 - j) = P at *
      generalize casF n k late 3 Y (3 - j) = R at *
      generalize tl k late (j : Int) = T at *
      obtain ⟨t0, t1⟩ := tb
      have TC := Lib.hid tc
      clear tc
      have en : IntKind.i64.wrap (n - T) = n - T := IntWalk.i64_in _ (by omega)
      go_upto_if 25 with fail
      go_cut [11] from 18 to 48 (fun v11 wx => v11 = .int .i64 T ∧ wx = wr)
      case first =>
        have hw : IntKind.i64.wrap (k + 1) = k + 1 := IntWalk.i64_in _ (by omega)
        go_wp2_with fail
        all_goals
          go_meet
          exact ⟨by rcases TC.out with ⟨d, e⟩ | ⟨d, e⟩ <;> first | (rw [e]; done) | (exfalso; omega), rfl⟩
      case rest =>
        obtain ⟨rfl, rfl⟩ := hcut
        go_wp2_with fail
        go_loopw [29] (fun v wr => ∃ i : Nat, i ≤ j ∧ v = .int .i64 i ∧ Blk wr (w.heap.size + 1 + 1) 91 (arr4 (casG n T P i) (casG n T R i)) ∧ Blk wr (w.heap.size + 1) 29 #[.int .i64 0, .int .i64 0] ∧ Below w.heap.size w wr) (fun v _ => j - (intOf v).toNat)
        case atStart => exact ⟨0, by omega, rfl, by rw [casG_zero, casG_zero]; exact b2, b1, g0⟩
        case round =>
          clear b2 b1 g0 lt2
          obtain ⟨i, hi, rfl, b2, b1, g0⟩ := hrel
          have lt2 := b2.lt
          by_cases hit : i < j
          case neg =>
            obtain rfl : i = j := by omega
            have hsb : IntKind.i64.wrap ((i : Int) - 1) = (i : Int) - 1 := IntWalk.i64_in _ (by omega)
            go_wp2_with fail
            go_roundw
            case rel => exact ⟨i - 1, by omega, by congr 1; omega, by rw [EX.out, EY.out] at b2; exact b2, b1, g0⟩
            case measure => simp [intOf]; omega
          case pos =>
            have HI0 := Lib.hid (arr4_x (X := casG n T P i) (Y := casG n T R i) (i := i) (by omega))
            have HI1 := Lib.hid (arr4_y (X := casG n T P i) (Y := casG n T R i) (i := i) (by omega))
            have HI2 := Lib.hid (arr4_x (X := casG n T P i) (Y := casG n T R i) (i := i + 1) (by omega))
            have HI3 := Lib.hid (arr4_y (X := casG n T P i) (Y := casG n T R i) (i := i + 1) (by omega))
            rw [casG_at] at HI0 HI1
            rw [casG_at1] at HI2 HI3
            obtain ⟨u0, u1, v0, v1, r0, r1, ca, cb, cp, e0, e1, _, _⟩ := lerp_step n T (P i) (R i) (P (i + 1)) (R (i + 1)) 1073741824 hn t0 t1 (by omega) (BX i (by omega)) (BY i (by omega)) (BX (i + 1) (by omega)) (BY (i + 1) (by omega))
            have CA := Lib.hid ca
            have CB := Lib.hid cb
            have CP := Lib.hid cp
            clear ca cb cp
            have HS := Lib.hid (arr4_set (X := casG n T P i) (Y := casG n T R i) (i := i) (by omega) r0 r1)
            have HG := Lib.hid (casG_step n T P i)
            have HG2 := Lib.hid (casG_step n T R i)
            rw [← e0] at HG
            rw [← e1] at HG2
            have HSS := Lib.hid (HS.out.trans (by rw [HG.out, HG2.out]) : _ = (arr4 (casG n T P (i + 1)) (casG n T R (i + 1))))
            clear e0 e1 HS HG HG2 BX BY EX EY
            generalize P i = px at *
            generalize R i = py at *
            generalize P (i + 1) = qx at *
            generalize R (i + 1) = qy at *
            obtain ⟨AR, hAR⟩ : ∃ AR, AR = (arr4 (casG n T P i) (casG n T R i)) := ⟨_, rfl⟩
            rw [← hAR] at b2 HI0 HI1 HI2 HI3 HSS
            clear hAR
            have bq := b2
            have y0 : wr.cell? ⟨w.heap.size + 1 + 1, i * 2, none⟩ = some (.int .i64 px) := bq.cell _ (HI0.out)
            have y1 : wr.cell? ⟨w.heap.size + 1 + 1, i * 2 + 1, none⟩ = some (.int .i64 py) := bq.cell _ (HI1.out)
            have y2 : wr.cell? ⟨w.heap.size + 1 + 1, (i + 1) * 2, none⟩ = some (.int .i64 qx) := bq.cell _ (HI2.out)
            have y3 : wr.cell? ⟨w.heap.size + 1 + 1, (i + 1) * 2 + 1, none⟩ = some (.int .i64 qy) := bq.cell _ (HI3.out)
            have f0 := bq.frozen (i * 2)
            have f1 := bq.frozen (i * 2 + 1)
            have ic1 : (i : Int) < 4 := by omega
            have ic2 : (i : Int) + 1 < 4 := by omega
            have ic3 : IntKind.i64.wrap ((i : Int) + 1) = (i : Int) + 1 := IntWalk.i64_in _ (by omega)
            have ic4 : (i : Int) < (j : Int) := by omega
            go_wp2_with fail
            go_region_with (first | (go_at_call 67; (with_reducible refine (CA.out _).mono ?_); rintro e wA ⟨rfl, hbwA⟩; have bq : Blk wA (w.heap.size + 1 + 1) 91 AR := (by repeat' (first | with_reducible assumption | (with_reducible refine Blk.drew ?_) | (with_reducible refine Blk.carry ?_ (by with_reducible assumption)) | (with_reducible refine Blk.alloc ?_ _) | (with_reducible refine Blk.far ?_ ?_ _) | omega | (simp; done) | (simp; omega))); have lt2 := bq.lt; have y0 : wA.cell? ⟨w.heap.size + 1 + 1, i * 2, none⟩ = some (.int .i64 px) := bq.cell _ (HI0.out); have y1 : wA.cell? ⟨w.heap.size + 1 + 1, i * 2 + 1, none⟩ = some (.int .i64 py) := bq.cell _ (HI1.out); have y2 : wA.cell? ⟨w.heap.size + 1 + 1, (i + 1) * 2, none⟩ = some (.int .i64 qx) := bq.cell _ (HI2.out); have y3 : wA.cell? ⟨w.heap.size + 1 + 1, (i + 1) * 2 + 1, none⟩ = some (.int .i64 qy) := bq.cell _ (HI3.out); have f0 := bq.frozen (i * 2); have f1 := bq.frozen (i * 2 + 1)) | (go_at_call 67; (with_reducible refine (CB.out _).mono ?_); rintro e wB ⟨rfl, hbwB⟩; have bq : Blk wB (w.heap.size + 1 + 1) 91 AR := (by repeat' (first | with_reducible assumption | (with_reducible refine Blk.drew ?_) | (with_reducible refine Blk.carry ?_ (by with_reducible assumption)) | (with_reducible refine Blk.alloc ?_ _) | (with_reducible refine Blk.far ?_ ?_ _) | omega | (simp; done) | (simp; omega))); have lt2 := bq.lt; have y0 : wB.cell? ⟨w.heap.size + 1 + 1, i * 2, none⟩ = some (.int .i64 px) := bq.cell _ (HI0.out); have y1 : wB.cell? ⟨w.heap.size + 1 + 1, i * 2 + 1, none⟩ = some (.int .i64 py) := bq.cell _ (HI1.out); have y2 : wB.cell? ⟨w.heap.size + 1 + 1, (i + 1) * 2, none⟩ = some (.int .i64 qx) := bq.cell _ (HI2.out); have y3 : wB.cell? ⟨w.heap.size + 1 + 1, (i + 1) * 2 + 1, none⟩ = some (.int .i64 qy) := bq.cell _ (HI3.out); have f0 := bq.frozen (i * 2); have f1 := bq.frozen (i * 2 + 1)) | (go_at_call 68; (with_reducible refine (CP.out _).mono ?_); rintro e wC ⟨rfl, hbwC⟩; have bq : Blk wC (w.heap.size + 1 + 1) 91 AR := (by repeat' (first | with_reducible assumption | (with_reducible refine Blk.drew ?_) | (with_reducible refine Blk.carry ?_ (by with_reducible assumption)) | (with_reducible refine Blk.alloc ?_ _) | (with_reducible refine Blk.far ?_ ?_ _) | omega | (simp; done) | (simp; omega))); have lt2 := bq.lt; have y0 : wC.cell? ⟨w.heap.size + 1 + 1, i * 2, none⟩ = some (.int .i64 px) := bq.cell _ (HI0.out); have y1 : wC.cell? ⟨w.heap.size + 1 + 1, i * 2 + 1, none⟩ = some (.int .i64 py) := bq.cell _ (HI1.out); have y2 : wC.cell? ⟨w.heap.size + 1 + 1, (i + 1) * 2, none⟩ = some (.int .i64 qx) := bq.cell _ (HI2.out); have y3 : wC.cell? ⟨w.heap.size + 1 + 1, (i + 1) * 2 + 1, none⟩ = some (.int .i64 qy) := bq.cell _ (HI3.out); have f0 := bq.frozen (i * 2); have f1 := bq.frozen (i * 2 + 1)))
            all_goals
              have bC := bq
              have bz : Blk wC (w.heap.size + 1) 29 #[.int .i64 0, .int .i64 0] := by repeat' (first | with_reducible assumption | (with_reducible refine Blk.drew ?_) | (with_reducible refine Blk.carry ?_ (by with_reducible assumption)) | (with_reducible refine Blk.alloc ?_ _) | (with_reducible refine Blk.far ?_ ?_ _) | omega | (simp; done) | (simp; omega))
              have gz : Below w.heap.size w wC := by repeat' (first | with_reducible assumption | with_reducible exact Below.refl _ _ | (with_reducible refine Below.setCell ?_ ?_ _) | (with_reducible refine Below.alloc ?_ ?_ _) | (with_reducible refine Below.drew ?_) | (with_reducible refine below_dr ?_ _) | (with_reducible refine Below.trans ?_ (Below.mono (by with_reducible assumption) ?_)) | omega | (simp; done) | (simp; omega))
              have ltz := bz.lt
              clear bq b1 b2 g0 y2 y3 HI0 HI1 HI2 HI3 HX HY HU HTL
              go_wp2_with fail
              go_roundw
              case rel => exact ⟨i + 1, by omega, by go_num, by rw [← HSS.out]; exact (bC.set_ _ _).set_ _ _, bz.far (by simp only; omega) _ |>.far (by simp only; omega) _, by repeat' (first | with_reducible assumption | with_reducible exact Below.refl _ _ | (with_reducible refine Below.setCell ?_ ?_ _) | (with_reducible refine Below.alloc ?_ ?_ _) | (with_reducible refine Below.drew ?_) | (with_reducible refine below_dr ?_ _) | (with_reducible refine Below.trans ?_ (Below.mono (by with_reducible assumption) ?_)) | omega | (simp; done) | (simp; omega))⟩
              case measure => simp [intOf]; omega
end Go.Proofs.Yticgomikfleabaa
