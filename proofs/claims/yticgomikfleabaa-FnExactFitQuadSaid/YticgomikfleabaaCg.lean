/- Walks: LevelFor, both sides, and the law: it returns true. -/
import Derived.Test.YticgomikfleabaaCf
namespace Go.Proofs.Yticgomikfleabaa
open Go.RowKit
/-- The least of seven levels. -/
def levV (B t : Int) : Int := if B ≤ 4 * t then 0 else if B ≤ 16 * t then 1 else if B ≤ 64 * t then 2 else if B ≤ 256 * t then 3 else if B ≤ 1024 * t then 4 else if B ≤ 4096 * t then 5 else if B ≤ 16384 * t then 6 else 0
def levC (B t : Int) : Int := if B ≤ 16384 * t then 0 else 5
def LV (B t : Int) : Nat → Prop
  | 0 => True
  | 1 => 4 * t < B
  | 2 => 16 * t < B
  | 3 => 64 * t < B
  | 4 => 256 * t < B
  | 5 => 1024 * t < B
  | 6 => 4096 * t < B
  | _ => 16384 * t < B
def LevRet (B t : Int) (w : World) (e : Ending) (w' : World) : Prop := e = .returned (.tuple #[.int .i64 (levV B t), .int .i64 (levC B t)]) ∧ Below w.heap.size w w'
theorem LevRet.mk {B t a c : Int} {w w' : World} (h1 : a = levV B t) (h2 : c = levC B t) (hb : Below w.heap.size w w') : LevRet B t w (.returned (.tuple #[.int .i64 a, .int .i64 c])) w' := by subst h1 h2; exact ⟨rfl, hb⟩
theorem lev_at0 {B t : Int} (_ht : 1 ≤ t) (h : B ≤ 4 * t) : 0 = levV B t ∧ 0 = levC B t := by
  unfold levV levC
  (repeat' split) <;> omega
theorem lev_at1 {B t : Int} (_ht : 1 ≤ t) (h0 : 4 * t < B) (h : B ≤ 16 * t) : 1 = levV B t ∧ 0 = levC B t := by
  unfold levV levC
  (repeat' split) <;> omega
theorem lev_at2 {B t : Int} (_ht : 1 ≤ t) (h0 : 16 * t < B) (h : B ≤ 64 * t) : 2 = levV B t ∧ 0 = levC B t := by
  unfold levV levC
  (repeat' split) <;> omega
theorem lev_at3 {B t : Int} (_ht : 1 ≤ t) (h0 : 64 * t < B) (h : B ≤ 256 * t) : 3 = levV B t ∧ 0 = levC B t := by
  unfold levV levC
  (repeat' split) <;> omega
theorem lev_at4 {B t : Int} (_ht : 1 ≤ t) (h0 : 256 * t < B) (h : B ≤ 1024 * t) : 4 = levV B t ∧ 0 = levC B t := by
  unfold levV levC
  (repeat' split) <;> omega
theorem lev_at5 {B t : Int} (_ht : 1 ≤ t) (h0 : 1024 * t < B) (h : B ≤ 4096 * t) : 5 = levV B t ∧ 0 = levC B t := by
  unfold levV levC
  (repeat' split) <;> omega
theorem lev_at6 {B t : Int} (_ht : 1 ≤ t) (h0 : 4096 * t < B) (h : B ≤ 16384 * t) : 6 = levV B t ∧ 0 = levC B t := by
  unfold levV levC
  (repeat' split) <;> omega
theorem lev_no {B t : Int} (ht : 1 ≤ t) (h : 16384 * t < B) : 0 = levV B t ∧ 5 = levC B t := by
  unfold levV levC
  (repeat' split) <;> omega
set_option maxHeartbeats 400000 in
theorem isTol_yes (n : Int) (w : World) (h1 : 1 ≤ n) (h2 : n ≤ 262144) :
    Calls Try.prog 50 #[.int .i64 n] w fun e w' => e = .returned (.bool true) ∧ w = w' := by
  go_enter Try.func50, Try.ntmps50
  go_wp2
  go_ret
  exact ⟨rfl, rfl⟩
set_option maxHeartbeats 400000 in
theorem isTol_no (n : Int) (w : World) (h : n < 1 ∨ 262144 < n) :
    Calls Try.prog 50 #[.int .i64 n] w fun e w' => e = .returned (.bool false) ∧ w = w' := by
  by_cases h1 : n < 1
  · clear h
    have h2 : decide (1 ≤ n) = false := by simp; omega
    go_enter Try.func50, Try.ntmps50
    go_wp2
    go_ret
    exact ⟨rfl, rfl⟩
  · have h2 : decide (n ≤ 262144) = false := by simp; omega
    have h3 : 1 ≤ n := by omega
    clear h h1
    go_enter Try.func50, Try.ntmps50
    go_wp2
    go_ret
    exact ⟨rfl, rfl⟩
set_option maxHeartbeats 400000 in
theorem l09Tol_yes (n : Int) (w : World) (h1 : 1 ≤ n) (h2 : n ≤ 262144) :
    Calls Try.prog 31 #[.int .i64 n] w fun e w' => e = .returned (.bool true) ∧ w = w' := by
  go_enter Try.func31, Try.ntmps31
  go_wp2_with (go_at_call 62; refine (l00In_yes _ _ _ _ (by omega) (by omega)).mono ?_; rintro e w1 ⟨rfl, rfl⟩)
  go_ret
  exact ⟨rfl, rfl⟩
set_option maxHeartbeats 400000 in
theorem l09Tol_no (n : Int) (w : World) (h : n < 1 ∨ 262144 < n) :
    Calls Try.prog 31 #[.int .i64 n] w fun e w' => e = .returned (.bool false) ∧ w = w' := by
  go_enter Try.func31, Try.ntmps31
  go_wp2_with (go_at_call 62; refine (l00In_no _ _ _ _ (by omega)).mono ?_; rintro e w1 ⟨rfl, rfl⟩)
  go_ret
  exact ⟨rfl, rfl⟩
set_option maxHeartbeats 400000 in
theorem leastLevel_no (B t : Int) (w : World) (h : t < 1 ∨ 262144 < t) :
    Calls Try.prog 35 #[.int .i64 B, .int .i64 t] w fun e w' => e = .returned (.tuple #[.int .i64 0, .int .i64 2]) ∧ Below w.heap.size w w' := by
  go_enter Try.func35, Try.ntmps35
  go_wp2_with (go_at_call 50; refine (isTol_no _ _ h).mono ?_; rintro e w1 ⟨rfl, rfl⟩)
  refine bodyPost_ret (v := .tuple #[.int .i64 0, .int .i64 2]) (by simp [results, Try.results35, go_sem]) rfl ⟨rfl, Below.refl _ _⟩
set_option maxHeartbeats 1600000 in
theorem leastLevel_any (B t : Int) (w : World) (h1 : 1 ≤ t) (h2 : t ≤ 262144) :
    Calls Try.prog 35 #[.int .i64 B, .int .i64 t] w (LevRet B t w) := by
  go_enter Try.func35, Try.ntmps35
  go_wp2_with (go_at_call 50; refine (isTol_yes _ _ (by omega) (by omega)).mono ?_; rintro e w1 ⟨rfl, rfl⟩)
  go_loopw [10] (fun i wr => ∃ k : Nat, k ≤ 7 ∧ i = .int .i64 k ∧ LV B t k ∧ w = wr) (fun i _ => 7 - (intOf i).toNat)
  case atStart => exact ⟨0, by omega, rfl, trivial, rfl⟩
  case round =>
    obtain ⟨k, hk, rfl, hl, rfl⟩ := hrel
    by_cases hlt : k < 7
    · rcases (by omega : k = 0 ∨ k = 1 ∨ k = 2 ∨ k = 3 ∨ k = 4 ∨ k = 5 ∨ k = 6) with rfl | rfl | rfl | rfl | rfl | rfl | rfl
      · clear hk hlt
        have hl' := Lib.hid hl
        clear hl
        by_cases hle : B ≤ 4 * t
        · have H := Lib.hid (lev_at0 h1  hle)
          go_wp2
          refine bodyPost_ret (v := .tuple #[.int .i64 0, .int .i64 0]) (by simp [results, Try.results35, go_sem]) rfl (LevRet.mk H.out.1 H.out.2 (Below.refl _ _))
        · have hge : 4 * t < B := by omega
          have hd : decide (B ≤ 4 * t) = false := by simpa using hle
          clear hle
          go_wp2
          go_roundw
          case rel => exact ⟨1, by omega, by go_num, hge, by first | trivial | rfl⟩
          case measure => simp [intOf]
      · clear hk hlt
        have hl' := Lib.hid hl
        clear hl
        by_cases hle : B ≤ 16 * t
        · have H := Lib.hid (lev_at1 h1 hl'.out hle)
          go_wp2
          refine bodyPost_ret (v := .tuple #[.int .i64 1, .int .i64 0]) (by simp [results, Try.results35, go_sem]) rfl (LevRet.mk H.out.1 H.out.2 (Below.refl _ _))
        · have hge : 16 * t < B := by omega
          have hd : decide (B ≤ 16 * t) = false := by simpa using hle
          clear hle
          go_wp2
          go_roundw
          case rel => exact ⟨2, by omega, by go_num, hge, by first | trivial | rfl⟩
          case measure => simp [intOf]
      · clear hk hlt
        have hl' := Lib.hid hl
        clear hl
        by_cases hle : B ≤ 64 * t
        · have H := Lib.hid (lev_at2 h1 hl'.out hle)
          go_wp2
          refine bodyPost_ret (v := .tuple #[.int .i64 2, .int .i64 0]) (by simp [results, Try.results35, go_sem]) rfl (LevRet.mk H.out.1 H.out.2 (Below.refl _ _))
        · have hge : 64 * t < B := by omega
          have hd : decide (B ≤ 64 * t) = false := by simpa using hle
          clear hle
          go_wp2
          go_roundw
          case rel => exact ⟨3, by omega, by go_num, hge, by first | trivial | rfl⟩
          case measure => simp [intOf]
      · clear hk hlt
        have hl' := Lib.hid hl
        clear hl
        by_cases hle : B ≤ 256 * t
        · have H := Lib.hid (lev_at3 h1 hl'.out hle)
          go_wp2
          refine bodyPost_ret (v := .tuple #[.int .i64 3, .int .i64 0]) (by simp [results, Try.results35, go_sem]) rfl (LevRet.mk H.out.1 H.out.2 (Below.refl _ _))
        · have hge : 256 * t < B := by omega
          have hd : decide (B ≤ 256 * t) = false := by simpa using hle
          clear hle
          go_wp2
          go_roundw
          case rel => exact ⟨4, by omega, by go_num, hge, by first | trivial | rfl⟩
          case measure => simp [intOf]
      · clear hk hlt
        have hl' := Lib.hid hl
        clear hl
        by_cases hle : B ≤ 1024 * t
        · have H := Lib.hid (lev_at4 h1 hl'.out hle)
          go_wp2
          refine bodyPost_ret (v := .tuple #[.int .i64 4, .int .i64 0]) (by simp [results, Try.results35, go_sem]) rfl (LevRet.mk H.out.1 H.out.2 (Below.refl _ _))
        · have hge : 1024 * t < B := by omega
          have hd : decide (B ≤ 1024 * t) = false := by simpa using hle
          clear hle
          go_wp2
          go_roundw
          case rel => exact ⟨5, by omega, by go_num, hge, by first | trivial | rfl⟩
          case measure => simp [intOf]
      · clear hk hlt
        have hl' := Lib.hid hl
        clear hl
        by_cases hle : B ≤ 4096 * t
        · have H := Lib.hid (lev_at5 h1 hl'.out hle)
          go_wp2
          refine bodyPost_ret (v := .tuple #[.int .i64 5, .int .i64 0]) (by simp [results, Try.results35, go_sem]) rfl (LevRet.mk H.out.1 H.out.2 (Below.refl _ _))
        · have hge : 4096 * t < B := by omega
          have hd : decide (B ≤ 4096 * t) = false := by simpa using hle
          clear hle
          go_wp2
          go_roundw
          case rel => exact ⟨6, by omega, by go_num, hge, by first | trivial | rfl⟩
          case measure => simp [intOf]
      · clear hk hlt
        have hl' := Lib.hid hl
        clear hl
        by_cases hle : B ≤ 16384 * t
        · have H := Lib.hid (lev_at6 h1 hl'.out hle)
          go_wp2
          refine bodyPost_ret (v := .tuple #[.int .i64 6, .int .i64 0]) (by simp [results, Try.results35, go_sem]) rfl (LevRet.mk H.out.1 H.out.2 (Below.refl _ _))
        · have hge : 16384 * t < B := by omega
          have hd : decide (B ≤ 16384 * t) = false := by simpa using hle
          clear hle
          go_wp2
          go_roundw
          case rel => exact ⟨7, by omega, by go_num, hge, by first | trivial | rfl⟩
          case measure => simp [intOf]
    · obtain rfl : k = 7 := by omega
      have H := Lib.hid (lev_no h1 hl)
      clear hl hk hlt
      go_wp2
      refine bodyPost_ret (v := .tuple #[.int .i64 0, .int .i64 5]) (by simp [results, Try.results35, go_sem]) rfl (LevRet.mk H.out.1 H.out.2 (Below.refl _ _))
end Go.Proofs.Yticgomikfleabaa
