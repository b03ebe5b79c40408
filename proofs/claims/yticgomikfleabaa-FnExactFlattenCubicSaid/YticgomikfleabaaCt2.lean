/- Walks: points of cubics, the reference's side. -/
import Derived.Test.YticgomikfleabaaCs
import Derived.Test.YticgomikfleabaaCa
namespace Go.Proofs.Yticgomikfleabaa
open Go.RowKit
set_option maxHeartbeats 1600000 in
theorem l09Mix_any (a b c d k n : Int) (w : World) (hn0 : 1 ≤ n) (hn1 : n ≤ 64) (hk0 : 0 ≤ k) (hk1 : k ≤ n) (ha : -262144 ≤ a ∧ a ≤ 262144) (hb : -262144 ≤ b ∧ b ≤ 262144) (hc : -262144 ≤ c ∧ c ≤ 262144) (hd : -262144 ≤ d ∧ d ≤ 262144) :
    Calls Try.prog 74 #[.int .i64 a, .int .i64 b, .int .i64 c, .int .i64 d, .int .i64 k, .int .i64 n] w fun e w' => e = .returned (.int .i64 (near (mixI a b c d k n) (n * n * n))) ∧ Below w.heap.size w w' := by
  have hmix : mixI a b c d k n = (n - k) * (n - k) * (n - k) * a + 3 * (n - k) * (n - k) * k * b + 3 * (n - k) * k * k * c + k * k * k * d := rfl
  obtain ⟨m, hmm⟩ : ∃ m, m = n - k := ⟨_, rfl⟩
  rw [← hmm] at hmix
  have e0 : IntKind.i64.wrap (n - k) = m := by rw [hmm]; exact IntWalk.i64_in _ (by omega)
  have hm : -64 ≤ m ∧ m ≤ 64 := by omega
  have hk : -64 ≤ k ∧ k ≤ 64 := by omega
  have hn : -64 ≤ n ∧ n ≤ 64 := by omega
  have hpos : 1 ≤ n * n * n := by have h1 : 0 < n * n := Int.mul_pos (by omega) (by omega); have h2 : 0 < n * n * n := Int.mul_pos h1 (by omega); omega
  have hq1 := mul_in hm hm 4096 rfl
  have hq2 := mul_in hq1 hm 262144 rfl
  have hq3 := mul_in hq2 ha 68719476736 rfl
  have hq4 : -192 ≤ 3 * m ∧ 3 * m ≤ 192 := by omega
  have hq5 := mul_in hq4 hm 12288 rfl
  have hq6 := mul_in hq5 hk 786432 rfl
  have hq7 := mul_in hq6 hb 206158430208 rfl
  have hq8 := mul_in hq4 hk 12288 rfl
  have hq9 := mul_in hq8 hk 786432 rfl
  have hqa := mul_in hq9 hc 206158430208 rfl
  have hqb := mul_in hk hk 4096 rfl
  have hqc := mul_in hqb hk 262144 rfl
  have hqd := mul_in hqc hd 68719476736 rfl
  have hqe := mul_in hn hn 4096 rfl
  have hqf := mul_in hqe hn 262144 rfl
  have w0 : IntKind.i64.wrap (m * m) = m * m := IntWalk.i64_in _ (by omega)
  have w1 : IntKind.i64.wrap (m * m * m) = m * m * m := IntWalk.i64_in _ (by omega)
  have w2 : IntKind.i64.wrap (m * m * m * a) = m * m * m * a := IntWalk.i64_in _ (by omega)
  have w3 : IntKind.i64.wrap (3 * m) = 3 * m := IntWalk.i64_in _ (by omega)
  have w4 : IntKind.i64.wrap (3 * m * m) = 3 * m * m := IntWalk.i64_in _ (by omega)
  have w5 : IntKind.i64.wrap (3 * m * m * k) = 3 * m * m * k := IntWalk.i64_in _ (by omega)
  have w6 : IntKind.i64.wrap (3 * m * m * k * b) = 3 * m * m * k * b := IntWalk.i64_in _ (by omega)
  have w7 : IntKind.i64.wrap (3 * m * k) = 3 * m * k := IntWalk.i64_in _ (by omega)
  have w8 : IntKind.i64.wrap (3 * m * k * k) = 3 * m * k * k := IntWalk.i64_in _ (by omega)
  have w9 : IntKind.i64.wrap (3 * m * k * k * c) = 3 * m * k * k * c := IntWalk.i64_in _ (by omega)
  have w10 : IntKind.i64.wrap (k * k) = k * k := IntWalk.i64_in _ (by omega)
  have w11 : IntKind.i64.wrap (k * k * k) = k * k * k := IntWalk.i64_in _ (by omega)
  have w12 : IntKind.i64.wrap (k * k * k * d) = k * k * k * d := IntWalk.i64_in _ (by omega)
  have w13 : IntKind.i64.wrap (n * n) = n * n := IntWalk.i64_in _ (by omega)
  have w14 : IntKind.i64.wrap (n * n * n) = n * n * n := IntWalk.i64_in _ (by omega)
  have w15 : IntKind.i64.wrap (m * m * m * a + 3 * m * m * k * b) = m * m * m * a + 3 * m * m * k * b := IntWalk.i64_in _ (by omega)
  have w16 : IntKind.i64.wrap (m * m * m * a + 3 * m * m * k * b + 3 * m * k * k * c) = m * m * m * a + 3 * m * m * k * b + 3 * m * k * k * c := IntWalk.i64_in _ (by omega)
  have w17 : IntKind.i64.wrap (m * m * m * a + 3 * m * m * k * b + 3 * m * k * k * c + k * k * k * d) = m * m * m * a + 3 * m * m * k * b + 3 * m * k * k * c + k * k * k * d := IntWalk.i64_in _ (by omega)
  have CR := Lib.hid (fun w => l03Round_any (m * m * m * a + 3 * m * m * k * b + 3 * m * k * k * c + k * k * k * d) (n * n * n) w (by omega) hpos (by omega))
  rw [hmix]
  clear hmix hpos hm hk hn ha hb hc hd hmm hn0 hn1 hk0 hk1 hq1 hq2 hq3 hq4 hq5 hq6 hq7 hq8 hq9 hqa hqb hqc hqd hqe hqf
  generalize near (m * m * m * a + 3 * m * m * k * b + 3 * m * k * k * c + k * k * k * d) (n * n * n) = R at CR ⊢
  go_enter Try.func74, Try.ntmps74
  go_wp2_with fail
  refine (CR.out _).mono ?_
  rintro e w1 ⟨rfl, hb1⟩
  go_wp2
  go_ret
  exact ⟨rfl, by repeat' (first | with_reducible assumption | with_reducible exact Below.refl _ _ | (with_reducible refine Below.setCell ?_ ?_ _) | (with_reducible refine Below.alloc ?_ ?_ _) | (with_reducible refine Below.drew ?_) | (with_reducible refine below_dr ?_ _) | (with_reducible refine Below.trans ?_ (Below.mono (by with_reducible assumption) ?_)) | omega | (simp; done) | (simp; omega))⟩
end Go.Proofs.Yticgomikfleabaa
