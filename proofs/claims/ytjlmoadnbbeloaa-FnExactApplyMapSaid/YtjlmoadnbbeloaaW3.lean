/- Walks: the fraction of two numbers, on both sides. -/
import Derived.Test.YtjlmoadnbbeloaaW2
namespace Go.Proofs.Ytjlmoadnbbeloaa
open Go.RowKit

theorem mk_zero (n : Int) : mkNum n 0 = 0 ∧ mkDen n 0 = 0 ∧ mkCode n 0 = 1 := by simp [mkNum, mkDen, mkCode]
theorem mk_range {n d : Int} {g : Nat} (h : ¬ d = 0) (hg : Nat.gcd n.natAbs d.natAbs = g) (h2 : 1000000000 < (n.natAbs : Int) / (g : Int) ∨ 1000000 < (d.natAbs : Int) / (g : Int)) : mkNum n d = 0 ∧ mkDen n d = 0 ∧ mkCode n d = 2 := by
  have h3 : n.natAbs / g > 1000000000 ∨ d.natAbs / g > 1000000 := by
    rw [← Int.natCast_ediv, ← Int.natCast_ediv] at h2
    omega
  subst hg
  simp [mkNum, mkDen, mkCode, h, h3]
theorem mk_same {n d : Int} {g : Nat} (h : ¬ d = 0) (hg : Nat.gcd n.natAbs d.natAbs = g) (h1 : (n.natAbs : Int) / (g : Int) ≤ 1000000000) (h2 : (d.natAbs : Int) / (g : Int) ≤ 1000000) (hs : (decide (n < 0)) = (decide (d < 0))) :
    mkNum n d = (n.natAbs : Int) / (g : Int) ∧ mkDen n d = (d.natAbs : Int) / (g : Int) ∧ mkCode n d = 0 := by
  have h3 : ¬ (n.natAbs / g > 1000000000 ∨ d.natAbs / g > 1000000) := by
    rw [← Int.natCast_ediv] at h1 h2
    omega
  subst hg
  unfold mkNum mkDen mkCode
  rw [if_neg h, if_neg h, if_neg h, if_neg h3, if_neg h3, if_neg h3, if_pos hs]
  exact ⟨by simp, by simp, rfl⟩
theorem mk_other {n d : Int} {g : Nat} (h : ¬ d = 0) (hg : Nat.gcd n.natAbs d.natAbs = g) (h1 : (n.natAbs : Int) / (g : Int) ≤ 1000000000) (h2 : (d.natAbs : Int) / (g : Int) ≤ 1000000) (hs : ¬ (decide (n < 0)) = (decide (d < 0))) :
    mkNum n d = -((n.natAbs : Int) / (g : Int)) ∧ mkDen n d = (d.natAbs : Int) / (g : Int) ∧ mkCode n d = 0 := by
  have h3 : ¬ (n.natAbs / g > 1000000000 ∨ d.natAbs / g > 1000000) := by
    rw [← Int.natCast_ediv] at h1 h2
    omega
  subst hg
  unfold mkNum mkDen mkCode
  rw [if_neg h, if_neg h, if_neg h, if_neg h3, if_neg h3, if_neg h3, if_neg hs]
  exact ⟨by simp, by simp, rfl⟩
theorem quo_bounds (n : Int) (g : Nat) : 0 ≤ (n.natAbs : Int) / (g : Int) ∧ (n.natAbs : Int) / (g : Int) ≤ n.natAbs := by
  exact ⟨Int.ediv_nonneg (by omega) (by omega), Int.ediv_le_self _ (by omega)⟩

/-- What MakeFrac returns. -/
def MkRet (n d : Int) (w : World) (e : Ending) (w' : World) : Prop :=
  e = .returned (.tuple #[.agg #[.int .i64 (mkNum n d), .int .i64 (mkDen n d)], .int .i64 (mkCode n d)]) ∧ Below w.heap.size w w'
theorem MkRet.mk {n d a b c : Int} {w w' : World} (h : mkNum n d = a ∧ mkDen n d = b ∧ mkCode n d = c) (hb : Below w.heap.size w w') :
    MkRet n d w (.returned (.tuple #[.agg #[.int .i64 a, .int .i64 b], .int .i64 c])) w' := by
  obtain ⟨rfl, rfl, rfl⟩ := h
  exact ⟨rfl, hb⟩


set_option maxHeartbeats 1600000 in
theorem specMakeFrac_any (n d : Int) (w : World) (hn : -9223372036854775808 ≤ n ∧ n ≤ 9223372036854775807) (hd : -9223372036854775808 ≤ d ∧ d ≤ 9223372036854775807) :
    Calls Try.prog 63 #[.int .i64 n, .int .i64 d] w (MkRet n d w) := by
  by_cases h0 : d = 0
  · subst h0
    have H := Lib.hid (mk_zero n)
    go_enter Try.func63, Try.ntmps63
    go_wp2
    refine bodyPost_ret (v := .tuple #[.agg #[.int .i64 0, .int .i64 0], .int .i64 1]) (by simp [results, Try.results63, go_sem]) rfl (MkRet.mk H.out ?_)
    exact (Below.refl _ _).alloc (Nat.le_refl _) _
  have e0 : (d == 0) = false := by simpa using h0
  have H0 := Lib.hid h0
  clear h0
  have gp := gcd_pos (n := n) H0.out
  have gu : Nat.gcd n.natAbs d.natAbs ≤ d.natAbs := Nat.gcd_le_right _ (by have := H0.out; omega)
  generalize hg : Nat.gcd n.natAbs d.natAbs = g at gp gu
  obtain ⟨ga0, ga1⟩ := quo_bounds n g
  obtain ⟨gb0, gb1⟩ := quo_bounds d g
  have gi : (1 : Int) ≤ (g : Int) := by omega
  have gne : ((g : Int) != 0) = true := by rw [bne_iff_ne]; omega
  have gne2 : ¬ (g : Int) = 0 := by omega
  have G := Lib.hid hg
  clear hg
  by_cases c1 : 1000000000 < (n.natAbs : Int) / (g : Int)
  · have H := Lib.hid (mk_range H0.out G.out (Or.inl c1))
    go_enter Try.func63, Try.ntmps63
    go_wp2_with (first
      | (go_at_call 82; refine (l02Size_any _ _ (by omega) (by omega)).mono ?_; rintro e w' ⟨rfl, rfl⟩)
      | (go_at_call 81; refine (l02Gcd_any _ _ _ (by omega) (by omega)).mono ?_; rw [G.out]; rintro e w' ⟨rfl, rfl⟩))
    refine bodyPost_ret (v := .tuple #[.agg #[.int .i64 0, .int .i64 0], .int .i64 2]) (by simp [results, Try.results63, go_sem]) rfl (MkRet.mk H.out ?_)
    exact (Below.refl _ _).alloc (Nat.le_refl _) _
  have c1' : (n.natAbs : Int) / (g : Int) ≤ 1000000000 := by omega
  clear c1
  by_cases c2 : 1000000 < (d.natAbs : Int) / (g : Int)
  · have H := Lib.hid (mk_range H0.out G.out (Or.inr c2))
    go_enter Try.func63, Try.ntmps63
    go_wp2_with (first
      | (go_at_call 82; refine (l02Size_any _ _ (by omega) (by omega)).mono ?_; rintro e w' ⟨rfl, rfl⟩)
      | (go_at_call 81; refine (l02Gcd_any _ _ _ (by omega) (by omega)).mono ?_; rw [G.out]; rintro e w' ⟨rfl, rfl⟩))
    refine bodyPost_ret (v := .tuple #[.agg #[.int .i64 0, .int .i64 0], .int .i64 2]) (by simp [results, Try.results63, go_sem]) rfl (MkRet.mk H.out ?_)
    exact (Below.refl _ _).alloc (Nat.le_refl _) _
  have c2' : (d.natAbs : Int) / (g : Int) ≤ 1000000 := by omega
  clear c2
  by_cases sn : n < 0
  · by_cases sd : d < 0
    · have H := Lib.hid (mk_same H0.out G.out c1' c2' (by simp [sn, sd]))
      go_enter Try.func63, Try.ntmps63
      go_wp2_with (first
        | (go_at_call 82; refine (l02Size_any _ _ (by omega) (by omega)).mono ?_; rintro e w' ⟨rfl, rfl⟩)
        | (go_at_call 81; refine (l02Gcd_any _ _ _ (by omega) (by omega)).mono ?_; rw [G.out]; rintro e w' ⟨rfl, rfl⟩))
      refine bodyPost_ret (v := .tuple #[.agg #[.int .i64 ((n.natAbs : Int) / (g : Int)), .int .i64 ((d.natAbs : Int) / (g : Int))], .int .i64 0]) (by simp [results, Try.results63, go_sem]) rfl (MkRet.mk H.out ?_)
      exact ((Below.refl _ _).alloc (Nat.le_refl _) _).alloc (by simp) _
    · have H := Lib.hid (mk_other H0.out G.out c1' c2' (by simp [sn, sd]))
      have sd' : decide (d < 0) = false := by simp; omega
      go_enter Try.func63, Try.ntmps63
      go_wp2_with (first
        | (go_at_call 82; refine (l02Size_any _ _ (by omega) (by omega)).mono ?_; rintro e w' ⟨rfl, rfl⟩)
        | (go_at_call 81; refine (l02Gcd_any _ _ _ (by omega) (by omega)).mono ?_; rw [G.out]; rintro e w' ⟨rfl, rfl⟩))
      refine bodyPost_ret (v := .tuple #[.agg #[.int .i64 (-((n.natAbs : Int) / (g : Int))), .int .i64 ((d.natAbs : Int) / (g : Int))], .int .i64 0]) (by simp [results, Try.results63, go_sem]) rfl (MkRet.mk H.out ?_)
      exact ((Below.refl _ _).alloc (Nat.le_refl _) _).alloc (by simp) _
  · have sn' : decide (n < 0) = false := by simp; omega
    by_cases sd : d < 0
    · have H := Lib.hid (mk_other H0.out G.out c1' c2' (by simp [sn, sd]))
      go_enter Try.func63, Try.ntmps63
      go_wp2_with (first
        | (go_at_call 82; refine (l02Size_any _ _ (by omega) (by omega)).mono ?_; rintro e w' ⟨rfl, rfl⟩)
        | (go_at_call 81; refine (l02Gcd_any _ _ _ (by omega) (by omega)).mono ?_; rw [G.out]; rintro e w' ⟨rfl, rfl⟩))
      refine bodyPost_ret (v := .tuple #[.agg #[.int .i64 (-((n.natAbs : Int) / (g : Int))), .int .i64 ((d.natAbs : Int) / (g : Int))], .int .i64 0]) (by simp [results, Try.results63, go_sem]) rfl (MkRet.mk H.out ?_)
      exact ((Below.refl _ _).alloc (Nat.le_refl _) _).alloc (by simp) _
    · have H := Lib.hid (mk_same H0.out G.out c1' c2' (by simp [sn, sd]))
      have sd' : decide (d < 0) = false := by simp; omega
      go_enter Try.func63, Try.ntmps63
      go_wp2_with (first
        | (go_at_call 82; refine (l02Size_any _ _ (by omega) (by omega)).mono ?_; rintro e w' ⟨rfl, rfl⟩)
        | (go_at_call 81; refine (l02Gcd_any _ _ _ (by omega) (by omega)).mono ?_; rw [G.out]; rintro e w' ⟨rfl, rfl⟩))
      refine bodyPost_ret (v := .tuple #[.agg #[.int .i64 ((n.natAbs : Int) / (g : Int)), .int .i64 ((d.natAbs : Int) / (g : Int))], .int .i64 0]) (by simp [results, Try.results63, go_sem]) rfl (MkRet.mk H.out ?_)
      exact ((Below.refl _ _).alloc (Nat.le_refl _) _).alloc (by simp) _


set_option maxHeartbeats 1600000 in
theorem implMakeFrac_any (n d : Int) (w : World) (hn : -9223372036854775808 ≤ n ∧ n ≤ 9223372036854775807) (hd : -9223372036854775808 ≤ d ∧ d ≤ 9223372036854775807) :
    Calls Try.prog 85 #[.int .i64 n, .int .i64 d] w (MkRet n d w) := by
  by_cases h0 : d = 0
  · subst h0
    have H := Lib.hid (mk_zero n)
    go_enter Try.func85, Try.ntmps85
    go_wp2
    refine bodyPost_ret (v := .tuple #[.agg #[.int .i64 0, .int .i64 0], .int .i64 1]) (by simp [results, Try.results85, go_sem]) rfl (MkRet.mk H.out ?_)
    exact (Below.refl _ _).alloc (Nat.le_refl _) _
  have e0 : (d == 0) = false := by simpa using h0
  have H0 := Lib.hid h0
  clear h0
  have gp := gcd_pos (n := n) H0.out
  have gu : Nat.gcd n.natAbs d.natAbs ≤ d.natAbs := Nat.gcd_le_right _ (by have := H0.out; omega)
  generalize hg : Nat.gcd n.natAbs d.natAbs = g at gp gu
  obtain ⟨ga0, ga1⟩ := quo_bounds n g
  obtain ⟨gb0, gb1⟩ := quo_bounds d g
  have gi : (1 : Int) ≤ (g : Int) := by omega
  have gne : ((g : Int) != 0) = true := by rw [bne_iff_ne]; omega
  have gne2 : ¬ (g : Int) = 0 := by omega
  have G := Lib.hid hg
  clear hg
  by_cases c1 : 1000000000 < (n.natAbs : Int) / (g : Int)
  · have H := Lib.hid (mk_range H0.out G.out (Or.inl c1))
    go_enter Try.func85, Try.ntmps85
    go_wp2_with (first
      | (go_at_call 84; refine (magnitude_any _ _ (by omega) (by omega)).mono ?_; rintro e w' ⟨rfl, rfl⟩)
      | (go_at_call 83; refine (commonDivisor_any _ _ _ (by omega) (by omega)).mono ?_; rw [G.out]; rintro e w' ⟨rfl, k, rfl⟩))
    go_quiet (fail)
    go_wp2
    refine bodyPost_ret (v := .tuple #[.agg #[.int .i64 0, .int .i64 0], .int .i64 2]) (by simp [results, Try.results85, go_sem]) rfl (MkRet.mk H.out ?_)
    exact ((((Below.refl _ _).alloc (Nat.le_refl _) _).trans (Joins.below_draws _ _ _)).setCell (by simp) _).setCell (by simp) _
  have c1' : (n.natAbs : Int) / (g : Int) ≤ 1000000000 := by omega
  clear c1
  by_cases c2 : 1000000 < (d.natAbs : Int) / (g : Int)
  · have H := Lib.hid (mk_range H0.out G.out (Or.inr c2))
    go_enter Try.func85, Try.ntmps85
    go_wp2_with (first
      | (go_at_call 84; refine (magnitude_any _ _ (by omega) (by omega)).mono ?_; rintro e w' ⟨rfl, rfl⟩)
      | (go_at_call 83; refine (commonDivisor_any _ _ _ (by omega) (by omega)).mono ?_; rw [G.out]; rintro e w' ⟨rfl, k, rfl⟩))
    go_quiet (fail)
    go_wp2
    refine bodyPost_ret (v := .tuple #[.agg #[.int .i64 0, .int .i64 0], .int .i64 2]) (by simp [results, Try.results85, go_sem]) rfl (MkRet.mk H.out ?_)
    exact ((((Below.refl _ _).alloc (Nat.le_refl _) _).trans (Joins.below_draws _ _ _)).setCell (by simp) _).setCell (by simp) _
  have c2' : (d.natAbs : Int) / (g : Int) ≤ 1000000 := by omega
  clear c2
  by_cases sn : n < 0
  · by_cases sd : d < 0
    · have H := Lib.hid (mk_same H0.out G.out c1' c2' (by simp [sn, sd]))
      go_enter Try.func85, Try.ntmps85
      go_wp2_with (first
        | (go_at_call 84; refine (magnitude_any _ _ (by omega) (by omega)).mono ?_; rintro e w' ⟨rfl, rfl⟩)
        | (go_at_call 83; refine (commonDivisor_any _ _ _ (by omega) (by omega)).mono ?_; rw [G.out]; rintro e w' ⟨rfl, k, rfl⟩))
      go_quiet (fail)
      go_wp2
      refine bodyPost_ret (v := .tuple #[.agg #[.int .i64 ((n.natAbs : Int) / (g : Int)), .int .i64 ((d.natAbs : Int) / (g : Int))], .int .i64 0]) (by simp [results, Try.results85, go_sem]) rfl (MkRet.mk H.out ?_)
      exact ((((Below.refl _ _).alloc (Nat.le_refl _) _).trans (Joins.below_draws _ _ _)).setCell (by simp) _).setCell (by simp) _
    · have H := Lib.hid (mk_other H0.out G.out c1' c2' (by simp [sn, sd]))
      have sd' : decide (d < 0) = false := by simp; omega
      go_enter Try.func85, Try.ntmps85
      go_wp2_with (first
        | (go_at_call 84; refine (magnitude_any _ _ (by omega) (by omega)).mono ?_; rintro e w' ⟨rfl, rfl⟩)
        | (go_at_call 83; refine (commonDivisor_any _ _ _ (by omega) (by omega)).mono ?_; rw [G.out]; rintro e w' ⟨rfl, k, rfl⟩))
      go_quiet (fail)
      go_wp2
      refine bodyPost_ret (v := .tuple #[.agg #[.int .i64 (-((n.natAbs : Int) / (g : Int))), .int .i64 ((d.natAbs : Int) / (g : Int))], .int .i64 0]) (by simp [results, Try.results85, go_sem]) rfl (MkRet.mk H.out ?_)
      exact ((((Below.refl _ _).alloc (Nat.le_refl _) _).trans (Joins.below_draws _ _ _)).setCell (by simp) _).setCell (by simp) _
  · have sn' : decide (n < 0) = false := by simp; omega
    by_cases sd : d < 0
    · have H := Lib.hid (mk_other H0.out G.out c1' c2' (by simp [sn, sd]))
      go_enter Try.func85, Try.ntmps85
      go_wp2_with (first
        | (go_at_call 84; refine (magnitude_any _ _ (by omega) (by omega)).mono ?_; rintro e w' ⟨rfl, rfl⟩)
        | (go_at_call 83; refine (commonDivisor_any _ _ _ (by omega) (by omega)).mono ?_; rw [G.out]; rintro e w' ⟨rfl, k, rfl⟩))
      go_quiet (fail)
      go_wp2
      refine bodyPost_ret (v := .tuple #[.agg #[.int .i64 (-((n.natAbs : Int) / (g : Int))), .int .i64 ((d.natAbs : Int) / (g : Int))], .int .i64 0]) (by simp [results, Try.results85, go_sem]) rfl (MkRet.mk H.out ?_)
      exact ((((Below.refl _ _).alloc (Nat.le_refl _) _).trans (Joins.below_draws _ _ _)).setCell (by simp) _).setCell (by simp) _
    · have H := Lib.hid (mk_same H0.out G.out c1' c2' (by simp [sn, sd]))
      have sd' : decide (d < 0) = false := by simp; omega
      go_enter Try.func85, Try.ntmps85
      go_wp2_with (first
        | (go_at_call 84; refine (magnitude_any _ _ (by omega) (by omega)).mono ?_; rintro e w' ⟨rfl, rfl⟩)
        | (go_at_call 83; refine (commonDivisor_any _ _ _ (by omega) (by omega)).mono ?_; rw [G.out]; rintro e w' ⟨rfl, k, rfl⟩))
      go_quiet (fail)
      go_wp2
      refine bodyPost_ret (v := .tuple #[.agg #[.int .i64 ((n.natAbs : Int) / (g : Int)), .int .i64 ((d.natAbs : Int) / (g : Int))], .int .i64 0]) (by simp [results, Try.results85, go_sem]) rfl (MkRet.mk H.out ?_)
      exact ((((Below.refl _ _).alloc (Nat.le_refl _) _).trans (Joins.below_draws _ _ _)).setCell (by simp) _).setCell (by simp) _


set_option maxHeartbeats 800000 in
theorem eqFrac_same (n d : Int) (w : World) :
    Calls Try.prog 29 #[.agg #[.int .i64 n, .int .i64 d], .agg #[.int .i64 n, .int .i64 d]] w fun e w' => e = .returned (.bool true) ∧ Below w.heap.size w w' := by
  have e1 : (n != n) = false := by simp
  have e2 : (d != d) = false := by simp
  go_enter Try.func29, Try.ntmps29
  go_wp2
  go_ret
  exact ⟨rfl, ((Below.refl _ _).alloc (Nat.le_refl _) _).alloc (by simp) _⟩

end Go.Proofs.Ytjlmoadnbbeloaa
