/- Walks: which fractions are valid, on both sides; the conversion of a law's fraction. -/
import Derived.Test.YtaphkogdcmnnbaaG
import Derived.Lib.SmallJoins
namespace Go.Proofs.Ytaphkogdcmnnbaa
open Go.RowKit

theorem quiet_left {P : Program} {f : FuncId} {args : Array Value} {w : World} {n : Nat} {v : Value}
    (h : Calls P f args (w.drewN n) fun e w' => e = .returned v ∧ w.drewN n = w') : Calls P f args (w.drewN n) fun e w'' => e = .returned v ∧ ∃ m, w'' = w.drewN m :=
  h.mono fun _ _ ⟨he, hm⟩ => ⟨he, n, hm.symm⟩


set_option maxHeartbeats 400000 in
theorem l00In_yes (n lo hi : Int) (w : World) (h1 : lo ≤ n) (h2 : n ≤ hi) :
    Calls Try.prog 43 #[.int .i64 n, .int .i64 lo, .int .i64 hi] w fun e w' => e = .returned (.bool true) ∧ w = w' := by
  go_enter Try.func43, Try.ntmps43
  go_wp2
  go_ret
  exact ⟨rfl, rfl⟩
set_option maxHeartbeats 400000 in
theorem l00In_no (n lo hi : Int) (w : World) (h : n < lo ∨ hi < n) :
    Calls Try.prog 43 #[.int .i64 n, .int .i64 lo, .int .i64 hi] w fun e w' => e = .returned (.bool false) ∧ w = w' := by
  by_cases h1 : n < lo
  · clear h
    have h2 : decide (lo ≤ n) = false := by simp; omega
    go_enter Try.func43, Try.ntmps43
    go_wp2
    go_ret
    exact ⟨rfl, rfl⟩
  · have h2 : decide (n ≤ hi) = false := by simp; omega
    have h3 : lo ≤ n := by omega
    clear h h1
    go_enter Try.func43, Try.ntmps43
    go_wp2
    go_ret
    exact ⟨rfl, rfl⟩

/-- The world behind: one box more, and draws. -/
def Boxed (t : TypeId) (n d : Int) (v : Value) (w : World) (e : Ending) (w' : World) : Prop := e = .returned v ∧ ∃ k, w' = (w.alloc (.cells #[.int .i64 n, .int .i64 d] t)).drewN k

theorem valid_in {n d : Int} (h1 : 1 ≤ d) (h2 : d ≤ 1000000) (h3 : -1000000000 ≤ n) (h4 : n ≤ 1000000000) : (((Nat.gcd n.natAbs d.natAbs : Nat) : Int) == 1) = validB n d := by
  rw [Bool.eq_iff_iff]
  simp [validB]
  omega
theorem valid_out {n d : Int} (h : d < 1 ∨ 1000000 < d ∨ n < -1000000000 ∨ 1000000000 < n) : validB n d = false := by
  simp [validB]; omega

set_option maxHeartbeats 800000 in
theorem l02Ok_any (n d : Int) (w : World) (hn : -9223372036854775808 ≤ n ∧ n ≤ 9223372036854775807) (hd : -9223372036854775808 ≤ d ∧ d ≤ 9223372036854775807) :
    Calls Try.prog 48 #[.agg #[.int .i64 n, .int .i64 d]] w (Boxed 36 n d (.bool (validB n d)) w) := by
  by_cases c1 : 1 ≤ d ∧ d ≤ 1000000
  · obtain ⟨c1, c2⟩ := c1
    by_cases c3 : -1000000000 ≤ n ∧ n ≤ 1000000000
    · obtain ⟨c3, c4⟩ := c3
      obtain ⟨m, rfl⟩ := Int.eq_ofNat_of_zero_le (show 0 ≤ d by omega)
      have H := Lib.hid (valid_in c1 c2 c3 c4)
      go_enter Try.func48, Try.ntmps48
      go_wp2
      go_quiet (first
        | (go_at_call 43; exact quiet_left (l00In_yes _ _ _ _ (by omega) (by omega)))
        | (go_at_call 51; exact quiet_left (l02Size_any _ _ (by omega) (by omega)))
        | (go_at_call 52; exact quiet_left (l02Gcd_any _ _ _ (by omega) (by omega))))
      go_wp2
      go_ret
      exact ⟨ret_bool H.out, _, rfl⟩
    · have H := Lib.hid (valid_out (n := n) (d := d) (by omega))
      have c4 : n < -1000000000 ∨ 1000000000 < n := by omega
      clear c3
      go_enter Try.func48, Try.ntmps48
      go_wp2
      go_quiet (first
        | (go_at_call 43; exact quiet_left (l00In_yes _ _ _ _ (by omega) (by omega)))
        | (go_at_call 43; exact quiet_left (l00In_no _ _ _ _ (by omega))))
      go_wp2
      go_ret
      exact ⟨ret_bool H.out.symm, _, rfl⟩
  · have H := Lib.hid (valid_out (n := n) (d := d) (by omega))
    have c4 : d < 1 ∨ 1000000 < d := by omega
    clear c1
    go_enter Try.func48, Try.ntmps48
    go_wp2
    go_quiet ((go_at_call 43; exact quiet_left (l00In_no _ _ _ _ (by omega))))
    go_wp2
    go_ret
    exact ⟨ret_bool H.out.symm, _, rfl⟩


set_option maxHeartbeats 800000 in
theorem implValidFrac_any (n d : Int) (w : World) (hn : -9223372036854775808 ≤ n ∧ n ≤ 9223372036854775807) (hd : -9223372036854775808 ≤ d ∧ d ≤ 9223372036854775807) :
    Calls Try.prog 27 #[.agg #[.int .i64 n, .int .i64 d]] w (Boxed 36 n d (.bool (validB n d)) w) := by
  by_cases c1 : d < 1
  · have H := Lib.hid (valid_out (n := n) (d := d) (by omega))
    go_enter Try.func27, Try.ntmps27
    go_wp2
    go_ret
    exact ⟨ret_bool H.out.symm, 0, rfl⟩
  by_cases c2 : 1000000 < d
  · have H := Lib.hid (valid_out (n := n) (d := d) (by omega))
    have c1' : 1 ≤ d := by omega
    clear c1
    go_enter Try.func27, Try.ntmps27
    go_wp2
    go_ret
    exact ⟨ret_bool H.out.symm, 0, rfl⟩
  by_cases c3 : n < -1000000000
  · have H := Lib.hid (valid_out (n := n) (d := d) (by omega))
    have c1' : 1 ≤ d := by omega
    have c2' : d ≤ 1000000 := by omega
    clear c1 c2
    go_enter Try.func27, Try.ntmps27
    go_wp2
    go_ret
    exact ⟨ret_bool H.out.symm, 0, rfl⟩
  by_cases c4 : 1000000000 < n
  · have H := Lib.hid (valid_out (n := n) (d := d) (by omega))
    have c1' : 1 ≤ d := by omega
    have c2' : d ≤ 1000000 := by omega
    have c3' : -1000000000 ≤ n := by omega
    clear c1 c2 c3
    go_enter Try.func27, Try.ntmps27
    go_wp2
    go_ret
    exact ⟨ret_bool H.out.symm, 0, rfl⟩
  · have c1' : 1 ≤ d := by omega
    have c2' : d ≤ 1000000 := by omega
    have c3' : -1000000000 ≤ n := by omega
    have c4' : n ≤ 1000000000 := by omega
    clear c1 c2 c3 c4
    have H := Lib.hid (valid_in c1' c2' c3' c4')
    go_enter Try.func27, Try.ntmps27
    go_wp2
    go_quiet (first
      | (go_at_call 50; exact quiet_left (magnitude_any _ _ (by omega) (by omega)))
      | (go_at_call 49; exact Calls.quiet_of (commonDivisor_any _ _ _ (by omega) (by omega))))
    go_wp2
    go_ret
    exact ⟨ret_bool H.out, _, rfl⟩


theorem bcell {W w1 : World} (hb : Below W.heap.size W w1) : (∀ b o, b < W.heap.size → w1.cell? ⟨b, o, none⟩ = W.cell? ⟨b, o, none⟩) ∧ (∀ b o, b < W.heap.size → w1.frozen? ⟨b, o, none⟩ = W.frozen? ⟨b, o, none⟩) :=
  ⟨fun b o h => hb.cell (p := ⟨b, o, none⟩) h, fun b o h => hb.frozen (p := ⟨b, o, none⟩) h⟩
theorem Boxed.below {t : TypeId} {n d : Int} {v : Value} {w w' : World} {e : Ending} (h : Boxed t n d v w e w') : e = .returned v ∧ Below w.heap.size w w' := by
  obtain ⟨he, k, rfl⟩ := h
  exact ⟨he, ((Below.refl _ _).alloc (Nat.le_refl _) _).trans (Joins.below_draws _ _ _)⟩

set_option maxHeartbeats 800000 in
theorem specValidFrac_any (n d : Int) (w : World) (hn : -9223372036854775808 ≤ n ∧ n ≤ 9223372036854775807) (hd : -9223372036854775808 ≤ d ∧ d ≤ 9223372036854775807) :
    Calls Try.prog 25 #[.agg #[.int .i64 n, .int .i64 d]] w fun e w' => e = .returned (.bool (validB n d)) ∧ Below w.heap.size w w' := by
  go_enter Try.func25, Try.ntmps25
  go_wp2_with (go_at_call 48; refine (l02Ok_any _ _ _ hn hd).mono ?_; rintro e w1 ⟨rfl, k, rfl⟩)
  go_ret
  exact ⟨rfl, (((Below.refl _ _).alloc (Nat.le_refl _) _).alloc (by simp) _).trans (Joins.below_draws _ _ _)⟩

set_option maxHeartbeats 800000 in
theorem toFrac_any (n d : Int) (w : World) :
    Calls Try.prog 26 #[.agg #[.int .i64 n, .int .i64 d]] w fun e w' => e = .returned (.agg #[.int .i64 n, .int .i64 d]) ∧ Below w.heap.size w w' := by
  go_enter Try.func26, Try.ntmps26
  go_wp2
  refine bodyPost_ret (v := .agg #[.int .i64 n, .int .i64 d]) (by simp [results, Try.results26, go_sem]) rfl ⟨rfl, ?_⟩
  exact (((Below.refl _ _).alloc (Nat.le_refl _) _).alloc (by simp) _).alloc (by simp; omega) _


set_option maxHeartbeats 800000 in
theorem walk_ValidFrac (n d : Int) (wn : (Lit.int .i64 n).wf = true) (wd : (Lit.int .i64 d).wf = true) (w : World) :
    Calls Try.prog 8 #[.agg #[.int .i64 n, .int .i64 d]] w fun e w' => e = .returned (.bool true) ∧ Below w.heap.size w w' := by
  have hn : -9223372036854775808 ≤ n ∧ n ≤ 9223372036854775807 := by simpa [Lit.wf, IntKind.min, IntKind.max, IntKind.signed, IntKind.bits] using wn
  have hd : -9223372036854775808 ≤ d ∧ d ≤ 9223372036854775807 := by simpa [Lit.wf, IntKind.min, IntKind.max, IntKind.signed, IntKind.bits] using wd
  clear wn wd
  generalize hv : validB n d = v
  have c1 := fun w => specValidFrac_any n d w hn hd
  have c2 := fun w => (implValidFrac_any n d w hn hd).mono fun _ _ h => h.below
  rw [hv] at c1 c2
  have C1 := Lib.hid c1
  have C2 := Lib.hid c2
  clear c1 c2 hv
  cases v
  all_goals
    go_enter Try.func8, Try.ntmps8
    go_wp2_with fail
    refine (toFrac_any _ _ _).mono ?_
    rintro e w1 ⟨rfl, hb1⟩
    obtain ⟨hc1, hf1⟩ := bcell hb1
    have hz1 : w.heap.size < w1.heap.size := by have := hb1.size; simp at this; omega
    go_wp2_with fail
    refine (C1.out _).mono ?_
    rintro e w2 ⟨rfl, hb2⟩
    obtain ⟨hc2, hf2⟩ := bcell hb2
    have hz2 : w.heap.size < w2.heap.size := by have := hb2.size; omega
    go_wp2_with fail
    refine (toFrac_any _ _ _).mono ?_
    rintro e w3 ⟨rfl, hb3⟩
    go_wp2_with fail
    refine (C2.out _).mono ?_
    rintro e w4 ⟨rfl, hb4⟩
    go_wp2
    go_ret
    refine ⟨rfl, ?_⟩
    have g1 : Below w.heap.size w w1 := ((Below.refl _ _).alloc (Nat.le_refl _) _).trans (hb1.mono (by simp))
    have g2 := g1.trans (hb2.mono g1.size)
    have g3 := g2.trans (hb3.mono g2.size)
    exact g3.trans (hb4.mono g3.size)

end Go.Proofs.Ytaphkogdcmnnbaa
