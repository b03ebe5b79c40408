/- Walks: which fractions are valid, on both sides; the conversion of a law's fraction. -/
import Derived.Test.YtonoldjhfhngfaaDoorG
import Derived.Lib.SmallJoins
namespace Go.Proofs.YtonoldjhfhngfaaDoor
open Go.RowKit

theorem quiet_left {P : Program} {f : FuncId} {args : Array Value} {w : World} {n : Nat} {v : Value}
    (h : Calls P f args (w.drewN n) fun e w' => e = .returned v ∧ w.drewN n = w') : Calls P f args (w.drewN n) fun e w'' => e = .returned v ∧ ∃ m, w'' = w.drewN m :=
  h.mono fun _ _ ⟨he, hm⟩ => ⟨he, n, hm.symm⟩


set_option maxHeartbeats 400000 in
theorem l00In_yes (n lo hi : Int) (w : World) (h1 : lo ≤ n) (h2 : n ≤ hi) :
    Calls Tryd.prog 48 #[.int .i64 n, .int .i64 lo, .int .i64 hi] w fun e w' => e = .returned (.bool true) ∧ w = w' := by
  go_enter Tryd.func48, Tryd.ntmps48
  go_wp2
  go_ret
  exact ⟨rfl, rfl⟩
set_option maxHeartbeats 400000 in
theorem l00In_no (n lo hi : Int) (w : World) (h : n < lo ∨ hi < n) :
    Calls Tryd.prog 48 #[.int .i64 n, .int .i64 lo, .int .i64 hi] w fun e w' => e = .returned (.bool false) ∧ w = w' := by
  by_cases h1 : n < lo
  · clear h
    have h2 : decide (lo ≤ n) = false := by simp; omega
    go_enter Tryd.func48, Tryd.ntmps48
    go_wp2
    go_ret
    exact ⟨rfl, rfl⟩
  · have h2 : decide (n ≤ hi) = false := by simp; omega
    have h3 : lo ≤ n := by omega
    clear h h1
    go_enter Tryd.func48, Tryd.ntmps48
    go_wp2
    go_ret
    exact ⟨rfl, rfl⟩

/-- The world behind: one box more, and draws. -/
def Boxed (t : TypeId) (n d : Int) (v : Value) (w : World) (e : Ending) (w' : World) : Prop := e = .returned v ∧ ∃ k, w' = (w.alloc (.cells #[.int .i64 n, .int .i64 d] t)).drewN k

theorem valid_in {n d : Int} (h1 : 1 ≤ d) (h2 : d ≤ 1000000) (h3 : -1000000000 ≤ n) (h4 : n ≤ 1000000000) : (((Nat.gcd n.natAbs d.natAbs : Nat) : Int) == 1) = validB n d := by
  rw [Bool.eq_iff_iff]
  simp [validB]
  omega
theorem valid_out {n d : Int} (h : d < 1 ∨ 1000000 < d ∨ n < -1000000000 ∨ 1000000000 < n) : validB n d = false := by
  simp [validB]; omega

set_option maxHeartbeats 800000 in
theorem l02Ok_any (n d : Int) (w : World) (hn : -9223372036854775808 ≤ n ∧ n ≤ 9223372036854775807) (hd : -9223372036854775808 ≤ d ∧ d ≤ 9223372036854775807) :
    Calls Tryd.prog 58 #[.agg #[.int .i64 n, .int .i64 d]] w (Boxed 47 n d (.bool (validB n d)) w) := by
  by_cases c1 : 1 ≤ d ∧ d ≤ 1000000
  · obtain ⟨c1, c2⟩ := c1
    by_cases c3 : -1000000000 ≤ n ∧ n ≤ 1000000000
    · obtain ⟨c3, c4⟩ := c3
      obtain ⟨m, rfl⟩ := Int.eq_ofNat_of_zero_le (show 0 ≤ d by omega)
      have H := Lib.hid (valid_in c1 c2 c3 c4)
      go_enter Tryd.func58, Tryd.ntmps58
      go_wp2
      go_quiet (first
        | (go_at_call 48; exact quiet_left (l00In_yes _ _ _ _ (by omega) (by omega)))
        | (go_at_call 79; exact quiet_left (l02Size_any _ _ (by omega) (by omega)))
        | (go_at_call 78; exact quiet_left (l02Gcd_any _ _ _ (by omega) (by omega))))
      go_wp2
      go_ret
      exact ⟨ret_bool H.out, _, rfl⟩
    · have H := Lib.hid (valid_out (n := n) (d := d) (by omega))
      have c4 : n < -1000000000 ∨ 1000000000 < n := by omega
      clear c3
      go_enter Tryd.func58, Tryd.ntmps58
      go_wp2
      go_quiet (first
        | (go_at_call 48; exact quiet_left (l00In_yes _ _ _ _ (by omega) (by omega)))
        | (go_at_call 48; exact quiet_left (l00In_no _ _ _ _ (by omega))))
      go_wp2
      go_ret
      exact ⟨ret_bool H.out.symm, _, rfl⟩
  · have H := Lib.hid (valid_out (n := n) (d := d) (by omega))
    have c4 : d < 1 ∨ 1000000 < d := by omega
    clear c1
    go_enter Tryd.func58, Tryd.ntmps58
    go_wp2
    go_quiet ((go_at_call 48; exact quiet_left (l00In_no _ _ _ _ (by omega))))
    go_wp2
    go_ret
    exact ⟨ret_bool H.out.symm, _, rfl⟩


set_option maxHeartbeats 800000 in
theorem implValidFrac_any (n d : Int) (w : World) (hn : -9223372036854775808 ≤ n ∧ n ≤ 9223372036854775807) (hd : -9223372036854775808 ≤ d ∧ d ≤ 9223372036854775807) :
    Calls Tryd.prog 62 #[.agg #[.int .i64 n, .int .i64 d]] w (Boxed 47 n d (.bool (validB n d)) w) := by
  by_cases c1 : d < 1
  · have H := Lib.hid (valid_out (n := n) (d := d) (by omega))
    go_enter Tryd.func62, Tryd.ntmps62
    go_wp2
    go_ret
    exact ⟨ret_bool H.out.symm, 0, rfl⟩
  by_cases c2 : 1000000 < d
  · have H := Lib.hid (valid_out (n := n) (d := d) (by omega))
    have c1' : 1 ≤ d := by omega
    clear c1
    go_enter Tryd.func62, Tryd.ntmps62
    go_wp2
    go_ret
    exact ⟨ret_bool H.out.symm, 0, rfl⟩
  by_cases c3 : n < -1000000000
  · have H := Lib.hid (valid_out (n := n) (d := d) (by omega))
    have c1' : 1 ≤ d := by omega
    have c2' : d ≤ 1000000 := by omega
    clear c1 c2
    go_enter Tryd.func62, Tryd.ntmps62
    go_wp2
    go_ret
    exact ⟨ret_bool H.out.symm, 0, rfl⟩
  by_cases c4 : 1000000000 < n
  · have H := Lib.hid (valid_out (n := n) (d := d) (by omega))
    have c1' : 1 ≤ d := by omega
    have c2' : d ≤ 1000000 := by omega
    have c3' : -1000000000 ≤ n := by omega
    clear c1 c2 c3
    go_enter Tryd.func62, Tryd.ntmps62
    go_wp2
    go_ret
    exact ⟨ret_bool H.out.symm, 0, rfl⟩
  · have c1' : 1 ≤ d := by omega
    have c2' : d ≤ 1000000 := by omega
    have c3' : -1000000000 ≤ n := by omega
    have c4' : n ≤ 1000000000 := by omega
    clear c1 c2 c3 c4
    have H := Lib.hid (valid_in c1' c2' c3' c4')
    go_enter Tryd.func62, Tryd.ntmps62
    go_wp2
    go_quiet (first
      | (go_at_call 83; exact quiet_left (magnitude_any _ _ (by omega) (by omega)))
      | (go_at_call 82; exact Calls.quiet_of (commonDivisor_any _ _ _ (by omega) (by omega))))
    go_wp2
    go_ret
    exact ⟨ret_bool H.out, _, rfl⟩


theorem bcell {W w1 : World} (hb : Below W.heap.size W w1) : (∀ b o, b < W.heap.size → w1.cell? ⟨b, o, none⟩ = W.cell? ⟨b, o, none⟩) ∧ (∀ b o, b < W.heap.size → w1.frozen? ⟨b, o, none⟩ = W.frozen? ⟨b, o, none⟩) :=
  ⟨fun b o h => hb.cell (p := ⟨b, o, none⟩) h, fun b o h => hb.frozen (p := ⟨b, o, none⟩) h⟩
theorem Boxed.below {t : TypeId} {n d : Int} {v : Value} {w w' : World} {e : Ending} (h : Boxed t n d v w e w') : e = .returned v ∧ Below w.heap.size w w' := by
  obtain ⟨he, k, rfl⟩ := h
  exact ⟨he, ((Below.refl _ _).alloc (Nat.le_refl _) _).trans (Joins.below_draws _ _ _)⟩

set_option maxHeartbeats 800000 in
theorem toFrac_any (n d : Int) (w : World) :
    Calls Tryd.prog 80 #[.agg #[.int .i64 n, .int .i64 d]] w fun e w' => e = .returned (.agg #[.int .i64 n, .int .i64 d]) ∧ Below w.heap.size w w' := by
  go_enter Tryd.func80, Tryd.ntmps80
  go_wp2
  refine bodyPost_ret (v := .agg #[.int .i64 n, .int .i64 d]) (by simp [results, Tryd.results80, go_sem]) rfl ⟨rfl, ?_⟩
  exact (((Below.refl _ _).alloc (Nat.le_refl _) _).alloc (by simp) _).alloc (by simp; omega) _

end Go.Proofs.YtonoldjhfhngfaaDoor
