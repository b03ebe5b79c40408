/- Walks: the text of a fraction, on both sides (beside W4). -/
import Derived.Test.YtonoldjhfhngfaaDoorW4
import Derived.Test.YtonoldjhfhngfaaDoorDA
import Derived.Lib.ItoaLen
import Derived.Lib.Strings
import Derived.Deep.RegionHeld3
import Derived.Deep.DeepCutAuto
namespace Go.Proofs.YtonoldjhfhngfaaDoor
open Go.RowKit

def decB (n : Int) : ByteArray := ⟨(Lib.itoa n).toArray⟩
theorem decB_size {n : Int} (h : -9223372036854775808 ≤ n ∧ n ≤ 9223372036854775807) : (decB n).size ≤ 21 := by
  have := Lib.itoa_length_le n h.1 h.2
  rw [Lib.size_eq]
  exact this
/-- The text of a fraction's two numbers. -/
def fracB (n d : Int) : ByteArray := if d = 1 then decB n else decB n ++ ⟨#[47]⟩ ++ decB d
theorem fracB_one (n : Int) : fracB n 1 = decB n := rfl
theorem fracB_more {d : Int} (h : ¬ d = 1) (n : Int) : fracB n d = decB n ++ ⟨#[47]⟩ ++ decB d := by unfold fracB; rw [if_neg h]
theorem ret_str {a b : ByteArray} (h : a = b) : Ending.returned (.string a) = .returned (.string b) := by rw [h]
/-- A struct of two integers in block g. -/
def Held2 (g : Nat) (n d : Int) (w : World) : Prop := w.cell? ⟨g, 0, none⟩ = some (.int .i64 n) ∧ w.cell? ⟨g, 1, none⟩ = some (.int .i64 d) ∧ g < w.heap.size

set_option maxHeartbeats 1600000 in
theorem l02Text_any (n d : Int) (w : World) (hn : -9223372036854775808 ≤ n ∧ n ≤ 9223372036854775807) (hd : -9223372036854775808 ≤ d ∧ d ≤ 9223372036854775807) :
    Calls Tryd.prog 38 #[.agg #[.int .i64 n, .int .i64 d]] w fun e w' => e = .returned (.string (fracB n d)) ∧ Below w.heap.size w w' := by
  have c1 : ∀ w, Calls Tryd.prog 49 #[.int .i64 n] w fun e w' => e = .returned (.string (decB n)) ∧ Below w.heap.size w w' := fun w => l01Dec_any n w hn.1 hn.2
  have c2 : ∀ w, Calls Tryd.prog 49 #[.int .i64 d] w fun e w' => e = .returned (.string (decB d)) ∧ Below w.heap.size w w' := fun w => l01Dec_any d w hd.1 hd.2
  have C1 := Lib.hid c1
  have C2 := Lib.hid c2
  clear c1 c2
  have hx := decB_size hn
  have hy := decB_size hd
  clear hn hd
  by_cases h1 : d = 1
  · subst h1
    rw [fracB_one]
    generalize decB n = x at C1 hx ⊢
    go_enter Tryd.func38, Tryd.ntmps38
    go_wp2_with fail
    refine (C1.out _).mono ?_
    rintro e w1 ⟨rfl, hb1⟩
    go_wp2
    go_ret
    exact ⟨rfl, ((Below.refl _ _).alloc (Nat.le_refl _) _).trans (hb1.mono (by simp))⟩
  · rw [fracB_more h1]
    have h2 : (d == 1) = false := beq_eq_false_iff_ne.2 h1
    clear h1
    generalize decB n = x at C1 hx ⊢
    generalize decB d = y at C2 hy ⊢
    have f3 : (9223372036854775807 < x.size + 1) = False := by simp only [eq_iff_iff, iff_false]; omega
    have f4 : (9223372036854775807 < x.size + 1 + y.size) = False := by simp only [eq_iff_iff, iff_false]; omega
    go_enter Tryd.func38, Tryd.ntmps38
    go_wp2
    go_region_held3 (fun w' => w'.cell? ⟨w.heap.size, 0, none⟩ = some (.int .i64 n) ∧ w'.cell? ⟨w.heap.size, 1, none⟩ = some (.int .i64 d) ∧ w.heap.size < w'.heap.size)
      (first | ((try dsimp only); (repeat' apply And.intro); all_goals (first | assumption | omega | (simp (disch := omega) [*]; done) | (simp [go_sem]; done) | (simp; omega))) | fail)
      (first
        | (go_at_call 49; (with_reducible refine (C1.out _).mono ?_); rintro e wA ⟨rfl, hbA⟩; obtain ⟨hcA, hfA⟩ := bcell hbA; have hzA := hbA.size)
        | (go_at_call 49; (with_reducible refine (C2.out _).mono ?_); rintro e wB ⟨rfl, hbB⟩; obtain ⟨hcB, hfB⟩ := bcell hbB; have hzB := hbB.size))
    all_goals
      go_wp2
      go_ret
      have BA : Below w.heap.size w wA := Below.trans (((Below.refl _ _).alloc (Nat.le_refl _) _).drew) (hbA.mono (by simp))
      exact ⟨rfl, BA.trans (hbB.mono BA.size)⟩

/-- The text of a fraction, or none. -/
def textOf (n d : Int) : ByteArray := if validB n d then fracB n d else ⟨#[]⟩
theorem textOf_yes {n d : Int} (h : validB n d = true) : textOf n d = fracB n d := by unfold textOf; rw [if_pos h]
theorem textOf_no {n d : Int} (h : validB n d = false) : textOf n d = ⟨#[]⟩ := by unfold textOf; rw [h]; rfl
set_option maxHeartbeats 1600000 in
theorem implFracText_any (n d : Int) (w : World) (hn : -9223372036854775808 ≤ n ∧ n ≤ 9223372036854775807) (hd : -9223372036854775808 ≤ d ∧ d ≤ 9223372036854775807) (ht : Lib.TabIs Tryd.prog w "internal/strconv.uint64pow10" .u64 Lib.pow10Tab) :
    Calls Tryd.prog 44 #[.agg #[.int .i64 n, .int .i64 d]] w fun e w' => e = .returned (.string (textOf n d)) ∧ Below w.heap.size w w' := by
  have c0 := fun w => (implValidFrac_any n d w hn hd).mono fun _ _ h => h.below
  have c1 : ∀ w1, Below w.heap.size w w1 → Calls Tryd.prog 32 #[.int .i64 n] w1 fun e w' => e = .returned (.string (decB n)) ∧ Below w1.heap.size w1 w' := fun w1 hb => implDecimal_any n w1 hn.1 hn.2 (Joins.tab_stays gPow ht hb (Nat.le_refl _))
  have c2 : ∀ w1, Below w.heap.size w w1 → Calls Tryd.prog 32 #[.int .i64 d] w1 fun e w' => e = .returned (.string (decB d)) ∧ Below w1.heap.size w1 w' := fun w1 hb => implDecimal_any d w1 hd.1 hd.2 (Joins.tab_stays gPow ht hb (Nat.le_refl _))
  have C1 := Lib.hid c1
  have C2 := Lib.hid c2
  clear c1 c2 ht
  have hx := decB_size hn
  have hy := decB_size hd
  clear hn hd
  by_cases v : validB n d = true
  · rw [textOf_yes v]
    rw [v] at c0
    have C0 := Lib.hid c0
    clear v c0
    by_cases h1 : d = 1
    · subst h1
      rw [fracB_one]
      generalize decB n = x at C1 hx ⊢
      go_enter Tryd.func44, Tryd.ntmps44
      go_wp2_with fail
      refine (C0.out _).mono ?_
      rintro e w1 ⟨rfl, hb1⟩
      obtain ⟨hc1, hf1⟩ := bcell hb1
      have hz1 := hb1.size
      simp only [World.size_alloc] at hc1 hf1 hz1
      have B1 : Below w.heap.size w w1 := ((Below.refl _ _).alloc (Nat.le_refl _) _).trans (hb1.mono (by simp))
      go_wp2_with fail
      refine (C1.out _ B1).mono ?_
      rintro e w2 ⟨rfl, hb2⟩
      go_wp2
      go_ret
      exact ⟨rfl, B1.trans (hb2.mono B1.size)⟩
    · rw [fracB_more h1]
      have h2 : (d == 1) = false := beq_eq_false_iff_ne.2 h1
      clear h1
      generalize decB n = x at C1 hx ⊢
      generalize decB d = y at C2 hy ⊢
      have f3 : (9223372036854775807 < x.size + 1) = False := by simp only [eq_iff_iff, iff_false]; omega
      have f4 : (9223372036854775807 < x.size + 1 + y.size) = False := by simp only [eq_iff_iff, iff_false]; omega
      go_enter Tryd.func44, Tryd.ntmps44
      go_wp2_with fail
      refine (C0.out _).mono ?_
      rintro e w1 ⟨rfl, hb1⟩
      obtain ⟨hc1, hf1⟩ := bcell hb1
      have hz1 := hb1.size
      simp only [World.size_alloc] at hc1 hf1 hz1
      have B1 : Below w.heap.size w w1 := ((Below.refl _ _).alloc (Nat.le_refl _) _).trans (hb1.mono (by simp))
      have k1 : w1.cell? ⟨w.heap.size, 0, none⟩ = some (.int .i64 n) := by rw [hc1 _ _ (by omega)]; simp [go_sem]
      have k2 : w1.cell? ⟨w.heap.size, 1, none⟩ = some (.int .i64 d) := by rw [hc1 _ _ (by omega)]; simp [go_sem]
      have k3 : w.heap.size < w1.heap.size := by omega
      clear hc1 hf1 hb1 hz1
      go_wp2
      go_region_held3 (fun w' => w'.cell? ⟨w.heap.size, 0, none⟩ = some (.int .i64 n) ∧ w'.cell? ⟨w.heap.size, 1, none⟩ = some (.int .i64 d) ∧ w.heap.size < w'.heap.size)
        (first | ((try dsimp only); (repeat' apply And.intro); all_goals (first | assumption | omega | (simp (disch := omega) [*]; done) | (simp; omega))) | fail)
        (first
          | (go_at_call 32; (with_reducible refine (C1.out _ (by first | exact B1 | exact B1.drew)).mono ?_); rintro e wA ⟨rfl, hbA⟩; obtain ⟨hcA, hfA⟩ := bcell hbA; have hzA := hbA.size; have BA : Below w.heap.size w wA := Below.trans (by first | exact B1 | exact B1.drew) (hbA.mono (by first | exact B1.size | exact B1.drew.size)))
          | (go_at_call 32; (with_reducible refine (C2.out _ BA).mono ?_); rintro e wB ⟨rfl, hbB⟩; obtain ⟨hcB, hfB⟩ := bcell hbB; have hzB := hbB.size))
      all_goals
        go_wp2
        go_ret
        exact ⟨rfl, BA.trans (hbB.mono BA.size)⟩
  · have v' : validB n d = false := by simpa using v
    rw [textOf_no v']
    rw [v'] at c0
    have C0 := Lib.hid c0
    clear v v' c0 C1 C2 hx hy
    go_enter Tryd.func44, Tryd.ntmps44
    go_wp2_with fail
    refine (C0.out _).mono ?_
    rintro e w1 ⟨rfl, hb1⟩
    go_wp2
    go_ret
    exact ⟨rfl, ((Below.refl _ _).alloc (Nat.le_refl _) _).trans (hb1.mono (by simp))⟩

end Go.Proofs.YtonoldjhfhngfaaDoor
