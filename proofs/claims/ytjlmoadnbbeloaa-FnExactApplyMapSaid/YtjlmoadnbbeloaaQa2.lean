/- Walks: integers as fractions, quarter turns of the program, the map that changes nothing; maps converted and compared. -/
import Derived.Test.YtjlmoadnbbeloaaWDiv2
import Derived.Deep.RegionHeld3
import Derived.Deep.DeepCutAuto
import Derived.Outline
namespace Go.Proofs.Ytjlmoadnbbeloaa
open Go.RowKit

theorem and3 (x : Int) : bits .and .i64 x 3 = x % 4 := by
  have e : (BitVec.ofInt 64 x &&& BitVec.ofInt 64 3).toNat = (x % 18446744073709551616).toNat % 4 := by
    rw [BitVec.toNat_and, BitVec.toNat_ofInt]
    exact Nat.and_two_pow_sub_one_eq_mod _ 2
  unfold bits
  show IntKind.i64.wrap ((BitVec.ofInt 64 x &&& BitVec.ofInt 64 3).toNat : Int) = x % 4
  rw [e, IntWalk.i64_in _ (by omega)]; omega

set_option maxHeartbeats 400000 in
theorem l04Int_any (n : Int) (w : World) :
    Calls Try.prog 88 #[.int .i64 n] w fun e w' => e = .returned (.agg #[.int .i64 n, .int .i64 1]) ∧ w' = w.alloc (.cells #[.int .i64 n, .int .i64 1] 26) := by
  go_enter Try.func88, Try.ntmps88
  go_wp2
  exact bodyPost_ret (v := .agg #[.int .i64 n, .int .i64 1]) (by simp [results, Try.results88, go_sem]) rfl ⟨rfl, rfl⟩

/-- The quarter turns' cosines and sines. -/
def cosI (k : Int) : Int := if k % 4 = 0 then 1 else if k % 4 = 2 then -1 else 0
def sinI (k : Int) : Int := if k % 4 = 1 then 1 else if k % 4 = 3 then -1 else 0
def QuarterRet (k : Int) (w : World) (e : Ending) (w' : World) : Prop := e = .returned (.agg #[.int .i64 (cosI k), .int .i64 1, .int .i64 (-(sinI k)), .int .i64 1, .int .i64 (sinI k), .int .i64 1, .int .i64 (cosI k), .int .i64 1, .int .i64 0, .int .i64 1, .int .i64 0, .int .i64 1]) ∧ Below w.heap.size w w'
theorem QuarterRet.mk {k a b c d : Int} {w w' : World} (h1 : cosI k = a) (h2 : -(sinI k) = b) (h3 : sinI k = c) (h4 : cosI k = d) (hb : Below w.heap.size w w') : QuarterRet k w (.returned (.agg #[.int .i64 a, .int .i64 1, .int .i64 b, .int .i64 1, .int .i64 c, .int .i64 1, .int .i64 d, .int .i64 1, .int .i64 0, .int .i64 1, .int .i64 0, .int .i64 1])) w' := by
  subst h1 h2 h3 h4; exact ⟨rfl, hb⟩
theorem wrap4 (x : Int) : (IntKind.i64.wrap x) % 4 = x % 4 := by
  simp only [IntKind.wrap_i64]; omega
set_option maxHeartbeats 3200000 in
theorem implQuarter_any (k : Int) (w : World) :
    Calls Try.prog 65 #[.int .i64 k] w (QuarterRet k w) := by
  have hk : k % 4 = 0 ∨ k % 4 = 1 ∨ k % 4 = 2 ∨ k % 4 = 3 := by omega
  have hb := and3 k
  have hb2 := and3 (IntKind.i64.wrap (k - 1))
  rw [wrap4] at hb2
  rcases hk with hk | hk | hk | hk
  · have X := Lib.hid (show cosI k = 1 ∧ -(sinI k) = 0 ∧ sinI k = 0 ∧ cosI k = 1 by simp [cosI, sinI, hk])
    rw [hk] at hb
    rw [show (k - 1) % 4 = 3 by omega] at hb2
    clear hk
    go_enter Try.func65, Try.ntmps65
    go_wp2_with fail
    go_quiet (fail)
    clear hb hb2
    go_wp2_with (go_at_call 36; refine (whole_any _ _).mono ?_; rintro e w1 ⟨rfl, rfl⟩)
    refine bodyPost_ret (v := .agg #[.int .i64 1, .int .i64 1, .int .i64 0, .int .i64 1, .int .i64 0, .int .i64 1, .int .i64 1, .int .i64 1, .int .i64 0, .int .i64 1, .int .i64 0, .int .i64 1]) (by simp [results, Try.results65, go_sem]) rfl (QuarterRet.mk X.out.1 X.out.2.1 X.out.2.2.1 X.out.2.2.2 ?_)
    repeat' (first | with_reducible assumption | with_reducible exact Below.refl _ _ | (with_reducible refine Below.setCell ?_ ?_ _) | (with_reducible refine Below.alloc ?_ ?_ _) | (with_reducible refine Below.drew ?_) | (with_reducible refine below_dr ?_ _) | (with_reducible refine Below.trans ?_ (Below.mono (by with_reducible assumption) ?_)) | omega | (simp; done) | (simp; omega))
  · have X := Lib.hid (show cosI k = 0 ∧ -(sinI k) = (-1) ∧ sinI k = 1 ∧ cosI k = 0 by simp [cosI, sinI, hk])
    rw [hk] at hb
    rw [show (k - 1) % 4 = 0 by omega] at hb2
    clear hk
    go_enter Try.func65, Try.ntmps65
    go_wp2_with fail
    go_quiet (fail)
    clear hb hb2
    go_wp2_with (go_at_call 36; refine (whole_any _ _).mono ?_; rintro e w1 ⟨rfl, rfl⟩)
    refine bodyPost_ret (v := .agg #[.int .i64 0, .int .i64 1, .int .i64 (-1), .int .i64 1, .int .i64 1, .int .i64 1, .int .i64 0, .int .i64 1, .int .i64 0, .int .i64 1, .int .i64 0, .int .i64 1]) (by simp [results, Try.results65, go_sem]) rfl (QuarterRet.mk X.out.1 X.out.2.1 X.out.2.2.1 X.out.2.2.2 ?_)
    repeat' (first | with_reducible assumption | with_reducible exact Below.refl _ _ | (with_reducible refine Below.setCell ?_ ?_ _) | (with_reducible refine Below.alloc ?_ ?_ _) | (with_reducible refine Below.drew ?_) | (with_reducible refine below_dr ?_ _) | (with_reducible refine Below.trans ?_ (Below.mono (by with_reducible assumption) ?_)) | omega | (simp; done) | (simp; omega))
  · have X := Lib.hid (show cosI k = (-1) ∧ -(sinI k) = 0 ∧ sinI k = 0 ∧ cosI k = (-1) by simp [cosI, sinI, hk])
    rw [hk] at hb
    rw [show (k - 1) % 4 = 1 by omega] at hb2
    clear hk
    go_enter Try.func65, Try.ntmps65
    go_wp2_with fail
    go_quiet (fail)
    clear hb hb2
    go_wp2_with (go_at_call 36; refine (whole_any _ _).mono ?_; rintro e w1 ⟨rfl, rfl⟩)
    refine bodyPost_ret (v := .agg #[.int .i64 (-1), .int .i64 1, .int .i64 0, .int .i64 1, .int .i64 0, .int .i64 1, .int .i64 (-1), .int .i64 1, .int .i64 0, .int .i64 1, .int .i64 0, .int .i64 1]) (by simp [results, Try.results65, go_sem]) rfl (QuarterRet.mk X.out.1 X.out.2.1 X.out.2.2.1 X.out.2.2.2 ?_)
    repeat' (first | with_reducible assumption | with_reducible exact Below.refl _ _ | (with_reducible refine Below.setCell ?_ ?_ _) | (with_reducible refine Below.alloc ?_ ?_ _) | (with_reducible refine Below.drew ?_) | (with_reducible refine below_dr ?_ _) | (with_reducible refine Below.trans ?_ (Below.mono (by with_reducible assumption) ?_)) | omega | (simp; done) | (simp; omega))
  · have X := Lib.hid (show cosI k = 0 ∧ -(sinI k) = 1 ∧ sinI k = (-1) ∧ cosI k = 0 by simp [cosI, sinI, hk])
    rw [hk] at hb
    rw [show (k - 1) % 4 = 2 by omega] at hb2
    clear hk
    go_enter Try.func65, Try.ntmps65
    go_wp2_with fail
    go_quiet (fail)
    clear hb hb2
    go_wp2_with (go_at_call 36; refine (whole_any _ _).mono ?_; rintro e w1 ⟨rfl, rfl⟩)
    refine bodyPost_ret (v := .agg #[.int .i64 0, .int .i64 1, .int .i64 1, .int .i64 1, .int .i64 (-1), .int .i64 1, .int .i64 0, .int .i64 1, .int .i64 0, .int .i64 1, .int .i64 0, .int .i64 1]) (by simp [results, Try.results65, go_sem]) rfl (QuarterRet.mk X.out.1 X.out.2.1 X.out.2.2.1 X.out.2.2.2 ?_)
    repeat' (first | with_reducible assumption | with_reducible exact Below.refl _ _ | (with_reducible refine Below.setCell ?_ ?_ _) | (with_reducible refine Below.alloc ?_ ?_ _) | (with_reducible refine Below.drew ?_) | (with_reducible refine below_dr ?_ _) | (with_reducible refine Below.trans ?_ (Below.mono (by with_reducible assumption) ?_)) | omega | (simp; done) | (simp; omega))
theorem quarter0 (w : World) : Calls Try.prog 65 #[.int .i64 0] w fun e w' => e = .returned (.agg #[.int .i64 1, .int .i64 1, .int .i64 0, .int .i64 1, .int .i64 0, .int .i64 1, .int .i64 1, .int .i64 1, .int .i64 0, .int .i64 1, .int .i64 0, .int .i64 1]) ∧ Below w.heap.size w w' := by
  have h := implQuarter_any 0 w
  unfold QuarterRet at h
  simpa [cosI, sinI] using h
set_option maxHeartbeats 1600000 in
theorem implId_any (w : World) :
    Calls Try.prog 37 #[] w fun e w' => e = .returned (.agg #[.int .i64 1, .int .i64 1, .int .i64 0, .int .i64 1, .int .i64 0, .int .i64 1, .int .i64 1, .int .i64 1, .int .i64 0, .int .i64 1, .int .i64 0, .int .i64 1]) ∧ Below w.heap.size w w' := by
  go_enter Try.func37, Try.ntmps37
  go_wp2_with (go_at_call 65; refine (quarter0 _).mono ?_; rintro e w1 ⟨rfl, hb1⟩; obtain ⟨hc1, hf1⟩ := bcell hb1; have hz1 := hb1.size; simp only [World.size_alloc] at hz1)
  refine bodyPost_ret (v := .agg #[.int .i64 1, .int .i64 1, .int .i64 0, .int .i64 1, .int .i64 0, .int .i64 1, .int .i64 1, .int .i64 1, .int .i64 0, .int .i64 1, .int .i64 0, .int .i64 1]) (by simp [results, Try.results37, go_sem, hc1]) rfl ⟨rfl, ?_⟩
  repeat' (first | with_reducible assumption | with_reducible exact Below.refl _ _ | (with_reducible refine Below.setCell ?_ ?_ _) | (with_reducible refine Below.alloc ?_ ?_ _) | (with_reducible refine Below.drew ?_) | (with_reducible refine below_dr ?_ _) | (with_reducible refine Below.trans ?_ (Below.mono (by with_reducible assumption) ?_)) | omega | (simp; done) | (simp; omega))
set_option maxHeartbeats 1600000 in
theorem eqAffine_same (m0 m1 m2 m3 m4 m5 m6 m7 m8 m9 m10 m11 : Int) (w : World) :
    Calls Try.prog 10 #[.agg #[.int .i64 m0, .int .i64 m1, .int .i64 m2, .int .i64 m3, .int .i64 m4, .int .i64 m5, .int .i64 m6, .int .i64 m7, .int .i64 m8, .int .i64 m9, .int .i64 m10, .int .i64 m11], .agg #[.int .i64 m0, .int .i64 m1, .int .i64 m2, .int .i64 m3, .int .i64 m4, .int .i64 m5, .int .i64 m6, .int .i64 m7, .int .i64 m8, .int .i64 m9, .int .i64 m10, .int .i64 m11]] w fun e w' => e = .returned (.bool true) ∧ Below w.heap.size w w' := by
  go_enter Try.func10, Try.ntmps10
  go_wp2_with fail
  refine (eqFrac_same _ _ _).mono ?_
  rintro e w1 ⟨rfl, hbw1⟩
  have g1 : Below w.heap.size w w1 := (by repeat' (first | with_reducible assumption | with_reducible exact Below.refl _ _ | (with_reducible refine Below.setCell ?_ ?_ _) | (with_reducible refine Below.alloc ?_ ?_ _) | (with_reducible refine Below.drew ?_) | (with_reducible refine below_dr ?_ _) | (with_reducible refine Below.trans ?_ (Below.mono (by with_reducible assumption) ?_)) | omega | (simp; done) | (simp; omega)))
  obtain ⟨hcw1, hfw1⟩ := bcell hbw1
  have hzw1 := hbw1.size
  (try simp only [World.size_alloc] at hcw1 hfw1 hzw1)
  have s1 : w1.cell? ⟨w.heap.size, 0, none⟩ = some (.int .i64 m0) := (hcw1 _ _ (by omega)).trans (by first | assumption | (refine (cell_alloc_at _ _ ?_).trans ?_; omega; assumption) | (simp [go_sem]; done) | (simp [go_sem, *]; done))
  have s2 : w1.cell? ⟨w.heap.size, 1, none⟩ = some (.int .i64 m1) := (hcw1 _ _ (by omega)).trans (by first | assumption | (refine (cell_alloc_at _ _ ?_).trans ?_; omega; assumption) | (simp [go_sem]; done) | (simp [go_sem, *]; done))
  have s3 : w1.cell? ⟨w.heap.size, 2, none⟩ = some (.int .i64 m2) := (hcw1 _ _ (by omega)).trans (by first | assumption | (refine (cell_alloc_at _ _ ?_).trans ?_; omega; assumption) | (simp [go_sem]; done) | (simp [go_sem, *]; done))
  have s4 : w1.cell? ⟨w.heap.size, 3, none⟩ = some (.int .i64 m3) := (hcw1 _ _ (by omega)).trans (by first | assumption | (refine (cell_alloc_at _ _ ?_).trans ?_; omega; assumption) | (simp [go_sem]; done) | (simp [go_sem, *]; done))
  have s5 : w1.cell? ⟨w.heap.size, 4, none⟩ = some (.int .i64 m4) := (hcw1 _ _ (by omega)).trans (by first | assumption | (refine (cell_alloc_at _ _ ?_).trans ?_; omega; assumption) | (simp [go_sem]; done) | (simp [go_sem, *]; done))
  have s6 : w1.cell? ⟨w.heap.size, 5, none⟩ = some (.int .i64 m5) := (hcw1 _ _ (by omega)).trans (by first | assumption | (refine (cell_alloc_at _ _ ?_).trans ?_; omega; assumption) | (simp [go_sem]; done) | (simp [go_sem, *]; done))
  have s7 : w1.cell? ⟨w.heap.size, 6, none⟩ = some (.int .i64 m6) := (hcw1 _ _ (by omega)).trans (by first | assumption | (refine (cell_alloc_at _ _ ?_).trans ?_; omega; assumption) | (simp [go_sem]; done) | (simp [go_sem, *]; done))
  have s8 : w1.cell? ⟨w.heap.size, 7, none⟩ = some (.int .i64 m7) := (hcw1 _ _ (by omega)).trans (by first | assumption | (refine (cell_alloc_at _ _ ?_).trans ?_; omega; assumption) | (simp [go_sem]; done) | (simp [go_sem, *]; done))
  have s9 : w1.cell? ⟨w.heap.size, 8, none⟩ = some (.int .i64 m8) := (hcw1 _ _ (by omega)).trans (by first | assumption | (refine (cell_alloc_at _ _ ?_).trans ?_; omega; assumption) | (simp [go_sem]; done) | (simp [go_sem, *]; done))
  have s10 : w1.cell? ⟨w.heap.size, 9, none⟩ = some (.int .i64 m9) := (hcw1 _ _ (by omega)).trans (by first | assumption | (refine (cell_alloc_at _ _ ?_).trans ?_; omega; assumption) | (simp [go_sem]; done) | (simp [go_sem, *]; done))
  have s11 : w1.cell? ⟨w.heap.size, 10, none⟩ = some (.int .i64 m10) := (hcw1 _ _ (by omega)).trans (by first | assumption | (refine (cell_alloc_at _ _ ?_).trans ?_; omega; assumption) | (simp [go_sem]; done) | (simp [go_sem, *]; done))
  have s12 : w1.cell? ⟨w.heap.size, 11, none⟩ = some (.int .i64 m11) := (hcw1 _ _ (by omega)).trans (by first | assumption | (refine (cell_alloc_at _ _ ?_).trans ?_; omega; assumption) | (simp [go_sem]; done) | (simp [go_sem, *]; done))
  have s13 : w1.cell? ⟨w.heap.size + 1, 0, none⟩ = some (.int .i64 m0) := (hcw1 _ _ (by omega)).trans (by first | assumption | (refine (cell_alloc_at _ _ ?_).trans ?_; omega; assumption) | (simp [go_sem]; done) | (simp [go_sem, *]; done))
  have s14 : w1.cell? ⟨w.heap.size + 1, 1, none⟩ = some (.int .i64 m1) := (hcw1 _ _ (by omega)).trans (by first | assumption | (refine (cell_alloc_at _ _ ?_).trans ?_; omega; assumption) | (simp [go_sem]; done) | (simp [go_sem, *]; done))
  have s15 : w1.cell? ⟨w.heap.size + 1, 2, none⟩ = some (.int .i64 m2) := (hcw1 _ _ (by omega)).trans (by first | assumption | (refine (cell_alloc_at _ _ ?_).trans ?_; omega; assumption) | (simp [go_sem]; done) | (simp [go_sem, *]; done))
  have s16 : w1.cell? ⟨w.heap.size + 1, 3, none⟩ = some (.int .i64 m3) := (hcw1 _ _ (by omega)).trans (by first | assumption | (refine (cell_alloc_at _ _ ?_).trans ?_; omega; assumption) | (simp [go_sem]; done) | (simp [go_sem, *]; done))
  have s17 : w1.cell? ⟨w.heap.size + 1, 4, none⟩ = some (.int .i64 m4) := (hcw1 _ _ (by omega)).trans (by first | assumption | (refine (cell_alloc_at _ _ ?_).trans ?_; omega; assumption) | (simp [go_sem]; done) | (simp [go_sem, *]; done))
  have s18 : w1.cell? ⟨w.heap.size + 1, 5, none⟩ = some (.int .i64 m5) := (hcw1 _ _ (by omega)).trans (by first | assumption | (refine (cell_alloc_at _ _ ?_).trans ?_; omega; assumption) | (simp [go_sem]; done) | (simp [go_sem, *]; done))
  have s19 : w1.cell? ⟨w.heap.size + 1, 6, none⟩ = some (.int .i64 m6) := (hcw1 _ _ (by omega)).trans (by first | assumption | (refine (cell_alloc_at _ _ ?_).trans ?_; omega; assumption) | (simp [go_sem]; done) | (simp [go_sem, *]; done))
  have s20 : w1.cell? ⟨w.heap.size + 1, 7, none⟩ = some (.int .i64 m7) := (hcw1 _ _ (by omega)).trans (by first | assumption | (refine (cell_alloc_at _ _ ?_).trans ?_; omega; assumption) | (simp [go_sem]; done) | (simp [go_sem, *]; done))
  have s21 : w1.cell? ⟨w.heap.size + 1, 8, none⟩ = some (.int .i64 m8) := (hcw1 _ _ (by omega)).trans (by first | assumption | (refine (cell_alloc_at _ _ ?_).trans ?_; omega; assumption) | (simp [go_sem]; done) | (simp [go_sem, *]; done))
  have s22 : w1.cell? ⟨w.heap.size + 1, 9, none⟩ = some (.int .i64 m9) := (hcw1 _ _ (by omega)).trans (by first | assumption | (refine (cell_alloc_at _ _ ?_).trans ?_; omega; assumption) | (simp [go_sem]; done) | (simp [go_sem, *]; done))
  have s23 : w1.cell? ⟨w.heap.size + 1, 10, none⟩ = some (.int .i64 m10) := (hcw1 _ _ (by omega)).trans (by first | assumption | (refine (cell_alloc_at _ _ ?_).trans ?_; omega; assumption) | (simp [go_sem]; done) | (simp [go_sem, *]; done))
  have s24 : w1.cell? ⟨w.heap.size + 1, 11, none⟩ = some (.int .i64 m11) := (hcw1 _ _ (by omega)).trans (by first | assumption | (refine (cell_alloc_at _ _ ?_).trans ?_; omega; assumption) | (simp [go_sem]; done) | (simp [go_sem, *]; done))
  have szq0 : w.heap.size < w1.heap.size := (by omega)
  have sz : w.heap.size + 1 < w1.heap.size := (by omega)
  clear hcw1 hfw1 hzw1
  go_wp2_with fail
  refine (eqFrac_same _ _ _).mono ?_
  rintro e w2 ⟨rfl, hbw2⟩
  have g2 : Below w.heap.size w w2 := (by repeat' (first | with_reducible assumption | with_reducible exact Below.refl _ _ | (with_reducible refine Below.setCell ?_ ?_ _) | (with_reducible refine Below.alloc ?_ ?_ _) | (with_reducible refine Below.drew ?_) | (with_reducible refine below_dr ?_ _) | (with_reducible refine Below.trans ?_ (Below.mono (by with_reducible assumption) ?_)) | omega | (simp; done) | (simp; omega)))
  obtain ⟨hcw2, hfw2⟩ := bcell hbw2
  have hzw2 := hbw2.size
  (try simp only [World.size_alloc] at hcw2 hfw2 hzw2)
  have s1 : w2.cell? ⟨w.heap.size, 0, none⟩ = some (.int .i64 m0) := (hcw2 _ _ (by omega)).trans (by first | assumption | (refine (cell_alloc_at _ _ ?_).trans ?_; omega; assumption) | (simp [go_sem]; done) | (simp [go_sem, *]; done))
  have s2 : w2.cell? ⟨w.heap.size, 1, none⟩ = some (.int .i64 m1) := (hcw2 _ _ (by omega)).trans (by first | assumption | (refine (cell_alloc_at _ _ ?_).trans ?_; omega; assumption) | (simp [go_sem]; done) | (simp [go_sem, *]; done))
  have s3 : w2.cell? ⟨w.heap.size, 2, none⟩ = some (.int .i64 m2) := (hcw2 _ _ (by omega)).trans (by first | assumption | (refine (cell_alloc_at _ _ ?_).trans ?_; omega; assumption) | (simp [go_sem]; done) | (simp [go_sem, *]; done))
  have s4 : w2.cell? ⟨w.heap.size, 3, none⟩ = some (.int .i64 m3) := (hcw2 _ _ (by omega)).trans (by first | assumption | (refine (cell_alloc_at _ _ ?_).trans ?_; omega; assumption) | (simp [go_sem]; done) | (simp [go_sem, *]; done))
  have s5 : w2.cell? ⟨w.heap.size, 4, none⟩ = some (.int .i64 m4) := (hcw2 _ _ (by omega)).trans (by first | assumption | (refine (cell_alloc_at _ _ ?_).trans ?_; omega; assumption) | (simp [go_sem]; done) | (simp [go_sem, *]; done))
  have s6 : w2.cell? ⟨w.heap.size, 5, none⟩ = some (.int .i64 m5) := (hcw2 _ _ (by omega)).trans (by first | assumption | (refine (cell_alloc_at _ _ ?_).trans ?_; omega; assumption) | (simp [go_sem]; done) | (simp [go_sem, *]; done))
  have s7 : w2.cell? ⟨w.heap.size, 6, none⟩ = some (.int .i64 m6) := (hcw2 _ _ (by omega)).trans (by first | assumption | (refine (cell_alloc_at _ _ ?_).trans ?_; omega; assumption) | (simp [go_sem]; done) | (simp [go_sem, *]; done))
  have s8 : w2.cell? ⟨w.heap.size, 7, none⟩ = some (.int .i64 m7) := (hcw2 _ _ (by omega)).trans (by first | assumption | (refine (cell_alloc_at _ _ ?_).trans ?_; omega; assumption) | (simp [go_sem]; done) | (simp [go_sem, *]; done))
  have s9 : w2.cell? ⟨w.heap.size, 8, none⟩ = some (.int .i64 m8) := (hcw2 _ _ (by omega)).trans (by first | assumption | (refine (cell_alloc_at _ _ ?_).trans ?_; omega; assumption) | (simp [go_sem]; done) | (simp [go_sem, *]; done))
  have s10 : w2.cell? ⟨w.heap.size, 9, none⟩ = some (.int .i64 m9) := (hcw2 _ _ (by omega)).trans (by first | assumption | (refine (cell_alloc_at _ _ ?_).trans ?_; omega; assumption) | (simp [go_sem]; done) | (simp [go_sem, *]; done))
  have s11 : w2.cell? ⟨w.heap.size, 10, none⟩ = some (.int .i64 m10) := (hcw2 _ _ (by omega)).trans (by first | assumption | (refine (cell_alloc_at _ _ ?_).trans ?_; omega; assumption) | (simp [go_sem]; done) | (simp [go_sem, *]; done))
  have s12 : w2.cell? ⟨w.heap.size, 11, none⟩ = some (.int .i64 m11) := (hcw2 _ _ (by omega)).trans (by first | assumption | (refine (cell_alloc_at _ _ ?_).trans ?_; omega; assumption) | (simp [go_sem]; done) | (simp [go_sem, *]; done))
  have s13 : w2.cell? ⟨w.heap.size + 1, 0, none⟩ = some (.int .i64 m0) := (hcw2 _ _ (by omega)).trans (by first | assumption | (refine (cell_alloc_at _ _ ?_).trans ?_; omega; assumption) | (simp [go_sem]; done) | (simp [go_sem, *]; done))
  have s14 : w2.cell? ⟨w.heap.size + 1, 1, none⟩ = some (.int .i64 m1) := (hcw2 _ _ (by omega)).trans (by first | assumption | (refine (cell_alloc_at _ _ ?_).trans ?_; omega; assumption) | (simp [go_sem]; done) | (simp [go_sem, *]; done))
  have s15 : w2.cell? ⟨w.heap.size + 1, 2, none⟩ = some (.int .i64 m2) := (hcw2 _ _ (by omega)).trans (by first | assumption | (refine (cell_alloc_at _ _ ?_).trans ?_; omega; assumption) | (simp [go_sem]; done) | (simp [go_sem, *]; done))
  have s16 : w2.cell? ⟨w.heap.size + 1, 3, none⟩ = some (.int .i64 m3) := (hcw2 _ _ (by omega)).trans (by first | assumption | (refine (cell_alloc_at _ _ ?_).trans ?_; omega; assumption) | (simp [go_sem]; done) | (simp [go_sem, *]; done))
  have s17 : w2.cell? ⟨w.heap.size + 1, 4, none⟩ = some (.int .i64 m4) := (hcw2 _ _ (by omega)).trans (by first | assumption | (refine (cell_alloc_at _ _ ?_).trans ?_; omega; assumption) | (simp [go_sem]; done) | (simp [go_sem, *]; done))
  have s18 : w2.cell? ⟨w.heap.size + 1, 5, none⟩ = some (.int .i64 m5) := (hcw2 _ _ (by omega)).trans (by first | assumption | (refine (cell_alloc_at _ _ ?_).trans ?_; omega; assumption) | (simp [go_sem]; done) | (simp [go_sem, *]; done))
  have s19 : w2.cell? ⟨w.heap.size + 1, 6, none⟩ = some (.int .i64 m6) := (hcw2 _ _ (by omega)).trans (by first | assumption | (refine (cell_alloc_at _ _ ?_).trans ?_; omega; assumption) | (simp [go_sem]; done) | (simp [go_sem, *]; done))
  have s20 : w2.cell? ⟨w.heap.size + 1, 7, none⟩ = some (.int .i64 m7) := (hcw2 _ _ (by omega)).trans (by first | assumption | (refine (cell_alloc_at _ _ ?_).trans ?_; omega; assumption) | (simp [go_sem]; done) | (simp [go_sem, *]; done))
  have s21 : w2.cell? ⟨w.heap.size + 1, 8, none⟩ = some (.int .i64 m8) := (hcw2 _ _ (by omega)).trans (by first | assumption | (refine (cell_alloc_at _ _ ?_).trans ?_; omega; assumption) | (simp [go_sem]; done) | (simp [go_sem, *]; done))
  have s22 : w2.cell? ⟨w.heap.size + 1, 9, none⟩ = some (.int .i64 m9) := (hcw2 _ _ (by omega)).trans (by first | assumption | (refine (cell_alloc_at _ _ ?_).trans ?_; omega; assumption) | (simp [go_sem]; done) | (simp [go_sem, *]; done))
  have s23 : w2.cell? ⟨w.heap.size + 1, 10, none⟩ = some (.int .i64 m10) := (hcw2 _ _ (by omega)).trans (by first | assumption | (refine (cell_alloc_at _ _ ?_).trans ?_; omega; assumption) | (simp [go_sem]; done) | (simp [go_sem, *]; done))
  have s24 : w2.cell? ⟨w.heap.size + 1, 11, none⟩ = some (.int .i64 m11) := (hcw2 _ _ (by omega)).trans (by first | assumption | (refine (cell_alloc_at _ _ ?_).trans ?_; omega; assumption) | (simp [go_sem]; done) | (simp [go_sem, *]; done))
  have szq0 : w.heap.size < w2.heap.size := (by omega)
  have sz : w.heap.size + 1 < w2.heap.size := (by omega)
  clear hcw2 hfw2 hzw2
  go_wp2_with fail
  refine (eqFrac_same _ _ _).mono ?_
  rintro e w3 ⟨rfl, hbw3⟩
  have g3 : Below w.heap.size w w3 := (by repeat' (first | with_reducible assumption | with_reducible exact Below.refl _ _ | (with_reducible refine Below.setCell ?_ ?_ _) | (with_reducible refine Below.alloc ?_ ?_ _) | (with_reducible refine Below.drew ?_) | (with_reducible refine below_dr ?_ _) | (with_reducible refine Below.trans ?_ (Below.mono (by with_reducible assumption) ?_)) | omega | (simp; done) | (simp; omega)))
  obtain ⟨hcw3, hfw3⟩ := bcell hbw3
  have hzw3 := hbw3.size
  (try simp only [World.size_alloc] at hcw3 hfw3 hzw3)
  have s1 : w3.cell? ⟨w.heap.size, 0, none⟩ = some (.int .i64 m0) := (hcw3 _ _ (by omega)).trans (by first | assumption | (refine (cell_alloc_at _ _ ?_).trans ?_; omega; assumption) | (simp [go_sem]; done) | (simp [go_sem, *]; done))
  have s2 : w3.cell? ⟨w.heap.size, 1, none⟩ = some (.int .i64 m1) := (hcw3 _ _ (by omega)).trans (by first | assumption | (refine (cell_alloc_at _ _ ?_).trans ?_; omega; assumption) | (simp [go_sem]; done) | (simp [go_sem, *]; done))
  have s3 : w3.cell? ⟨w.heap.size, 2, none⟩ = some (.int .i64 m2) := (hcw3 _ _ (by omega)).trans (by first | assumption | (refine (cell_alloc_at _ _ ?_).trans ?_; omega; assumption) | (simp [go_sem]; done) | (simp [go_sem, *]; done))
  have s4 : w3.cell? ⟨w.heap.size, 3, none⟩ = some (.int .i64 m3) := (hcw3 _ _ (by omega)).trans (by first | assumption | (refine (cell_alloc_at _ _ ?_).trans ?_; omega; assumption) | (simp [go_sem]; done) | (simp [go_sem, *]; done))
  have s5 : w3.cell? ⟨w.heap.size, 4, none⟩ = some (.int .i64 m4) := (hcw3 _ _ (by omega)).trans (by first | assumption | (refine (cell_alloc_at _ _ ?_).trans ?_; omega; assumption) | (simp [go_sem]; done) | (simp [go_sem, *]; done))
  have s6 : w3.cell? ⟨w.heap.size, 5, none⟩ = some (.int .i64 m5) := (hcw3 _ _ (by omega)).trans (by first | assumption | (refine (cell_alloc_at _ _ ?_).trans ?_; omega; assumption) | (simp [go_sem]; done) | (simp [go_sem, *]; done))
  have s7 : w3.cell? ⟨w.heap.size, 6, none⟩ = some (.int .i64 m6) := (hcw3 _ _ (by omega)).trans (by first | assumption | (refine (cell_alloc_at _ _ ?_).trans ?_; omega; assumption) | (simp [go_sem]; done) | (simp [go_sem, *]; done))
  have s8 : w3.cell? ⟨w.heap.size, 7, none⟩ = some (.int .i64 m7) := (hcw3 _ _ (by omega)).trans (by first | assumption | (refine (cell_alloc_at _ _ ?_).trans ?_; omega; assumption) | (simp [go_sem]; done) | (simp [go_sem, *]; done))
  have s9 : w3.cell? ⟨w.heap.size, 8, none⟩ = some (.int .i64 m8) := (hcw3 _ _ (by omega)).trans (by first | assumption | (refine (cell_alloc_at _ _ ?_).trans ?_; omega; assumption) | (simp [go_sem]; done) | (simp [go_sem, *]; done))
  have s10 : w3.cell? ⟨w.heap.size, 9, none⟩ = some (.int .i64 m9) := (hcw3 _ _ (by omega)).trans (by first | assumption | (refine (cell_alloc_at _ _ ?_).trans ?_; omega; assumption) | (simp [go_sem]; done) | (simp [go_sem, *]; done))
  have s11 : w3.cell? ⟨w.heap.size, 10, none⟩ = some (.int .i64 m10) := (hcw3 _ _ (by omega)).trans (by first | assumption | (refine (cell_alloc_at _ _ ?_).trans ?_; omega; assumption) | (simp [go_sem]; done) | (simp [go_sem, *]; done))
  have s12 : w3.cell? ⟨w.heap.size, 11, none⟩ = some (.int .i64 m11) := (hcw3 _ _ (by omega)).trans (by first | assumption | (refine (cell_alloc_at _ _ ?_).trans ?_; omega; assumption) | (simp [go_sem]; done) | (simp [go_sem, *]; done))
  have s13 : w3.cell? ⟨w.heap.size + 1, 0, none⟩ = some (.int .i64 m0) := (hcw3 _ _ (by omega)).trans (by first | assumption | (refine (cell_alloc_at _ _ ?_).trans ?_; omega; assumption) | (simp [go_sem]; done) | (simp [go_sem, *]; done))
  have s14 : w3.cell? ⟨w.heap.size + 1, 1, none⟩ = some (.int .i64 m1) := (hcw3 _ _ (by omega)).trans (by first | assumption | (refine (cell_alloc_at _ _ ?_).trans ?_; omega; assumption) | (simp [go_sem]; done) | (simp [go_sem, *]; done))
  have s15 : w3.cell? ⟨w.heap.size + 1, 2, none⟩ = some (.int .i64 m2) := (hcw3 _ _ (by omega)).trans (by first | assumption | (refine (cell_alloc_at _ _ ?_).trans ?_; omega; assumption) | (simp [go_sem]; done) | (simp [go_sem, *]; done))
  have s16 : w3.cell? ⟨w.heap.size + 1, 3, none⟩ = some (.int .i64 m3) := (hcw3 _ _ (by omega)).trans (by first | assumption | (refine (cell_alloc_at _ _ ?_).trans ?_; omega; assumption) | (simp [go_sem]; done) | (simp [go_sem, *]; done))
  have s17 : w3.cell? ⟨w.heap.size + 1, 4, none⟩ = some (.int .i64 m4) := (hcw3 _ _ (by omega)).trans (by first | assumption | (refine (cell_alloc_at _ _ ?_).trans ?_; omega; assumption) | (simp [go_sem]; done) | (simp [go_sem, *]; done))
  have s18 : w3.cell? ⟨w.heap.size + 1, 5, none⟩ = some (.int .i64 m5) := (hcw3 _ _ (by omega)).trans (by first | assumption | (refine (cell_alloc_at _ _ ?_).trans ?_; omega; assumption) | (simp [go_sem]; done) | (simp [go_sem, *]; done))
  have s19 : w3.cell? ⟨w.heap.size + 1, 6, none⟩ = some (.int .i64 m6) := (hcw3 _ _ (by omega)).trans (by first | assumption | (refine (cell_alloc_at _ _ ?_).trans ?_; omega; assumption) | (simp [go_sem]; done) | (simp [go_sem, *]; done))
  have s20 : w3.cell? ⟨w.heap.size + 1, 7, none⟩ = some (.int .i64 m7) := (hcw3 _ _ (by omega)).trans (by first | assumption | (refine (cell_alloc_at _ _ ?_).trans ?_; omega; assumption) | (simp [go_sem]; done) | (simp [go_sem, *]; done))
  have s21 : w3.cell? ⟨w.heap.size + 1, 8, none⟩ = some (.int .i64 m8) := (hcw3 _ _ (by omega)).trans (by first | assumption | (refine (cell_alloc_at _ _ ?_).trans ?_; omega; assumption) | (simp [go_sem]; done) | (simp [go_sem, *]; done))
  have s22 : w3.cell? ⟨w.heap.size + 1, 9, none⟩ = some (.int .i64 m9) := (hcw3 _ _ (by omega)).trans (by first | assumption | (refine (cell_alloc_at _ _ ?_).trans ?_; omega; assumption) | (simp [go_sem]; done) | (simp [go_sem, *]; done))
  have s23 : w3.cell? ⟨w.heap.size + 1, 10, none⟩ = some (.int .i64 m10) := (hcw3 _ _ (by omega)).trans (by first | assumption | (refine (cell_alloc_at _ _ ?_).trans ?_; omega; assumption) | (simp [go_sem]; done) | (simp [go_sem, *]; done))
  have s24 : w3.cell? ⟨w.heap.size + 1, 11, none⟩ = some (.int .i64 m11) := (hcw3 _ _ (by omega)).trans (by first | assumption | (refine (cell_alloc_at _ _ ?_).trans ?_; omega; assumption) | (simp [go_sem]; done) | (simp [go_sem, *]; done))
  have szq0 : w.heap.size < w3.heap.size := (by omega)
  have sz : w.heap.size + 1 < w3.heap.size := (by omega)
  clear hcw3 hfw3 hzw3
  go_wp2_with fail
  refine (eqFrac_same _ _ _).mono ?_
  rintro e w4 ⟨rfl, hbw4⟩
  have g4 : Below w.heap.size w w4 := (by repeat' (first | with_reducible assumption | with_reducible exact Below.refl _ _ | (with_reducible refine Below.setCell ?_ ?_ _) | (with_reducible refine Below.alloc ?_ ?_ _) | (with_reducible refine Below.drew ?_) | (with_reducible refine below_dr ?_ _) | (with_reducible refine Below.trans ?_ (Below.mono (by with_reducible assumption) ?_)) | omega | (simp; done) | (simp; omega)))
  obtain ⟨hcw4, hfw4⟩ := bcell hbw4
  have hzw4 := hbw4.size
  (try simp only [World.size_alloc] at hcw4 hfw4 hzw4)
  have s1 : w4.cell? ⟨w.heap.size, 0, none⟩ = some (.int .i64 m0) := (hcw4 _ _ (by omega)).trans (by first | assumption | (refine (cell_alloc_at _ _ ?_).trans ?_; omega; assumption) | (simp [go_sem]; done) | (simp [go_sem, *]; done))
  have s2 : w4.cell? ⟨w.heap.size, 1, none⟩ = some (.int .i64 m1) := (hcw4 _ _ (by omega)).trans (by first | assumption | (refine (cell_alloc_at _ _ ?_).trans ?_; omega; assumption) | (simp [go_sem]; done) | (simp [go_sem, *]; done))
  have s3 : w4.cell? ⟨w.heap.size, 2, none⟩ = some (.int .i64 m2) := (hcw4 _ _ (by omega)).trans (by first | assumption | (refine (cell_alloc_at _ _ ?_).trans ?_; omega; assumption) | (simp [go_sem]; done) | (simp [go_sem, *]; done))
  have s4 : w4.cell? ⟨w.heap.size, 3, none⟩ = some (.int .i64 m3) := (hcw4 _ _ (by omega)).trans (by first | assumption | (refine (cell_alloc_at _ _ ?_).trans ?_; omega; assumption) | (simp [go_sem]; done) | (simp [go_sem, *]; done))
  have s5 : w4.cell? ⟨w.heap.size, 4, none⟩ = some (.int .i64 m4) := (hcw4 _ _ (by omega)).trans (by first | assumption | (refine (cell_alloc_at _ _ ?_).trans ?_; omega; assumption) | (simp [go_sem]; done) | (simp [go_sem, *]; done))
  have s6 : w4.cell? ⟨w.heap.size, 5, none⟩ = some (.int .i64 m5) := (hcw4 _ _ (by omega)).trans (by first | assumption | (refine (cell_alloc_at _ _ ?_).trans ?_; omega; assumption) | (simp [go_sem]; done) | (simp [go_sem, *]; done))
  have s7 : w4.cell? ⟨w.heap.size, 6, none⟩ = some (.int .i64 m6) := (hcw4 _ _ (by omega)).trans (by first | assumption | (refine (cell_alloc_at _ _ ?_).trans ?_; omega; assumption) | (simp [go_sem]; done) | (simp [go_sem, *]; done))
  have s8 : w4.cell? ⟨w.heap.size, 7, none⟩ = some (.int .i64 m7) := (hcw4 _ _ (by omega)).trans (by first | assumption | (refine (cell_alloc_at _ _ ?_).trans ?_; omega; assumption) | (simp [go_sem]; done) | (simp [go_sem, *]; done))
  have s9 : w4.cell? ⟨w.heap.size, 8, none⟩ = some (.int .i64 m8) := (hcw4 _ _ (by omega)).trans (by first | assumption | (refine (cell_alloc_at _ _ ?_).trans ?_; omega; assumption) | (simp [go_sem]; done) | (simp [go_sem, *]; done))
  have s10 : w4.cell? ⟨w.heap.size, 9, none⟩ = some (.int .i64 m9) := (hcw4 _ _ (by omega)).trans (by first | assumption | (refine (cell_alloc_at _ _ ?_).trans ?_; omega; assumption) | (simp [go_sem]; done) | (simp [go_sem, *]; done))
  have s11 : w4.cell? ⟨w.heap.size, 10, none⟩ = some (.int .i64 m10) := (hcw4 _ _ (by omega)).trans (by first | assumption | (refine (cell_alloc_at _ _ ?_).trans ?_; omega; assumption) | (simp [go_sem]; done) | (simp [go_sem, *]; done))
  have s12 : w4.cell? ⟨w.heap.size, 11, none⟩ = some (.int .i64 m11) := (hcw4 _ _ (by omega)).trans (by first | assumption | (refine (cell_alloc_at _ _ ?_).trans ?_; omega; assumption) | (simp [go_sem]; done) | (simp [go_sem, *]; done))
  have s13 : w4.cell? ⟨w.heap.size + 1, 0, none⟩ = some (.int .i64 m0) := (hcw4 _ _ (by omega)).trans (by first | assumption | (refine (cell_alloc_at _ _ ?_).trans ?_; omega; assumption) | (simp [go_sem]; done) | (simp [go_sem, *]; done))
  have s14 : w4.cell? ⟨w.heap.size + 1, 1, none⟩ = some (.int .i64 m1) := (hcw4 _ _ (by omega)).trans (by first | assumption | (refine (cell_alloc_at _ _ ?_).trans ?_; omega; assumption) | (simp [go_sem]; done) | (simp [go_sem, *]; done))
  have s15 : w4.cell? ⟨w.heap.size + 1, 2, none⟩ = some (.int .i64 m2) := (hcw4 _ _ (by omega)).trans (by first | assumption | (refine (cell_alloc_at _ _ ?_).trans ?_; omega; assumption) | (simp [go_sem]; done) | (simp [go_sem, *]; done))
  have s16 : w4.cell? ⟨w.heap.size + 1, 3, none⟩ = some (.int .i64 m3) := (hcw4 _ _ (by omega)).trans (by first | assumption | (refine (cell_alloc_at _ _ ?_).trans ?_; omega; assumption) | (simp [go_sem]; done) | (simp [go_sem, *]; done))
  have s17 : w4.cell? ⟨w.heap.size + 1, 4, none⟩ = some (.int .i64 m4) := (hcw4 _ _ (by omega)).trans (by first | assumption | (refine (cell_alloc_at _ _ ?_).trans ?_; omega; assumption) | (simp [go_sem]; done) | (simp [go_sem, *]; done))
  have s18 : w4.cell? ⟨w.heap.size + 1, 5, none⟩ = some (.int .i64 m5) := (hcw4 _ _ (by omega)).trans (by first | assumption | (refine (cell_alloc_at _ _ ?_).trans ?_; omega; assumption) | (simp [go_sem]; done) | (simp [go_sem, *]; done))
  have s19 : w4.cell? ⟨w.heap.size + 1, 6, none⟩ = some (.int .i64 m6) := (hcw4 _ _ (by omega)).trans (by first | assumption | (refine (cell_alloc_at _ _ ?_).trans ?_; omega; assumption) | (simp [go_sem]; done) | (simp [go_sem, *]; done))
  have s20 : w4.cell? ⟨w.heap.size + 1, 7, none⟩ = some (.int .i64 m7) := (hcw4 _ _ (by omega)).trans (by first | assumption | (refine (cell_alloc_at _ _ ?_).trans ?_; omega; assumption) | (simp [go_sem]; done) | (simp [go_sem, *]; done))
  have s21 : w4.cell? ⟨w.heap.size + 1, 8, none⟩ = some (.int .i64 m8) := (hcw4 _ _ (by omega)).trans (by first | assumption | (refine (cell_alloc_at _ _ ?_).trans ?_; omega; assumption) | (simp [go_sem]; done) | (simp [go_sem, *]; done))
  have s22 : w4.cell? ⟨w.heap.size + 1, 9, none⟩ = some (.int .i64 m9) := (hcw4 _ _ (by omega)).trans (by first | assumption | (refine (cell_alloc_at _ _ ?_).trans ?_; omega; assumption) | (simp [go_sem]; done) | (simp [go_sem, *]; done))
  have s23 : w4.cell? ⟨w.heap.size + 1, 10, none⟩ = some (.int .i64 m10) := (hcw4 _ _ (by omega)).trans (by first | assumption | (refine (cell_alloc_at _ _ ?_).trans ?_; omega; assumption) | (simp [go_sem]; done) | (simp [go_sem, *]; done))
  have s24 : w4.cell? ⟨w.heap.size + 1, 11, none⟩ = some (.int .i64 m11) := (hcw4 _ _ (by omega)).trans (by first | assumption | (refine (cell_alloc_at _ _ ?_).trans ?_; omega; assumption) | (simp [go_sem]; done) | (simp [go_sem, *]; done))
  have szq0 : w.heap.size < w4.heap.size := (by omega)
  have sz : w.heap.size + 1 < w4.heap.size := (by omega)
  clear hcw4 hfw4 hzw4
  go_wp2_with fail
  refine (eqFrac_same _ _ _).mono ?_
  rintro e w5 ⟨rfl, hbw5⟩
  have g5 : Below w.heap.size w w5 := (by repeat' (first | with_reducible assumption | with_reducible exact Below.refl _ _ | (with_reducible refine Below.setCell ?_ ?_ _) | (with_reducible refine Below.alloc ?_ ?_ _) | (with_reducible refine Below.drew ?_) | (with_reducible refine below_dr ?_ _) | (with_reducible refine Below.trans ?_ (Below.mono (by with_reducible assumption) ?_)) | omega | (simp; done) | (simp; omega)))
  obtain ⟨hcw5, hfw5⟩ := bcell hbw5
  have hzw5 := hbw5.size
  (try simp only [World.size_alloc] at hcw5 hfw5 hzw5)
  have s1 : w5.cell? ⟨w.heap.size, 0, none⟩ = some (.int .i64 m0) := (hcw5 _ _ (by omega)).trans (by first | assumption | (refine (cell_alloc_at _ _ ?_).trans ?_; omega; assumption) | (simp [go_sem]; done) | (simp [go_sem, *]; done))
  have s2 : w5.cell? ⟨w.heap.size, 1, none⟩ = some (.int .i64 m1) := (hcw5 _ _ (by omega)).trans (by first | assumption | (refine (cell_alloc_at _ _ ?_).trans ?_; omega; assumption) | (simp [go_sem]; done) | (simp [go_sem, *]; done))
  have s3 : w5.cell? ⟨w.heap.size, 2, none⟩ = some (.int .i64 m2) := (hcw5 _ _ (by omega)).trans (by first | assumption | (refine (cell_alloc_at _ _ ?_).trans ?_; omega; assumption) | (simp [go_sem]; done) | (simp [go_sem, *]; done))
  have s4 : w5.cell? ⟨w.heap.size, 3, none⟩ = some (.int .i64 m3) := (hcw5 _ _ (by omega)).trans (by first | assumption | (refine (cell_alloc_at _ _ ?_).trans ?_; omega; assumption) | (simp [go_sem]; done) | (simp [go_sem, *]; done))
  have s5 : w5.cell? ⟨w.heap.size, 4, none⟩ = some (.int .i64 m4) := (hcw5 _ _ (by omega)).trans (by first | assumption | (refine (cell_alloc_at _ _ ?_).trans ?_; omega; assumption) | (simp [go_sem]; done) | (simp [go_sem, *]; done))
  have s6 : w5.cell? ⟨w.heap.size, 5, none⟩ = some (.int .i64 m5) := (hcw5 _ _ (by omega)).trans (by first | assumption | (refine (cell_alloc_at _ _ ?_).trans ?_; omega; assumption) | (simp [go_sem]; done) | (simp [go_sem, *]; done))
  have s7 : w5.cell? ⟨w.heap.size, 6, none⟩ = some (.int .i64 m6) := (hcw5 _ _ (by omega)).trans (by first | assumption | (refine (cell_alloc_at _ _ ?_).trans ?_; omega; assumption) | (simp [go_sem]; done) | (simp [go_sem, *]; done))
  have s8 : w5.cell? ⟨w.heap.size, 7, none⟩ = some (.int .i64 m7) := (hcw5 _ _ (by omega)).trans (by first | assumption | (refine (cell_alloc_at _ _ ?_).trans ?_; omega; assumption) | (simp [go_sem]; done) | (simp [go_sem, *]; done))
  have s9 : w5.cell? ⟨w.heap.size, 8, none⟩ = some (.int .i64 m8) := (hcw5 _ _ (by omega)).trans (by first | assumption | (refine (cell_alloc_at _ _ ?_).trans ?_; omega; assumption) | (simp [go_sem]; done) | (simp [go_sem, *]; done))
  have s10 : w5.cell? ⟨w.heap.size, 9, none⟩ = some (.int .i64 m9) := (hcw5 _ _ (by omega)).trans (by first | assumption | (refine (cell_alloc_at _ _ ?_).trans ?_; omega; assumption) | (simp [go_sem]; done) | (simp [go_sem, *]; done))
  have s11 : w5.cell? ⟨w.heap.size, 10, none⟩ = some (.int .i64 m10) := (hcw5 _ _ (by omega)).trans (by first | assumption | (refine (cell_alloc_at _ _ ?_).trans ?_; omega; assumption) | (simp [go_sem]; done) | (simp [go_sem, *]; done))
  have s12 : w5.cell? ⟨w.heap.size, 11, none⟩ = some (.int .i64 m11) := (hcw5 _ _ (by omega)).trans (by first | assumption | (refine (cell_alloc_at _ _ ?_).trans ?_; omega; assumption) | (simp [go_sem]; done) | (simp [go_sem, *]; done))
  have s13 : w5.cell? ⟨w.heap.size + 1, 0, none⟩ = some (.int .i64 m0) := (hcw5 _ _ (by omega)).trans (by first | assumption | (refine (cell_alloc_at _ _ ?_).trans ?_; omega; assumption) | (simp [go_sem]; done) | (simp [go_sem, *]; done))
  have s14 : w5.cell? ⟨w.heap.size + 1, 1, none⟩ = some (.int .i64 m1) := (hcw5 _ _ (by omega)).trans (by first | assumption | (refine (cell_alloc_at _ _ ?_).trans ?_; omega; assumption) | (simp [go_sem]; done) | (simp [go_sem, *]; done))
  have s15 : w5.cell? ⟨w.heap.size + 1, 2, none⟩ = some (.int .i64 m2) := (hcw5 _ _ (by omega)).trans (by first | assumption | (refine (cell_alloc_at _ _ ?_).trans ?_; omega; assumption) | (simp [go_sem]; done) | (simp [go_sem, *]; done))
  have s16 : w5.cell? ⟨w.heap.size + 1, 3, none⟩ = some (.int .i64 m3) := (hcw5 _ _ (by omega)).trans (by first | assumption | (refine (cell_alloc_at _ _ ?_).trans ?_; omega; assumption) | (simp [go_sem]; done) | (simp [go_sem, *]; done))
  have s17 : w5.cell? ⟨w.heap.size + 1, 4, none⟩ = some (.int .i64 m4) := (hcw5 _ _ (by omega)).trans (by first | assumption | (refine (cell_alloc_at _ _ ?_).trans ?_; omega; assumption) | (simp [go_sem]; done) | (simp [go_sem, *]; done))
  have s18 : w5.cell? ⟨w.heap.size + 1, 5, none⟩ = some (.int .i64 m5) := (hcw5 _ _ (by omega)).trans (by first | assumption | (refine (cell_alloc_at _ _ ?_).trans ?_; omega; assumption) | (simp [go_sem]; done) | (simp [go_sem, *]; done))
  have s19 : w5.cell? ⟨w.heap.size + 1, 6, none⟩ = some (.int .i64 m6) := (hcw5 _ _ (by omega)).trans (by first | assumption | (refine (cell_alloc_at _ _ ?_).trans ?_; omega; assumption) | (simp [go_sem]; done) | (simp [go_sem, *]; done))
  have s20 : w5.cell? ⟨w.heap.size + 1, 7, none⟩ = some (.int .i64 m7) := (hcw5 _ _ (by omega)).trans (by first | assumption | (refine (cell_alloc_at _ _ ?_).trans ?_; omega; assumption) | (simp [go_sem]; done) | (simp [go_sem, *]; done))
  have s21 : w5.cell? ⟨w.heap.size + 1, 8, none⟩ = some (.int .i64 m8) := (hcw5 _ _ (by omega)).trans (by first | assumption | (refine (cell_alloc_at _ _ ?_).trans ?_; omega; assumption) | (simp [go_sem]; done) | (simp [go_sem, *]; done))
  have s22 : w5.cell? ⟨w.heap.size + 1, 9, none⟩ = some (.int .i64 m9) := (hcw5 _ _ (by omega)).trans (by first | assumption | (refine (cell_alloc_at _ _ ?_).trans ?_; omega; assumption) | (simp [go_sem]; done) | (simp [go_sem, *]; done))
  have s23 : w5.cell? ⟨w.heap.size + 1, 10, none⟩ = some (.int .i64 m10) := (hcw5 _ _ (by omega)).trans (by first | assumption | (refine (cell_alloc_at _ _ ?_).trans ?_; omega; assumption) | (simp [go_sem]; done) | (simp [go_sem, *]; done))
  have s24 : w5.cell? ⟨w.heap.size + 1, 11, none⟩ = some (.int .i64 m11) := (hcw5 _ _ (by omega)).trans (by first | assumption | (refine (cell_alloc_at _ _ ?_).trans ?_; omega; assumption) | (simp [go_sem]; done) | (simp [go_sem, *]; done))
  have szq0 : w.heap.size < w5.heap.size := (by omega)
  have sz : w.heap.size + 1 < w5.heap.size := (by omega)
  clear hcw5 hfw5 hzw5
  go_wp2_with fail
  refine (eqFrac_same _ _ _).mono ?_
  rintro e w6 ⟨rfl, hbw6⟩
  go_wp2
  go_ret
  exact ⟨rfl, by repeat' (first | with_reducible assumption | with_reducible exact Below.refl _ _ | (with_reducible refine Below.setCell ?_ ?_ _) | (with_reducible refine Below.alloc ?_ ?_ _) | (with_reducible refine Below.drew ?_) | (with_reducible refine below_dr ?_ _) | (with_reducible refine Below.trans ?_ (Below.mono (by with_reducible assumption) ?_)) | omega | (simp; done) | (simp; omega))⟩
end Go.Proofs.Ytjlmoadnbbeloaa
