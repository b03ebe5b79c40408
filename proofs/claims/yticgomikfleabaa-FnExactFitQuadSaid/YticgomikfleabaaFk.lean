/- Walks: a quadratic is flattened, both sides whole. -/
import Derived.Test.YticgomikfleabaaFj
namespace Go.Proofs.Yticgomikfleabaa
open Go.RowKit Go.Shelf
set_option linter.unusedVariables false
section
variable (m0 m1 m2 m3 m4 m5 t : Int)
def flG : Bool := okQ m0 m1 m2 m3 m4 m5 && decide (1 ≤ t ∧ t ≤ 262144) && lvB (szQ m0 m1 m2 m3 m4 m5) t
def flN : Nat := pwN (levV (szQ m0 m1 m2 m3 m4 m5) t)
def flQl : List APt := bif flG m0 m1 m2 m3 m4 m5 t then upP (crvQ m0 m1 m2 m3 m4 m5 (flN m0 m1 m2 m3 m4 m5 t)) (flN m0 m1 m2 m3 m4 m5 t + 1) else []
def flQc : Int := if okQ m0 m1 m2 m3 m4 m5 = false then 1 else if 1 ≤ t ∧ t ≤ 262144 then levC (szQ m0 m1 m2 m3 m4 m5) t else 2
end
theorem fl_no {m0 m1 m2 m3 m4 m5 t : Int} (h : okQ m0 m1 m2 m3 m4 m5 = false) : flQl m0 m1 m2 m3 m4 m5 t = [] ∧ flQc m0 m1 m2 m3 m4 m5 t = 1 := by simp [flQl, flG, flQc, h]
theorem fl_tol {m0 m1 m2 m3 m4 m5 t : Int} (h : okQ m0 m1 m2 m3 m4 m5 = true) (h2 : t < 1 ∨ 262144 < t) : flQl m0 m1 m2 m3 m4 m5 t = [] ∧ flQc m0 m1 m2 m3 m4 m5 t = 2 := by
  have : ¬ (1 ≤ t ∧ t ≤ 262144) := by omega
  simp [flQl, flG, flQc, h, this]
theorem fl_big {m0 m1 m2 m3 m4 m5 t : Int} (h : okQ m0 m1 m2 m3 m4 m5 = true) (h1 : 1 ≤ t) (h2 : t ≤ 262144) (h3 : lvB (szQ m0 m1 m2 m3 m4 m5) t = false) : flQl m0 m1 m2 m3 m4 m5 t = [] ∧ flQc m0 m1 m2 m3 m4 m5 t = 5 := by
  have h4 : levC (szQ m0 m1 m2 m3 m4 m5) t = 5 := by unfold lvB at h3; exact levC_no (by simpa using h3)
  have : 1 ≤ t ∧ t ≤ 262144 := ⟨h1, h2⟩
  simp [flQl, flG, flQc, h, h3, h4, this]
theorem fl_yes {m0 m1 m2 m3 m4 m5 t : Int} (h : okQ m0 m1 m2 m3 m4 m5 = true) (h1 : 1 ≤ t) (h2 : t ≤ 262144) (h3 : lvB (szQ m0 m1 m2 m3 m4 m5) t = true) : flQl m0 m1 m2 m3 m4 m5 t = upP (crvQ m0 m1 m2 m3 m4 m5 (flN m0 m1 m2 m3 m4 m5 t)) (flN m0 m1 m2 m3 m4 m5 t + 1) ∧ flQc m0 m1 m2 m3 m4 m5 t = 0 := by
  have h4 : levC (szQ m0 m1 m2 m3 m4 m5) t = 0 := by unfold lvB at h3; exact levC_yes (by simpa using h3)
  have : 1 ≤ t ∧ t ≤ 262144 := ⟨h1, h2⟩
  simp [flQl, flG, flQc, h, h3, h4, this]
theorem crv_in {m0 m1 m2 m3 m4 m5 : Int} {N : Nat} {k : Nat} (hok : okQ m0 m1 m2 m3 m4 m5 = true) : True := trivial
set_option maxRecDepth 100000 in
set_option maxHeartbeats 6400000 in
theorem l10Flat_any (m0 m1 m2 m3 m4 m5 t : Int) (b : Nat) (w : World) (hb : b < w.heap.size) (c0 : w.cell? ⟨b, 0, none⟩ = some (.int .i64 m0)) (c1 : w.cell? ⟨b, 1, none⟩ = some (.int .i64 m1)) (c2 : w.cell? ⟨b, 2, none⟩ = some (.int .i64 m2)) (c3 : w.cell? ⟨b, 3, none⟩ = some (.int .i64 m3)) (c4 : w.cell? ⟨b, 4, none⟩ = some (.int .i64 m4)) (c5 : w.cell? ⟨b, 5, none⟩ = some (.int .i64 m5)) (hok : okQ m0 m1 m2 m3 m4 m5 = true) (t1 : 1 ≤ t) (t2 : t ≤ 262144) :
    Calls Try.prog 32 #[.pointer (some ⟨b, 0, none⟩), .int .i64 t] w (FlRet (flQl m0 m1 m2 m3 m4 m5 t) (.bool (lvB (szQ m0 m1 m2 m3 m4 m5) t)) w) := by
  have CL := Lib.hid (l10Level_any m0 m1 m2 m3 m4 m5 t b w hb c0 c1 c2 c3 c4 c5 hok t1 t2)
  obtain ⟨L0, L6⟩ := levV_in (szQ m0 m1 m2 m3 m4 m5) t
  obtain ⟨N1, N64, SH, SW⟩ := shl_one L0 L6
  rcases hB : lvB (szQ m0 m1 m2 m3 m4 m5) t with _ | _
  · rw [(fl_big hok t1 t2 hB).1]
    unfold L10Ret at CL
    rw [hB] at CL
    clear hB hok N1 N64 SH SW
    generalize levV (szQ m0 m1 m2 m3 m4 m5) t = lv at *
    go_enter Try.func32, Try.ntmps32
    go_wp2_with fail
    refine CL.out.mono ?_
    rintro e w1 ⟨rfl, hb1⟩
    go_wp2
    refine bodyPost_ret (v := .tuple #[.slice none 0 0, .bool false]) (by simp [results, Try.results32, go_sem]) rfl (FlRet.nil hb1)
  rw [(fl_yes hok t1 t2 hB).1]
  unfold flN
  unfold L10Ret at CL
  rw [hB] at CL
  clear hB
  generalize levV (szQ m0 m1 m2 m3 m4 m5) t = lv at *
  obtain ⟨N, hN⟩ : ∃ N, N = pwN lv := ⟨_, rfl⟩
  rw [← hN] at N1 N64 SH SW ⊢
  clear hN SH
  have CA' : ∀ (k : Nat) (hk : k ≤ N) (w : World) (hb : b < w.heap.size) (c0 : w.cell? ⟨b, 0, none⟩ = some (.int .i64 m0)) (c1 : w.cell? ⟨b, 1, none⟩ = some (.int .i64 m1)) (c2 : w.cell? ⟨b, 2, none⟩ = some (.int .i64 m2)) (c3 : w.cell? ⟨b, 3, none⟩ = some (.int .i64 m3)) (c4 : w.cell? ⟨b, 4, none⟩ = some (.int .i64 m4)) (c5 : w.cell? ⟨b, 5, none⟩ = some (.int .i64 m5)), Calls Try.prog 64 #[.pointer (some ⟨b, 0, none⟩), .int .i64 (k : Int), .int .i64 (N : Int)] w fun e w' => e = .returned (.agg #[.int .i64 (crvQ m0 m1 m2 m3 m4 m5 N k).1, .int .i64 (crvQ m0 m1 m2 m3 m4 m5 N k).2]) ∧ Below w.heap.size w w' :=
    fun k hk w hb c0 c1 c2 c3 c4 c5 => l10At_any m0 m1 m2 m3 m4 m5 (k : Int) (N : Int) b w hb c0 c1 c2 c3 c4 c5 hok (by omega) (by omega) (by omega) (by omega)
  have CA := Lib.hid CA'
  clear CA'
  clear hok
  generalize crvQ m0 m1 m2 m3 m4 m5 (N : Int) = f at CA ⊢
  obtain ⟨i0, hi0, hz0', hz1', hz2'⟩ := einfo_parts infoIP
  have HI0 := Lib.hid hi0
  have HZ0 := Lib.hid hz0'
  have HZ1 := Lib.hid hz1'
  have HZ2 := Lib.hid hz2'
  clear hi0 hz0' hz1' hz2'
  have lw : IntKind.u64.wrap lv = lv := by simp [IntKind.wrap, IntKind.bits, IntKind.signed]; omega
  go_enter Try.func32, Try.ntmps32
  go_wp2_with fail
  refine CL.out.mono ?_
  rintro e w1 ⟨rfl, hb1⟩
  have hz1 := hb1.size
  have d0 := (hb1.cell (p := ⟨b, 0, none⟩) hb).trans c0
  have d1 := (hb1.cell (p := ⟨b, 1, none⟩) hb).trans c1
  have d2 := (hb1.cell (p := ⟨b, 2, none⟩) hb).trans c2
  have d3 := (hb1.cell (p := ⟨b, 3, none⟩) hb).trans c3
  have d4 := (hb1.cell (p := ⟨b, 4, none⟩) hb).trans c4
  have d5 := (hb1.cell (p := ⟨b, 5, none⟩) hb).trans c5
  go_wp2_with fail
  rw [SW]
  go_loopw [8, 10] (fun s i wr => ∃ (k : Nat) (A' : Option Addr) (c' : Nat), k ≤ N + 1 ∧ i = .int .i64 (k : Int) ∧ s = .slice A' k c' ∧ OwP 29 wr w1.heap.size A' k c' (upP f k) ∧ Below w1.heap.size w1 wr) (fun _ i _ => N + 1 - (intOf i).toNat)
  case atStart => exact ⟨0, _, 0, Nat.zero_le _, rfl, rfl, OwP.new _ _ (by omega), by repeat' (first | with_reducible assumption | with_reducible exact Below.refl _ _ | (with_reducible refine Below.setCell ?_ ?_ _) | (with_reducible refine Below.alloc ?_ ?_ _) | (with_reducible refine Below.drew ?_) | (with_reducible refine below_dr ?_ _) | (with_reducible refine Below.trans ?_ (Below.mono (by with_reducible assumption) ?_)) | omega | (simp; done) | (simp; omega))⟩
  case round =>
    obtain ⟨k, A', c', hk, rfl, rfl, ow, hbl⟩ := hrel
    have zr := hbl.size
    have hbr : b < wr.heap.size := by omega
    have e0 := (hbl.cell (p := ⟨b, 0, none⟩) (by simp only; omega)).trans d0
    have e1 := (hbl.cell (p := ⟨b, 1, none⟩) (by simp only; omega)).trans d1
    have e2 := (hbl.cell (p := ⟨b, 2, none⟩) (by simp only; omega)).trans d2
    have e3 := (hbl.cell (p := ⟨b, 3, none⟩) (by simp only; omega)).trans d3
    have e4 := (hbl.cell (p := ⟨b, 4, none⟩) (by simp only; omega)).trans d4
    have e5 := (hbl.cell (p := ⟨b, 5, none⟩) (by simp only; omega)).trans d5
    by_cases hlt : k < N + 1
    case pos =>
      have hki : (k : Int) ≤ (N : Int) := by omega
      have C := Lib.hid (CA.out k (by omega) wr hbr e0 e1 e2 e3 e4 e5)
      have HS := Lib.hid (upP_succ f k)
      obtain ⟨⟨x, y⟩, hxy⟩ : ∃ p, p = f k := ⟨_, rfl⟩
      rw [← hxy] at C HS
      simp only at C
      clear hxy
      go_wp2_with fail
      refine C.out.mono ?_
      rintro e w2 ⟨rfl, hb2⟩
      have ow2 := ow.stays hb2
      have z2 := hb2.size
      have g2 : Below w.heap.size w w2 := by repeat' (first | with_reducible assumption | with_reducible exact Below.refl _ _ | (with_reducible refine Below.setCell ?_ ?_ _) | (with_reducible refine Below.alloc ?_ ?_ _) | (with_reducible refine Below.drew ?_) | (with_reducible refine below_dr ?_ _) | (with_reducible refine Below.trans ?_ (Below.mono (by with_reducible assumption) ?_)) | omega | (simp; done) | (simp; omega))
      have HMX := Lib.hid (show k + 1 ≤ maxLen by unfold maxLen; omega)
      have HBY := Lib.hid (show (k + 1) * 16 ≤ 140737488355328 by omega)
      have HRD := Lib.hid (preads_new w2 x y 29)
      have HOW := Lib.hid (show (w2.alloc (.cells #[.int .i64 x, .int .i64 y] 29)).ownsRow w1.heap.size 29 2 (.slice A' k c') k _ from (ow2.alloc _).2)
      have HRB := Lib.hid ow2.block
      have HBS := Lib.hid (show w1.heap.size ≤ (w2.alloc (.cells #[.int .i64 x, .int .i64 y] 29)).heap.size by simp; omega)
      clear d0 d1 d2 d3 d4 d5 e0 e1 e2 e3 e4 e5 CA
      go_wp2_with (at_builtin; refine wpList_append_any _ rfl (.tmp 28) (.tmp 33) _ rfl (w1.heap.size) 29 i0 _ 2 16 Try.underlying26 HI0.out HZ0.out HZ1.out HZ2.out rfl (by omega) (.slice A' k c') k _ rfl HOW.out _ (some ⟨w2.heap.size, 0, none⟩) 1 1 [.int .i64 x, .int .i64 y] rfl HRD.out (one_p x y) HMX.out HBY.out HBS.out ?_; intro v9 w9 hown9 hg9 hat9; obtain ⟨g9, cap9, rfl, _, _⟩ := hown9.form (by omega); have HOWN9 := Lib.hid hown9; have HG9 := Lib.hid hg9; clear hown9 hg9 hat9)
      have g9b : Below w1.heap.size w1 w9 := below_of_grown ((hbl.trans (hb2.mono (by omega))).alloc (by omega) (.cells #[.int .i64 x, .int .i64 y] 29)) HG9.out (by simp; omega) (fun q hq => by have := HRB.out q hq; omega)
      have ow9 : OwP 29 w9 w1.heap.size (some ⟨g9, 0, none⟩) (k + 1) cap9 (upP f k ++ [(x, y)]) := OwP.grown (by have := ow2.1; simp only [List.length_cons, List.length_nil]; omega) HOWN9.out
      go_roundw
      case rel => exact ⟨k + 1, _, _, by omega, by go_num, rfl, by rw [HS.out]; exact ow9, g9b⟩
      case measure => first | (simp [intOf]; done) | (simp [intOf]; omega)
    case neg =>
      obtain rfl : k = N + 1 := by omega
      go_wp2
      refine bodyPost_ret (v := .tuple #[.slice A' (N + 1) c', .bool true]) (by simp [results, Try.results32, go_sem]) rfl ?_
      refine ⟨A', c', by rw [upP_len], ?_, by repeat' (first | with_reducible assumption | with_reducible exact Below.refl _ _ | (with_reducible refine Below.setCell ?_ ?_ _) | (with_reducible refine Below.alloc ?_ ?_ _) | (with_reducible refine Below.drew ?_) | (with_reducible refine below_dr ?_ _) | (with_reducible refine Below.trans ?_ (Below.mono (by with_reducible assumption) ?_)) | omega | (simp; done) | (simp; omega))⟩
      rw [upP_len]
      exact (ow.base_ (by omega)).2
end Go.Proofs.Yticgomikfleabaa
