/- Walks: an expression times a number, the reference's side. -/
import Derived.Test.YthedimnjbfeaiaaSb
import Derived.Test.YthedimnjbfeaiaaHe
import Derived.Deep.RegionLaw
namespace Go.Proofs.Ythedimnjbfeaiaa
open Go.RowKit
set_option linter.unusedVariables false
theorem Blk.set2 {w : World} {g : Nat} {t : TypeId} {x y a b : Value} (h : Blk w g t #[x, y]) : Blk ((w.setCell ⟨g, 0, none⟩ a).setCell ⟨g, 1, none⟩ b) g t #[a, b] := (h.set_ 0 a).set_ 1 b
set_option maxHeartbeats 800000 in
theorem l05Const_any (n d : Int) (w : World) : Calls Try.prog 116 #[.agg #[.int .i64 n, .int .i64 d]] w fun e w' => ∃ g, e = .returned (.agg #[.int .i64 n, .int .i64 d, .slice (some ⟨g, 0, none⟩) 0 0]) ∧ w'.ownsRow w.heap.size 109 3 (.slice (some ⟨g, 0, none⟩) 0 0) 0 [] ∧ Below w.heap.size w w' := by
  go_enter Try.func116, Try.ntmps116
  go_wp2
  refine bodyPost_ret (v := .agg #[.int .i64 n, .int .i64 d, .slice (some ⟨w.heap.size + 1 + 1, 0, none⟩) 0 0]) (by simp [results, Try.results116, go_sem]) rfl ⟨w.heap.size + 1 + 1, rfl, ⟨rfl, .inr ⟨w.heap.size + 1 + 1, 0, #[], rfl, by omega, ?_, by omega, by unfold maxLen; omega, rfl, rfl⟩⟩, ?_⟩
  · show Blk _ (w.heap.size + 1 + 1) 109 #[]
    repeat' (first | with_reducible assumption | with_reducible exact Blk.new _ _ _ | ((with_reducible refine Blk.newAt _ _ _ ?_); (first | rfl | (simp; done))) | (with_reducible refine Blk.alloc ?_ _) | (with_reducible refine Blk.far ?_ ?_ _) | omega | (simp; done) | (simp; omega))
  · repeat' (first | with_reducible assumption | with_reducible exact Below.refl _ _ | (with_reducible refine Below.setCell ?_ ?_ _) | (with_reducible refine Below.alloc ?_ ?_ _) | (with_reducible refine Below.drew ?_) | (with_reducible refine below_dr ?_ _) | (with_reducible refine Below.trans ?_ (Below.mono (by with_reducible assumption) ?_)) | omega | (simp; done) | (simp; omega))
set_option maxRecDepth 100000 in
set_option maxHeartbeats 12800000 in
theorem l05Scale_any (n d : Int) (A : Option Addr) (c : Nat) (l : List ATerm) (n2 d2 : Int) (b : Nat) (w : World) (hv : vLin n d l = true) (hvf : validB n2 d2 = true) (at0 : Blk w b 52 #[.int .i64 n, .int .i64 d, .slice A l.length c]) (rr : Rd cTerm 3 w w.heap.size A l) :
    Calls Try.prog 75 #[.pointer (some ⟨b, 0, none⟩), .agg #[.int .i64 n2, .int .i64 d2]] w (Ret_Linear (scN n d l n2 d2) (scD n d l n2 d2) (scC n d l n2 d2) (scL n d l n2 d2) w) := by
  have HV := Lib.hid hv
  have HVF := Lib.hid hvf
  have C3 := Lib.hid (fun w => smul_at (vLin_const hv) hvf w)
  clear hv hvf
  obtain ⟨R, hR⟩ : ∃ R, R = Ret_Linear (scN n d l n2 d2) (scD n d l n2 d2) (scC n d l n2 d2) (scL n d l n2 d2) w := ⟨_, rfl⟩
  have HR := Lib.hid hR
  rw [← hR]
  clear hR
  obtain ⟨i0, hi0, hz0', hz1', hz2'⟩ := info_parts infoTerm
  have HI0 := Lib.hid hi0
  have HZ0 := Lib.hid hz0'
  have HZ1 := Lib.hid hz1'
  have HZ2 := Lib.hid hz2'
  clear hi0 hz0' hz1' hz2'
  have hbw := at0.lt
  obtain ⟨pn, hpn⟩ : ∃ x, x = mkNum (n * n2) (d * d2) := ⟨_, rfl⟩
  obtain ⟨pd, hpd⟩ : ∃ x, x = mkDen (n * n2) (d * d2) := ⟨_, rfl⟩
  obtain ⟨cc, hcc⟩ : ∃ x, x = mkCode (n * n2) (d * d2) := ⟨_, rfl⟩
  rw [← hpn, ← hpd, ← hcc] at C3
  have HPN := Lib.hid hpn
  have HPD := Lib.hid hpd
  have HCC := Lib.hid hcc
  clear hpn hpd hcc
  have hk12 := vLin_len HV.out
  go_enter Try.func75, Try.ntmps75
  go_wp2_with fail
  have lw := rr
  have aw := at0
  clear rr at0
  generalize hW : (w.alloc (.cells #[.int .i64 n2, .int .i64 d2] 49)).alloc (.cells #[.int .i64 0, .int .i64 0, .slice none 0 0] 52) = W0
  have lW0 : Rd cTerm 3 W0 w.heap.size A l := by rw [← hW]; repeat' (first | with_reducible assumption | (with_reducible refine Rd.drew ?_) | (with_reducible refine Rd.carry ?_ (by with_reducible assumption) ?_) | (with_reducible refine Rd.alloc ?_ ?_ _) | (with_reducible refine Rd.setCell ?_ ?_ _) | omega | (simp; done) | (simp; omega))
  have aW0 : Blk W0 (b) 52 #[.int .i64 n, .int .i64 d, .slice A l.length c] := by rw [← hW]; repeat' (first | with_reducible assumption | with_reducible exact Blk.new _ _ _ | ((with_reducible refine Blk.newAt _ _ _ ?_); (first | rfl | (simp; done))) | (with_reducible apply Blk.set2) | (with_reducible refine Blk.drew ?_) | (with_reducible refine Blk.carry ?_ (by with_reducible assumption)) | (with_reducible refine Blk.alloc ?_ _) | (with_reducible refine Blk.far ?_ ?_ _) | omega | (simp; done) | (simp; omega))
  have fW0 : Blk W0 (w.heap.size) 49 #[.int .i64 n2, .int .i64 d2] := by rw [← hW]; repeat' (first | with_reducible assumption | with_reducible exact Blk.new _ _ _ | ((with_reducible refine Blk.newAt _ _ _ ?_); (first | rfl | (simp; done))) | (with_reducible apply Blk.set2) | (with_reducible refine Blk.drew ?_) | (with_reducible refine Blk.carry ?_ (by with_reducible assumption)) | (with_reducible refine Blk.alloc ?_ _) | (with_reducible refine Blk.far ?_ ?_ _) | omega | (simp; done) | (simp; omega))
  have rW0 : Blk W0 (w.heap.size + 1) 52 #[.int .i64 0, .int .i64 0, .slice none 0 0] := by rw [← hW]; repeat' (first | with_reducible assumption | with_reducible exact Blk.new _ _ _ | ((with_reducible refine Blk.newAt _ _ _ ?_); (first | rfl | (simp; done))) | (with_reducible apply Blk.set2) | (with_reducible refine Blk.drew ?_) | (with_reducible refine Blk.carry ?_ (by with_reducible assumption)) | (with_reducible refine Blk.alloc ?_ _) | (with_reducible refine Blk.far ?_ ?_ _) | omega | (simp; done) | (simp; omega))
  have bn : Below w.heap.size w W0 := by rw [← hW]; repeat' (first | with_reducible assumption | with_reducible exact Below.refl _ _ | (with_reducible refine Below.setCell ?_ ?_ _) | (with_reducible refine Below.alloc ?_ ?_ _) | (with_reducible refine Below.drew ?_) | (with_reducible refine below_dr ?_ _) | (with_reducible refine Below.trans ?_ (Below.mono (by with_reducible assumption) ?_)) | omega | (simp; done) | (simp; omega))
  have bW0 := Lib.hid bn
  have qW0 := bn.size
  have zW0 : w.heap.size ≤ W0.heap.size := by rw [← hW]; (first | (simp; done) | (simp; omega))
  clear hW bn
  clear lw aw
  have hrw := rW0.lt
  have hfw := fW0.lt
  have ya0 : W0.cell? ⟨b, 0, none⟩ = some (.int .i64 n) := aW0.cell 0 rfl
  have ya1 : W0.cell? ⟨b, 1, none⟩ = some (.int .i64 d) := aW0.cell 1 rfl
  have ya2 : W0.cell? ⟨b, 2, none⟩ = some (.slice A l.length c) := aW0.cell 2 rfl
  have yla := aW0.lt
  have yf0 : W0.cell? ⟨w.heap.size, 0, none⟩ = some (.int .i64 n2) := fW0.cell 0 rfl
  have yf1 : W0.cell? ⟨w.heap.size, 1, none⟩ = some (.int .i64 d2) := fW0.cell 1 rfl
  have ylf := fW0.lt
  have bp := bW0.out
  go_upto_region 1 with fail
  go_cut [6, 7] (fun sA sB wx => ∃ q : Nat, sA = .pointer (some ⟨q, 0, none⟩) ∧ sB = .int .i64 cc ∧ Blk wx q 49 #[.int .i64 pn, .int .i64 pd] ∧ W0.heap.size ≤ q ∧ Rd cTerm 3 wx w.heap.size A l ∧ Blk wx (b) 52 #[.int .i64 n, .int .i64 d, .slice A l.length c] ∧ Blk wx (w.heap.size) 49 #[.int .i64 n2, .int .i64 d2] ∧ Blk wx (w.heap.size + 1) 52 #[.int .i64 0, .int .i64 0, .slice none 0 0] ∧ Below w.heap.size w wx)
  case first =>
    go_region_held3 (fun w' => (∀ b o, b < W0.heap.size → w'.cell? ⟨b, o, none⟩ = W0.cell? ⟨b, o, none⟩) ∧ W0.heap.size ≤ w'.heap.size)
      (first | ((try dsimp only); exact ⟨fun b o h => (by (repeat (first | with_reducible exact rfl | (with_reducible refine (cell_drew_at _ _).trans ?_) | (with_reducible refine (cell_set_at _ _ (by first | omega | (simp; done) | (simp; omega))).trans ?_) | (with_reducible refine (cell_alloc_at _ _ (by first | omega | (simp; done) | (simp; omega))).trans ?_) | (with_reducible refine (hcwM b o (by first | omega | (simp; done) | (simp; omega))).trans ?_)))), (by first | omega | (simp; done) | (simp; omega))⟩) | fail)
      (first
        | (go_at_call 115; (with_reducible refine (C3.out _).mono ?_); rintro e wM ⟨rfl, hbwM⟩; obtain ⟨hcwM, hfwM⟩ := bcell hbwM; have hzwM := hbwM.size; (try simp only [World.size_drew] at hcwM hfwM hzwM); (try simp only [World.size_alloc] at hcwM hfwM hzwM); (try have qwM : W0.heap.size < wM.heap.size := (by omega))))
    all_goals
      go_wp2_with fail
      go_meet
    all_goals exact ⟨_, rfl, rfl, by repeat' (first | with_reducible assumption | with_reducible exact Blk.new _ _ _ | ((with_reducible refine Blk.newAt _ _ _ ?_); (first | rfl | (simp; done))) | (with_reducible apply Blk.set2) | (with_reducible refine Blk.drew ?_) | (with_reducible refine Blk.carry ?_ (by with_reducible assumption)) | (with_reducible refine Blk.alloc ?_ _) | (with_reducible refine Blk.far ?_ ?_ _) | omega | (simp; done) | (simp; omega)), by first | omega | (simp; done) | (simp; omega), by repeat' (first | with_reducible assumption | (with_reducible refine Rd.drew ?_) | (with_reducible refine Rd.carry ?_ (by with_reducible assumption) ?_) | (with_reducible refine Rd.alloc ?_ ?_ _) | (with_reducible refine Rd.setCell ?_ ?_ _) | omega | (simp; done) | (simp; omega)), by repeat' (first | with_reducible assumption | with_reducible exact Blk.new _ _ _ | ((with_reducible refine Blk.newAt _ _ _ ?_); (first | rfl | (simp; done))) | (with_reducible apply Blk.set2) | (with_reducible refine Blk.drew ?_) | (with_reducible refine Blk.carry ?_ (by with_reducible assumption)) | (with_reducible refine Blk.alloc ?_ _) | (with_reducible refine Blk.far ?_ ?_ _) | omega | (simp; done) | (simp; omega)), by repeat' (first | with_reducible assumption | with_reducible exact Blk.new _ _ _ | ((with_reducible refine Blk.newAt _ _ _ ?_); (first | rfl | (simp; done))) | (with_reducible apply Blk.set2) | (with_reducible refine Blk.drew ?_) | (with_reducible refine Blk.carry ?_ (by with_reducible assumption)) | (with_reducible refine Blk.alloc ?_ _) | (with_reducible refine Blk.far ?_ ?_ _) | omega | (simp; done) | (simp; omega)), by repeat' (first | with_reducible assumption | with_reducible exact Blk.new _ _ _ | ((with_reducible refine Blk.newAt _ _ _ ?_); (first | rfl | (simp; done))) | (with_reducible apply Blk.set2) | (with_reducible refine Blk.drew ?_) | (with_reducible refine Blk.carry ?_ (by with_reducible assumption)) | (with_reducible refine Blk.alloc ?_ _) | (with_reducible refine Blk.far ?_ ?_ _) | omega | (simp; done) | (simp; omega)), by repeat' (first | with_reducible assumption | with_reducible exact Below.refl _ _ | (with_reducible refine Below.setCell ?_ ?_ _) | (with_reducible refine Below.alloc ?_ ?_ _) | (with_reducible refine Below.drew ?_) | (with_reducible refine below_dr ?_ _) | (with_reducible refine Below.trans ?_ (Below.mono (by with_reducible assumption) ?_)) | omega | (simp; done) | (simp; omega))⟩
  case rest =>
    obtain ⟨q, rfl, rfl, mw3, hq, lw3, aw3, fw3, rw3, bn⟩ := hcut
    obtain ⟨w3, rfl⟩ : ∃ W : World, W = wc := ⟨_, rfl⟩
    have bw3 := Lib.hid bn
    have qw3 := bn.size
    have zm := mw3.lt
    clear bn bp bW0 lW0 aW0 fW0 rW0
    have zr3 := rw3.lt
    clear ya0 ya1 ya2 yla yf0 yf1 ylf
    by_cases hc0 : cc = 0
    case neg =>
      have e_c : (cc != 0) = true := by simpa using hc0
      have HC0 := Lib.hid hc0
      clear hc0
      have yr0 : w3.cell? ⟨w.heap.size + 1, 0, none⟩ = some (.int .i64 0) := rw3.cell 0 rfl
      have yr1 : w3.cell? ⟨w.heap.size + 1, 1, none⟩ = some (.int .i64 0) := rw3.cell 1 rfl
      have yr2 : w3.cell? ⟨w.heap.size + 1, 2, none⟩ = some (.slice none 0 0) := rw3.cell 2 rfl
      have yfr0 := rw3.frozen 0
      have yfr1 := rw3.frozen 1
      have yfr2 := rw3.frozen 2
      have ylr := rw3.lt
      go_wp2_with fail
      refine bodyPost_ret (v := .tuple #[.agg #[.int .i64 0, .int .i64 0, .slice none 0 0], .int .i64 cc]) (by simp [results, Try.results75, go_sem, *]) rfl ?_
      have bp := bw3.out
      rw [HR.out]
      obtain ⟨e1, e2, e3, e4⟩ := sc_const HV.out HVF.out (by rw [← HCC.out]; exact HC0.out)
      rw [e1, e2, e3, e4, ← HCC.out]
      exact ⟨none, 0, rfl, ⟨rfl, .inl ⟨rfl, rfl⟩⟩, by repeat' (first | with_reducible assumption | with_reducible exact Below.refl _ _ | (with_reducible refine Below.setCell ?_ ?_ _) | (with_reducible refine Below.alloc ?_ ?_ _) | (with_reducible refine Below.drew ?_) | (with_reducible refine below_dr ?_ _) | (with_reducible refine Below.trans ?_ (Below.mono (by with_reducible assumption) ?_)) | omega | (simp; done) | (simp; omega))⟩
    case pos =>
      have e_c : (cc != 0) = false := by rw [hc0]; rfl
      have HC0 := Lib.hid (show mkCode (n * n2) (d * d2) = 0 by rw [← HCC.out]; exact hc0)
      subst hc0
      clear HCC
      have ym0 : w3.cell? ⟨q, 0, none⟩ = some (.int .i64 pn) := mw3.cell 0 rfl
      have ym1 : w3.cell? ⟨q, 1, none⟩ = some (.int .i64 pd) := mw3.cell 1 rfl
      have ylm := mw3.lt
      go_wp2_with fail
      clear ym0 ym1 ylm
      refine (l05Const_any pn pd _).mono ?_
      intro e w4 hq4
      obtain ⟨g0, rfl, og, hb4⟩ := hq4
      have HOG := own_block og (q := g0) rfl
      have zw4 := hb4.size
      (try simp only [World.size_setCell] at zw4)
      (try simp only [World.size_drew] at zw4)
      (try simp only [World.size_alloc] at zw4)
      have lw4 : Rd cTerm 3 w4 w.heap.size A l := by repeat' (first | with_reducible assumption | (with_reducible refine Rd.drew ?_) | (with_reducible refine Rd.carry ?_ (by with_reducible assumption) ?_) | (with_reducible refine Rd.alloc ?_ ?_ _) | (with_reducible refine Rd.setCell ?_ ?_ _) | omega | (simp; done) | (simp; omega))
      have aw4 : Blk w4 (b) 52 #[.int .i64 n, .int .i64 d, .slice A l.length c] := by repeat' (first | with_reducible assumption | with_reducible exact Blk.new _ _ _ | ((with_reducible refine Blk.newAt _ _ _ ?_); (first | rfl | (simp; done))) | (with_reducible apply Blk.set2) | (with_reducible refine Blk.drew ?_) | (with_reducible refine Blk.carry ?_ (by with_reducible assumption)) | (with_reducible refine Blk.alloc ?_ _) | (with_reducible refine Blk.far ?_ ?_ _) | omega | (simp; done) | (simp; omega))
      have fw4 : Blk w4 (w.heap.size) 49 #[.int .i64 n2, .int .i64 d2] := by repeat' (first | with_reducible assumption | with_reducible exact Blk.new _ _ _ | ((with_reducible refine Blk.newAt _ _ _ ?_); (first | rfl | (simp; done))) | (with_reducible apply Blk.set2) | (with_reducible refine Blk.drew ?_) | (with_reducible refine Blk.carry ?_ (by with_reducible assumption)) | (with_reducible refine Blk.alloc ?_ _) | (with_reducible refine Blk.far ?_ ?_ _) | omega | (simp; done) | (simp; omega))
      have rw4 : Blk w4 (w.heap.size + 1) 52 #[.int .i64 0, .int .i64 0, .slice none 0 0] := by repeat' (first | with_reducible assumption | with_reducible exact Blk.new _ _ _ | ((with_reducible refine Blk.newAt _ _ _ ?_); (first | rfl | (simp; done))) | (with_reducible apply Blk.set2) | (with_reducible refine Blk.drew ?_) | (with_reducible refine Blk.carry ?_ (by with_reducible assumption)) | (with_reducible refine Blk.alloc ?_ _) | (with_reducible refine Blk.far ?_ ?_ _) | omega | (simp; done) | (simp; omega))
      have mw4 : Blk w4 (q) 49 #[.int .i64 pn, .int .i64 pd] := by repeat' (first | with_reducible assumption | with_reducible exact Blk.new _ _ _ | ((with_reducible refine Blk.newAt _ _ _ ?_); (first | rfl | (simp; done))) | (with_reducible apply Blk.set2) | (with_reducible refine Blk.drew ?_) | (with_reducible refine Blk.carry ?_ (by with_reducible assumption)) | (with_reducible refine Blk.alloc ?_ _) | (with_reducible refine Blk.far ?_ ?_ _) | omega | (simp; done) | (simp; omega))
      have bp := bw3.out
      have bn : Below w.heap.size w w4 := by repeat' (first | with_reducible assumption | with_reducible exact Below.refl _ _ | (with_reducible refine Below.setCell ?_ ?_ _) | (with_reducible refine Below.alloc ?_ ?_ _) | (with_reducible refine Below.drew ?_) | (with_reducible refine below_dr ?_ _) | (with_reducible refine Below.trans ?_ (Below.mono (by with_reducible assumption) ?_)) | omega | (simp; done) | (simp; omega))
      have bw4 := Lib.hid bn
      have qw4 := bn.size
      clear bn bp bw3 hb4
      clear lw3 aw3 fw3 rw3 mw3
      clear e_c
      have ya0 : w4.cell? ⟨b, 0, none⟩ = some (.int .i64 n) := aw4.cell 0 rfl
      have ya1 : w4.cell? ⟨b, 1, none⟩ = some (.int .i64 d) := aw4.cell 1 rfl
      have ya2 : w4.cell? ⟨b, 2, none⟩ = some (.slice A l.length c) := aw4.cell 2 rfl
      have yla := aw4.lt
      go_wp2_with fail
      clear ya0 ya1 ya2 yla
      clear mw4 zm hq
      have ow4 := og
      clear og
      generalize hW : w4.alloc (.cells #[.int .i64 pn, .int .i64 pd, .slice (some ⟨g0, 0, none⟩) 0 0] 52) = w5
      have lw5 : Rd cTerm 3 w5 w.heap.size A l := by rw [← hW]; repeat' (first | with_reducible assumption | (with_reducible refine Rd.drew ?_) | (with_reducible refine Rd.carry ?_ (by with_reducible assumption) ?_) | (with_reducible refine Rd.alloc ?_ ?_ _) | (with_reducible refine Rd.setCell ?_ ?_ _) | omega | (simp; done) | (simp; omega))
      have aw5 : Blk w5 (b) 52 #[.int .i64 n, .int .i64 d, .slice A l.length c] := by rw [← hW]; repeat' (first | with_reducible assumption | with_reducible exact Blk.new _ _ _ | ((with_reducible refine Blk.newAt _ _ _ ?_); (first | rfl | (simp; done))) | (with_reducible apply Blk.set2) | (with_reducible refine Blk.drew ?_) | (with_reducible refine Blk.carry ?_ (by with_reducible assumption)) | (with_reducible refine Blk.alloc ?_ _) | (with_reducible refine Blk.far ?_ ?_ _) | omega | (simp; done) | (simp; omega))
      have fw5 : Blk w5 (w.heap.size) 49 #[.int .i64 n2, .int .i64 d2] := by rw [← hW]; repeat' (first | with_reducible assumption | with_reducible exact Blk.new _ _ _ | ((with_reducible refine Blk.newAt _ _ _ ?_); (first | rfl | (simp; done))) | (with_reducible apply Blk.set2) | (with_reducible refine Blk.drew ?_) | (with_reducible refine Blk.carry ?_ (by with_reducible assumption)) | (with_reducible refine Blk.alloc ?_ _) | (with_reducible refine Blk.far ?_ ?_ _) | omega | (simp; done) | (simp; omega))
      have rw5 : Blk w5 (w.heap.size + 1) 52 #[.int .i64 0, .int .i64 0, .slice none 0 0] := by rw [← hW]; repeat' (first | with_reducible assumption | with_reducible exact Blk.new _ _ _ | ((with_reducible refine Blk.newAt _ _ _ ?_); (first | rfl | (simp; done))) | (with_reducible apply Blk.set2) | (with_reducible refine Blk.drew ?_) | (with_reducible refine Blk.carry ?_ (by with_reducible assumption)) | (with_reducible refine Blk.alloc ?_ _) | (with_reducible refine Blk.far ?_ ?_ _) | omega | (simp; done) | (simp; omega))
      have ow5 : w5.ownsRow (w3.heap.size) 109 3 (.slice (some ⟨g0, 0, none⟩) 0 0) 0 [] := by rw [← hW]; repeat' (first | with_reducible assumption | (with_reducible refine own_drew ?_) | (with_reducible refine own_stays ?_ (by with_reducible assumption)) | (with_reducible refine World.ownsRow.alloc ?_ _))
      have pw5 : Blk w5 (w4.heap.size) 52 #[.int .i64 pn, .int .i64 pd, .slice (some ⟨g0, 0, none⟩) 0 0] := by rw [← hW]; repeat' (first | with_reducible assumption | with_reducible exact Blk.new _ _ _ | ((with_reducible refine Blk.newAt _ _ _ ?_); (first | rfl | (simp; done))) | (with_reducible apply Blk.set2) | (with_reducible refine Blk.drew ?_) | (with_reducible refine Blk.carry ?_ (by with_reducible assumption)) | (with_reducible refine Blk.alloc ?_ _) | (with_reducible refine Blk.far ?_ ?_ _) | omega | (simp; done) | (simp; omega))
      have bp := bw4.out
      have bn : Below w.heap.size w w5 := by rw [← hW]; repeat' (first | with_reducible assumption | with_reducible exact Below.refl _ _ | (with_reducible refine Below.setCell ?_ ?_ _) | (with_reducible refine Below.alloc ?_ ?_ _) | (with_reducible refine Below.drew ?_) | (with_reducible refine below_dr ?_ _) | (with_reducible refine Below.trans ?_ (Below.mono (by with_reducible assumption) ?_)) | omega | (simp; done) | (simp; omega))
      have bw5 := Lib.hid bn
      have qw5 := bn.size
      have zw5 : w4.heap.size ≤ w5.heap.size := by rw [← hW]; (first | (simp; done) | (simp; omega))
      clear hW bn bp bw4
      clear lw4 aw4 fw4 rw4 ow4
      have hbw5 : b < w4.heap.size := by omega
      by_cases hz : n2 = 0
      case pos =>
        have e_n : (n2 != 0) = false := by rw [hz]; rfl
        have HZ := Lib.hid hz
        clear hz
        have bp := bw5.out
        go_loopw [9] (fun i wr => i = .int .i64 0 ∧ Rd cTerm 3 wr w.heap.size A l ∧ Blk wr (b) 52 #[.int .i64 n, .int .i64 d, .slice A l.length c] ∧ Blk wr (w.heap.size) 49 #[.int .i64 n2, .int .i64 d2] ∧ Blk wr (w.heap.size + 1) 52 #[.int .i64 0, .int .i64 0, .slice none 0 0] ∧ wr.ownsRow (w3.heap.size) 109 3 (.slice (some ⟨g0, 0, none⟩) 0 0) 0 [] ∧ Blk wr (w4.heap.size) 52 #[.int .i64 pn, .int .i64 pd, .slice (some ⟨g0, 0, none⟩) 0 0] ∧ Below w.heap.size w wr) (fun i _ => 0)
        case atStart => exact ⟨rfl, lw5, aw5, fw5, rw5, ow5, pw5, bp⟩
        case round =>
          clear bp bw5 lw5 aw5 fw5 rw5 ow5 pw5
          obtain ⟨rfl, lwr, awr, fwr, rwr, owr, pwr, bn⟩ := hrel
          have bwr := Lib.hid bn
          have qwr := bn.size
          clear bn
          by_cases h0l : 0 < l.length
          case pos =>
            have e_l : decide ((0 : Int) < (l.length : Int)) = true := decide_eq_true (by omega)
            have ya0 : wr.cell? ⟨b, 0, none⟩ = some (.int .i64 n) := awr.cell 0 rfl
            have ya1 : wr.cell? ⟨b, 1, none⟩ = some (.int .i64 d) := awr.cell 1 rfl
            have ya2 : wr.cell? ⟨b, 2, none⟩ = some (.slice A l.length c) := awr.cell 2 rfl
            have yla := awr.lt
            have yp0 : wr.cell? ⟨w4.heap.size, 0, none⟩ = some (.int .i64 pn) := pwr.cell 0 rfl
            have yp1 : wr.cell? ⟨w4.heap.size, 1, none⟩ = some (.int .i64 pd) := pwr.cell 1 rfl
            have yp2 : wr.cell? ⟨w4.heap.size, 2, none⟩ = some (.slice (some ⟨g0, 0, none⟩) 0 0) := pwr.cell 2 rfl
            have ylp := pwr.lt
            have yf0 : wr.cell? ⟨w.heap.size, 0, none⟩ = some (.int .i64 n2) := fwr.cell 0 rfl
            have yf1 : wr.cell? ⟨w.heap.size, 1, none⟩ = some (.int .i64 d2) := fwr.cell 1 rfl
            have ylf := fwr.lt
            have yr0 : wr.cell? ⟨w.heap.size + 1, 0, none⟩ = some (.int .i64 0) := rwr.cell 0 rfl
            have yr1 : wr.cell? ⟨w.heap.size + 1, 1, none⟩ = some (.int .i64 0) := rwr.cell 1 rfl
            have yr2 : wr.cell? ⟨w.heap.size + 1, 2, none⟩ = some (.slice none 0 0) := rwr.cell 2 rfl
            have yfr0 := rwr.frozen 0
            have yfr1 := rwr.frozen 1
            have yfr2 := rwr.frozen 2
            have ylr := rwr.lt
            go_wp2_with fail
            refine bodyPost_ret (v := .tuple #[.agg #[.int .i64 pn, .int .i64 pd, .slice (some ⟨g0, 0, none⟩) 0 0], .int .i64 0]) (by simp [results, Try.results75, go_sem, *]) rfl ?_
            have bp := bwr.out
            rw [HR.out]
            obtain ⟨e1, e2, e3, e4⟩ := sc_zero HV.out HVF.out HC0.out HZ.out
            rw [e1, e2, e3, e4, ← HPN.out, ← HPD.out]
            refine ⟨some ⟨g0, 0, none⟩, 0, rfl, ?_, by repeat' (first | with_reducible assumption | with_reducible exact Below.refl _ _ | (with_reducible refine Below.setCell ?_ ?_ _) | (with_reducible refine Below.alloc ?_ ?_ _) | (with_reducible refine Below.drew ?_) | (with_reducible refine below_dr ?_ _) | (with_reducible refine Below.trans ?_ (Below.mono (by with_reducible assumption) ?_)) | omega | (simp; done) | (simp; omega))⟩
            have ow9 := own_base (base := w.heap.size) owr (by omega)
            have HOBR := Lib.hid (fun q (hq : (Value.slice (some ⟨g0, 0, none⟩) 0 0).ownBlock = some q) => own_block ow9 hq)
            have HOG2 := own_block owr (q := g0) rfl
            repeat' (first | with_reducible exact ow9 | (with_reducible refine own_keep ?_ ?_ _) | (intro q hq h8; have h9 : g0 = q := Option.some.inj hq; dsimp only at h8; omega) | exact ow9)
          case neg =>
            have e_l : decide ((0 : Int) < (l.length : Int)) = false := decide_eq_false (by omega)
            have ya0 : wr.cell? ⟨b, 0, none⟩ = some (.int .i64 n) := awr.cell 0 rfl
            have ya1 : wr.cell? ⟨b, 1, none⟩ = some (.int .i64 d) := awr.cell 1 rfl
            have ya2 : wr.cell? ⟨b, 2, none⟩ = some (.slice A l.length c) := awr.cell 2 rfl
            have yla := awr.lt
            have yp0 : wr.cell? ⟨w4.heap.size, 0, none⟩ = some (.int .i64 pn) := pwr.cell 0 rfl
            have yp1 : wr.cell? ⟨w4.heap.size, 1, none⟩ = some (.int .i64 pd) := pwr.cell 1 rfl
            have yp2 : wr.cell? ⟨w4.heap.size, 2, none⟩ = some (.slice (some ⟨g0, 0, none⟩) 0 0) := pwr.cell 2 rfl
            have ylp := pwr.lt
            have yf0 : wr.cell? ⟨w.heap.size, 0, none⟩ = some (.int .i64 n2) := fwr.cell 0 rfl
            have yf1 : wr.cell? ⟨w.heap.size, 1, none⟩ = some (.int .i64 d2) := fwr.cell 1 rfl
            have ylf := fwr.lt
            have yr0 : wr.cell? ⟨w.heap.size + 1, 0, none⟩ = some (.int .i64 0) := rwr.cell 0 rfl
            have yr1 : wr.cell? ⟨w.heap.size + 1, 1, none⟩ = some (.int .i64 0) := rwr.cell 1 rfl
            have yr2 : wr.cell? ⟨w.heap.size + 1, 2, none⟩ = some (.slice none 0 0) := rwr.cell 2 rfl
            have yfr0 := rwr.frozen 0
            have yfr1 := rwr.frozen 1
            have yfr2 := rwr.frozen 2
            have ylr := rwr.lt
            go_wp2_with fail
            refine bodyPost_ret (v := .tuple #[.agg #[.int .i64 pn, .int .i64 pd, .slice (some ⟨g0, 0, none⟩) 0 0], .int .i64 0]) (by simp [results, Try.results75, go_sem, *]) rfl ?_
            have bp := bwr.out
            rw [HR.out]
            obtain ⟨e1, e2, e3, e4⟩ := sc_zero HV.out HVF.out HC0.out HZ.out
            rw [e1, e2, e3, e4, ← HPN.out, ← HPD.out]
            refine ⟨some ⟨g0, 0, none⟩, 0, rfl, ?_, by repeat' (first | with_reducible assumption | with_reducible exact Below.refl _ _ | (with_reducible refine Below.setCell ?_ ?_ _) | (with_reducible refine Below.alloc ?_ ?_ _) | (with_reducible refine Below.drew ?_) | (with_reducible refine below_dr ?_ _) | (with_reducible refine Below.trans ?_ (Below.mono (by with_reducible assumption) ?_)) | omega | (simp; done) | (simp; omega))⟩
            have ow9 := own_base (base := w.heap.size) owr (by omega)
            have HOBR := Lib.hid (fun q (hq : (Value.slice (some ⟨g0, 0, none⟩) 0 0).ownBlock = some q) => own_block ow9 hq)
            have HOG2 := own_block owr (q := g0) rfl
            repeat' (first | with_reducible exact ow9 | (with_reducible refine own_keep ?_ ?_ _) | (intro q hq h8; have h9 : g0 = q := Option.some.inj hq; dsimp only at h8; omega) | exact ow9)
      case neg =>
        have e_n : (n2 != 0) = true := by simpa using hz
        have HZ := Lib.hid hz
        clear hz
        have bp := bw5.out
        go_loopw [9] (fun i wr => ∃ (k : Nat) (A' : Option Addr) (c' : Nat), k ≤ l.length ∧ i = .int .i64 k ∧ (∀ (j : Nat) (b : ATerm), j < k → l[j]? = some b → mC n2 d2 b = 0) ∧ (∀ q, (Value.slice A' k c').ownBlock = some q → ¬ q = w4.heap.size) ∧ Rd cTerm 3 wr w.heap.size A l ∧ Blk wr (b) 52 #[.int .i64 n, .int .i64 d, .slice A l.length c] ∧ Blk wr (w.heap.size) 49 #[.int .i64 n2, .int .i64 d2] ∧ Blk wr (w.heap.size + 1) 52 #[.int .i64 0, .int .i64 0, .slice none 0 0] ∧ wr.ownsRow (w.heap.size + 1 + 1) 109 3 (.slice A' k c') k (cellsF cTerm ((l.take k).map (mT n2 d2))) ∧ Blk wr (w4.heap.size) 52 #[.int .i64 pn, .int .i64 pd, .slice A' k c'] ∧ Below w.heap.size w wr) (fun i _ => l.length - (intOf i).toNat)
        case atStart => exact ⟨0, some ⟨g0, 0, none⟩, 0, Nat.zero_le _, rfl, fun j b h => by omega, fun q hq => by have h9 : g0 = q := Option.some.inj hq; omega, lw5, aw5, fw5, rw5, own_base ow5 (by omega), pw5, bp⟩
        case round =>
          clear bp bw5 lw5 aw5 fw5 rw5 ow5 pw5
          obtain ⟨k, A', c', hk, rfl, hpre, hne, lwr, awr, fwr, rwr, owr, pwr, bn⟩ := hrel
          have HPRE := Lib.hid hpre
          have bwr := Lib.hid bn
          have qwr := bn.size
          clear hpre bn
          have zpr := pwr.lt
          have HOBR := Lib.hid (fun q (hq : (Value.slice A' k c').ownBlock = some q) => (⟨own_block owr hq, hne q hq⟩ : (w.heap.size + 1 + 1 ≤ q ∧ q < wr.heap.size) ∧ ¬ q = w4.heap.size))
          clear hne
          by_cases hlt : k < l.length
          case pos =>
            obtain ⟨⟨x0, x1, x2⟩, ha⟩ : ∃ a, l[k]? = some a := ⟨l[k]'hlt, List.getElem?_eq_getElem hlt⟩
            obtain ⟨g, o, hA, hg, hc⟩ := lwr.elem ha
            obtain ⟨vt1, vt2⟩ := vLin_term HV.out ha
            simp only at vt1 vt2
            have c0 : wr.cell? ⟨g, o + k * 3, none⟩ = some (.string x0) := hc 0 _ rfl
            have c1 : wr.cell? ⟨g, o + k * 3 + 1, none⟩ = some (.int .i64 x1) := hc 1 _ rfl
            have c2 : wr.cell? ⟨g, o + k * 3 + 2, none⟩ = some (.int .i64 x2) := hc 2 _ rfl
            have HA := Lib.hid ha
            have hki : (k : Int) < (l.length : Int) := by omega
            clear hc ha
            subst hA
            have hgw : g < wr.heap.size := by omega
            have C4 := Lib.hid (fun w => smul_at vt1 HVF.out w)
            obtain ⟨tn, htn⟩ : ∃ x, x = mkNum (x1 * n2) (x2 * d2) := ⟨_, rfl⟩
            obtain ⟨td, htd⟩ : ∃ x, x = mkDen (x1 * n2) (x2 * d2) := ⟨_, rfl⟩
            obtain ⟨tc, htc⟩ : ∃ x, x = mkCode (x1 * n2) (x2 * d2) := ⟨_, rfl⟩
            rw [← htn, ← htd, ← htc] at C4
            have HTN := Lib.hid htn
            have HTD := Lib.hid htd
            have HTC := Lib.hid htc
            have HV1 := Lib.hid vt1
            have HV2 := Lib.hid vt2
            clear htn htd htc vt1 vt2
            have e_l : decide ((k : Int) < (l.length : Int)) = true := decide_eq_true (by omega)
            have ya0 : wr.cell? ⟨b, 0, none⟩ = some (.int .i64 n) := awr.cell 0 rfl
            have ya1 : wr.cell? ⟨b, 1, none⟩ = some (.int .i64 d) := awr.cell 1 rfl
            have ya2 : wr.cell? ⟨b, 2, none⟩ = some (.slice (some ⟨g, o, none⟩) l.length c) := awr.cell 2 rfl
            have yla := awr.lt
            have yf0 : wr.cell? ⟨w.heap.size, 0, none⟩ = some (.int .i64 n2) := fwr.cell 0 rfl
            have yf1 : wr.cell? ⟨w.heap.size, 1, none⟩ = some (.int .i64 d2) := fwr.cell 1 rfl
            have ylf := fwr.lt
            have bp := bwr.out
            go_upto_region 8 with fail
            go_cut [10, 11] (fun sA sB wx => ∃ q : Nat, sA = .pointer (some ⟨q, 0, none⟩) ∧ sB = .int .i64 tc ∧ Blk wx q 49 #[.int .i64 tn, .int .i64 td] ∧ wr.heap.size ≤ q ∧ Rd cTerm 3 wx w.heap.size (some ⟨g, o, none⟩) l ∧ Blk wx (b) 52 #[.int .i64 n, .int .i64 d, .slice (some ⟨g, o, none⟩) l.length c] ∧ Blk wx (w.heap.size) 49 #[.int .i64 n2, .int .i64 d2] ∧ Blk wx (w.heap.size + 1) 52 #[.int .i64 0, .int .i64 0, .slice none 0 0] ∧ wx.ownsRow (w.heap.size + 1 + 1) 109 3 (.slice A' k c') k (cellsF cTerm ((l.take k).map (mT n2 d2))) ∧ Blk wx (w4.heap.size) 52 #[.int .i64 pn, .int .i64 pd, .slice A' k c'] ∧ Below w.heap.size w wx)
            case first =>
              go_region_held3 (fun w' => (∀ b o, b < wr.heap.size → w'.cell? ⟨b, o, none⟩ = wr.cell? ⟨b, o, none⟩) ∧ wr.heap.size ≤ w'.heap.size)
                (first | ((try dsimp only); exact ⟨fun b o h => (by (repeat (first | with_reducible exact rfl | (with_reducible refine (cell_drew_at _ _).trans ?_) | (with_reducible refine (cell_set_at _ _ (by first | omega | (simp; done) | (simp; omega))).trans ?_) | (with_reducible refine (cell_alloc_at _ _ (by first | omega | (simp; done) | (simp; omega))).trans ?_) | (with_reducible refine (hcwM b o (by first | omega | (simp; done) | (simp; omega))).trans ?_)))), (by first | omega | (simp; done) | (simp; omega))⟩) | fail)
                (first
                  | (go_at_call 115; (with_reducible refine (C4.out _).mono ?_); rintro e wM ⟨rfl, hbwM⟩; obtain ⟨hcwM, hfwM⟩ := bcell hbwM; have hzwM := hbwM.size; (try simp only [World.size_drew] at hcwM hfwM hzwM); (try simp only [World.size_alloc] at hcwM hfwM hzwM); (try have qwM : wr.heap.size < wM.heap.size := (by omega))))
              all_goals
                go_wp2_with fail
                go_meet
              all_goals exact ⟨_, rfl, rfl, by repeat' (first | with_reducible assumption | with_reducible exact Blk.new _ _ _ | ((with_reducible refine Blk.newAt _ _ _ ?_); (first | rfl | (simp; done))) | (with_reducible apply Blk.set2) | (with_reducible refine Blk.drew ?_) | (with_reducible refine Blk.carry ?_ (by with_reducible assumption)) | (with_reducible refine Blk.alloc ?_ _) | (with_reducible refine Blk.far ?_ ?_ _) | omega | (simp; done) | (simp; omega)), by first | omega | (simp; done) | (simp; omega), by repeat' (first | with_reducible assumption | (with_reducible refine Rd.drew ?_) | (with_reducible refine Rd.carry ?_ (by with_reducible assumption) ?_) | (with_reducible refine Rd.alloc ?_ ?_ _) | (with_reducible refine Rd.setCell ?_ ?_ _) | omega | (simp; done) | (simp; omega)), by repeat' (first | with_reducible assumption | with_reducible exact Blk.new _ _ _ | ((with_reducible refine Blk.newAt _ _ _ ?_); (first | rfl | (simp; done))) | (with_reducible apply Blk.set2) | (with_reducible refine Blk.drew ?_) | (with_reducible refine Blk.carry ?_ (by with_reducible assumption)) | (with_reducible refine Blk.alloc ?_ _) | (with_reducible refine Blk.far ?_ ?_ _) | omega | (simp; done) | (simp; omega)), by repeat' (first | with_reducible assumption | with_reducible exact Blk.new _ _ _ | ((with_reducible refine Blk.newAt _ _ _ ?_); (first | rfl | (simp; done))) | (with_reducible apply Blk.set2) | (with_reducible refine Blk.drew ?_) | (with_reducible refine Blk.carry ?_ (by with_reducible assumption)) | (with_reducible refine Blk.alloc ?_ _) | (with_reducible refine Blk.far ?_ ?_ _) | omega | (simp; done) | (simp; omega)), by repeat' (first | with_reducible assumption | with_reducible exact Blk.new _ _ _ | ((with_reducible refine Blk.newAt _ _ _ ?_); (first | rfl | (simp; done))) | (with_reducible apply Blk.set2) | (with_reducible refine Blk.drew ?_) | (with_reducible refine Blk.carry ?_ (by with_reducible assumption)) | (with_reducible refine Blk.alloc ?_ _) | (with_reducible refine Blk.far ?_ ?_ _) | omega | (simp; done) | (simp; omega)), by repeat' (first | with_reducible assumption | (with_reducible refine own_drew ?_) | (with_reducible refine own_stays ?_ (by with_reducible assumption)) | (with_reducible refine World.ownsRow.alloc ?_ _) | (with_reducible refine own_keep ?_ ?_ _) | (intro q hq h8; have h9 := HOBR.out q hq; dsimp only at h8; omega)), by repeat' (first | with_reducible assumption | with_reducible exact Blk.new _ _ _ | ((with_reducible refine Blk.newAt _ _ _ ?_); (first | rfl | (simp; done))) | (with_reducible apply Blk.set2) | (with_reducible refine Blk.drew ?_) | (with_reducible refine Blk.carry ?_ (by with_reducible assumption)) | (with_reducible refine Blk.alloc ?_ _) | (with_reducible refine Blk.far ?_ ?_ _) | omega | (simp; done) | (simp; omega)), by repeat' (first | with_reducible assumption | with_reducible exact Below.refl _ _ | (with_reducible refine Below.setCell ?_ ?_ _) | (with_reducible refine Below.alloc ?_ ?_ _) | (with_reducible refine Below.drew ?_) | (with_reducible refine below_dr ?_ _) | (with_reducible refine Below.trans ?_ (Below.mono (by with_reducible assumption) ?_)) | omega | (simp; done) | (simp; omega))⟩
            case rest =>
              obtain ⟨q, rfl, rfl, mw6, hq, lw6, aw6, fw6, rw6, ow6, pw6, bn⟩ := hcut
              obtain ⟨w6, rfl⟩ : ∃ W : World, W = wc := ⟨_, rfl⟩
              have bw6 := Lib.hid bn
              have qw6 := bn.size
              have zm := mw6.lt
              clear bn bp bwr lwr awr fwr rwr owr pwr
              clear c0 c1 c2 ya0 ya1 ya2 yla yf0 yf1 ylf
              by_cases ht0 : tc = 0
              case neg =>
                have e_t : (tc != 0) = true := by simpa using ht0
                have HT0 := Lib.hid ht0
                clear ht0
                have yr0 : w6.cell? ⟨w.heap.size + 1, 0, none⟩ = some (.int .i64 0) := rw6.cell 0 rfl
                have yr1 : w6.cell? ⟨w.heap.size + 1, 1, none⟩ = some (.int .i64 0) := rw6.cell 1 rfl
                have yr2 : w6.cell? ⟨w.heap.size + 1, 2, none⟩ = some (.slice none 0 0) := rw6.cell 2 rfl
                have yfr0 := rw6.frozen 0
                have yfr1 := rw6.frozen 1
                have yfr2 := rw6.frozen 2
                have ylr := rw6.lt
                go_wp2_with fail
                refine bodyPost_ret (v := .tuple #[.agg #[.int .i64 0, .int .i64 0, .slice none 0 0], .int .i64 tc]) (by simp [results, Try.results75, go_sem, *]) rfl ?_
                have bp := bw6.out
                rw [HR.out]
                obtain ⟨e1, e2, e3, e4⟩ := sc_bad HV.out HVF.out HC0.out HZ.out HA.out HPRE.out (show ¬ mC n2 d2 (x0, x1, x2) = 0 from fun h => HT0.out (HTC.out.trans h))
                rw [e1, e2, e3, e4, show mC n2 d2 (x0, x1, x2) = tc from HTC.out.symm]
                exact ⟨none, 0, rfl, ⟨rfl, .inl ⟨rfl, rfl⟩⟩, by repeat' (first | with_reducible assumption | with_reducible exact Below.refl _ _ | (with_reducible refine Below.setCell ?_ ?_ _) | (with_reducible refine Below.alloc ?_ ?_ _) | (with_reducible refine Below.drew ?_) | (with_reducible refine below_dr ?_ _) | (with_reducible refine Below.trans ?_ (Below.mono (by with_reducible assumption) ?_)) | omega | (simp; done) | (simp; omega))⟩
              case pos =>
                have HT0 := Lib.hid (show mC n2 d2 (x0, x1, x2) = 0 from HTC.out.symm.trans ht0)
                subst ht0
                clear HTC
                obtain ⟨g', o', hA', hg', hc'⟩ := lw6.elem HA.out
                obtain ⟨rfl, rfl⟩ : g = g' ∧ o = o' := by injection hA' with h; injection h with h1 h2; exact ⟨h1, h2⟩
                have c0 : w6.cell? ⟨g, o + k * 3, none⟩ = some (.string x0) := hc' 0 _ rfl
                clear hc' hA' hg'
                have hrd : Reads (w6.drew.alloc (.cells #[.string x0, .int .i64 tn, .int .i64 td] 109)) (w6.heap.size + 1) 3 (some ⟨w6.heap.size, 0, none⟩) 1 [.string x0, .int .i64 tn, .int .i64 td] := by
                  have := Reads.of_own (own_one (w := w6.drew) (base := 0) (e := 109) (cs := #[.string x0, .int .i64 tn, .int .i64 td]) (s := 3) (Nat.zero_le _) rfl)
                  simpa using this
                have H1C := Lib.hid (show ∀ u ∈ ([.string x0, .int .i64 tn, .int .i64 td] : List Value), u.oneCell' = true by intro v hv; simp at hv; rcases hv with rfl | rfl | rfl <;> rfl)
                have HMX := Lib.hid (show k + 1 ≤ maxLen by unfold maxLen; omega)
                have HBY := Lib.hid (show (k + 1) * 32 ≤ 140737488355328 by omega)
                have HBS := Lib.hid (show w.heap.size + 1 + 1 ≤ (w6.drew.alloc (.cells #[.string x0, .int .i64 tn, .int .i64 td] 109)).heap.size by simp; omega)
                have HRD := Lib.hid hrd
                have HO8 := Lib.hid (World.ownsRow.alloc (own_drew ow6) (.cells #[.string x0, .int .i64 tn, .int .i64 td] 109))
                clear hrd
                have HOB := Lib.hid (fun q hq => own_block ow6 (q := q) hq)
                have FIN : ∀ (w9 : World) (g9 cap9 : Nat), w9.ownsRow (w.heap.size + 1 + 1) 109 3 (.slice (some ⟨g9, 0, none⟩) (k + 1) cap9) (k + 1) ((cellsF cTerm ((l.take k).map (mT n2 d2))) ++ [.string x0, .int .i64 tn, .int .i64 td]) → (w6.drew.alloc (.cells #[.string x0, .int .i64 tn, .int .i64 td] 109)).grownBy w9 (Value.slice A' k c').ownBlock → ((.slice (some ⟨g9, 0, none⟩) (k + 1) cap9 : Value).ownBlock = (Value.slice A' k c').ownBlock ∨ (.slice (some ⟨g9, 0, none⟩) (k + 1) cap9 : Value).ownBlock = some (w6.drew.alloc (.cells #[.string x0, .int .i64 tn, .int .i64 td] 109)).heap.size) → Blk w9 w4.heap.size 52 #[.int .i64 pn, .int .i64 pd, .slice A' k c'] → ((∀ (j : Nat) (b : ATerm), j < k + 1 → l[j]? = some b → mC n2 d2 b = 0) ∧ (∀ q, (.slice (some ⟨g9, 0, none⟩) (k + 1) cap9 : Value).ownBlock = some q → ¬ q = w4.heap.size) ∧ Rd cTerm 3 (w9.setCell ⟨w4.heap.size, 2, none⟩ (.slice (some ⟨g9, 0, none⟩) (k + 1) cap9)) w.heap.size (some ⟨g, o, none⟩) l ∧ Blk (w9.setCell ⟨w4.heap.size, 2, none⟩ (.slice (some ⟨g9, 0, none⟩) (k + 1) cap9)) (b) 52 #[.int .i64 n, .int .i64 d, .slice (some ⟨g, o, none⟩) l.length c] ∧ Blk (w9.setCell ⟨w4.heap.size, 2, none⟩ (.slice (some ⟨g9, 0, none⟩) (k + 1) cap9)) (w.heap.size) 49 #[.int .i64 n2, .int .i64 d2] ∧ Blk (w9.setCell ⟨w4.heap.size, 2, none⟩ (.slice (some ⟨g9, 0, none⟩) (k + 1) cap9)) (w.heap.size + 1) 52 #[.int .i64 0, .int .i64 0, .slice none 0 0] ∧ (w9.setCell ⟨w4.heap.size, 2, none⟩ (.slice (some ⟨g9, 0, none⟩) (k + 1) cap9)).ownsRow (w.heap.size + 1 + 1) 109 3 (.slice (some ⟨g9, 0, none⟩) (k + 1) cap9) (k + 1) (cellsF cTerm ((l.take (k + 1)).map (mT n2 d2))) ∧ Blk (w9.setCell ⟨w4.heap.size, 2, none⟩ (.slice (some ⟨g9, 0, none⟩) (k + 1) cap9)) (w4.heap.size) 52 #[.int .i64 pn, .int .i64 pd, .slice (some ⟨g9, 0, none⟩) (k + 1) cap9] ∧ Below w.heap.size w (w9.setCell ⟨w4.heap.size, 2, none⟩ (.slice (some ⟨g9, 0, none⟩) (k + 1) cap9))) := by
                  intro w9 g9 cap9 hown9 hg9 hat9 pw9
                  have hz9 := hg9.size
                  (try simp only [World.size_alloc] at hz9)
                  (try simp only [World.size_drew] at hz9)
                  have bp := bw6.out
                  have hcs : (cellsF cTerm ((l.take k).map (mT n2 d2))) ++ [.string x0, .int .i64 tn, .int .i64 td] = (cellsF cTerm ((l.take (k + 1)).map (mT n2 d2))) := by
                    rw [map_snoc HA.out, ← cellsF_snoc]; unfold mT cTerm; rw [HTN.out, HTD.out]
                  rw [hcs] at hown9
                  have HOB9 : ∀ q, (.slice (some ⟨g9, 0, none⟩) (k + 1) cap9 : Value).ownBlock = some q → ¬ q = w4.heap.size := by
                    intro q hq
                    rcases hat9 with h | h
                    · exact (HOBR.out q (h.symm.trans hq)).2
                    · have h2 : (w6.drew.alloc (.cells #[.string x0, .int .i64 tn, .int .i64 td] 109)).heap.size = q := Option.some.inj (h.symm.trans hq)
                      rw [World.size_alloc, World.size_drew] at h2
                      omega
                  refine ⟨?_, HOB9, ?_, ?_, ?_, ?_, ?_, pw9.set_ 2 _, ?_⟩
                  · intro j b hj hb
                    by_cases hjk : j < k
                    · exact HPRE.out j b hjk hb
                    · obtain rfl : j = k := by omega
                      obtain rfl := Option.some.inj (HA.out.symm.trans hb)
                      exact HT0.out
                  · exact Rd.setCell (Rd.grown2 (Rd.alloc (Rd.drew lw6) (by simp only [World.size_drew]; omega) _) hg9 (by simp; omega) (fun q hq => by have := HOBR.out q hq; omega)) (by simp only; omega) _
                  · exact Blk.far (Blk.grown (aw6.drew.alloc _) hg9 (fun q hq => by have := HOBR.out q hq; omega)) (by simp only; omega) _
                  · exact Blk.far (Blk.grown (fw6.drew.alloc _) hg9 (fun q hq => by have := HOBR.out q hq; omega)) (by simp only; omega) _
                  · exact Blk.far (Blk.grown (rw6.drew.alloc _) hg9 (fun q hq => by have := HOBR.out q hq; omega)) (by simp only; omega) _
                  · exact own_keep hown9 (fun q hq => by have := HOB9 q hq; intro h8; dsimp only at h8; omega) _
                  · exact (below_of_grown ((Below.drew bp).alloc (by simp only [World.size_drew]; omega) _) hg9 (by simp; omega) (fun q hq => by have := HOBR.out q hq; omega)).setCell (by simp only; omega) _
                have HFIN := Lib.hid FIN
                clear FIN
                have ya0 : w6.cell? ⟨b, 0, none⟩ = some (.int .i64 n) := aw6.cell 0 rfl
                have ya1 : w6.cell? ⟨b, 1, none⟩ = some (.int .i64 d) := aw6.cell 1 rfl
                have ya2 : w6.cell? ⟨b, 2, none⟩ = some (.slice (some ⟨g, o, none⟩) l.length c) := aw6.cell 2 rfl
                have yla := aw6.lt
                have yp0 : w6.cell? ⟨w4.heap.size, 0, none⟩ = some (.int .i64 pn) := pw6.cell 0 rfl
                have yp1 : w6.cell? ⟨w4.heap.size, 1, none⟩ = some (.int .i64 pd) := pw6.cell 1 rfl
                have yp2 : w6.cell? ⟨w4.heap.size, 2, none⟩ = some (.slice A' k c') := pw6.cell 2 rfl
                have yfp0 := pw6.frozen 0
                have yfp1 := pw6.frozen 1
                have yfp2 := pw6.frozen 2
                have ylp := pw6.lt
                have ym0 : w6.cell? ⟨q, 0, none⟩ = some (.int .i64 tn) := mw6.cell 0 rfl
                have ym1 : w6.cell? ⟨q, 1, none⟩ = some (.int .i64 td) := mw6.cell 1 rfl
                have ylm := mw6.lt
                go_wp2_with fail
                go_region_law (refine step_append_any _ rfl (.tmp 59) (.tmp 70) _ rfl (w.heap.size + 1 + 1) 109 i0 _ 3 32 Try.underlying50 HI0.out HZ0.out HZ1.out HZ2.out rfl (by omega) _ k (cellsF cTerm ((l.take k).map (mT n2 d2))) rfl HO8.out (w6.heap.size + 1) (some ⟨w6.heap.size, 0, none⟩) 1 1 [.string x0, .int .i64 tn, .int .i64 td] rfl HRD.out H1C.out HMX.out HBY.out HBS.out ?_; intro v' w9 hown9 hg9' hat9; obtain ⟨g9, cap9, rfl, _, _⟩ := hown9.form (by omega); have hg9 : (w6.drew.alloc (.cells #[.string x0, .int .i64 tn, .int .i64 td] 109)).grownBy w9 (Value.slice A' k c').ownBlock := hg9'; clear hg9'; have pw9 := Blk.grown (pw6.drew.alloc _) hg9 (fun q hq => by have := HOBR.out q hq; omega); have yy0 : w9.cell? ⟨w4.heap.size, 2, none⟩ = some (.slice A' k c') := pw9.cell 2 rfl; have yy1 := pw9.frozen 2; have HF9 := Lib.hid (HFIN.out w9 g9 cap9 hown9 hg9 hat9 pw9); clear hown9 hg9 hat9 pw9)
                all_goals
                  go_wp2_with fail
                  exact ⟨⟨k + 1, some ⟨g9, 0, none⟩, cap9, by omega, by go_num, HF9.out⟩, by first | (simp [intOf]; done) | (simp [intOf]; omega)⟩
          case neg =>
            obtain rfl : k = l.length := by omega
            have e_l : decide ((l.length : Int) < (l.length : Int)) = false := decide_eq_false (by omega)
            have ya0 : wr.cell? ⟨b, 0, none⟩ = some (.int .i64 n) := awr.cell 0 rfl
            have ya1 : wr.cell? ⟨b, 1, none⟩ = some (.int .i64 d) := awr.cell 1 rfl
            have ya2 : wr.cell? ⟨b, 2, none⟩ = some (.slice A l.length c) := awr.cell 2 rfl
            have yla := awr.lt
            have yf0 : wr.cell? ⟨w.heap.size, 0, none⟩ = some (.int .i64 n2) := fwr.cell 0 rfl
            have yf1 : wr.cell? ⟨w.heap.size, 1, none⟩ = some (.int .i64 d2) := fwr.cell 1 rfl
            have ylf := fwr.lt
            have yp0 : wr.cell? ⟨w4.heap.size, 0, none⟩ = some (.int .i64 pn) := pwr.cell 0 rfl
            have yp1 : wr.cell? ⟨w4.heap.size, 1, none⟩ = some (.int .i64 pd) := pwr.cell 1 rfl
            have yp2 : wr.cell? ⟨w4.heap.size, 2, none⟩ = some (.slice A' l.length c') := pwr.cell 2 rfl
            have ylp := pwr.lt
            have yr0 : wr.cell? ⟨w.heap.size + 1, 0, none⟩ = some (.int .i64 0) := rwr.cell 0 rfl
            have yr1 : wr.cell? ⟨w.heap.size + 1, 1, none⟩ = some (.int .i64 0) := rwr.cell 1 rfl
            have yr2 : wr.cell? ⟨w.heap.size + 1, 2, none⟩ = some (.slice none 0 0) := rwr.cell 2 rfl
            have yfr0 := rwr.frozen 0
            have yfr1 := rwr.frozen 1
            have yfr2 := rwr.frozen 2
            have ylr := rwr.lt
            go_wp2_with fail
            rw [List.take_length] at owr
            refine bodyPost_ret (v := .tuple #[.agg #[.int .i64 pn, .int .i64 pd, .slice A' l.length c'], .int .i64 0]) (by simp [results, Try.results75, go_sem, *]) rfl ?_
            have bp := bwr.out
            rw [HR.out]
            obtain ⟨e1, e2, e3, e4⟩ := sc_ok HV.out HVF.out HC0.out HZ.out (fun j b hb => HPRE.out j b (by rcases Nat.lt_or_ge j l.length with h | h; exact h; rw [List.getElem?_eq_none h] at hb; cases hb) hb)
            rw [e1, e2, e3, e4, ← HPN.out, ← HPD.out]
            refine ⟨A', c', by rw [List.length_map], ?_, by repeat' (first | with_reducible assumption | with_reducible exact Below.refl _ _ | (with_reducible refine Below.setCell ?_ ?_ _) | (with_reducible refine Below.alloc ?_ ?_ _) | (with_reducible refine Below.drew ?_) | (with_reducible refine below_dr ?_ _) | (with_reducible refine Below.trans ?_ (Below.mono (by with_reducible assumption) ?_)) | omega | (simp; done) | (simp; omega))⟩
            rw [List.length_map]
            have ow9 := own_base (base := w.heap.size) owr (by omega)
            repeat' (first | with_reducible assumption | (with_reducible refine own_drew ?_) | (with_reducible refine own_stays ?_ (by with_reducible assumption)) | (with_reducible refine World.ownsRow.alloc ?_ _) | (with_reducible refine own_keep ?_ ?_ _) | (intro q hq h8; have h9 := HOBR.out q hq; dsimp only at h8; omega))
end Go.Proofs.Ythedimnjbfeaiaa
