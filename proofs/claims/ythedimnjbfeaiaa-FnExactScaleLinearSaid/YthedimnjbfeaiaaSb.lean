/- Walks: an expression times a number, the program's side: the function. -/
import Derived.Test.YthedimnjbfeaiaaSa
namespace Go.Proofs.Ythedimnjbfeaiaa
open Go.RowKit
set_option linter.unusedVariables false
set_option maxRecDepth 100000 in
set_option maxHeartbeats 12800000 in
theorem implScale_any (n d : Int) (A : Option Addr) (c : Nat) (l : List ATerm) (n2 d2 : Int) (w : World) (hn : -9223372036854775808 ≤ n ∧ n ≤ 9223372036854775807) (hd : -9223372036854775808 ≤ d ∧ d ≤ 9223372036854775807) (h3 : -9223372036854775808 ≤ n2 ∧ n2 ≤ 9223372036854775807) (h4 : -9223372036854775808 ≤ d2 ∧ d2 ≤ 9223372036854775807) (hl : l.length ≤ 1048576) (rr : Rd cTerm 3 w w.heap.size A l) (hok : ∀ (w2 : World) (B : Nat) (i : Nat) (b : ATerm), l[i]? = some b → okTerm w2 B b) :
    Calls Try.prog 31 #[.agg #[.int .i64 n, .int .i64 d, .slice A l.length c], .agg #[.int .i64 n2, .int .i64 d2]] w (Ret_Linear (scN n d l n2 d2) (scD n d l n2 d2) (scC n d l n2 d2) (scL n d l n2 d2) w) := by
  have HOK := Lib.hid hok
  clear hok
  obtain ⟨R, hR⟩ : ∃ R, R = Ret_Linear (scN n d l n2 d2) (scD n d l n2 d2) (scC n d l n2 d2) (scL n d l n2 d2) w := ⟨_, rfl⟩
  have HR := Lib.hid hR
  rw [← hR]
  clear hR
  obtain ⟨i0, hi0, hz0', hz1', hz2'⟩ := info_parts infoTerm
  have HI0 := Lib.hid hi0
  have HZ0 := Lib.hid hz0'
  have HZ1 := Lib.hid hz1'
  have HZ2 := Lib.hid hz2'
  clear hi0 hz0' hz1' hz2'
  go_enter Try.func31, Try.ntmps31
  go_wp2_with fail
  have lw := rr
  generalize hW : ((w.alloc (.cells #[.int .i64 n, .int .i64 d, .slice A l.length c] 52)).alloc (.cells #[.int .i64 n2, .int .i64 d2] 49)).alloc (.cells #[.int .i64 0, .int .i64 0, .slice none 0 0] 52) = W0
  have lW0 : Rd cTerm 3 W0 w.heap.size A l := by rw [← hW]; repeat' (first | with_reducible assumption | (with_reducible refine Rd.drew ?_) | (with_reducible refine Rd.carry ?_ (by with_reducible assumption) ?_) | (with_reducible refine Rd.alloc ?_ ?_ _) | (with_reducible refine Rd.setCell ?_ ?_ _) | omega | (simp; done) | (simp; omega))
  have aW0 : Blk W0 (w.heap.size) 52 #[.int .i64 n, .int .i64 d, .slice A l.length c] := by rw [← hW]; repeat' (first | with_reducible assumption | with_reducible exact Blk.new _ _ _ | ((with_reducible refine Blk.newAt _ _ _ ?_); (first | rfl | (simp; done))) | (with_reducible refine Blk.drew ?_) | (with_reducible refine Blk.carry ?_ (by with_reducible assumption)) | (with_reducible refine Blk.alloc ?_ _) | (with_reducible refine Blk.far ?_ ?_ _) | omega | (simp; done) | (simp; omega))
  have fW0 : Blk W0 (w.heap.size + 1) 49 #[.int .i64 n2, .int .i64 d2] := by rw [← hW]; repeat' (first | with_reducible assumption | with_reducible exact Blk.new _ _ _ | ((with_reducible refine Blk.newAt _ _ _ ?_); (first | rfl | (simp; done))) | (with_reducible refine Blk.drew ?_) | (with_reducible refine Blk.carry ?_ (by with_reducible assumption)) | (with_reducible refine Blk.alloc ?_ _) | (with_reducible refine Blk.far ?_ ?_ _) | omega | (simp; done) | (simp; omega))
  have rW0 : Blk W0 (w.heap.size + 1 + 1) 52 #[.int .i64 0, .int .i64 0, .slice none 0 0] := by rw [← hW]; repeat' (first | with_reducible assumption | with_reducible exact Blk.new _ _ _ | ((with_reducible refine Blk.newAt _ _ _ ?_); (first | rfl | (simp; done))) | (with_reducible refine Blk.drew ?_) | (with_reducible refine Blk.carry ?_ (by with_reducible assumption)) | (with_reducible refine Blk.alloc ?_ _) | (with_reducible refine Blk.far ?_ ?_ _) | omega | (simp; done) | (simp; omega))
  have bn : Below w.heap.size w W0 := by rw [← hW]; repeat' (first | with_reducible assumption | with_reducible exact Below.refl _ _ | (with_reducible refine Below.setCell ?_ ?_ _) | (with_reducible refine Below.alloc ?_ ?_ _) | (with_reducible refine Below.drew ?_) | (with_reducible refine below_dr ?_ _) | (with_reducible refine Below.trans ?_ (Below.mono (by with_reducible assumption) ?_)) | omega | (simp; done) | (simp; omega))
  have bW0 := Lib.hid bn
  have qW0 := bn.size
  have zW0 : w.heap.size ≤ W0.heap.size := by rw [← hW]; (first | (simp; done) | (simp; omega))
  clear hW bn
  refine (implValidLinear_any n d A c l _ hn hd hl ?_ HOK.out).mono ?_
  · exact lW0.more qW0
  rintro e w1 ⟨rfl, hb1⟩
  have zw1 := hb1.size
  (try simp only [World.size_setCell] at zw1)
  (try simp only [World.size_drew] at zw1)
  (try simp only [World.size_alloc] at zw1)
  have lw1 : Rd cTerm 3 w1 w.heap.size A l := by repeat' (first | with_reducible assumption | (with_reducible refine Rd.drew ?_) | (with_reducible refine Rd.carry ?_ (by with_reducible assumption) ?_) | (with_reducible refine Rd.alloc ?_ ?_ _) | (with_reducible refine Rd.setCell ?_ ?_ _) | omega | (simp; done) | (simp; omega))
  have aw1 : Blk w1 (w.heap.size) 52 #[.int .i64 n, .int .i64 d, .slice A l.length c] := by repeat' (first | with_reducible assumption | with_reducible exact Blk.new _ _ _ | ((with_reducible refine Blk.newAt _ _ _ ?_); (first | rfl | (simp; done))) | (with_reducible refine Blk.drew ?_) | (with_reducible refine Blk.carry ?_ (by with_reducible assumption)) | (with_reducible refine Blk.alloc ?_ _) | (with_reducible refine Blk.far ?_ ?_ _) | omega | (simp; done) | (simp; omega))
  have fw1 : Blk w1 (w.heap.size + 1) 49 #[.int .i64 n2, .int .i64 d2] := by repeat' (first | with_reducible assumption | with_reducible exact Blk.new _ _ _ | ((with_reducible refine Blk.newAt _ _ _ ?_); (first | rfl | (simp; done))) | (with_reducible refine Blk.drew ?_) | (with_reducible refine Blk.carry ?_ (by with_reducible assumption)) | (with_reducible refine Blk.alloc ?_ _) | (with_reducible refine Blk.far ?_ ?_ _) | omega | (simp; done) | (simp; omega))
  have rw1 : Blk w1 (w.heap.size + 1 + 1) 52 #[.int .i64 0, .int .i64 0, .slice none 0 0] := by repeat' (first | with_reducible assumption | with_reducible exact Blk.new _ _ _ | ((with_reducible refine Blk.newAt _ _ _ ?_); (first | rfl | (simp; done))) | (with_reducible refine Blk.drew ?_) | (with_reducible refine Blk.carry ?_ (by with_reducible assumption)) | (with_reducible refine Blk.alloc ?_ _) | (with_reducible refine Blk.far ?_ ?_ _) | omega | (simp; done) | (simp; omega))
  have bp := bW0.out
  have bn : Below w.heap.size w w1 := by repeat' (first | with_reducible assumption | with_reducible exact Below.refl _ _ | (with_reducible refine Below.setCell ?_ ?_ _) | (with_reducible refine Below.alloc ?_ ?_ _) | (with_reducible refine Below.drew ?_) | (with_reducible refine below_dr ?_ _) | (with_reducible refine Below.trans ?_ (Below.mono (by with_reducible assumption) ?_)) | omega | (simp; done) | (simp; omega))
  have bw1 := Lib.hid bn
  have qw1 := bn.size
  clear bn bp bW0 hb1
  clear lW0 aW0 fW0 rW0
  rcases hv : vLin n d l with _ | _
  · have HV := Lib.hid hv
    clear hv
    have yr0 : w1.cell? ⟨w.heap.size + 1 + 1, 0, none⟩ = some (.int .i64 0) := rw1.cell 0 rfl
    have yr1 : w1.cell? ⟨w.heap.size + 1 + 1, 1, none⟩ = some (.int .i64 0) := rw1.cell 1 rfl
    have yr2 : w1.cell? ⟨w.heap.size + 1 + 1, 2, none⟩ = some (.slice none 0 0) := rw1.cell 2 rfl
    have yfr0 := rw1.frozen 0
    have yfr1 := rw1.frozen 1
    have yfr2 := rw1.frozen 2
    have ylr := rw1.lt
    go_wp2_with fail
    refine bodyPost_ret (v := .tuple #[.agg #[.int .i64 0, .int .i64 0, .slice none 0 0], .int .i64 1]) (by simp [results, Try.results31, go_sem, *]) rfl ?_
    have bp := bw1.out
    rw [HR.out]
    obtain ⟨e1, e2, e3, e4⟩ := sc_invalid (n2 := n2) (d2 := d2) (fun h => by have := HV.out; rw [h.1] at this; cases this)
    rw [e1, e2, e3, e4]
    exact ⟨none, 0, rfl, ⟨rfl, .inl ⟨rfl, rfl⟩⟩, by repeat' (first | with_reducible assumption | with_reducible exact Below.refl _ _ | (with_reducible refine Below.setCell ?_ ?_ _) | (with_reducible refine Below.alloc ?_ ?_ _) | (with_reducible refine Below.drew ?_) | (with_reducible refine below_dr ?_ _) | (with_reducible refine Below.trans ?_ (Below.mono (by with_reducible assumption) ?_)) | omega | (simp; done) | (simp; omega))⟩
  have HV := Lib.hid hv
  clear hv
  have yf0 : w1.cell? ⟨w.heap.size + 1, 0, none⟩ = some (.int .i64 n2) := fw1.cell 0 rfl
  have yf1 : w1.cell? ⟨w.heap.size + 1, 1, none⟩ = some (.int .i64 d2) := fw1.cell 1 rfl
  have ylf := fw1.lt
  go_wp2_with fail
  clear yf0 yf1 ylf
  rcases hvf : validB n2 d2 with _ | _
  · have HVF := Lib.hid hvf
    clear hvf
    refine (implValidFrac_val _ h3 h4 HVF.out).mono ?_
    rintro e w2 hq
    obtain ⟨rfl, hb2⟩ := hq.below
    clear hq
    have zw2 := hb2.size
    (try simp only [World.size_setCell] at zw2)
    (try simp only [World.size_drew] at zw2)
    (try simp only [World.size_alloc] at zw2)
    have lw2 : Rd cTerm 3 w2 w.heap.size A l := by repeat' (first | with_reducible assumption | (with_reducible refine Rd.drew ?_) | (with_reducible refine Rd.carry ?_ (by with_reducible assumption) ?_) | (with_reducible refine Rd.alloc ?_ ?_ _) | (with_reducible refine Rd.setCell ?_ ?_ _) | omega | (simp; done) | (simp; omega))
    have aw2 : Blk w2 (w.heap.size) 52 #[.int .i64 n, .int .i64 d, .slice A l.length c] := by repeat' (first | with_reducible assumption | with_reducible exact Blk.new _ _ _ | ((with_reducible refine Blk.newAt _ _ _ ?_); (first | rfl | (simp; done))) | (with_reducible refine Blk.drew ?_) | (with_reducible refine Blk.carry ?_ (by with_reducible assumption)) | (with_reducible refine Blk.alloc ?_ _) | (with_reducible refine Blk.far ?_ ?_ _) | omega | (simp; done) | (simp; omega))
    have fw2 : Blk w2 (w.heap.size + 1) 49 #[.int .i64 n2, .int .i64 d2] := by repeat' (first | with_reducible assumption | with_reducible exact Blk.new _ _ _ | ((with_reducible refine Blk.newAt _ _ _ ?_); (first | rfl | (simp; done))) | (with_reducible refine Blk.drew ?_) | (with_reducible refine Blk.carry ?_ (by with_reducible assumption)) | (with_reducible refine Blk.alloc ?_ _) | (with_reducible refine Blk.far ?_ ?_ _) | omega | (simp; done) | (simp; omega))
    have rw2 : Blk w2 (w.heap.size + 1 + 1) 52 #[.int .i64 0, .int .i64 0, .slice none 0 0] := by repeat' (first | with_reducible assumption | with_reducible exact Blk.new _ _ _ | ((with_reducible refine Blk.newAt _ _ _ ?_); (first | rfl | (simp; done))) | (with_reducible refine Blk.drew ?_) | (with_reducible refine Blk.carry ?_ (by with_reducible assumption)) | (with_reducible refine Blk.alloc ?_ _) | (with_reducible refine Blk.far ?_ ?_ _) | omega | (simp; done) | (simp; omega))
    have bp := bw1.out
    have bn : Below w.heap.size w w2 := by repeat' (first | with_reducible assumption | with_reducible exact Below.refl _ _ | (with_reducible refine Below.setCell ?_ ?_ _) | (with_reducible refine Below.alloc ?_ ?_ _) | (with_reducible refine Below.drew ?_) | (with_reducible refine below_dr ?_ _) | (with_reducible refine Below.trans ?_ (Below.mono (by with_reducible assumption) ?_)) | omega | (simp; done) | (simp; omega))
    have bw2 := Lib.hid bn
    have qw2 := bn.size
    clear bn bp bw1 hb2
    clear lw1 aw1 fw1 rw1
    have yr0 : w2.cell? ⟨w.heap.size + 1 + 1, 0, none⟩ = some (.int .i64 0) := rw2.cell 0 rfl
    have yr1 : w2.cell? ⟨w.heap.size + 1 + 1, 1, none⟩ = some (.int .i64 0) := rw2.cell 1 rfl
    have yr2 : w2.cell? ⟨w.heap.size + 1 + 1, 2, none⟩ = some (.slice none 0 0) := rw2.cell 2 rfl
    have yfr0 := rw2.frozen 0
    have yfr1 := rw2.frozen 1
    have yfr2 := rw2.frozen 2
    have ylr := rw2.lt
    go_wp2_with fail
    refine bodyPost_ret (v := .tuple #[.agg #[.int .i64 0, .int .i64 0, .slice none 0 0], .int .i64 1]) (by simp [results, Try.results31, go_sem, *]) rfl ?_
    have bp := bw2.out
    rw [HR.out]
    obtain ⟨e1, e2, e3, e4⟩ := sc_invalid (n := n) (d := d) (l := l) (fun h => by have := HVF.out; rw [h.2] at this; cases this)
    rw [e1, e2, e3, e4]
    exact ⟨none, 0, rfl, ⟨rfl, .inl ⟨rfl, rfl⟩⟩, by repeat' (first | with_reducible assumption | with_reducible exact Below.refl _ _ | (with_reducible refine Below.setCell ?_ ?_ _) | (with_reducible refine Below.alloc ?_ ?_ _) | (with_reducible refine Below.drew ?_) | (with_reducible refine below_dr ?_ _) | (with_reducible refine Below.trans ?_ (Below.mono (by with_reducible assumption) ?_)) | omega | (simp; done) | (simp; omega))⟩
  have HVF := Lib.hid hvf
  clear hvf
  refine (implValidFrac_val _ h3 h4 HVF.out).mono ?_
  rintro e w2 hq
  obtain ⟨rfl, hb2⟩ := hq.below
  clear hq
  have zw2 := hb2.size
  (try simp only [World.size_setCell] at zw2)
  (try simp only [World.size_drew] at zw2)
  (try simp only [World.size_alloc] at zw2)
  have lw2 : Rd cTerm 3 w2 w.heap.size A l := by repeat' (first | with_reducible assumption | (with_reducible refine Rd.drew ?_) | (with_reducible refine Rd.carry ?_ (by with_reducible assumption) ?_) | (with_reducible refine Rd.alloc ?_ ?_ _) | (with_reducible refine Rd.setCell ?_ ?_ _) | omega | (simp; done) | (simp; omega))
  have aw2 : Blk w2 (w.heap.size) 52 #[.int .i64 n, .int .i64 d, .slice A l.length c] := by repeat' (first | with_reducible assumption | with_reducible exact Blk.new _ _ _ | ((with_reducible refine Blk.newAt _ _ _ ?_); (first | rfl | (simp; done))) | (with_reducible refine Blk.drew ?_) | (with_reducible refine Blk.carry ?_ (by with_reducible assumption)) | (with_reducible refine Blk.alloc ?_ _) | (with_reducible refine Blk.far ?_ ?_ _) | omega | (simp; done) | (simp; omega))
  have fw2 : Blk w2 (w.heap.size + 1) 49 #[.int .i64 n2, .int .i64 d2] := by repeat' (first | with_reducible assumption | with_reducible exact Blk.new _ _ _ | ((with_reducible refine Blk.newAt _ _ _ ?_); (first | rfl | (simp; done))) | (with_reducible refine Blk.drew ?_) | (with_reducible refine Blk.carry ?_ (by with_reducible assumption)) | (with_reducible refine Blk.alloc ?_ _) | (with_reducible refine Blk.far ?_ ?_ _) | omega | (simp; done) | (simp; omega))
  have rw2 : Blk w2 (w.heap.size + 1 + 1) 52 #[.int .i64 0, .int .i64 0, .slice none 0 0] := by repeat' (first | with_reducible assumption | with_reducible exact Blk.new _ _ _ | ((with_reducible refine Blk.newAt _ _ _ ?_); (first | rfl | (simp; done))) | (with_reducible refine Blk.drew ?_) | (with_reducible refine Blk.carry ?_ (by with_reducible assumption)) | (with_reducible refine Blk.alloc ?_ _) | (with_reducible refine Blk.far ?_ ?_ _) | omega | (simp; done) | (simp; omega))
  have bp := bw1.out
  have bn : Below w.heap.size w w2 := by repeat' (first | with_reducible assumption | with_reducible exact Below.refl _ _ | (with_reducible refine Below.setCell ?_ ?_ _) | (with_reducible refine Below.alloc ?_ ?_ _) | (with_reducible refine Below.drew ?_) | (with_reducible refine below_dr ?_ _) | (with_reducible refine Below.trans ?_ (Below.mono (by with_reducible assumption) ?_)) | omega | (simp; done) | (simp; omega))
  have bw2 := Lib.hid bn
  have qw2 := bn.size
  clear bn bp bw1 hb2
  clear lw1 aw1 fw1 rw1
  have ya0 : w2.cell? ⟨w.heap.size, 0, none⟩ = some (.int .i64 n) := aw2.cell 0 rfl
  have ya1 : w2.cell? ⟨w.heap.size, 1, none⟩ = some (.int .i64 d) := aw2.cell 1 rfl
  have ya2 : w2.cell? ⟨w.heap.size, 2, none⟩ = some (.slice A l.length c) := aw2.cell 2 rfl
  have yla := aw2.lt
  have yf0 : w2.cell? ⟨w.heap.size + 1, 0, none⟩ = some (.int .i64 n2) := fw2.cell 0 rfl
  have yf1 : w2.cell? ⟨w.heap.size + 1, 1, none⟩ = some (.int .i64 d2) := fw2.cell 1 rfl
  have ylf := fw2.lt
  go_wp2_with fail
  clear ya0 ya1 ya2 yla
  clear yf0 yf1 ylf
  have C3 := Lib.hid (fun w => mul_at (vLin_const HV.out) HVF.out w)
  obtain ⟨pn, hpn⟩ : ∃ x, x = mkNum (n * n2) (d * d2) := ⟨_, rfl⟩
  obtain ⟨pd, hpd⟩ : ∃ x, x = mkDen (n * n2) (d * d2) := ⟨_, rfl⟩
  obtain ⟨cc, hcc⟩ : ∃ x, x = mkCode (n * n2) (d * d2) := ⟨_, rfl⟩
  rw [← hpn, ← hpd, ← hcc] at C3
  have HPN := Lib.hid hpn
  have HPD := Lib.hid hpd
  have HCC := Lib.hid hcc
  clear hpn hpd hcc
  refine (C3.out _).mono ?_
  rintro e w3 ⟨rfl, hb3⟩
  have zw3 := hb3.size
  (try simp only [World.size_setCell] at zw3)
  (try simp only [World.size_drew] at zw3)
  (try simp only [World.size_alloc] at zw3)
  have lw3 : Rd cTerm 3 w3 w.heap.size A l := by repeat' (first | with_reducible assumption | (with_reducible refine Rd.drew ?_) | (with_reducible refine Rd.carry ?_ (by with_reducible assumption) ?_) | (with_reducible refine Rd.alloc ?_ ?_ _) | (with_reducible refine Rd.setCell ?_ ?_ _) | omega | (simp; done) | (simp; omega))
  have aw3 : Blk w3 (w.heap.size) 52 #[.int .i64 n, .int .i64 d, .slice A l.length c] := by repeat' (first | with_reducible assumption | with_reducible exact Blk.new _ _ _ | ((with_reducible refine Blk.newAt _ _ _ ?_); (first | rfl | (simp; done))) | (with_reducible refine Blk.drew ?_) | (with_reducible refine Blk.carry ?_ (by with_reducible assumption)) | (with_reducible refine Blk.alloc ?_ _) | (with_reducible refine Blk.far ?_ ?_ _) | omega | (simp; done) | (simp; omega))
  have fw3 : Blk w3 (w.heap.size + 1) 49 #[.int .i64 n2, .int .i64 d2] := by repeat' (first | with_reducible assumption | with_reducible exact Blk.new _ _ _ | ((with_reducible refine Blk.newAt _ _ _ ?_); (first | rfl | (simp; done))) | (with_reducible refine Blk.drew ?_) | (with_reducible refine Blk.carry ?_ (by with_reducible assumption)) | (with_reducible refine Blk.alloc ?_ _) | (with_reducible refine Blk.far ?_ ?_ _) | omega | (simp; done) | (simp; omega))
  have rw3 : Blk w3 (w.heap.size + 1 + 1) 52 #[.int .i64 0, .int .i64 0, .slice none 0 0] := by repeat' (first | with_reducible assumption | with_reducible exact Blk.new _ _ _ | ((with_reducible refine Blk.newAt _ _ _ ?_); (first | rfl | (simp; done))) | (with_reducible refine Blk.drew ?_) | (with_reducible refine Blk.carry ?_ (by with_reducible assumption)) | (with_reducible refine Blk.alloc ?_ _) | (with_reducible refine Blk.far ?_ ?_ _) | omega | (simp; done) | (simp; omega))
  have bp := bw2.out
  have bn : Below w.heap.size w w3 := by repeat' (first | with_reducible assumption | with_reducible exact Below.refl _ _ | (with_reducible refine Below.setCell ?_ ?_ _) | (with_reducible refine Below.alloc ?_ ?_ _) | (with_reducible refine Below.drew ?_) | (with_reducible refine below_dr ?_ _) | (with_reducible refine Below.trans ?_ (Below.mono (by with_reducible assumption) ?_)) | omega | (simp; done) | (simp; omega))
  have bw3 := Lib.hid bn
  have qw3 := bn.size
  clear bn bp bw2 hb3
  clear lw2 aw2 fw2 rw2
  have zr3 : w.heap.size + 1 + 1 < w3.heap.size := rw3.lt
  by_cases hc0 : cc = 0
  case neg =>
    have e_c : (cc != 0) = true := by simpa using hc0
    have HC0 := Lib.hid hc0
    clear hc0
    have yr0 : w3.cell? ⟨w.heap.size + 1 + 1, 0, none⟩ = some (.int .i64 0) := rw3.cell 0 rfl
    have yr1 : w3.cell? ⟨w.heap.size + 1 + 1, 1, none⟩ = some (.int .i64 0) := rw3.cell 1 rfl
    have yr2 : w3.cell? ⟨w.heap.size + 1 + 1, 2, none⟩ = some (.slice none 0 0) := rw3.cell 2 rfl
    have yfr0 := rw3.frozen 0
    have yfr1 := rw3.frozen 1
    have yfr2 := rw3.frozen 2
    have ylr := rw3.lt
    go_wp2_with fail
    refine bodyPost_ret (v := .tuple #[.agg #[.int .i64 0, .int .i64 0, .slice none 0 0], .int .i64 cc]) (by simp [results, Try.results31, go_sem, *]) rfl ?_
    have bp := bw3.out
    rw [HR.out]
    obtain ⟨e1, e2, e3, e4⟩ := sc_const HV.out HVF.out (by rw [← HCC.out]; exact HC0.out)
    rw [e1, e2, e3, e4, ← HCC.out]
    exact ⟨none, 0, rfl, ⟨rfl, .inl ⟨rfl, rfl⟩⟩, by repeat' (first | with_reducible assumption | with_reducible exact Below.refl _ _ | (with_reducible refine Below.setCell ?_ ?_ _) | (with_reducible refine Below.alloc ?_ ?_ _) | (with_reducible refine Below.drew ?_) | (with_reducible refine below_dr ?_ _) | (with_reducible refine Below.trans ?_ (Below.mono (by with_reducible assumption) ?_)) | omega | (simp; done) | (simp; omega))⟩
  case pos =>
    have e_c : (cc != 0) = false := by rw [hc0]; rfl
    have HC0 := Lib.hid (show mkCode (n * n2) (d * d2) = 0 by rw [← HCC.out]; exact hc0)
    subst hc0
    clear HCC
    have ya0 : w3.cell? ⟨w.heap.size, 0, none⟩ = some (.int .i64 n) := aw3.cell 0 rfl
    have ya1 : w3.cell? ⟨w.heap.size, 1, none⟩ = some (.int .i64 d) := aw3.cell 1 rfl
    have ya2 : w3.cell? ⟨w.heap.size, 2, none⟩ = some (.slice A l.length c) := aw3.cell 2 rfl
    have yla := aw3.lt
    go_wp2_with fail
    clear ya0 ya1 ya2 yla
    generalize hW : (w3.alloc (.cells #[.int .i64 pn, .int .i64 pd] 49)).alloc (.cells #[.int .i64 pn, .int .i64 pd, .slice none 0 0] 52) = w4
    have lw4 : Rd cTerm 3 w4 w.heap.size A l := by rw [← hW]; repeat' (first | with_reducible assumption | (with_reducible refine Rd.drew ?_) | (with_reducible refine Rd.carry ?_ (by with_reducible assumption) ?_) | (with_reducible refine Rd.alloc ?_ ?_ _) | (with_reducible refine Rd.setCell ?_ ?_ _) | omega | (simp; done) | (simp; omega))
    have aw4 : Blk w4 (w.heap.size) 52 #[.int .i64 n, .int .i64 d, .slice A l.length c] := by rw [← hW]; repeat' (first | with_reducible assumption | with_reducible exact Blk.new _ _ _ | ((with_reducible refine Blk.newAt _ _ _ ?_); (first | rfl | (simp; done))) | (with_reducible refine Blk.drew ?_) | (with_reducible refine Blk.carry ?_ (by with_reducible assumption)) | (with_reducible refine Blk.alloc ?_ _) | (with_reducible refine Blk.far ?_ ?_ _) | omega | (simp; done) | (simp; omega))
    have fw4 : Blk w4 (w.heap.size + 1) 49 #[.int .i64 n2, .int .i64 d2] := by rw [← hW]; repeat' (first | with_reducible assumption | with_reducible exact Blk.new _ _ _ | ((with_reducible refine Blk.newAt _ _ _ ?_); (first | rfl | (simp; done))) | (with_reducible refine Blk.drew ?_) | (with_reducible refine Blk.carry ?_ (by with_reducible assumption)) | (with_reducible refine Blk.alloc ?_ _) | (with_reducible refine Blk.far ?_ ?_ _) | omega | (simp; done) | (simp; omega))
    have rw4 : Blk w4 (w.heap.size + 1 + 1) 52 #[.int .i64 0, .int .i64 0, .slice none 0 0] := by rw [← hW]; repeat' (first | with_reducible assumption | with_reducible exact Blk.new _ _ _ | ((with_reducible refine Blk.newAt _ _ _ ?_); (first | rfl | (simp; done))) | (with_reducible refine Blk.drew ?_) | (with_reducible refine Blk.carry ?_ (by with_reducible assumption)) | (with_reducible refine Blk.alloc ?_ _) | (with_reducible refine Blk.far ?_ ?_ _) | omega | (simp; done) | (simp; omega))
    have pw4 : Blk w4 (w3.heap.size + 1) 52 #[.int .i64 pn, .int .i64 pd, .slice none 0 0] := by rw [← hW]; repeat' (first | with_reducible assumption | with_reducible exact Blk.new _ _ _ | ((with_reducible refine Blk.newAt _ _ _ ?_); (first | rfl | (simp; done))) | (with_reducible refine Blk.drew ?_) | (with_reducible refine Blk.carry ?_ (by with_reducible assumption)) | (with_reducible refine Blk.alloc ?_ _) | (with_reducible refine Blk.far ?_ ?_ _) | omega | (simp; done) | (simp; omega))
    have bp := bw3.out
    have bn : Below w.heap.size w w4 := by rw [← hW]; repeat' (first | with_reducible assumption | with_reducible exact Below.refl _ _ | (with_reducible refine Below.setCell ?_ ?_ _) | (with_reducible refine Below.alloc ?_ ?_ _) | (with_reducible refine Below.drew ?_) | (with_reducible refine below_dr ?_ _) | (with_reducible refine Below.trans ?_ (Below.mono (by with_reducible assumption) ?_)) | omega | (simp; done) | (simp; omega))
    have bw4 := Lib.hid bn
    have qw4 := bn.size
    have zw4 : w3.heap.size ≤ w4.heap.size := by rw [← hW]; (first | (simp; done) | (simp; omega))
    clear hW bn bp bw3
    clear lw3 aw3 fw3 rw3
    have zp : w3.heap.size + 1 + 1 ≤ w4.heap.size := pw4.lt
    by_cases hz : n2 = 0
    case pos =>
      have HZ := Lib.hid hz
      clear hz
      have bp := bw4.out
      go_loopw [36] (fun i wr => ∃ (k : Nat), k ≤ l.length ∧ i = .int .i64 k ∧ (∀ (j : Nat) (b : ATerm), j < k → l[j]? = some b → mC n2 d2 b = 0) ∧ Blk wr (w.heap.size) 52 #[.int .i64 n, .int .i64 d, .slice A l.length c] ∧ Blk wr (w.heap.size + 1) 49 #[.int .i64 n2, .int .i64 d2] ∧ Blk wr (w.heap.size + 1 + 1) 52 #[.int .i64 0, .int .i64 0, .slice none 0 0] ∧ Blk wr (w3.heap.size + 1) 52 #[.int .i64 pn, .int .i64 pd, .slice none 0 0] ∧ True ∧ Rd cTerm 3 wr w.heap.size A l ∧ Below w.heap.size w wr) (fun i _ => l.length - (intOf i).toNat)
      case atStart => exact ⟨0, Nat.zero_le _, rfl, fun j b h => by omega, aw4, fw4, rw4, pw4, trivial, lw4, bp⟩
      case round =>
        clear bp bw4 aw4 fw4 rw4 pw4 lw4
        obtain ⟨k, hk, rfl, hpre, awr, fwr, rwr, pwr, owr, lwr, bn⟩ := hrel
        have HPRE := Lib.hid hpre
        have bwr := Lib.hid bn
        have qwr := bn.size
        have zpr : w3.heap.size + 1 + 1 ≤ wr.heap.size := pwr.lt
        have zrr := rwr.lt
        clear hpre bn
        by_cases hlt : k < l.length
        · obtain ⟨⟨x0, x1, x2⟩, ha⟩ : ∃ a, l[k]? = some a := ⟨l[k]'hlt, List.getElem?_eq_getElem hlt⟩
          obtain ⟨g, o, hA, hg, hc⟩ := lwr.elem ha
          obtain ⟨vt1, vt2⟩ := vLin_term HV.out ha
          simp only at vt1 vt2
          have c0 : wr.cell? ⟨g, o + k * 3, none⟩ = some (.string x0) := hc 0 _ rfl
          have c1 : wr.cell? ⟨g, o + k * 3 + 1, none⟩ = some (.int .i64 x1) := hc 1 _ rfl
          have c2 : wr.cell? ⟨g, o + k * 3 + 2, none⟩ = some (.int .i64 x2) := hc 2 _ rfl
          have HA := Lib.hid ha
          have hki : (k : Int) < (l.length : Int) := by omega
          have hk12 := vLin_len HV.out
          clear hc ha
          subst hA
          have C4 := Lib.hid (fun w => mul_at vt1 HVF.out w)
          obtain ⟨tn, htn⟩ : ∃ x, x = mkNum (x1 * n2) (x2 * d2) := ⟨_, rfl⟩
          obtain ⟨td, htd⟩ : ∃ x, x = mkDen (x1 * n2) (x2 * d2) := ⟨_, rfl⟩
          obtain ⟨tc, htc⟩ : ∃ x, x = mkCode (x1 * n2) (x2 * d2) := ⟨_, rfl⟩
          rw [← htn, ← htd, ← htc] at C4
          have HTN := Lib.hid htn
          have HTD := Lib.hid htd
          have HTC := Lib.hid htc
          have HV1 := Lib.hid vt1
          have HV2 := Lib.hid vt2
          clear htn htd htc vt1 vt2
          have yf0 : wr.cell? ⟨w.heap.size + 1, 0, none⟩ = some (.int .i64 n2) := fwr.cell 0 rfl
          have yf1 : wr.cell? ⟨w.heap.size + 1, 1, none⟩ = some (.int .i64 d2) := fwr.cell 1 rfl
          have ylf := fwr.lt
          go_wp2_with fail
          clear yf0 yf1 ylf
          generalize hW : wr.alloc (.cells #[.string x0, .int .i64 x1, .int .i64 x2] 109) = w5
          have lw5 : Rd cTerm 3 w5 w.heap.size (some ⟨g, o, none⟩) l := by rw [← hW]; repeat' (first | with_reducible assumption | (with_reducible refine Rd.drew ?_) | (with_reducible refine Rd.carry ?_ (by with_reducible assumption) ?_) | (with_reducible refine Rd.alloc ?_ ?_ _) | (with_reducible refine Rd.setCell ?_ ?_ _) | omega | (simp; done) | (simp; omega))
          have aw5 : Blk w5 (w.heap.size) 52 #[.int .i64 n, .int .i64 d, .slice (some ⟨g, o, none⟩) l.length c] := by rw [← hW]; repeat' (first | with_reducible assumption | with_reducible exact Blk.new _ _ _ | ((with_reducible refine Blk.newAt _ _ _ ?_); (first | rfl | (simp; done))) | (with_reducible refine Blk.drew ?_) | (with_reducible refine Blk.carry ?_ (by with_reducible assumption)) | (with_reducible refine Blk.alloc ?_ _) | (with_reducible refine Blk.far ?_ ?_ _) | omega | (simp; done) | (simp; omega))
          have fw5 : Blk w5 (w.heap.size + 1) 49 #[.int .i64 n2, .int .i64 d2] := by rw [← hW]; repeat' (first | with_reducible assumption | with_reducible exact Blk.new _ _ _ | ((with_reducible refine Blk.newAt _ _ _ ?_); (first | rfl | (simp; done))) | (with_reducible refine Blk.drew ?_) | (with_reducible refine Blk.carry ?_ (by with_reducible assumption)) | (with_reducible refine Blk.alloc ?_ _) | (with_reducible refine Blk.far ?_ ?_ _) | omega | (simp; done) | (simp; omega))
          have rw5 : Blk w5 (w.heap.size + 1 + 1) 52 #[.int .i64 0, .int .i64 0, .slice none 0 0] := by rw [← hW]; repeat' (first | with_reducible assumption | with_reducible exact Blk.new _ _ _ | ((with_reducible refine Blk.newAt _ _ _ ?_); (first | rfl | (simp; done))) | (with_reducible refine Blk.drew ?_) | (with_reducible refine Blk.carry ?_ (by with_reducible assumption)) | (with_reducible refine Blk.alloc ?_ _) | (with_reducible refine Blk.far ?_ ?_ _) | omega | (simp; done) | (simp; omega))
          have pw5 : Blk w5 (w3.heap.size + 1) 52 #[.int .i64 pn, .int .i64 pd, .slice none 0 0] := by rw [← hW]; repeat' (first | with_reducible assumption | with_reducible exact Blk.new _ _ _ | ((with_reducible refine Blk.newAt _ _ _ ?_); (first | rfl | (simp; done))) | (with_reducible refine Blk.drew ?_) | (with_reducible refine Blk.carry ?_ (by with_reducible assumption)) | (with_reducible refine Blk.alloc ?_ _) | (with_reducible refine Blk.far ?_ ?_ _) | omega | (simp; done) | (simp; omega))
          have tw5 : Blk w5 (wr.heap.size) 109 #[.string x0, .int .i64 x1, .int .i64 x2] := by rw [← hW]; repeat' (first | with_reducible assumption | with_reducible exact Blk.new _ _ _ | ((with_reducible refine Blk.newAt _ _ _ ?_); (first | rfl | (simp; done))) | (with_reducible refine Blk.drew ?_) | (with_reducible refine Blk.carry ?_ (by with_reducible assumption)) | (with_reducible refine Blk.alloc ?_ _) | (with_reducible refine Blk.far ?_ ?_ _) | omega | (simp; done) | (simp; omega))
          have bp := bwr.out
          have bn : Below w.heap.size w w5 := by rw [← hW]; repeat' (first | with_reducible assumption | with_reducible exact Below.refl _ _ | (with_reducible refine Below.setCell ?_ ?_ _) | (with_reducible refine Below.alloc ?_ ?_ _) | (with_reducible refine Below.drew ?_) | (with_reducible refine below_dr ?_ _) | (with_reducible refine Below.trans ?_ (Below.mono (by with_reducible assumption) ?_)) | omega | (simp; done) | (simp; omega))
          have bw5 := Lib.hid bn
          have qw5 := bn.size
          have zw5 : wr.heap.size ≤ w5.heap.size := by rw [← hW]; (first | (simp; done) | (simp; omega))
          clear hW bn bp bwr
          clear lwr awr fwr rwr pwr
          clear c0 c1 c2
          refine (C4.out _).mono ?_
          rintro e w6 ⟨rfl, hb6⟩
          have zw6 := hb6.size
          (try simp only [World.size_setCell] at zw6)
          (try simp only [World.size_drew] at zw6)
          (try simp only [World.size_alloc] at zw6)
          have lw6 : Rd cTerm 3 w6 w.heap.size (some ⟨g, o, none⟩) l := by repeat' (first | with_reducible assumption | (with_reducible refine Rd.drew ?_) | (with_reducible refine Rd.carry ?_ (by with_reducible assumption) ?_) | (with_reducible refine Rd.alloc ?_ ?_ _) | (with_reducible refine Rd.setCell ?_ ?_ _) | omega | (simp; done) | (simp; omega))
          have aw6 : Blk w6 (w.heap.size) 52 #[.int .i64 n, .int .i64 d, .slice (some ⟨g, o, none⟩) l.length c] := by repeat' (first | with_reducible assumption | with_reducible exact Blk.new _ _ _ | ((with_reducible refine Blk.newAt _ _ _ ?_); (first | rfl | (simp; done))) | (with_reducible refine Blk.drew ?_) | (with_reducible refine Blk.carry ?_ (by with_reducible assumption)) | (with_reducible refine Blk.alloc ?_ _) | (with_reducible refine Blk.far ?_ ?_ _) | omega | (simp; done) | (simp; omega))
          have fw6 : Blk w6 (w.heap.size + 1) 49 #[.int .i64 n2, .int .i64 d2] := by repeat' (first | with_reducible assumption | with_reducible exact Blk.new _ _ _ | ((with_reducible refine Blk.newAt _ _ _ ?_); (first | rfl | (simp; done))) | (with_reducible refine Blk.drew ?_) | (with_reducible refine Blk.carry ?_ (by with_reducible assumption)) | (with_reducible refine Blk.alloc ?_ _) | (with_reducible refine Blk.far ?_ ?_ _) | omega | (simp; done) | (simp; omega))
          have rw6 : Blk w6 (w.heap.size + 1 + 1) 52 #[.int .i64 0, .int .i64 0, .slice none 0 0] := by repeat' (first | with_reducible assumption | with_reducible exact Blk.new _ _ _ | ((with_reducible refine Blk.newAt _ _ _ ?_); (first | rfl | (simp; done))) | (with_reducible refine Blk.drew ?_) | (with_reducible refine Blk.carry ?_ (by with_reducible assumption)) | (with_reducible refine Blk.alloc ?_ _) | (with_reducible refine Blk.far ?_ ?_ _) | omega | (simp; done) | (simp; omega))
          have pw6 : Blk w6 (w3.heap.size + 1) 52 #[.int .i64 pn, .int .i64 pd, .slice none 0 0] := by repeat' (first | with_reducible assumption | with_reducible exact Blk.new _ _ _ | ((with_reducible refine Blk.newAt _ _ _ ?_); (first | rfl | (simp; done))) | (with_reducible refine Blk.drew ?_) | (with_reducible refine Blk.carry ?_ (by with_reducible assumption)) | (with_reducible refine Blk.alloc ?_ _) | (with_reducible refine Blk.far ?_ ?_ _) | omega | (simp; done) | (simp; omega))
          have tw6 : Blk w6 (wr.heap.size) 109 #[.string x0, .int .i64 x1, .int .i64 x2] := by repeat' (first | with_reducible assumption | with_reducible exact Blk.new _ _ _ | ((with_reducible refine Blk.newAt _ _ _ ?_); (first | rfl | (simp; done))) | (with_reducible refine Blk.drew ?_) | (with_reducible refine Blk.carry ?_ (by with_reducible assumption)) | (with_reducible refine Blk.alloc ?_ _) | (with_reducible refine Blk.far ?_ ?_ _) | omega | (simp; done) | (simp; omega))
          have bp := bw5.out
          have bn : Below w.heap.size w w6 := by repeat' (first | with_reducible assumption | with_reducible exact Below.refl _ _ | (with_reducible refine Below.setCell ?_ ?_ _) | (with_reducible refine Below.alloc ?_ ?_ _) | (with_reducible refine Below.drew ?_) | (with_reducible refine below_dr ?_ _) | (with_reducible refine Below.trans ?_ (Below.mono (by with_reducible assumption) ?_)) | omega | (simp; done) | (simp; omega))
          have bw6 := Lib.hid bn
          have qw6 := bn.size
          clear bn bp bw5 hb6
          clear lw5 aw5 fw5 rw5 pw5 tw5
          have yt0 : w6.cell? ⟨wr.heap.size, 0, none⟩ = some (.string x0) := tw6.cell 0 rfl
          have yt1 : w6.cell? ⟨wr.heap.size, 1, none⟩ = some (.int .i64 x1) := tw6.cell 1 rfl
          have yt2 : w6.cell? ⟨wr.heap.size, 2, none⟩ = some (.int .i64 x2) := tw6.cell 2 rfl
          have yft0 := tw6.frozen 0
          have yft1 := tw6.frozen 1
          have yft2 := tw6.frozen 2
          have ylt := tw6.lt
          by_cases ht0 : tc = 0
          case neg =>
            have e_t : (tc != 0) = true := by simpa using ht0
            have HT0 := Lib.hid ht0
            clear ht0
            exfalso
            have h0 := (mk_times0 (x := x1) (y := x2) (validB_bounds HVF.out).1 (validB_bounds HV1.out).1).2.2
            exact HT0.out (HTC.out.trans (by rw [HZ.out]; exact h0))
          case pos =>
            have HT0 := Lib.hid (show mC n2 d2 (x0, x1, x2) = 0 from HTC.out.symm.trans ht0)
            subst ht0
            clear HTC
            go_wp2_with fail
            clear yt0 yt1 yt2 yft0 yft1 yft2 ylt
            generalize hW : (w6.setCell ⟨wr.heap.size, 1, none⟩ (.int .i64 tn)).setCell ⟨wr.heap.size, 2, none⟩ (.int .i64 td) = w7
            have lw7 : Rd cTerm 3 w7 w.heap.size (some ⟨g, o, none⟩) l := by rw [← hW]; repeat' (first | with_reducible assumption | (with_reducible refine Rd.drew ?_) | (with_reducible refine Rd.carry ?_ (by with_reducible assumption) ?_) | (with_reducible refine Rd.alloc ?_ ?_ _) | (with_reducible refine Rd.setCell ?_ ?_ _) | omega | (simp; done) | (simp; omega))
            have aw7 : Blk w7 (w.heap.size) 52 #[.int .i64 n, .int .i64 d, .slice (some ⟨g, o, none⟩) l.length c] := by rw [← hW]; repeat' (first | with_reducible assumption | with_reducible exact Blk.new _ _ _ | ((with_reducible refine Blk.newAt _ _ _ ?_); (first | rfl | (simp; done))) | (with_reducible refine Blk.drew ?_) | (with_reducible refine Blk.carry ?_ (by with_reducible assumption)) | (with_reducible refine Blk.alloc ?_ _) | (with_reducible refine Blk.far ?_ ?_ _) | omega | (simp; done) | (simp; omega))
            have fw7 : Blk w7 (w.heap.size + 1) 49 #[.int .i64 n2, .int .i64 d2] := by rw [← hW]; repeat' (first | with_reducible assumption | with_reducible exact Blk.new _ _ _ | ((with_reducible refine Blk.newAt _ _ _ ?_); (first | rfl | (simp; done))) | (with_reducible refine Blk.drew ?_) | (with_reducible refine Blk.carry ?_ (by with_reducible assumption)) | (with_reducible refine Blk.alloc ?_ _) | (with_reducible refine Blk.far ?_ ?_ _) | omega | (simp; done) | (simp; omega))
            have rw7 : Blk w7 (w.heap.size + 1 + 1) 52 #[.int .i64 0, .int .i64 0, .slice none 0 0] := by rw [← hW]; repeat' (first | with_reducible assumption | with_reducible exact Blk.new _ _ _ | ((with_reducible refine Blk.newAt _ _ _ ?_); (first | rfl | (simp; done))) | (with_reducible refine Blk.drew ?_) | (with_reducible refine Blk.carry ?_ (by with_reducible assumption)) | (with_reducible refine Blk.alloc ?_ _) | (with_reducible refine Blk.far ?_ ?_ _) | omega | (simp; done) | (simp; omega))
            have pw7 : Blk w7 (w3.heap.size + 1) 52 #[.int .i64 pn, .int .i64 pd, .slice none 0 0] := by rw [← hW]; repeat' (first | with_reducible assumption | with_reducible exact Blk.new _ _ _ | ((with_reducible refine Blk.newAt _ _ _ ?_); (first | rfl | (simp; done))) | (with_reducible refine Blk.drew ?_) | (with_reducible refine Blk.carry ?_ (by with_reducible assumption)) | (with_reducible refine Blk.alloc ?_ _) | (with_reducible refine Blk.far ?_ ?_ _) | omega | (simp; done) | (simp; omega))
            have tw7 : Blk w7 (wr.heap.size) 109 #[.string x0, .int .i64 tn, .int .i64 td] := by rw [← hW]; exact (tw6.set_ 1 _).set_ 2 _
            have bp := bw6.out
            have bn : Below w.heap.size w w7 := by rw [← hW]; repeat' (first | with_reducible assumption | with_reducible exact Below.refl _ _ | (with_reducible refine Below.setCell ?_ ?_ _) | (with_reducible refine Below.alloc ?_ ?_ _) | (with_reducible refine Below.drew ?_) | (with_reducible refine below_dr ?_ _) | (with_reducible refine Below.trans ?_ (Below.mono (by with_reducible assumption) ?_)) | omega | (simp; done) | (simp; omega))
            have bw7 := Lib.hid bn
            have qw7 := bn.size
            have zw7 : w6.heap.size ≤ w7.heap.size := by rw [← hW]; (first | (simp; done) | (simp; omega))
            clear hW bn bp bw6
            clear lw6 aw6 fw6 rw6 pw6
            have hnz : tn = 0 ∧ td = 1 := by
              have h0 := mk_times0 (x := x1) (y := x2) (validB_bounds HVF.out).1 (validB_bounds HV1.out).1
              exact ⟨HTN.out.trans (by rw [HZ.out]; exact h0.1), HTD.out.trans (by rw [HZ.out]; exact h0.2.1)⟩
            have CZ := Lib.hid (fun w => isZero_any x0 tn td w)
            rw [decide_eq_true hnz] at CZ
            clear hnz
            refine (CZ.out _).mono ?_
            rintro e w8 ⟨rfl, hb8⟩
            have zw8 := hb8.size
            (try simp only [World.size_setCell] at zw8)
            (try simp only [World.size_drew] at zw8)
            (try simp only [World.size_alloc] at zw8)
            have lw8 : Rd cTerm 3 w8 w.heap.size (some ⟨g, o, none⟩) l := by repeat' (first | with_reducible assumption | (with_reducible refine Rd.drew ?_) | (with_reducible refine Rd.carry ?_ (by with_reducible assumption) ?_) | (with_reducible refine Rd.alloc ?_ ?_ _) | (with_reducible refine Rd.setCell ?_ ?_ _) | omega | (simp; done) | (simp; omega))
            have aw8 : Blk w8 (w.heap.size) 52 #[.int .i64 n, .int .i64 d, .slice (some ⟨g, o, none⟩) l.length c] := by repeat' (first | with_reducible assumption | with_reducible exact Blk.new _ _ _ | ((with_reducible refine Blk.newAt _ _ _ ?_); (first | rfl | (simp; done))) | (with_reducible refine Blk.drew ?_) | (with_reducible refine Blk.carry ?_ (by with_reducible assumption)) | (with_reducible refine Blk.alloc ?_ _) | (with_reducible refine Blk.far ?_ ?_ _) | omega | (simp; done) | (simp; omega))
            have fw8 : Blk w8 (w.heap.size + 1) 49 #[.int .i64 n2, .int .i64 d2] := by repeat' (first | with_reducible assumption | with_reducible exact Blk.new _ _ _ | ((with_reducible refine Blk.newAt _ _ _ ?_); (first | rfl | (simp; done))) | (with_reducible refine Blk.drew ?_) | (with_reducible refine Blk.carry ?_ (by with_reducible assumption)) | (with_reducible refine Blk.alloc ?_ _) | (with_reducible refine Blk.far ?_ ?_ _) | omega | (simp; done) | (simp; omega))
            have rw8 : Blk w8 (w.heap.size + 1 + 1) 52 #[.int .i64 0, .int .i64 0, .slice none 0 0] := by repeat' (first | with_reducible assumption | with_reducible exact Blk.new _ _ _ | ((with_reducible refine Blk.newAt _ _ _ ?_); (first | rfl | (simp; done))) | (with_reducible refine Blk.drew ?_) | (with_reducible refine Blk.carry ?_ (by with_reducible assumption)) | (with_reducible refine Blk.alloc ?_ _) | (with_reducible refine Blk.far ?_ ?_ _) | omega | (simp; done) | (simp; omega))
            have pw8 : Blk w8 (w3.heap.size + 1) 52 #[.int .i64 pn, .int .i64 pd, .slice none 0 0] := by repeat' (first | with_reducible assumption | with_reducible exact Blk.new _ _ _ | ((with_reducible refine Blk.newAt _ _ _ ?_); (first | rfl | (simp; done))) | (with_reducible refine Blk.drew ?_) | (with_reducible refine Blk.carry ?_ (by with_reducible assumption)) | (with_reducible refine Blk.alloc ?_ _) | (with_reducible refine Blk.far ?_ ?_ _) | omega | (simp; done) | (simp; omega))
            have tw8 : Blk w8 (wr.heap.size) 109 #[.string x0, .int .i64 tn, .int .i64 td] := by repeat' (first | with_reducible assumption | with_reducible exact Blk.new _ _ _ | ((with_reducible refine Blk.newAt _ _ _ ?_); (first | rfl | (simp; done))) | (with_reducible refine Blk.drew ?_) | (with_reducible refine Blk.carry ?_ (by with_reducible assumption)) | (with_reducible refine Blk.alloc ?_ _) | (with_reducible refine Blk.far ?_ ?_ _) | omega | (simp; done) | (simp; omega))
            have bp := bw7.out
            have bn : Below w.heap.size w w8 := by repeat' (first | with_reducible assumption | with_reducible exact Below.refl _ _ | (with_reducible refine Below.setCell ?_ ?_ _) | (with_reducible refine Below.alloc ?_ ?_ _) | (with_reducible refine Below.drew ?_) | (with_reducible refine below_dr ?_ _) | (with_reducible refine Below.trans ?_ (Below.mono (by with_reducible assumption) ?_)) | omega | (simp; done) | (simp; omega))
            have bw8 := Lib.hid bn
            have qw8 := bn.size
            clear bn bp bw7 hb8
            clear lw7 aw7 fw7 rw7 pw7 tw7
            go_wp2_with fail
            have bp := bw8.out
            go_roundw
            case rel =>
              refine ⟨k + 1, by omega, by go_num, ?_, aw8, fw8, rw8, pw8, trivial, lw8, bp⟩
              intro j b hj hb
              by_cases hjk : j < k
              · exact HPRE.out j b hjk hb
              · obtain rfl : j = k := by omega
                obtain rfl := Option.some.inj (HA.out.symm.trans hb)
                exact HT0.out
            case measure => simp [intOf]; omega
        · obtain rfl : k = l.length := by omega
          have yp0 : wr.cell? ⟨w3.heap.size + 1, 0, none⟩ = some (.int .i64 pn) := pwr.cell 0 rfl
          have yp1 : wr.cell? ⟨w3.heap.size + 1, 1, none⟩ = some (.int .i64 pd) := pwr.cell 1 rfl
          have yp2 : wr.cell? ⟨w3.heap.size + 1, 2, none⟩ = some (.slice none 0 0) := pwr.cell 2 rfl
          have ylp := pwr.lt
          have yr0 : wr.cell? ⟨w.heap.size + 1 + 1, 0, none⟩ = some (.int .i64 0) := rwr.cell 0 rfl
          have yr1 : wr.cell? ⟨w.heap.size + 1 + 1, 1, none⟩ = some (.int .i64 0) := rwr.cell 1 rfl
          have yr2 : wr.cell? ⟨w.heap.size + 1 + 1, 2, none⟩ = some (.slice none 0 0) := rwr.cell 2 rfl
          have yfr0 := rwr.frozen 0
          have yfr1 := rwr.frozen 1
          have yfr2 := rwr.frozen 2
          have ylr := rwr.lt
          go_wp2_with fail
          refine bodyPost_ret (v := .tuple #[.agg #[.int .i64 pn, .int .i64 pd, .slice none 0 0], .int .i64 0]) (by simp [results, Try.results31, go_sem, *]) rfl ?_
          have bp := bwr.out
          rw [HR.out]
          obtain ⟨e1, e2, e3, e4⟩ := sc_zero HV.out HVF.out HC0.out HZ.out
          rw [e1, e2, e3, e4, ← HPN.out, ← HPD.out]
          exact ⟨none, 0, rfl, ⟨rfl, .inl ⟨rfl, rfl⟩⟩, by repeat' (first | with_reducible assumption | with_reducible exact Below.refl _ _ | (with_reducible refine Below.setCell ?_ ?_ _) | (with_reducible refine Below.alloc ?_ ?_ _) | (with_reducible refine Below.drew ?_) | (with_reducible refine below_dr ?_ _) | (with_reducible refine Below.trans ?_ (Below.mono (by with_reducible assumption) ?_)) | omega | (simp; done) | (simp; omega))⟩
    case neg =>
      have HZ := Lib.hid hz
      clear hz
      have bp := bw4.out
      go_loopw [36] (fun i wr => ∃ (k : Nat) (A' : Option Addr) (c' : Nat), k ≤ l.length ∧ i = .int .i64 k ∧ (∀ (j : Nat) (b : ATerm), j < k → l[j]? = some b → mC n2 d2 b = 0) ∧ Blk wr (w.heap.size) 52 #[.int .i64 n, .int .i64 d, .slice A l.length c] ∧ Blk wr (w.heap.size + 1) 49 #[.int .i64 n2, .int .i64 d2] ∧ Blk wr (w.heap.size + 1 + 1) 52 #[.int .i64 0, .int .i64 0, .slice none 0 0] ∧ Blk wr (w3.heap.size + 1) 52 #[.int .i64 pn, .int .i64 pd, .slice A' k c'] ∧ wr.ownsRow (w3.heap.size + 1 + 1) 109 3 (.slice A' k c') k (cellsF cTerm ((l.take k).map (mT n2 d2))) ∧ Rd cTerm 3 wr w.heap.size A l ∧ Below w.heap.size w wr) (fun i _ => l.length - (intOf i).toNat)
      case atStart => exact ⟨0, none, 0, Nat.zero_le _, rfl, fun j b h => by omega, aw4, fw4, rw4, pw4, ⟨rfl, .inl ⟨rfl, rfl⟩⟩, lw4, bp⟩
      case round =>
        clear bp bw4 aw4 fw4 rw4 pw4 lw4
        obtain ⟨k, A', c', hk, rfl, hpre, awr, fwr, rwr, pwr, owr, lwr, bn⟩ := hrel
        have HPRE := Lib.hid hpre
        have bwr := Lib.hid bn
        have qwr := bn.size
        have zpr : w3.heap.size + 1 + 1 ≤ wr.heap.size := pwr.lt
        have zrr := rwr.lt
        clear hpre bn
        by_cases hlt : k < l.length
        · obtain ⟨⟨x0, x1, x2⟩, ha⟩ : ∃ a, l[k]? = some a := ⟨l[k]'hlt, List.getElem?_eq_getElem hlt⟩
          obtain ⟨g, o, hA, hg, hc⟩ := lwr.elem ha
          obtain ⟨vt1, vt2⟩ := vLin_term HV.out ha
          simp only at vt1 vt2
          have c0 : wr.cell? ⟨g, o + k * 3, none⟩ = some (.string x0) := hc 0 _ rfl
          have c1 : wr.cell? ⟨g, o + k * 3 + 1, none⟩ = some (.int .i64 x1) := hc 1 _ rfl
          have c2 : wr.cell? ⟨g, o + k * 3 + 2, none⟩ = some (.int .i64 x2) := hc 2 _ rfl
          have HA := Lib.hid ha
          have hki : (k : Int) < (l.length : Int) := by omega
          have hk12 := vLin_len HV.out
          clear hc ha
          subst hA
          have C4 := Lib.hid (fun w => mul_at vt1 HVF.out w)
          obtain ⟨tn, htn⟩ : ∃ x, x = mkNum (x1 * n2) (x2 * d2) := ⟨_, rfl⟩
          obtain ⟨td, htd⟩ : ∃ x, x = mkDen (x1 * n2) (x2 * d2) := ⟨_, rfl⟩
          obtain ⟨tc, htc⟩ : ∃ x, x = mkCode (x1 * n2) (x2 * d2) := ⟨_, rfl⟩
          rw [← htn, ← htd, ← htc] at C4
          have HTN := Lib.hid htn
          have HTD := Lib.hid htd
          have HTC := Lib.hid htc
          have HV1 := Lib.hid vt1
          have HV2 := Lib.hid vt2
          clear htn htd htc vt1 vt2
          have HOBR := Lib.hid (fun q (hq : (Value.slice A' k c').ownBlock = some q) => own_block owr hq)
          have yf0 : wr.cell? ⟨w.heap.size + 1, 0, none⟩ = some (.int .i64 n2) := fwr.cell 0 rfl
          have yf1 : wr.cell? ⟨w.heap.size + 1, 1, none⟩ = some (.int .i64 d2) := fwr.cell 1 rfl
          have ylf := fwr.lt
          go_wp2_with fail
          clear yf0 yf1 ylf
          generalize hW : wr.alloc (.cells #[.string x0, .int .i64 x1, .int .i64 x2] 109) = w5
          have lw5 : Rd cTerm 3 w5 w.heap.size (some ⟨g, o, none⟩) l := by rw [← hW]; repeat' (first | with_reducible assumption | (with_reducible refine Rd.drew ?_) | (with_reducible refine Rd.carry ?_ (by with_reducible assumption) ?_) | (with_reducible refine Rd.alloc ?_ ?_ _) | (with_reducible refine Rd.setCell ?_ ?_ _) | omega | (simp; done) | (simp; omega))
          have aw5 : Blk w5 (w.heap.size) 52 #[.int .i64 n, .int .i64 d, .slice (some ⟨g, o, none⟩) l.length c] := by rw [← hW]; repeat' (first | with_reducible assumption | with_reducible exact Blk.new _ _ _ | ((with_reducible refine Blk.newAt _ _ _ ?_); (first | rfl | (simp; done))) | (with_reducible refine Blk.drew ?_) | (with_reducible refine Blk.carry ?_ (by with_reducible assumption)) | (with_reducible refine Blk.alloc ?_ _) | (with_reducible refine Blk.far ?_ ?_ _) | omega | (simp; done) | (simp; omega))
          have fw5 : Blk w5 (w.heap.size + 1) 49 #[.int .i64 n2, .int .i64 d2] := by rw [← hW]; repeat' (first | with_reducible assumption | with_reducible exact Blk.new _ _ _ | ((with_reducible refine Blk.newAt _ _ _ ?_); (first | rfl | (simp; done))) | (with_reducible refine Blk.drew ?_) | (with_reducible refine Blk.carry ?_ (by with_reducible assumption)) | (with_reducible refine Blk.alloc ?_ _) | (with_reducible refine Blk.far ?_ ?_ _) | omega | (simp; done) | (simp; omega))
          have rw5 : Blk w5 (w.heap.size + 1 + 1) 52 #[.int .i64 0, .int .i64 0, .slice none 0 0] := by rw [← hW]; repeat' (first | with_reducible assumption | with_reducible exact Blk.new _ _ _ | ((with_reducible refine Blk.newAt _ _ _ ?_); (first | rfl | (simp; done))) | (with_reducible refine Blk.drew ?_) | (with_reducible refine Blk.carry ?_ (by with_reducible assumption)) | (with_reducible refine Blk.alloc ?_ _) | (with_reducible refine Blk.far ?_ ?_ _) | omega | (simp; done) | (simp; omega))
          have pw5 : Blk w5 (w3.heap.size + 1) 52 #[.int .i64 pn, .int .i64 pd, .slice A' k c'] := by rw [← hW]; repeat' (first | with_reducible assumption | with_reducible exact Blk.new _ _ _ | ((with_reducible refine Blk.newAt _ _ _ ?_); (first | rfl | (simp; done))) | (with_reducible refine Blk.drew ?_) | (with_reducible refine Blk.carry ?_ (by with_reducible assumption)) | (with_reducible refine Blk.alloc ?_ _) | (with_reducible refine Blk.far ?_ ?_ _) | omega | (simp; done) | (simp; omega))
          have ow5 : w5.ownsRow (w3.heap.size + 1 + 1) 109 3 (.slice A' k c') k (cellsF cTerm ((l.take k).map (mT n2 d2))) := by rw [← hW]; repeat' (first | with_reducible assumption | (with_reducible refine own_drew ?_) | (with_reducible refine own_stays ?_ (by with_reducible assumption)) | (with_reducible refine World.ownsRow.alloc ?_ _))
          have tw5 : Blk w5 (wr.heap.size) 109 #[.string x0, .int .i64 x1, .int .i64 x2] := by rw [← hW]; repeat' (first | with_reducible assumption | with_reducible exact Blk.new _ _ _ | ((with_reducible refine Blk.newAt _ _ _ ?_); (first | rfl | (simp; done))) | (with_reducible refine Blk.drew ?_) | (with_reducible refine Blk.carry ?_ (by with_reducible assumption)) | (with_reducible refine Blk.alloc ?_ _) | (with_reducible refine Blk.far ?_ ?_ _) | omega | (simp; done) | (simp; omega))
          have bp := bwr.out
          have bn : Below w.heap.size w w5 := by rw [← hW]; repeat' (first | with_reducible assumption | with_reducible exact Below.refl _ _ | (with_reducible refine Below.setCell ?_ ?_ _) | (with_reducible refine Below.alloc ?_ ?_ _) | (with_reducible refine Below.drew ?_) | (with_reducible refine below_dr ?_ _) | (with_reducible refine Below.trans ?_ (Below.mono (by with_reducible assumption) ?_)) | omega | (simp; done) | (simp; omega))
          have bw5 := Lib.hid bn
          have qw5 := bn.size
          have zw5 : wr.heap.size ≤ w5.heap.size := by rw [← hW]; (first | (simp; done) | (simp; omega))
          clear hW bn bp bwr
          clear lwr awr fwr rwr pwr owr
          clear c0 c1 c2
          refine (C4.out _).mono ?_
          rintro e w6 ⟨rfl, hb6⟩
          have zw6 := hb6.size
          (try simp only [World.size_setCell] at zw6)
          (try simp only [World.size_drew] at zw6)
          (try simp only [World.size_alloc] at zw6)
          have lw6 : Rd cTerm 3 w6 w.heap.size (some ⟨g, o, none⟩) l := by repeat' (first | with_reducible assumption | (with_reducible refine Rd.drew ?_) | (with_reducible refine Rd.carry ?_ (by with_reducible assumption) ?_) | (with_reducible refine Rd.alloc ?_ ?_ _) | (with_reducible refine Rd.setCell ?_ ?_ _) | omega | (simp; done) | (simp; omega))
          have aw6 : Blk w6 (w.heap.size) 52 #[.int .i64 n, .int .i64 d, .slice (some ⟨g, o, none⟩) l.length c] := by repeat' (first | with_reducible assumption | with_reducible exact Blk.new _ _ _ | ((with_reducible refine Blk.newAt _ _ _ ?_); (first | rfl | (simp; done))) | (with_reducible refine Blk.drew ?_) | (with_reducible refine Blk.carry ?_ (by with_reducible assumption)) | (with_reducible refine Blk.alloc ?_ _) | (with_reducible refine Blk.far ?_ ?_ _) | omega | (simp; done) | (simp; omega))
          have fw6 : Blk w6 (w.heap.size + 1) 49 #[.int .i64 n2, .int .i64 d2] := by repeat' (first | with_reducible assumption | with_reducible exact Blk.new _ _ _ | ((with_reducible refine Blk.newAt _ _ _ ?_); (first | rfl | (simp; done))) | (with_reducible refine Blk.drew ?_) | (with_reducible refine Blk.carry ?_ (by with_reducible assumption)) | (with_reducible refine Blk.alloc ?_ _) | (with_reducible refine Blk.far ?_ ?_ _) | omega | (simp; done) | (simp; omega))
          have rw6 : Blk w6 (w.heap.size + 1 + 1) 52 #[.int .i64 0, .int .i64 0, .slice none 0 0] := by repeat' (first | with_reducible assumption | with_reducible exact Blk.new _ _ _ | ((with_reducible refine Blk.newAt _ _ _ ?_); (first | rfl | (simp; done))) | (with_reducible refine Blk.drew ?_) | (with_reducible refine Blk.carry ?_ (by with_reducible assumption)) | (with_reducible refine Blk.alloc ?_ _) | (with_reducible refine Blk.far ?_ ?_ _) | omega | (simp; done) | (simp; omega))
          have pw6 : Blk w6 (w3.heap.size + 1) 52 #[.int .i64 pn, .int .i64 pd, .slice A' k c'] := by repeat' (first | with_reducible assumption | with_reducible exact Blk.new _ _ _ | ((with_reducible refine Blk.newAt _ _ _ ?_); (first | rfl | (simp; done))) | (with_reducible refine Blk.drew ?_) | (with_reducible refine Blk.carry ?_ (by with_reducible assumption)) | (with_reducible refine Blk.alloc ?_ _) | (with_reducible refine Blk.far ?_ ?_ _) | omega | (simp; done) | (simp; omega))
          have ow6 : w6.ownsRow (w3.heap.size + 1 + 1) 109 3 (.slice A' k c') k (cellsF cTerm ((l.take k).map (mT n2 d2))) := by repeat' (first | with_reducible assumption | (with_reducible refine own_drew ?_) | (with_reducible refine own_stays ?_ (by with_reducible assumption)) | (with_reducible refine World.ownsRow.alloc ?_ _))
          have tw6 : Blk w6 (wr.heap.size) 109 #[.string x0, .int .i64 x1, .int .i64 x2] := by repeat' (first | with_reducible assumption | with_reducible exact Blk.new _ _ _ | ((with_reducible refine Blk.newAt _ _ _ ?_); (first | rfl | (simp; done))) | (with_reducible refine Blk.drew ?_) | (with_reducible refine Blk.carry ?_ (by with_reducible assumption)) | (with_reducible refine Blk.alloc ?_ _) | (with_reducible refine Blk.far ?_ ?_ _) | omega | (simp; done) | (simp; omega))
          have bp := bw5.out
          have bn : Below w.heap.size w w6 := by repeat' (first | with_reducible assumption | with_reducible exact Below.refl _ _ | (with_reducible refine Below.setCell ?_ ?_ _) | (with_reducible refine Below.alloc ?_ ?_ _) | (with_reducible refine Below.drew ?_) | (with_reducible refine below_dr ?_ _) | (with_reducible refine Below.trans ?_ (Below.mono (by with_reducible assumption) ?_)) | omega | (simp; done) | (simp; omega))
          have bw6 := Lib.hid bn
          have qw6 := bn.size
          clear bn bp bw5 hb6
          clear lw5 aw5 fw5 rw5 pw5 ow5 tw5
          have yt0 : w6.cell? ⟨wr.heap.size, 0, none⟩ = some (.string x0) := tw6.cell 0 rfl
          have yt1 : w6.cell? ⟨wr.heap.size, 1, none⟩ = some (.int .i64 x1) := tw6.cell 1 rfl
          have yt2 : w6.cell? ⟨wr.heap.size, 2, none⟩ = some (.int .i64 x2) := tw6.cell 2 rfl
          have yft0 := tw6.frozen 0
          have yft1 := tw6.frozen 1
          have yft2 := tw6.frozen 2
          have ylt := tw6.lt
          by_cases ht0 : tc = 0
          case neg =>
            have e_t : (tc != 0) = true := by simpa using ht0
            have HT0 := Lib.hid ht0
            clear ht0
            have yr0 : w6.cell? ⟨w.heap.size + 1 + 1, 0, none⟩ = some (.int .i64 0) := rw6.cell 0 rfl
            have yr1 : w6.cell? ⟨w.heap.size + 1 + 1, 1, none⟩ = some (.int .i64 0) := rw6.cell 1 rfl
            have yr2 : w6.cell? ⟨w.heap.size + 1 + 1, 2, none⟩ = some (.slice none 0 0) := rw6.cell 2 rfl
            have yfr0 := rw6.frozen 0
            have yfr1 := rw6.frozen 1
            have yfr2 := rw6.frozen 2
            have ylr := rw6.lt
            go_wp2_with fail
            refine bodyPost_ret (v := .tuple #[.agg #[.int .i64 0, .int .i64 0, .slice none 0 0], .int .i64 tc]) (by simp [results, Try.results31, go_sem, *]) rfl ?_
            have bp := bw6.out
            rw [HR.out]
            obtain ⟨e1, e2, e3, e4⟩ := sc_bad HV.out HVF.out HC0.out HZ.out HA.out HPRE.out (show ¬ mC n2 d2 (x0, x1, x2) = 0 from fun h => HT0.out (HTC.out.trans h))
            rw [e1, e2, e3, e4, show mC n2 d2 (x0, x1, x2) = tc from HTC.out.symm]
            exact ⟨none, 0, rfl, ⟨rfl, .inl ⟨rfl, rfl⟩⟩, by repeat' (first | with_reducible assumption | with_reducible exact Below.refl _ _ | (with_reducible refine Below.setCell ?_ ?_ _) | (with_reducible refine Below.alloc ?_ ?_ _) | (with_reducible refine Below.drew ?_) | (with_reducible refine below_dr ?_ _) | (with_reducible refine Below.trans ?_ (Below.mono (by with_reducible assumption) ?_)) | omega | (simp; done) | (simp; omega))⟩
          case pos =>
            have HT0 := Lib.hid (show mC n2 d2 (x0, x1, x2) = 0 from HTC.out.symm.trans ht0)
            subst ht0
            clear HTC
            go_wp2_with fail
            clear yt0 yt1 yt2 yft0 yft1 yft2 ylt
            generalize hW : (w6.setCell ⟨wr.heap.size, 1, none⟩ (.int .i64 tn)).setCell ⟨wr.heap.size, 2, none⟩ (.int .i64 td) = w7
            have lw7 : Rd cTerm 3 w7 w.heap.size (some ⟨g, o, none⟩) l := by rw [← hW]; repeat' (first | with_reducible assumption | (with_reducible refine Rd.drew ?_) | (with_reducible refine Rd.carry ?_ (by with_reducible assumption) ?_) | (with_reducible refine Rd.alloc ?_ ?_ _) | (with_reducible refine Rd.setCell ?_ ?_ _) | omega | (simp; done) | (simp; omega))
            have aw7 : Blk w7 (w.heap.size) 52 #[.int .i64 n, .int .i64 d, .slice (some ⟨g, o, none⟩) l.length c] := by rw [← hW]; repeat' (first | with_reducible assumption | with_reducible exact Blk.new _ _ _ | ((with_reducible refine Blk.newAt _ _ _ ?_); (first | rfl | (simp; done))) | (with_reducible refine Blk.drew ?_) | (with_reducible refine Blk.carry ?_ (by with_reducible assumption)) | (with_reducible refine Blk.alloc ?_ _) | (with_reducible refine Blk.far ?_ ?_ _) | omega | (simp; done) | (simp; omega))
            have fw7 : Blk w7 (w.heap.size + 1) 49 #[.int .i64 n2, .int .i64 d2] := by rw [← hW]; repeat' (first | with_reducible assumption | with_reducible exact Blk.new _ _ _ | ((with_reducible refine Blk.newAt _ _ _ ?_); (first | rfl | (simp; done))) | (with_reducible refine Blk.drew ?_) | (with_reducible refine Blk.carry ?_ (by with_reducible assumption)) | (with_reducible refine Blk.alloc ?_ _) | (with_reducible refine Blk.far ?_ ?_ _) | omega | (simp; done) | (simp; omega))
            have rw7 : Blk w7 (w.heap.size + 1 + 1) 52 #[.int .i64 0, .int .i64 0, .slice none 0 0] := by rw [← hW]; repeat' (first | with_reducible assumption | with_reducible exact Blk.new _ _ _ | ((with_reducible refine Blk.newAt _ _ _ ?_); (first | rfl | (simp; done))) | (with_reducible refine Blk.drew ?_) | (with_reducible refine Blk.carry ?_ (by with_reducible assumption)) | (with_reducible refine Blk.alloc ?_ _) | (with_reducible refine Blk.far ?_ ?_ _) | omega | (simp; done) | (simp; omega))
            have pw7 : Blk w7 (w3.heap.size + 1) 52 #[.int .i64 pn, .int .i64 pd, .slice A' k c'] := by rw [← hW]; repeat' (first | with_reducible assumption | with_reducible exact Blk.new _ _ _ | ((with_reducible refine Blk.newAt _ _ _ ?_); (first | rfl | (simp; done))) | (with_reducible refine Blk.drew ?_) | (with_reducible refine Blk.carry ?_ (by with_reducible assumption)) | (with_reducible refine Blk.alloc ?_ _) | (with_reducible refine Blk.far ?_ ?_ _) | omega | (simp; done) | (simp; omega))
            have ow7 : w7.ownsRow (w3.heap.size + 1 + 1) 109 3 (.slice A' k c') k (cellsF cTerm ((l.take k).map (mT n2 d2))) := by rw [← hW]; exact own_keep (own_keep ow6 (fun q hq => by have := HOBR.out q hq; simp only; omega) _) (fun q hq => by have := HOBR.out q hq; simp only; omega) _
            have tw7 : Blk w7 (wr.heap.size) 109 #[.string x0, .int .i64 tn, .int .i64 td] := by rw [← hW]; exact (tw6.set_ 1 _).set_ 2 _
            have bp := bw6.out
            have bn : Below w.heap.size w w7 := by rw [← hW]; repeat' (first | with_reducible assumption | with_reducible exact Below.refl _ _ | (with_reducible refine Below.setCell ?_ ?_ _) | (with_reducible refine Below.alloc ?_ ?_ _) | (with_reducible refine Below.drew ?_) | (with_reducible refine below_dr ?_ _) | (with_reducible refine Below.trans ?_ (Below.mono (by with_reducible assumption) ?_)) | omega | (simp; done) | (simp; omega))
            have bw7 := Lib.hid bn
            have qw7 := bn.size
            have zw7 : w6.heap.size ≤ w7.heap.size := by rw [← hW]; (first | (simp; done) | (simp; omega))
            clear hW bn bp bw6
            clear lw6 aw6 fw6 rw6 pw6 ow6
            have hnz : ¬ (tn = 0 ∧ td = 1) := fun h => mk_nonzero (n := x1 * n2) (d := x2 * d2) (fun e => (Int.mul_eq_zero.mp e).elim HV2.out HZ.out) (by have b1 := (validB_bounds HV1.out).1; have b2 := (validB_bounds HVF.out).1; have := Int.mul_pos (a := x2) (b := d2) (by omega) (by omega); omega) HT0.out (HTN.out.symm.trans h.1)
            have CZ := Lib.hid (fun w => isZero_any x0 tn td w)
            rw [decide_eq_false hnz] at CZ
            clear hnz
            refine (CZ.out _).mono ?_
            rintro e w8 ⟨rfl, hb8⟩
            have zw8 := hb8.size
            (try simp only [World.size_setCell] at zw8)
            (try simp only [World.size_drew] at zw8)
            (try simp only [World.size_alloc] at zw8)
            have lw8 : Rd cTerm 3 w8 w.heap.size (some ⟨g, o, none⟩) l := by repeat' (first | with_reducible assumption | (with_reducible refine Rd.drew ?_) | (with_reducible refine Rd.carry ?_ (by with_reducible assumption) ?_) | (with_reducible refine Rd.alloc ?_ ?_ _) | (with_reducible refine Rd.setCell ?_ ?_ _) | omega | (simp; done) | (simp; omega))
            have aw8 : Blk w8 (w.heap.size) 52 #[.int .i64 n, .int .i64 d, .slice (some ⟨g, o, none⟩) l.length c] := by repeat' (first | with_reducible assumption | with_reducible exact Blk.new _ _ _ | ((with_reducible refine Blk.newAt _ _ _ ?_); (first | rfl | (simp; done))) | (with_reducible refine Blk.drew ?_) | (with_reducible refine Blk.carry ?_ (by with_reducible assumption)) | (with_reducible refine Blk.alloc ?_ _) | (with_reducible refine Blk.far ?_ ?_ _) | omega | (simp; done) | (simp; omega))
            have fw8 : Blk w8 (w.heap.size + 1) 49 #[.int .i64 n2, .int .i64 d2] := by repeat' (first | with_reducible assumption | with_reducible exact Blk.new _ _ _ | ((with_reducible refine Blk.newAt _ _ _ ?_); (first | rfl | (simp; done))) | (with_reducible refine Blk.drew ?_) | (with_reducible refine Blk.carry ?_ (by with_reducible assumption)) | (with_reducible refine Blk.alloc ?_ _) | (with_reducible refine Blk.far ?_ ?_ _) | omega | (simp; done) | (simp; omega))
            have rw8 : Blk w8 (w.heap.size + 1 + 1) 52 #[.int .i64 0, .int .i64 0, .slice none 0 0] := by repeat' (first | with_reducible assumption | with_reducible exact Blk.new _ _ _ | ((with_reducible refine Blk.newAt _ _ _ ?_); (first | rfl | (simp; done))) | (with_reducible refine Blk.drew ?_) | (with_reducible refine Blk.carry ?_ (by with_reducible assumption)) | (with_reducible refine Blk.alloc ?_ _) | (with_reducible refine Blk.far ?_ ?_ _) | omega | (simp; done) | (simp; omega))
            have pw8 : Blk w8 (w3.heap.size + 1) 52 #[.int .i64 pn, .int .i64 pd, .slice A' k c'] := by repeat' (first | with_reducible assumption | with_reducible exact Blk.new _ _ _ | ((with_reducible refine Blk.newAt _ _ _ ?_); (first | rfl | (simp; done))) | (with_reducible refine Blk.drew ?_) | (with_reducible refine Blk.carry ?_ (by with_reducible assumption)) | (with_reducible refine Blk.alloc ?_ _) | (with_reducible refine Blk.far ?_ ?_ _) | omega | (simp; done) | (simp; omega))
            have ow8 : w8.ownsRow (w3.heap.size + 1 + 1) 109 3 (.slice A' k c') k (cellsF cTerm ((l.take k).map (mT n2 d2))) := by repeat' (first | with_reducible assumption | (with_reducible refine own_drew ?_) | (with_reducible refine own_stays ?_ (by with_reducible assumption)) | (with_reducible refine World.ownsRow.alloc ?_ _))
            have tw8 : Blk w8 (wr.heap.size) 109 #[.string x0, .int .i64 tn, .int .i64 td] := by repeat' (first | with_reducible assumption | with_reducible exact Blk.new _ _ _ | ((with_reducible refine Blk.newAt _ _ _ ?_); (first | rfl | (simp; done))) | (with_reducible refine Blk.drew ?_) | (with_reducible refine Blk.carry ?_ (by with_reducible assumption)) | (with_reducible refine Blk.alloc ?_ _) | (with_reducible refine Blk.far ?_ ?_ _) | omega | (simp; done) | (simp; omega))
            have bp := bw7.out
            have bn : Below w.heap.size w w8 := by repeat' (first | with_reducible assumption | with_reducible exact Below.refl _ _ | (with_reducible refine Below.setCell ?_ ?_ _) | (with_reducible refine Below.alloc ?_ ?_ _) | (with_reducible refine Below.drew ?_) | (with_reducible refine below_dr ?_ _) | (with_reducible refine Below.trans ?_ (Below.mono (by with_reducible assumption) ?_)) | omega | (simp; done) | (simp; omega))
            have bw8 := Lib.hid bn
            have qw8 := bn.size
            clear bn bp bw7 hb8
            clear lw7 aw7 fw7 rw7 pw7 ow7 tw7
            have yt0 : w8.cell? ⟨wr.heap.size, 0, none⟩ = some (.string x0) := tw8.cell 0 rfl
            have yt1 : w8.cell? ⟨wr.heap.size, 1, none⟩ = some (.int .i64 tn) := tw8.cell 1 rfl
            have yt2 : w8.cell? ⟨wr.heap.size, 2, none⟩ = some (.int .i64 td) := tw8.cell 2 rfl
            have ylt := tw8.lt
            have yp0 : w8.cell? ⟨w3.heap.size + 1, 0, none⟩ = some (.int .i64 pn) := pw8.cell 0 rfl
            have yp1 : w8.cell? ⟨w3.heap.size + 1, 1, none⟩ = some (.int .i64 pd) := pw8.cell 1 rfl
            have yp2 : w8.cell? ⟨w3.heap.size + 1, 2, none⟩ = some (.slice A' k c') := pw8.cell 2 rfl
            have ylp := pw8.lt
            have hown8 := ow8
            have HOB := Lib.hid (fun q (hq : (Value.slice A' k c').ownBlock = some q) => own_block ow8 hq)
            have hrd : Reads (w8.alloc (.cells #[.string x0, .int .i64 tn, .int .i64 td] 109)) (w8.heap.size + 1) 3 (some ⟨w8.heap.size, 0, none⟩) 1 [.string x0, .int .i64 tn, .int .i64 td] := by
              have := Reads.of_own (own_one (w := w8) (base := 0) (e := 109) (cs := #[.string x0, .int .i64 tn, .int .i64 td]) (s := 3) (Nat.zero_le _) rfl)
              simpa using this
            have h1c : ∀ u ∈ ([.string x0, .int .i64 tn, .int .i64 td] : List Value), u.oneCell' = true := by
              intro v hv; simp at hv; rcases hv with rfl | rfl | rfl <;> rfl
            have hmx : k + 1 ≤ maxLen := by unfold maxLen; omega
            have hby : (k + 1) * 32 ≤ 140737488355328 := by omega
            have hbs : w3.heap.size + 1 + 1 ≤ (w8.alloc (.cells #[.string x0, .int .i64 tn, .int .i64 td] 109)).heap.size := by simp; omega
            have HRD := Lib.hid hrd
            have H1C := Lib.hid h1c
            have HMX := Lib.hid hmx
            have HBY := Lib.hid hby
            have HBS := Lib.hid hbs
            have HO8 := Lib.hid ow8
            clear hrd h1c hmx hby hbs
            go_wp2_with (at_builtin; refine wpList_append_any _ rfl (.tmp 56) (.tmp 58) _ rfl (w3.heap.size + 1 + 1) 109 i0 _ 3 32 Try.underlying50 HI0.out HZ0.out HZ1.out HZ2.out rfl (by omega) _ k (cellsF cTerm ((l.take k).map (mT n2 d2))) rfl (HO8.out.alloc _) (w8.heap.size + 1) (some ⟨w8.heap.size, 0, none⟩) 1 1 [.string x0, .int .i64 tn, .int .i64 td] rfl HRD.out H1C.out HMX.out HBY.out HBS.out ?_; intro v' w9 hown9 hg9' hat9; obtain ⟨g9, cap9, rfl, _, _⟩ := hown9.form (by omega); have hg9 : (w8.alloc (.cells #[.string x0, .int .i64 tn, .int .i64 td] 109)).grownBy w9 (Value.slice A' k c').ownBlock := hg9'; clear hg9'; have pw9 := Blk.grown (pw8.alloc _) hg9 (fun q hq => by have := HOB.out q hq; omega); have yy0 : w9.cell? ⟨w3.heap.size + 1, 2, none⟩ = some (.slice A' k c') := pw9.cell 2 rfl; have yy1 := pw9.frozen 2; have HOWN9 := Lib.hid hown9; have HG9 := Lib.hid hg9; clear hown9 hg9 hat9)
            have hg9 := HG9.out
            have hown9 := HOWN9.out
            have hz9 := hg9.size
            (try simp only [World.size_alloc] at hz9)
            have bp := bw8.out
            have hcs : (cellsF cTerm ((l.take k).map (mT n2 d2))) ++ [.string x0, .int .i64 tn, .int .i64 td] = (cellsF cTerm ((l.take (k + 1)).map (mT n2 d2))) := by
              rw [map_snoc HA.out, ← cellsF_snoc]; unfold mT cTerm; rw [HTN.out, HTD.out]
            rw [hcs] at hown9
            go_roundw
            case rel =>
              refine ⟨k + 1, some ⟨g9, 0, none⟩, cap9, by omega, by go_num, ?_, ?_, ?_, ?_, pw9.set_ 2 _, own_far (b2 := w3.heap.size + 1 + 1) hown9 (by simp only; omega) (Nat.le_refl _) _, ?_, ?_⟩
              · intro j b hj hb
                by_cases hjk : j < k
                · exact HPRE.out j b hjk hb
                · obtain rfl : j = k := by omega
                  obtain rfl := Option.some.inj (HA.out.symm.trans hb)
                  exact HT0.out
              · exact Blk.far (Blk.grown (aw8.alloc _) hg9 (fun q hq => by have := HOB.out q hq; omega)) (by simp only; omega) _
              · exact Blk.far (Blk.grown (fw8.alloc _) hg9 (fun q hq => by have := HOB.out q hq; omega)) (by simp only; omega) _
              · exact Blk.far (Blk.grown (rw8.alloc _) hg9 (fun q hq => by have := HOB.out q hq; omega)) (by simp only; omega) _
              · exact Rd.setCell (Rd.grown2 (lw8.alloc (by omega) _) hg9 (by simp; omega) (fun q hq => by have := HOB.out q hq; omega)) (by simp only; omega) _
              · exact (below_of_grown (bp.alloc (by omega) _) hg9 (by simp; omega) (fun q hq => by have := HOB.out q hq; omega)).setCell (by simp only; omega) _
            case measure => simp [intOf]; omega
        · obtain rfl : k = l.length := by omega
          have yp0 : wr.cell? ⟨w3.heap.size + 1, 0, none⟩ = some (.int .i64 pn) := pwr.cell 0 rfl
          have yp1 : wr.cell? ⟨w3.heap.size + 1, 1, none⟩ = some (.int .i64 pd) := pwr.cell 1 rfl
          have yp2 : wr.cell? ⟨w3.heap.size + 1, 2, none⟩ = some (.slice A' l.length c') := pwr.cell 2 rfl
          have ylp := pwr.lt
          have yr0 : wr.cell? ⟨w.heap.size + 1 + 1, 0, none⟩ = some (.int .i64 0) := rwr.cell 0 rfl
          have yr1 : wr.cell? ⟨w.heap.size + 1 + 1, 1, none⟩ = some (.int .i64 0) := rwr.cell 1 rfl
          have yr2 : wr.cell? ⟨w.heap.size + 1 + 1, 2, none⟩ = some (.slice none 0 0) := rwr.cell 2 rfl
          have yfr0 := rwr.frozen 0
          have yfr1 := rwr.frozen 1
          have yfr2 := rwr.frozen 2
          have ylr := rwr.lt
          go_wp2_with fail
          rw [List.take_length] at owr
          refine bodyPost_ret (v := .tuple #[.agg #[.int .i64 pn, .int .i64 pd, .slice A' l.length c'], .int .i64 0]) (by simp [results, Try.results31, go_sem, *]) rfl ?_
          have bp := bwr.out
          rw [HR.out]
          obtain ⟨e1, e2, e3, e4⟩ := sc_ok HV.out HVF.out HC0.out HZ.out (fun j b hb => HPRE.out j b (by rcases Nat.lt_or_ge j l.length with h | h; exact h; rw [List.getElem?_eq_none h] at hb; cases hb) hb)
          rw [e1, e2, e3, e4, ← HPN.out, ← HPD.out]
          refine ⟨A', c', by rw [List.length_map], ?_, by repeat' (first | with_reducible assumption | with_reducible exact Below.refl _ _ | (with_reducible refine Below.setCell ?_ ?_ _) | (with_reducible refine Below.alloc ?_ ?_ _) | (with_reducible refine Below.drew ?_) | (with_reducible refine below_dr ?_ _) | (with_reducible refine Below.trans ?_ (Below.mono (by with_reducible assumption) ?_)) | omega | (simp; done) | (simp; omega))⟩
          rw [List.length_map]
          repeat (first | with_reducible exact own_base owr (by omega) | (with_reducible refine own_drew ?_) | (with_reducible refine own_far (b2 := w3.heap.size + 1 + 1) ?_ (by simp only; omega) (by omega) _) | (with_reducible refine own_stays ?_ (by with_reducible assumption)))
end Go.Proofs.Ythedimnjbfeaiaa
