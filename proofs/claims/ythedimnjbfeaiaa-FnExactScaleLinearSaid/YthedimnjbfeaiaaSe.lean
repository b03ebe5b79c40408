/- Walks: an expression times a number, the reference's side: the function. -/
import Derived.Test.YthedimnjbfeaiaaSd
namespace Go.Proofs.Ythedimnjbfeaiaa
open Go.RowKit
set_option linter.unusedVariables false
set_option maxRecDepth 100000 in
set_option maxHeartbeats 12800000 in
theorem specScale_any (n d : Int) (A : Option Addr) (c : Nat) (l : List ATerm) (n2 d2 : Int) (w : World) (hn : -9223372036854775808 ≤ n ∧ n ≤ 9223372036854775807) (hd : -9223372036854775808 ≤ d ∧ d ≤ 9223372036854775807) (h3 : -9223372036854775808 ≤ n2 ∧ n2 ≤ 9223372036854775807) (h4 : -9223372036854775808 ≤ d2 ∧ d2 ≤ 9223372036854775807) (hl : l.length ≤ 1048576) (rr : Rd cTerm 3 w w.heap.size A l) (hok : ∀ (w2 : World) (B : Nat) (i : Nat) (b : ATerm), l[i]? = some b → okTerm w2 B b) :
    Calls Try.prog 28 #[.agg #[.int .i64 n, .int .i64 d, .slice A l.length c], .agg #[.int .i64 n2, .int .i64 d2]] w (Ret_Linear (scN n d l n2 d2) (scD n d l n2 d2) (scC n d l n2 d2) (scL n d l n2 d2) w) := by
  have CV := Lib.hid (fun b w at0 r => l05Ok_any n d A c b l w hn hd hl at0 r hok)
  have CS := Lib.hid (fun b w hv hf at0 r => l05Scale_any n d A c l n2 d2 b w hv hf at0 r)
  clear hok hn hd hl
  obtain ⟨R, hR⟩ : ∃ R, R = Ret_Linear (scN n d l n2 d2) (scD n d l n2 d2) (scC n d l n2 d2) (scL n d l n2 d2) w := ⟨_, rfl⟩
  have HR := Lib.hid hR
  rw [← hR]
  clear hR
  go_enter Try.func28, Try.ntmps28
  go_wp2_with fail
  have lw := rr
  clear rr
  generalize hW : ((w.alloc (.cells #[.int .i64 n, .int .i64 d, .slice A l.length c] 52)).alloc (.cells #[.int .i64 n2, .int .i64 d2] 49)).alloc (.cells #[.int .i64 0, .int .i64 0, .slice none 0 0] 52) = W0
  have lW0 : Rd cTerm 3 W0 w.heap.size A l := by rw [← hW]; repeat' (first | with_reducible assumption | (with_reducible refine Rd.drew ?_) | (with_reducible refine Rd.carry ?_ (by with_reducible assumption) ?_) | (with_reducible refine Rd.alloc ?_ ?_ _) | (with_reducible refine Rd.setCell ?_ ?_ _) | omega | (simp; done) | (simp; omega))
  have aW0 : Blk W0 (w.heap.size) 52 #[.int .i64 n, .int .i64 d, .slice A l.length c] := by rw [← hW]; repeat' (first | with_reducible assumption | with_reducible exact Blk.new _ _ _ | ((with_reducible refine Blk.newAt _ _ _ ?_); (first | rfl | (simp; done))) | (with_reducible refine Blk.drew ?_) | (with_reducible refine Blk.carry ?_ (by with_reducible assumption)) | (with_reducible refine Blk.alloc ?_ _) | (with_reducible refine Blk.far ?_ ?_ _) | omega | (simp; done) | (simp; omega))
  have fW0 : Blk W0 (w.heap.size + 1) 49 #[.int .i64 n2, .int .i64 d2] := by rw [← hW]; repeat' (first | with_reducible assumption | with_reducible exact Blk.new _ _ _ | ((with_reducible refine Blk.newAt _ _ _ ?_); (first | rfl | (simp; done))) | (with_reducible refine Blk.drew ?_) | (with_reducible refine Blk.carry ?_ (by with_reducible assumption)) | (with_reducible refine Blk.alloc ?_ _) | (with_reducible refine Blk.far ?_ ?_ _) | omega | (simp; done) | (simp; omega))
  have rW0 : Blk W0 (w.heap.size + 1 + 1) 52 #[.int .i64 0, .int .i64 0, .slice none 0 0] := by rw [← hW]; repeat' (first | with_reducible assumption | with_reducible exact Blk.new _ _ _ | ((with_reducible refine Blk.newAt _ _ _ ?_); (first | rfl | (simp; done))) | (with_reducible refine Blk.drew ?_) | (with_reducible refine Blk.carry ?_ (by with_reducible assumption)) | (with_reducible refine Blk.alloc ?_ _) | (with_reducible refine Blk.far ?_ ?_ _) | omega | (simp; done) | (simp; omega))
  have bn : Below w.heap.size w W0 := by rw [← hW]; repeat' (first | with_reducible assumption | with_reducible exact Below.refl _ _ | (with_reducible refine Below.setCell ?_ ?_ _) | (with_reducible refine Below.alloc ?_ ?_ _) | (with_reducible refine Below.drew ?_) | (with_reducible refine below_dr ?_ _) | (with_reducible refine Below.trans ?_ (Below.mono (by with_reducible assumption) ?_)) | omega | (simp; done) | (simp; omega))
  have bW0 := Lib.hid bn
  have qW0 := bn.size
  have zW0 : w.heap.size ≤ W0.heap.size := by rw [← hW]; (first | (simp; done) | (simp; omega))
  clear hW bn
  clear lw
  have hrw := rW0.lt
  have at0 : AtL w.heap.size [.int .i64 n, .int .i64 d, .slice A l.length c] W0 := ⟨fun i v hv => by match i, hv with | 0, hv => exact (Option.some.inj hv) ▸ aW0.cell 0 rfl | 1, hv => exact (Option.some.inj hv) ▸ aW0.cell 1 rfl | 2, hv => exact (Option.some.inj hv) ▸ aW0.cell 2 rfl, aW0.lt⟩
  refine (CV.out _ _ at0 ?_).mono ?_
  · exact lW0.more qW0
  rintro e w1 ⟨rfl, hb1⟩
  clear at0 CV
  have zw1 := hb1.size
  (try simp only [World.size_setCell] at zw1)
  (try simp only [World.size_drew] at zw1)
  (try simp only [World.size_alloc] at zw1)
  have lw1 : Rd cTerm 3 w1 w.heap.size A l := by repeat' (first | with_reducible assumption | (with_reducible refine Rd.drew ?_) | (with_reducible refine Rd.carry ?_ (by with_reducible assumption) ?_) | (with_reducible refine Rd.alloc ?_ ?_ _) | (with_reducible refine Rd.setCell ?_ ?_ _) | omega | (simp; done) | (simp; omega))
  have aw1 : Blk w1 (w.heap.size) 52 #[.int .i64 n, .int .i64 d, .slice A l.length c] := by repeat' (first | with_reducible assumption | with_reducible exact Blk.new _ _ _ | ((with_reducible refine Blk.newAt _ _ _ ?_); (first | rfl | (simp; done))) | (with_reducible refine Blk.drew ?_) | (with_reducible refine Blk.carry ?_ (by with_reducible assumption)) | (with_reducible refine Blk.alloc ?_ _) | (with_reducible refine Blk.far ?_ ?_ _) | omega | (simp; done) | (simp; omega))
  have fw1 : Blk w1 (w.heap.size + 1) 49 #[.int .i64 n2, .int .i64 d2] := by repeat' (first | with_reducible assumption | with_reducible exact Blk.new _ _ _ | ((with_reducible refine Blk.newAt _ _ _ ?_); (first | rfl | (simp; done))) | (with_reducible refine Blk.drew ?_) | (with_reducible refine Blk.carry ?_ (by with_reducible assumption)) | (with_reducible refine Blk.alloc ?_ _) | (with_reducible refine Blk.far ?_ ?_ _) | omega | (simp; done) | (simp; omega))
  have rw1 : Blk w1 (w.heap.size + 1 + 1) 52 #[.int .i64 0, .int .i64 0, .slice none 0 0] := by repeat' (first | with_reducible assumption | with_reducible exact Blk.new _ _ _ | ((with_reducible refine Blk.newAt _ _ _ ?_); (first | rfl | (simp; done))) | (with_reducible refine Blk.drew ?_) | (with_reducible refine Blk.carry ?_ (by with_reducible assumption)) | (with_reducible refine Blk.alloc ?_ _) | (with_reducible refine Blk.far ?_ ?_ _) | omega | (simp; done) | (simp; omega))
  have bp := bW0.out
  have bn : Below w.heap.size w w1 := by repeat' (first | with_reducible assumption | with_reducible exact Below.refl _ _ | (with_reducible refine Below.setCell ?_ ?_ _) | (with_reducible refine Below.alloc ?_ ?_ _) | (with_reducible refine Below.drew ?_) | (with_reducible refine below_dr ?_ _) | (with_reducible refine Below.trans ?_ (Below.mono (by with_reducible assumption) ?_)) | omega | (simp; done) | (simp; omega))
  have bw1 := Lib.hid bn
  have qw1 := bn.size
  clear bn bp bW0 hb1
  clear lW0 aW0 fW0 rW0
  rcases hv : vLin n d l with _ | _
  · have HV := Lib.hid hv
    clear hv
    have yr0 : w1.cell? ⟨w.heap.size + 1 + 1, 0, none⟩ = some (.int .i64 0) := rw1.cell 0 rfl
    have yr1 : w1.cell? ⟨w.heap.size + 1 + 1, 1, none⟩ = some (.int .i64 0) := rw1.cell 1 rfl
    have yr2 : w1.cell? ⟨w.heap.size + 1 + 1, 2, none⟩ = some (.slice none 0 0) := rw1.cell 2 rfl
    have yfr0 := rw1.frozen 0
    have yfr1 := rw1.frozen 1
    have yfr2 := rw1.frozen 2
    have ylr := rw1.lt
    go_wp2_with fail
    refine bodyPost_ret (v := .tuple #[.agg #[.int .i64 0, .int .i64 0, .slice none 0 0], .int .i64 1]) (by simp [results, Try.results28, go_sem, *]) rfl ?_
    have bp := bw1.out
    rw [HR.out]
    obtain ⟨e1, e2, e3, e4⟩ := sc_invalid (n2 := n2) (d2 := d2) (fun h => by have := HV.out; rw [h.1] at this; cases this)
    rw [e1, e2, e3, e4]
    exact ⟨none, 0, rfl, ⟨rfl, .inl ⟨rfl, rfl⟩⟩, by repeat' (first | with_reducible assumption | with_reducible exact Below.refl _ _ | (with_reducible refine Below.setCell ?_ ?_ _) | (with_reducible refine Below.alloc ?_ ?_ _) | (with_reducible refine Below.drew ?_) | (with_reducible refine below_dr ?_ _) | (with_reducible refine Below.trans ?_ (Below.mono (by with_reducible assumption) ?_)) | omega | (simp; done) | (simp; omega))⟩
  have HV := Lib.hid hv
  clear hv
  have yf0 : w1.cell? ⟨w.heap.size + 1, 0, none⟩ = some (.int .i64 n2) := fw1.cell 0 rfl
  have yf1 : w1.cell? ⟨w.heap.size + 1, 1, none⟩ = some (.int .i64 d2) := fw1.cell 1 rfl
  have ylf := fw1.lt
  go_wp2_with fail
  clear yf0 yf1 ylf
  rcases hvf : validB n2 d2 with _ | _
  · have HVF := Lib.hid hvf
    clear hvf
    refine (l02Ok_val _ h3 h4 HVF.out).mono ?_
    rintro e w2 hq
    obtain ⟨rfl, hb2⟩ := hq.below
    clear hq
    have zw2 := hb2.size
    (try simp only [World.size_setCell] at zw2)
    (try simp only [World.size_drew] at zw2)
    (try simp only [World.size_alloc] at zw2)
    have lw2 : Rd cTerm 3 w2 w.heap.size A l := by repeat' (first | with_reducible assumption | (with_reducible refine Rd.drew ?_) | (with_reducible refine Rd.carry ?_ (by with_reducible assumption) ?_) | (with_reducible refine Rd.alloc ?_ ?_ _) | (with_reducible refine Rd.setCell ?_ ?_ _) | omega | (simp; done) | (simp; omega))
    have aw2 : Blk w2 (w.heap.size) 52 #[.int .i64 n, .int .i64 d, .slice A l.length c] := by repeat' (first | with_reducible assumption | with_reducible exact Blk.new _ _ _ | ((with_reducible refine Blk.newAt _ _ _ ?_); (first | rfl | (simp; done))) | (with_reducible refine Blk.drew ?_) | (with_reducible refine Blk.carry ?_ (by with_reducible assumption)) | (with_reducible refine Blk.alloc ?_ _) | (with_reducible refine Blk.far ?_ ?_ _) | omega | (simp; done) | (simp; omega))
    have fw2 : Blk w2 (w.heap.size + 1) 49 #[.int .i64 n2, .int .i64 d2] := by repeat' (first | with_reducible assumption | with_reducible exact Blk.new _ _ _ | ((with_reducible refine Blk.newAt _ _ _ ?_); (first | rfl | (simp; done))) | (with_reducible refine Blk.drew ?_) | (with_reducible refine Blk.carry ?_ (by with_reducible assumption)) | (with_reducible refine Blk.alloc ?_ _) | (with_reducible refine Blk.far ?_ ?_ _) | omega | (simp; done) | (simp; omega))
    have rw2 : Blk w2 (w.heap.size + 1 + 1) 52 #[.int .i64 0, .int .i64 0, .slice none 0 0] := by repeat' (first | with_reducible assumption | with_reducible exact Blk.new _ _ _ | ((with_reducible refine Blk.newAt _ _ _ ?_); (first | rfl | (simp; done))) | (with_reducible refine Blk.drew ?_) | (with_reducible refine Blk.carry ?_ (by with_reducible assumption)) | (with_reducible refine Blk.alloc ?_ _) | (with_reducible refine Blk.far ?_ ?_ _) | omega | (simp; done) | (simp; omega))
    have bp := bw1.out
    have bn : Below w.heap.size w w2 := by repeat' (first | with_reducible assumption | with_reducible exact Below.refl _ _ | (with_reducible refine Below.setCell ?_ ?_ _) | (with_reducible refine Below.alloc ?_ ?_ _) | (with_reducible refine Below.drew ?_) | (with_reducible refine below_dr ?_ _) | (with_reducible refine Below.trans ?_ (Below.mono (by with_reducible assumption) ?_)) | omega | (simp; done) | (simp; omega))
    have bw2 := Lib.hid bn
    have qw2 := bn.size
    clear bn bp bw1 hb2
    clear lw1 aw1 fw1 rw1
    have yr0 : w2.cell? ⟨w.heap.size + 1 + 1, 0, none⟩ = some (.int .i64 0) := rw2.cell 0 rfl
    have yr1 : w2.cell? ⟨w.heap.size + 1 + 1, 1, none⟩ = some (.int .i64 0) := rw2.cell 1 rfl
    have yr2 : w2.cell? ⟨w.heap.size + 1 + 1, 2, none⟩ = some (.slice none 0 0) := rw2.cell 2 rfl
    have yfr0 := rw2.frozen 0
    have yfr1 := rw2.frozen 1
    have yfr2 := rw2.frozen 2
    have ylr := rw2.lt
    go_wp2_with fail
    refine bodyPost_ret (v := .tuple #[.agg #[.int .i64 0, .int .i64 0, .slice none 0 0], .int .i64 1]) (by simp [results, Try.results28, go_sem, *]) rfl ?_
    have bp := bw2.out
    rw [HR.out]
    obtain ⟨e1, e2, e3, e4⟩ := sc_invalid (n := n) (d := d) (l := l) (fun h => by have := HVF.out; rw [h.2] at this; cases this)
    rw [e1, e2, e3, e4]
    exact ⟨none, 0, rfl, ⟨rfl, .inl ⟨rfl, rfl⟩⟩, by repeat' (first | with_reducible assumption | with_reducible exact Below.refl _ _ | (with_reducible refine Below.setCell ?_ ?_ _) | (with_reducible refine Below.alloc ?_ ?_ _) | (with_reducible refine Below.drew ?_) | (with_reducible refine below_dr ?_ _) | (with_reducible refine Below.trans ?_ (Below.mono (by with_reducible assumption) ?_)) | omega | (simp; done) | (simp; omega))⟩
  have HVF := Lib.hid hvf
  clear hvf
  refine (l02Ok_val _ h3 h4 HVF.out).mono ?_
  rintro e w2 hq
  obtain ⟨rfl, hb2⟩ := hq.below
  clear hq
  have zw2 := hb2.size
  (try simp only [World.size_setCell] at zw2)
  (try simp only [World.size_drew] at zw2)
  (try simp only [World.size_alloc] at zw2)
  have lw2 : Rd cTerm 3 w2 w.heap.size A l := by repeat' (first | with_reducible assumption | (with_reducible refine Rd.drew ?_) | (with_reducible refine Rd.carry ?_ (by with_reducible assumption) ?_) | (with_reducible refine Rd.alloc ?_ ?_ _) | (with_reducible refine Rd.setCell ?_ ?_ _) | omega | (simp; done) | (simp; omega))
  have aw2 : Blk w2 (w.heap.size) 52 #[.int .i64 n, .int .i64 d, .slice A l.length c] := by repeat' (first | with_reducible assumption | with_reducible exact Blk.new _ _ _ | ((with_reducible refine Blk.newAt _ _ _ ?_); (first | rfl | (simp; done))) | (with_reducible refine Blk.drew ?_) | (with_reducible refine Blk.carry ?_ (by with_reducible assumption)) | (with_reducible refine Blk.alloc ?_ _) | (with_reducible refine Blk.far ?_ ?_ _) | omega | (simp; done) | (simp; omega))
  have fw2 : Blk w2 (w.heap.size + 1) 49 #[.int .i64 n2, .int .i64 d2] := by repeat' (first | with_reducible assumption | with_reducible exact Blk.new _ _ _ | ((with_reducible refine Blk.newAt _ _ _ ?_); (first | rfl | (simp; done))) | (with_reducible refine Blk.drew ?_) | (with_reducible refine Blk.carry ?_ (by with_reducible assumption)) | (with_reducible refine Blk.alloc ?_ _) | (with_reducible refine Blk.far ?_ ?_ _) | omega | (simp; done) | (simp; omega))
  have rw2 : Blk w2 (w.heap.size + 1 + 1) 52 #[.int .i64 0, .int .i64 0, .slice none 0 0] := by repeat' (first | with_reducible assumption | with_reducible exact Blk.new _ _ _ | ((with_reducible refine Blk.newAt _ _ _ ?_); (first | rfl | (simp; done))) | (with_reducible refine Blk.drew ?_) | (with_reducible refine Blk.carry ?_ (by with_reducible assumption)) | (with_reducible refine Blk.alloc ?_ _) | (with_reducible refine Blk.far ?_ ?_ _) | omega | (simp; done) | (simp; omega))
  have bp := bw1.out
  have bn : Below w.heap.size w w2 := by repeat' (first | with_reducible assumption | with_reducible exact Below.refl _ _ | (with_reducible refine Below.setCell ?_ ?_ _) | (with_reducible refine Below.alloc ?_ ?_ _) | (with_reducible refine Below.drew ?_) | (with_reducible refine below_dr ?_ _) | (with_reducible refine Below.trans ?_ (Below.mono (by with_reducible assumption) ?_)) | omega | (simp; done) | (simp; omega))
  have bw2 := Lib.hid bn
  have qw2 := bn.size
  clear bn bp bw1 hb2
  clear lw1 aw1 fw1 rw1
  have yf0 : w2.cell? ⟨w.heap.size + 1, 0, none⟩ = some (.int .i64 n2) := fw2.cell 0 rfl
  have yf1 : w2.cell? ⟨w.heap.size + 1, 1, none⟩ = some (.int .i64 d2) := fw2.cell 1 rfl
  have ylf := fw2.lt
  go_wp2_with fail
  clear yf0 yf1 ylf
  clear h3 h4
  refine (CS.out _ _ HV.out HVF.out aw2 ?_).mono ?_
  · exact lw2.more qw2
  generalize scN n d l n2 d2 = r1 at *
  generalize scD n d l n2 d2 = r2 at *
  generalize scC n d l n2 d2 = r3 at *
  generalize scL n d l n2 d2 = r4 at *
  intro e w3 hq
  obtain ⟨A', c', rfl, o3, hb3⟩ := hq
  have zw3 := hb3.size
  (try simp only [World.size_setCell] at zw3)
  (try simp only [World.size_drew] at zw3)
  (try simp only [World.size_alloc] at zw3)
  have lw3 : Rd cTerm 3 w3 w.heap.size A l := by repeat' (first | with_reducible assumption | (with_reducible refine Rd.drew ?_) | (with_reducible refine Rd.carry ?_ (by with_reducible assumption) ?_) | (with_reducible refine Rd.alloc ?_ ?_ _) | (with_reducible refine Rd.setCell ?_ ?_ _) | omega | (simp; done) | (simp; omega))
  have aw3 : Blk w3 (w.heap.size) 52 #[.int .i64 n, .int .i64 d, .slice A l.length c] := by repeat' (first | with_reducible assumption | with_reducible exact Blk.new _ _ _ | ((with_reducible refine Blk.newAt _ _ _ ?_); (first | rfl | (simp; done))) | (with_reducible refine Blk.drew ?_) | (with_reducible refine Blk.carry ?_ (by with_reducible assumption)) | (with_reducible refine Blk.alloc ?_ _) | (with_reducible refine Blk.far ?_ ?_ _) | omega | (simp; done) | (simp; omega))
  have fw3 : Blk w3 (w.heap.size + 1) 49 #[.int .i64 n2, .int .i64 d2] := by repeat' (first | with_reducible assumption | with_reducible exact Blk.new _ _ _ | ((with_reducible refine Blk.newAt _ _ _ ?_); (first | rfl | (simp; done))) | (with_reducible refine Blk.drew ?_) | (with_reducible refine Blk.carry ?_ (by with_reducible assumption)) | (with_reducible refine Blk.alloc ?_ _) | (with_reducible refine Blk.far ?_ ?_ _) | omega | (simp; done) | (simp; omega))
  have rw3 : Blk w3 (w.heap.size + 1 + 1) 52 #[.int .i64 0, .int .i64 0, .slice none 0 0] := by repeat' (first | with_reducible assumption | with_reducible exact Blk.new _ _ _ | ((with_reducible refine Blk.newAt _ _ _ ?_); (first | rfl | (simp; done))) | (with_reducible refine Blk.drew ?_) | (with_reducible refine Blk.carry ?_ (by with_reducible assumption)) | (with_reducible refine Blk.alloc ?_ _) | (with_reducible refine Blk.far ?_ ?_ _) | omega | (simp; done) | (simp; omega))
  have bp := bw2.out
  have bn : Below w.heap.size w w3 := by repeat' (first | with_reducible assumption | with_reducible exact Below.refl _ _ | (with_reducible refine Below.setCell ?_ ?_ _) | (with_reducible refine Below.alloc ?_ ?_ _) | (with_reducible refine Below.drew ?_) | (with_reducible refine below_dr ?_ _) | (with_reducible refine Below.trans ?_ (Below.mono (by with_reducible assumption) ?_)) | omega | (simp; done) | (simp; omega))
  have bw3 := Lib.hid bn
  have qw3 := bn.size
  clear bn bp bw2 hb3
  clear lw2 aw2 fw2 rw2
  have yr0 : w3.cell? ⟨w.heap.size + 1 + 1, 0, none⟩ = some (.int .i64 0) := rw3.cell 0 rfl
  have yr1 : w3.cell? ⟨w.heap.size + 1 + 1, 1, none⟩ = some (.int .i64 0) := rw3.cell 1 rfl
  have yr2 : w3.cell? ⟨w.heap.size + 1 + 1, 2, none⟩ = some (.slice none 0 0) := rw3.cell 2 rfl
  have yfr0 := rw3.frozen 0
  have yfr1 := rw3.frozen 1
  have yfr2 := rw3.frozen 2
  have ylr := rw3.lt
  go_wp2_with fail
  refine bodyPost_ret (v := .tuple #[.agg #[.int .i64 r1, .int .i64 r2, .slice A' r4.length c'], .int .i64 r3]) (by simp [results, Try.results28, go_sem, *]) rfl ?_
  have bp := bw3.out
  rw [HR.out]
  refine ⟨A', c', rfl, ?_, by repeat' (first | with_reducible assumption | with_reducible exact Below.refl _ _ | (with_reducible refine Below.setCell ?_ ?_ _) | (with_reducible refine Below.alloc ?_ ?_ _) | (with_reducible refine Below.drew ?_) | (with_reducible refine below_dr ?_ _) | (with_reducible refine Below.trans ?_ (Below.mono (by with_reducible assumption) ?_)) | omega | (simp; done) | (simp; omega))⟩
  have HOBR := Lib.hid (fun q (hq : (Value.slice A' r4.length c').ownBlock = some q) => own_block o3 hq)
  have ow9 := own_base (base := w.heap.size) o3 (by omega)
  repeat' (first | with_reducible assumption | (with_reducible refine own_keep ?_ ?_ _) | (intro q hq h8; have h9 := HOBR.out q hq; dsimp only at h8; omega))
end Go.Proofs.Ythedimnjbfeaiaa
