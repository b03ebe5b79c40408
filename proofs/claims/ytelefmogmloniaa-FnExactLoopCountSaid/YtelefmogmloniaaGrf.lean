/- Walks: the law on LoopCount, over contracts of both sides. -/
import Derived.Test.YtelefmogmloniaaGre
namespace Go.Proofs.Ytelefmogmloniaa
open Go.RowKit
set_option linter.unusedVariables false
set_option maxHeartbeats 3200000 in
theorem specLoopCount_any (u : Int) (A : Option Addr) (c : Nat) (l : List DGlyph) (gl : Int) (w : World) (h : totGlyphSet (u, l) ≤ 1048576) (r : Row RvGlyph 7 w w.heap.size A l) :
    Calls Try.prog 44 #[.agg #[.int .i64 u, .slice A l.length c], .int .i64 gl] w fun e w' => e = .returned (.tuple #[.int .i64 (dpI ovC (u, l) gl), .int .i64 (askV (u, l) gl)]) ∧ Below w.heap.size w w' := by
  have ht : totRow totGlyph l ≤ 1048576 := h
  have CK := Lib.hid (fun w1 z1 s0 s1 r => l17Ask_any u l A c w.heap.size 0 gl w1 ht z1 s0 s1 r)
  by_cases hz : askV (u, l) gl = 0
  case neg =>
    rw [dpI_not hz]
    generalize askV (u, l) gl = cd at *
    generalize l.length = n at *
    have q1 : (cd != 0) = true := by rw [bne_iff_ne]; exact hz
    go_enter Try.func44, Try.ntmps44
    go_wp2_with fail
    refine (CK.out _ (by first | (simp; done) | (simp; omega)) (by simp [go_sem]) (by simp [go_sem]) ?_).mono ?_
    · exact (Row.alloc r (Nat.le_refl _) _).more (by simp)
    rintro e w1 ⟨rfl, hb⟩
    go_wp2_with fail
    refine bodyPost_ret (v := .tuple #[.int .i64 (0), .int .i64 (cd)]) (by simp [results, Try.results44, go_sem, *]) rfl ?_
    exact ⟨rfl, by repeat' (first | with_reducible assumption | with_reducible exact Below.refl _ _ | (with_reducible refine Below.setCell ?_ ?_ _) | (with_reducible refine Below.alloc ?_ ?_ _) | (with_reducible refine Below.drew ?_) | (with_reducible refine below_dr ?_ _) | (with_reducible refine Below.trans ?_ (Below.mono (by with_reducible assumption) ?_)) | omega | (simp; done) | (simp; omega))⟩
  case pos =>
    rw [dpI_zero hz]
    obtain ⟨hs, g0, g1⟩ := askV_zero hz
    rw [hz] at CK ⊢
    obtain ⟨gi, rfl⟩ : ∃ gi : Nat, gl = (gi : Int) := ⟨gl.toNat, by omega⟩
    have hgi : gi < (vAll ovC l).length := by rw [vAll_len]; omega
    have HG := Lib.hid (iArr_at (gv_get hgi))
    have C := Lib.hid (fun (w1 : World) z1 s1 r => l17Counts_any u l A c w.heap.size 0 w1 hs ht z1 s1 r)
    clear hs hz g0 hgi
    generalize gv (vAll ovC l) (gi : Int) = R at HG ⊢
    generalize iArr (vAll ovC l) = arr at HG C
    generalize l.length = n at *
    go_enter Try.func44, Try.ntmps44
    go_wp2_with fail
    refine (CK.out _ (by first | (simp; done) | (simp; omega)) (by simp [go_sem]) (by simp [go_sem]) ?_).mono ?_
    · exact (Row.alloc r (Nat.le_refl _) _).more (by simp)
    rintro e w1 ⟨rfl, hb⟩
    have hz1 := hb.size
    simp only [World.size_alloc] at hz1
    have y1 : w1.cell? ⟨w.heap.size, 1, none⟩ = some (.slice A n c) := (hb.cell (p := ⟨w.heap.size, 1, none⟩) (by simp)).trans (by simp [go_sem])
    have b1 : Below w.heap.size w w1 := by repeat' (first | with_reducible assumption | with_reducible exact Below.refl _ _ | (with_reducible refine Below.setCell ?_ ?_ _) | (with_reducible refine Below.alloc ?_ ?_ _) | (with_reducible refine Below.drew ?_) | (with_reducible refine below_dr ?_ _) | (with_reducible refine Below.trans ?_ (Below.mono (by with_reducible assumption) ?_)) | omega | (simp; done) | (simp; omega))
    go_wp2_with fail
    refine (C.out _ (by omega) (by simpa using y1) ?_).mono ?_
    · exact (Row.carry (w' := _) r b1 (Nat.le_refl _)).more (by omega)
    intro e w2 hq
    obtain ⟨P, rfl, bP, hb2⟩ := hq
    have yP : w2.cell? ⟨P, gi, none⟩ = some (.int .i64 R) := bP.cell gi HG.out
    have lP := bP.lt
    clear bP
    go_wp2_with fail
    refine bodyPost_ret (v := .tuple #[.int .i64 (R), .int .i64 (0)]) (by simp [results, Try.results44, go_sem, *]) rfl ?_
    exact ⟨rfl, by repeat' (first | with_reducible assumption | with_reducible exact Below.refl _ _ | (with_reducible refine Below.setCell ?_ ?_ _) | (with_reducible refine Below.alloc ?_ ?_ _) | (with_reducible refine Below.drew ?_) | (with_reducible refine below_dr ?_ _) | (with_reducible refine Below.trans ?_ (Below.mono (by with_reducible assumption) ?_)) | omega | (simp; done) | (simp; omega))⟩
set_option maxRecDepth 100000 in
set_option maxHeartbeats 12800000 in
theorem walk_LoopCount (a : AGlyphSet) (gl : Int) (w_gl : (Lit.int .i64 gl).wf = true) (w : World) (k_a : okGlyphSet w w.heap.size a) :
    Calls Try.prog 12 #[.agg #[.int .i64 a.1, .slice a.2.1 a.2.2.2.length a.2.2.1], .int .i64 gl] w fun e w' => e = .returned (.bool true) ∧ Below w.heap.size w w' := by
  obtain ⟨a0, ⟨a1A, a1c, a1q⟩⟩ := a
  obtain ⟨w_a0, nc_a1, cm_a1, rd_a1, ok_a1⟩ := k_a
  simp only at w_a0 nc_a1 cm_a1 rd_a1 ok_a1 ⊢
  have row_a1 : Row RvGlyph 7 w w.heap.size a1A (a1q.map dGlyph) := Row.of rd_a1 (fun i b hb => rv_Glyph b (ok_a1 i b hb))
  have sz_a1 : szRow SzGlyph (a1q.map dGlyph) := ⟨Nat.le_trans (Nat.le_of_eq (List.length_map _)) (Nat.le_trans nc_a1 cm_a1), fun i b hb => sz_map sz_Glyph ok_a1 i b hb⟩
  have hn_a1 : a1q.length = (a1q.map dGlyph).length := (List.length_map _).symm
  rw [hn_a1]
  generalize a1q.map dGlyph = a1l at row_a1 sz_a1 ⊢
  have HZ_a1 := Lib.hid sz_a1
  clear nc_a1 cm_a1 rd_a1 ok_a1 hn_a1 sz_a1
  have HZP_a := Lib.hid (show SzGlyphSet (a0, a1l) from HZ_a1.out)
  have C1 := Lib.hid (fun (ha : totGlyphSet (a0, a1l) ≤ 1048576) a1A' a1c' w q_a1 => specLoopCount_any a0 a1A' a1c' a1l gl w ha q_a1)
  have C2 := Lib.hid (fun (ha : totGlyphSet (a0, a1l) ≤ 1048576) a1A' a1c' w q_a1 => implLoopCount_any a0 a1A' a1c' a1l gl w ha q_a1)
  generalize dpI ovC (a0, a1l) gl = vi at C1 C2
  have e_vi : (vi != vi) = false := by simp
  generalize askV (a0, a1l) gl = vc at C1 C2
  have e_vc : (vc != vc) = false := by simp
  go_enter Try.func12, Try.ntmps12
  go_wp2_with fail
  generalize hW : (w.alloc (.cells #[.int .i64 a0, .slice a1A a1l.length a1c] 44)) = W0
  have row_a1w : Row RvGlyph 7 w (w.heap.size) a1A a1l := row_a1
  have bx_aW0 : AtL (w.heap.size) [.int .i64 a0, .slice a1A a1l.length a1c] W0 := by rw [← hW]; repeat' (first | with_reducible assumption | with_reducible exact AtL.new _ _ _ | ((with_reducible refine AtL.newAt ?_); (first | rfl | (simp; done))) | (with_reducible refine AtL.drew ?_) | (with_reducible refine AtL.below ?_ (by with_reducible assumption)) | (with_reducible refine AtL.alloc ?_ _) | (with_reducible refine AtL.far ?_ ?_ _ _) | omega | (simp; done) | (simp; omega))
  have row_a1W0 : Row RvGlyph 7 W0 (w.heap.size) a1A a1l := by rw [← hW]; repeat' (first | with_reducible assumption | (with_reducible refine Row.drew ?_) | (with_reducible refine Row.carry ?_ (by with_reducible assumption) ?_) | (with_reducible refine Row.alloc ?_ ?_ _) | (with_reducible refine Row.setCell ?_ ?_ _) | omega | (simp; done) | (simp; omega))
  have qW0 : w.heap.size ≤ W0.heap.size := by rw [← hW]; first | (simp; done) | (simp; omega)
  have bn : Below w.heap.size w W0 := by rw [← hW]; repeat' (first | with_reducible assumption | with_reducible exact Below.refl _ _ | (with_reducible refine Below.setCell ?_ ?_ _) | (with_reducible refine Below.alloc ?_ ?_ _) | (with_reducible refine Below.drew ?_) | (with_reducible refine below_dr ?_ _) | (with_reducible refine Below.trans ?_ (Below.mono (by with_reducible assumption) ?_)) | omega | (simp; done) | (simp; omega))
  have bW0 := Lib.hid bn
  clear hW bn
  clear row_a1w row_a1
  have kbx_a0 := bx_aW0.cell 0 rfl
  have kbx_a1 := bx_aW0.cell 1 rfl
  have lbx_a := bx_aW0.lt
  go_wp2_with fail
  clear kbx_a0 kbx_a1 lbx_a
  obtain ⟨T0, hT0⟩ : ∃ T, T = totGlyphSet (a0, a1l) := ⟨_, rfl⟩
  have HTT0 := Lib.hid hT0
  refine (szGlyphSet_any a0 a1A a1c a1l 1048576 _ (by omega) (by omega) HZP_a.out ?_).mono ?_
  · (refine Row.more (B := w.heap.size) ?_ (by first | omega | ((try simp only [World.size_setCell]); (try simp only [World.size_drew]); (try simp only [World.size_alloc]); omega))); repeat' (first | with_reducible assumption | (with_reducible refine Row.drew ?_) | (with_reducible refine Row.carry ?_ (by with_reducible assumption) ?_) | (with_reducible refine Row.alloc ?_ ?_ _) | (with_reducible refine Row.setCell ?_ ?_ _) | omega | (simp; done) | (simp; omega))
  rw [← hT0]
  clear hT0
  by_cases hfit : (T0 : Int) ≤ 1048576
  case neg =>
    rw [szV_no hfit]
    rintro e wN ⟨rfl, hb⟩
    go_wp2_with fail
    go_ret
    have bp := bW0.out
    exact ⟨rfl, by repeat' (first | with_reducible assumption | with_reducible exact Below.refl _ _ | (with_reducible refine Below.setCell ?_ ?_ _) | (with_reducible refine Below.alloc ?_ ?_ _) | (with_reducible refine Below.drew ?_) | (with_reducible refine below_dr ?_ _) | (with_reducible refine Below.trans ?_ (Below.mono (by with_reducible assumption) ?_)) | omega | (simp; done) | (simp; omega))⟩
  case pos =>
    rw [szV_yes hfit]
    have HT_a := Lib.hid (show totGlyphSet (a0, a1l) ≤ 1048576 by rw [← HTT0.out]; omega)
    obtain ⟨V0, hV⟩ : ∃ V : Int, V = 1048576 - T0 := ⟨_, rfl⟩
    have hVV : 0 ≤ V0 ∧ V0 ≤ 1048576 := by omega
    rw [← hV]
    rintro e wS0 ⟨rfl, hbwS0⟩
    clear hV hfit
    obtain ⟨hV0_0, hV1_0⟩ := hVV
    have zwS0 := hbwS0.size
    (try simp only [World.size_setCell] at zwS0)
    (try simp only [World.size_drew] at zwS0)
    (try simp only [World.size_alloc] at zwS0)
    have qwS0 : w.heap.size ≤ wS0.heap.size := by omega
    have bx_awS0 : AtL (w.heap.size) [.int .i64 a0, .slice a1A a1l.length a1c] wS0 := by repeat' (first | with_reducible assumption | with_reducible exact AtL.new _ _ _ | ((with_reducible refine AtL.newAt ?_); (first | rfl | (simp; done))) | (with_reducible refine AtL.drew ?_) | (with_reducible refine AtL.below ?_ (by with_reducible assumption)) | (with_reducible refine AtL.alloc ?_ _) | (with_reducible refine AtL.far ?_ ?_ _ _) | omega | (simp; done) | (simp; omega))
    have row_a1wS0 : Row RvGlyph 7 wS0 (w.heap.size) a1A a1l := by repeat' (first | with_reducible assumption | (with_reducible refine Row.drew ?_) | (with_reducible refine Row.carry ?_ (by with_reducible assumption) ?_) | (with_reducible refine Row.alloc ?_ ?_ _) | (with_reducible refine Row.setCell ?_ ?_ _) | omega | (simp; done) | (simp; omega))
    have bp := bW0.out
    have bn : Below w.heap.size w wS0 := by repeat' (first | with_reducible assumption | with_reducible exact Below.refl _ _ | (with_reducible refine Below.setCell ?_ ?_ _) | (with_reducible refine Below.alloc ?_ ?_ _) | (with_reducible refine Below.drew ?_) | (with_reducible refine below_dr ?_ _) | (with_reducible refine Below.trans ?_ (Below.mono (by with_reducible assumption) ?_)) | omega | (simp; done) | (simp; omega))
    have bwS0 := Lib.hid bn
    clear bn
    clear bp bW0
    clear hbwS0
    clear bx_aW0
    clear row_a1W0
    have kbx_a0 := bx_awS0.cell 0 rfl
    have kbx_a1 := bx_awS0.cell 1 rfl
    have lbx_a := bx_awS0.lt
    go_wp2_with fail
    refine (xtoGlyphSet_any a0 a1A a1c a1l _ (HT_a.out) ?_).mono ?_
    · (refine Row.more (B := w.heap.size) ?_ (by first | omega | ((try simp only [World.size_setCell]); (try simp only [World.size_drew]); (try simp only [World.size_alloc]); omega))); repeat' (first | with_reducible assumption | (with_reducible refine Row.drew ?_) | (with_reducible refine Row.carry ?_ (by with_reducible assumption) ?_) | (with_reducible refine Row.alloc ?_ ?_ _) | (with_reducible refine Row.setCell ?_ ?_ _) | omega | (simp; done) | (simp; omega))
    intro e wA0 hq
    obtain ⟨owA0_a1A, owA0_a1c, rfl, owA0_a1, hbwA0⟩ := hq
    clear kbx_a0 kbx_a1 lbx_a
    have zwA0 := hbwA0.size
    (try simp only [World.size_setCell] at zwA0)
    (try simp only [World.size_drew] at zwA0)
    (try simp only [World.size_alloc] at zwA0)
    have qwA0 : w.heap.size ≤ wA0.heap.size := by omega
    have bx_awA0 : AtL (w.heap.size) [.int .i64 a0, .slice a1A a1l.length a1c] wA0 := by repeat' (first | with_reducible assumption | with_reducible exact AtL.new _ _ _ | ((with_reducible refine AtL.newAt ?_); (first | rfl | (simp; done))) | (with_reducible refine AtL.drew ?_) | (with_reducible refine AtL.below ?_ (by with_reducible assumption)) | (with_reducible refine AtL.alloc ?_ _) | (with_reducible refine AtL.far ?_ ?_ _ _) | omega | (simp; done) | (simp; omega))
    have row_a1wA0 : Row RvGlyph 7 wA0 (w.heap.size) a1A a1l := by repeat' (first | with_reducible assumption | (with_reducible refine Row.drew ?_) | (with_reducible refine Row.carry ?_ (by with_reducible assumption) ?_) | (with_reducible refine Row.alloc ?_ ?_ _) | (with_reducible refine Row.setCell ?_ ?_ _) | omega | (simp; done) | (simp; omega))
    have bp := bwS0.out
    have bn : Below w.heap.size w wA0 := by repeat' (first | with_reducible assumption | with_reducible exact Below.refl _ _ | (with_reducible refine Below.setCell ?_ ?_ _) | (with_reducible refine Below.alloc ?_ ?_ _) | (with_reducible refine Below.drew ?_) | (with_reducible refine below_dr ?_ _) | (with_reducible refine Below.trans ?_ (Below.mono (by with_reducible assumption) ?_)) | omega | (simp; done) | (simp; omega))
    have bwA0 := Lib.hid bn
    clear bn
    clear bp bwS0
    clear hbwA0
    clear bx_awS0
    clear row_a1wS0
    go_wp2_with fail
    refine (C1.out HT_a.out owA0_a1A owA0_a1c _ ?_).mono ?_
    · exact Row.more (B := wA0.heap.size) owA0_a1.here (by first | exact Nat.le_refl _ | omega)
    rintro e wB ⟨rfl, hbwB⟩
    clear owA0_a1
    have zwB := hbwB.size
    (try simp only [World.size_setCell] at zwB)
    (try simp only [World.size_drew] at zwB)
    (try simp only [World.size_alloc] at zwB)
    have qwB : w.heap.size ≤ wB.heap.size := by omega
    have bx_awB : AtL (w.heap.size) [.int .i64 a0, .slice a1A a1l.length a1c] wB := by repeat' (first | with_reducible assumption | with_reducible exact AtL.new _ _ _ | ((with_reducible refine AtL.newAt ?_); (first | rfl | (simp; done))) | (with_reducible refine AtL.drew ?_) | (with_reducible refine AtL.below ?_ (by with_reducible assumption)) | (with_reducible refine AtL.alloc ?_ _) | (with_reducible refine AtL.far ?_ ?_ _ _) | omega | (simp; done) | (simp; omega))
    have row_a1wB : Row RvGlyph 7 wB (w.heap.size) a1A a1l := by repeat' (first | with_reducible assumption | (with_reducible refine Row.drew ?_) | (with_reducible refine Row.carry ?_ (by with_reducible assumption) ?_) | (with_reducible refine Row.alloc ?_ ?_ _) | (with_reducible refine Row.setCell ?_ ?_ _) | omega | (simp; done) | (simp; omega))
    have bp := bwA0.out
    have bn : Below w.heap.size w wB := by repeat' (first | with_reducible assumption | with_reducible exact Below.refl _ _ | (with_reducible refine Below.setCell ?_ ?_ _) | (with_reducible refine Below.alloc ?_ ?_ _) | (with_reducible refine Below.drew ?_) | (with_reducible refine below_dr ?_ _) | (with_reducible refine Below.trans ?_ (Below.mono (by with_reducible assumption) ?_)) | omega | (simp; done) | (simp; omega))
    have bwB := Lib.hid bn
    clear bn
    clear bp bwA0
    clear hbwB
    clear bx_awA0
    clear row_a1wA0
    have kbx_a0 := bx_awB.cell 0 rfl
    have kbx_a1 := bx_awB.cell 1 rfl
    have lbx_a := bx_awB.lt
    go_wp2_with fail
    clear kbx_a0 kbx_a1 lbx_a
    refine (xtoGlyphSet_any a0 a1A a1c a1l _ (HT_a.out) ?_).mono ?_
    · (refine Row.more (B := w.heap.size) ?_ (by first | omega | ((try simp only [World.size_setCell]); (try simp only [World.size_drew]); (try simp only [World.size_alloc]); omega))); repeat' (first | with_reducible assumption | (with_reducible refine Row.drew ?_) | (with_reducible refine Row.carry ?_ (by with_reducible assumption) ?_) | (with_reducible refine Row.alloc ?_ ?_ _) | (with_reducible refine Row.setCell ?_ ?_ _) | omega | (simp; done) | (simp; omega))
    intro e wX0 hq
    obtain ⟨gX0_a1A, gX0_a1c, rfl, owX_a1, hbwX0⟩ := hq
    have zwX0 := hbwX0.size
    (try simp only [World.size_setCell] at zwX0)
    (try simp only [World.size_drew] at zwX0)
    (try simp only [World.size_alloc] at zwX0)
    have qwX0 : w.heap.size ≤ wX0.heap.size := by omega
    have bx_awX0 : AtL (w.heap.size) [.int .i64 a0, .slice a1A a1l.length a1c] wX0 := by repeat' (first | with_reducible assumption | with_reducible exact AtL.new _ _ _ | ((with_reducible refine AtL.newAt ?_); (first | rfl | (simp; done))) | (with_reducible refine AtL.drew ?_) | (with_reducible refine AtL.below ?_ (by with_reducible assumption)) | (with_reducible refine AtL.alloc ?_ _) | (with_reducible refine AtL.far ?_ ?_ _ _) | omega | (simp; done) | (simp; omega))
    have row_a1wX0 : Row RvGlyph 7 wX0 (w.heap.size) a1A a1l := by repeat' (first | with_reducible assumption | (with_reducible refine Row.drew ?_) | (with_reducible refine Row.carry ?_ (by with_reducible assumption) ?_) | (with_reducible refine Row.alloc ?_ ?_ _) | (with_reducible refine Row.setCell ?_ ?_ _) | omega | (simp; done) | (simp; omega))
    have bp := bwB.out
    have bn : Below w.heap.size w wX0 := by repeat' (first | with_reducible assumption | with_reducible exact Below.refl _ _ | (with_reducible refine Below.setCell ?_ ?_ _) | (with_reducible refine Below.alloc ?_ ?_ _) | (with_reducible refine Below.drew ?_) | (with_reducible refine below_dr ?_ _) | (with_reducible refine Below.trans ?_ (Below.mono (by with_reducible assumption) ?_)) | omega | (simp; done) | (simp; omega))
    have bwX0 := Lib.hid bn
    clear bn
    clear bp bwB
    clear hbwX0
    clear bx_awB
    clear row_a1wB
    have rx_a1wX0 : Row RvGlyph 7 wX0 (wX0.heap.size) gX0_a1A a1l := owX_a1.here
    clear owX_a1
    go_wp2_with fail
    generalize hWB : wX0.alloc (.cells #[.int .i64 a0, .slice gX0_a1A a1l.length gX0_a1c] 49) = WB0
    have hbWB0 : Below wX0.heap.size wX0 WB0 := by rw [← hWB]; repeat' (first | with_reducible assumption | with_reducible exact Below.refl _ _ | (with_reducible refine Below.setCell ?_ ?_ _) | (with_reducible refine Below.alloc ?_ ?_ _) | (with_reducible refine Below.drew ?_) | (with_reducible refine below_dr ?_ _) | (with_reducible refine Below.trans ?_ (Below.mono (by with_reducible assumption) ?_)) | omega | (simp; done) | (simp; omega))
    have at_aWB0 : AtL (wX0.heap.size) [.int .i64 a0, .slice gX0_a1A a1l.length gX0_a1c] WB0 := by rw [← hWB]; exact AtL.new _ _ _
    clear hWB
    have zWB0 := hbWB0.size
    (try simp only [World.size_setCell] at zWB0)
    (try simp only [World.size_drew] at zWB0)
    (try simp only [World.size_alloc] at zWB0)
    have qWB0 : w.heap.size ≤ WB0.heap.size := by omega
    have bx_aWB0 : AtL (w.heap.size) [.int .i64 a0, .slice a1A a1l.length a1c] WB0 := by repeat' (first | with_reducible assumption | with_reducible exact AtL.new _ _ _ | ((with_reducible refine AtL.newAt ?_); (first | rfl | (simp; done))) | (with_reducible refine AtL.drew ?_) | (with_reducible refine AtL.below ?_ (by with_reducible assumption)) | (with_reducible refine AtL.alloc ?_ _) | (with_reducible refine AtL.far ?_ ?_ _ _) | omega | (simp; done) | (simp; omega))
    have row_a1WB0 : Row RvGlyph 7 WB0 (w.heap.size) a1A a1l := by repeat' (first | with_reducible assumption | (with_reducible refine Row.drew ?_) | (with_reducible refine Row.carry ?_ (by with_reducible assumption) ?_) | (with_reducible refine Row.alloc ?_ ?_ _) | (with_reducible refine Row.setCell ?_ ?_ _) | omega | (simp; done) | (simp; omega))
    have rx_a1WB0 : Row RvGlyph 7 WB0 (wX0.heap.size) gX0_a1A a1l := by repeat' (first | with_reducible assumption | (with_reducible refine Row.drew ?_) | (with_reducible refine Row.carry ?_ (by with_reducible assumption) ?_) | (with_reducible refine Row.alloc ?_ ?_ _) | (with_reducible refine Row.setCell ?_ ?_ _) | omega | (simp; done) | (simp; omega))
    have bp := bwX0.out
    have bn : Below w.heap.size w WB0 := by repeat' (first | with_reducible assumption | with_reducible exact Below.refl _ _ | (with_reducible refine Below.setCell ?_ ?_ _) | (with_reducible refine Below.alloc ?_ ?_ _) | (with_reducible refine Below.drew ?_) | (with_reducible refine below_dr ?_ _) | (with_reducible refine Below.trans ?_ (Below.mono (by with_reducible assumption) ?_)) | omega | (simp; done) | (simp; omega))
    have bWB0 := Lib.hid bn
    clear bn
    clear bp bwX0
    clear hbWB0
    clear bx_awX0
    clear row_a1wX0
    clear rx_a1wX0
    refine (C2.out HT_a.out gX0_a1A gX0_a1c _ ?_).mono ?_
    · (refine Row.more (B := wX0.heap.size) ?_ (by first | omega | ((try simp only [World.size_setCell]); (try simp only [World.size_drew]); (try simp only [World.size_alloc]); omega))); repeat' (first | with_reducible assumption | (with_reducible refine Row.drew ?_) | (with_reducible refine Row.carry ?_ (by with_reducible assumption) ?_) | (with_reducible refine Row.alloc ?_ ?_ _) | (with_reducible refine Row.setCell ?_ ?_ _) | omega | (simp; done) | (simp; omega))
    rintro e wI ⟨rfl, hbwI⟩
    have zwI := hbwI.size
    (try simp only [World.size_setCell] at zwI)
    (try simp only [World.size_drew] at zwI)
    (try simp only [World.size_alloc] at zwI)
    have qwI : w.heap.size ≤ wI.heap.size := by omega
    have bx_awI : AtL (w.heap.size) [.int .i64 a0, .slice a1A a1l.length a1c] wI := by repeat' (first | with_reducible assumption | with_reducible exact AtL.new _ _ _ | ((with_reducible refine AtL.newAt ?_); (first | rfl | (simp; done))) | (with_reducible refine AtL.drew ?_) | (with_reducible refine AtL.below ?_ (by with_reducible assumption)) | (with_reducible refine AtL.alloc ?_ _) | (with_reducible refine AtL.far ?_ ?_ _ _) | omega | (simp; done) | (simp; omega))
    have row_a1wI : Row RvGlyph 7 wI (w.heap.size) a1A a1l := by repeat' (first | with_reducible assumption | (with_reducible refine Row.drew ?_) | (with_reducible refine Row.carry ?_ (by with_reducible assumption) ?_) | (with_reducible refine Row.alloc ?_ ?_ _) | (with_reducible refine Row.setCell ?_ ?_ _) | omega | (simp; done) | (simp; omega))
    have rx_a1wI : Row RvGlyph 7 wI (wX0.heap.size) gX0_a1A a1l := by repeat' (first | with_reducible assumption | (with_reducible refine Row.drew ?_) | (with_reducible refine Row.carry ?_ (by with_reducible assumption) ?_) | (with_reducible refine Row.alloc ?_ ?_ _) | (with_reducible refine Row.setCell ?_ ?_ _) | omega | (simp; done) | (simp; omega))
    have at_awI : AtL (wX0.heap.size) [.int .i64 a0, .slice gX0_a1A a1l.length gX0_a1c] wI := by repeat' (first | with_reducible assumption | with_reducible exact AtL.new _ _ _ | ((with_reducible refine AtL.newAt ?_); (first | rfl | (simp; done))) | (with_reducible refine AtL.drew ?_) | (with_reducible refine AtL.below ?_ (by with_reducible assumption)) | (with_reducible refine AtL.alloc ?_ _) | (with_reducible refine AtL.far ?_ ?_ _ _) | omega | (simp; done) | (simp; omega))
    have bp := bWB0.out
    have bn : Below w.heap.size w wI := by repeat' (first | with_reducible assumption | with_reducible exact Below.refl _ _ | (with_reducible refine Below.setCell ?_ ?_ _) | (with_reducible refine Below.alloc ?_ ?_ _) | (with_reducible refine Below.drew ?_) | (with_reducible refine below_dr ?_ _) | (with_reducible refine Below.trans ?_ (Below.mono (by with_reducible assumption) ?_)) | omega | (simp; done) | (simp; omega))
    have bwI := Lib.hid bn
    clear bn
    clear bp bWB0
    clear hbwI
    clear bx_aWB0
    clear row_a1WB0
    clear rx_a1WB0
    clear at_aWB0
    have kat_a0 := at_awI.cell 0 rfl
    have kat_a1 := at_awI.cell 1 rfl
    have lat_a := at_awI.lt
    have kbx_a0 := bx_awI.cell 0 rfl
    have kbx_a1 := bx_awI.cell 1 rfl
    have lbx_a := bx_awI.lt
    go_wp2_with fail
    go_region_held3 (fun w' => (∀ b o, b < wI.heap.size → w'.cell? ⟨b, o, none⟩ = wI.cell? ⟨b, o, none⟩) ∧ wI.heap.size ≤ w'.heap.size)
      (first | ((try dsimp only); exact ⟨fun b o h => (by (repeat (first | with_reducible exact rfl | (with_reducible refine (cell_drew_at _ _).trans ?_) | (with_reducible refine (cell_set_at _ _ (by first | omega | (simp; done) | (simp; omega))).trans ?_) | (with_reducible refine (cell_alloc_at _ _ (by first | omega | (simp; done) | (simp; omega))).trans ?_) | (with_reducible refine (hcwT0 b o (by first | omega | (simp; done) | (simp; omega))).trans ?_) | (with_reducible refine (hcwE0 b o (by first | omega | (simp; done) | (simp; omega))).trans ?_)))), (by first | omega | (simp; done) | (simp; omega))⟩) | fail)
      (first
        | (go_at_call 22; (with_reducible refine (xtoGlyphSet_any a0 a1A a1c a1l _ (HT_a.out) ?_).mono ?_); (focus ((refine Row.more (B := w.heap.size) ?_ (by first | omega | ((try simp only [World.size_setCell]); (try simp only [World.size_drew]); (try simp only [World.size_alloc]); omega))); repeat' (first | with_reducible assumption | (with_reducible refine Row.drew ?_) | (with_reducible refine Row.carry ?_ (by with_reducible assumption) ?_) | (with_reducible refine Row.alloc ?_ ?_ _) | (with_reducible refine Row.setCell ?_ ?_ _) | omega | (simp; done) | (simp; omega)))); intro e wT0 hq; obtain ⟨owE_a1A, owE_a1c, rfl, owE_a1, hbwT0⟩ := hq; obtain ⟨hcwT0, hfwT0⟩ := bcell hbwT0; have hzwT0 := hbwT0.size; (try simp only [World.size_drew] at hcwT0 hfwT0 hzwT0); (try simp only [World.size_alloc] at hcwT0 hfwT0 hzwT0))
        | (go_at_call 24; (with_reducible refine (xeqGlyphSet_any a0 gX0_a1A gX0_a1c a1l owE_a1A owE_a1c _ (Nat.le_trans HT_a.out (by omega)) ?_ ?_).mono ?_); (focus ((refine Row.more (B := wX0.heap.size) ?_ (by first | omega | ((try simp only [World.size_setCell]); (try simp only [World.size_drew]); (try simp only [World.size_alloc]); omega))); repeat' (first | with_reducible assumption | (with_reducible refine Row.drew ?_) | (with_reducible refine Row.carry ?_ (by with_reducible assumption) ?_) | (with_reducible refine Row.alloc ?_ ?_ _) | (with_reducible refine Row.setCell ?_ ?_ _) | omega | (simp; done) | (simp; omega)))); (focus (first | exact owE_a1.here | exact (RowIn.here owE_a1).drew)); rintro e wE0 ⟨rfl, hbwE0⟩; obtain ⟨hcwE0, hfwE0⟩ := bcell hbwE0; have hzwE0 := hbwE0.size; (try simp only [World.size_drew] at hcwE0 hfwE0 hzwE0); (try simp only [World.size_alloc] at hcwE0 hfwE0 hzwE0)))
    clear kat_a0 kat_a1 lat_a
    clear kbx_a0 kbx_a1 lbx_a
    all_goals
      have zwE0 := hbwE0.size
      (try simp only [World.size_setCell] at zwE0)
      (try simp only [World.size_drew] at zwE0)
      (try simp only [World.size_alloc] at zwE0)
      have qwE0 : w.heap.size ≤ wE0.heap.size := by omega
      have bx_awE0 : AtL (w.heap.size) [.int .i64 a0, .slice a1A a1l.length a1c] wE0 := by repeat' (first | with_reducible assumption | with_reducible exact AtL.new _ _ _ | ((with_reducible refine AtL.newAt ?_); (first | rfl | (simp; done))) | (with_reducible refine AtL.drew ?_) | (with_reducible refine AtL.below ?_ (by with_reducible assumption)) | (with_reducible refine AtL.alloc ?_ _) | (with_reducible refine AtL.far ?_ ?_ _ _) | omega | (simp; done) | (simp; omega))
      have row_a1wE0 : Row RvGlyph 7 wE0 (w.heap.size) a1A a1l := by repeat' (first | with_reducible assumption | (with_reducible refine Row.drew ?_) | (with_reducible refine Row.carry ?_ (by with_reducible assumption) ?_) | (with_reducible refine Row.alloc ?_ ?_ _) | (with_reducible refine Row.setCell ?_ ?_ _) | omega | (simp; done) | (simp; omega))
      have rx_a1wE0 : Row RvGlyph 7 wE0 (wX0.heap.size) gX0_a1A a1l := by repeat' (first | with_reducible assumption | (with_reducible refine Row.drew ?_) | (with_reducible refine Row.carry ?_ (by with_reducible assumption) ?_) | (with_reducible refine Row.alloc ?_ ?_ _) | (with_reducible refine Row.setCell ?_ ?_ _) | omega | (simp; done) | (simp; omega))
      have at_awE0 : AtL (wX0.heap.size) [.int .i64 a0, .slice gX0_a1A a1l.length gX0_a1c] wE0 := by repeat' (first | with_reducible assumption | with_reducible exact AtL.new _ _ _ | ((with_reducible refine AtL.newAt ?_); (first | rfl | (simp; done))) | (with_reducible refine AtL.drew ?_) | (with_reducible refine AtL.below ?_ (by with_reducible assumption)) | (with_reducible refine AtL.alloc ?_ _) | (with_reducible refine AtL.far ?_ ?_ _ _) | omega | (simp; done) | (simp; omega))
      have bp := bwI.out
      have bn : Below w.heap.size w wE0 := by repeat' (first | with_reducible assumption | with_reducible exact Below.refl _ _ | (with_reducible refine Below.setCell ?_ ?_ _) | (with_reducible refine Below.alloc ?_ ?_ _) | (with_reducible refine Below.drew ?_) | (with_reducible refine below_dr ?_ _) | (with_reducible refine Below.trans ?_ (Below.mono (by with_reducible assumption) ?_)) | omega | (simp; done) | (simp; omega))
      have bwE0 := Lib.hid bn
      clear bn
      clear bp bwI
      clear hbwE0
      clear bx_awI
      clear row_a1wI
      clear rx_a1wI
      clear at_awI
      go_wp2_with fail
      go_ret
      have bp := bwE0.out
      exact ⟨rfl, by repeat' (first | with_reducible assumption | with_reducible exact Below.refl _ _ | (with_reducible refine Below.setCell ?_ ?_ _) | (with_reducible refine Below.alloc ?_ ?_ _) | (with_reducible refine Below.drew ?_) | (with_reducible refine below_dr ?_ _) | (with_reducible refine Below.trans ?_ (Below.mono (by with_reducible assumption) ?_)) | omega | (simp; done) | (simp; omega))⟩
end Go.Proofs.Ytelefmogmloniaa
