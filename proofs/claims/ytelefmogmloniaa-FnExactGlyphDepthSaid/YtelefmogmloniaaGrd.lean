/- Walks: how deep a glyph is, and how many loops it has, on the program's side. -/
import Derived.Test.YtelefmogmloniaaGrb2
import Derived.Test.YtelefmogmloniaaGrc
namespace Go.Proofs.Ytelefmogmloniaa
open Go.RowKit
set_option linter.unusedVariables false
def dpI (ov : DGlyph → List Int → Int) (d : DGlyphSet) (g : Int) : Int := if askV d g = 0 then gv (vAll ov d.2) g else 0
theorem vS_use {u : Int} {l : List DGlyph} (h : vS (u, l) = true) : l.length ≤ 40 ∧ l.all (inSet l.length) = true ∧ (ordL (psOf l)).length = l.length := by
  have hv : vS (u, l) = ((decide (16 ≤ u ∧ u ≤ 16384) && decide (l.length ≤ 40)) && (l.all vG && (nmOk gN l && cdUp l l.length)) && decide ((ordL (psOf l)).length = l.length)) := rfl
  rw [hv] at h
  simp only [Bool.and_eq_true, decide_eq_true_eq] at h
  refine ⟨h.1.1.2, ?_, h.2⟩
  rcases hq : l.all (inSet l.length) with _ | _
  · have := ord_no hq
    rw [decide_eq_false_iff_not] at this
    exact absurd h.2 this
  · rfl
theorem askV_zero {u g : Int} {l : List DGlyph} (h : askV (u, l) g = 0) : vS (u, l) = true ∧ 0 ≤ g ∧ g < (l.length : Int) := by
  unfold askV at h
  split at h
  · rename_i h1
    split at h
    · rename_i h2; exact ⟨h1, h2⟩
    · cases h
  · cases h
theorem dpI_zero {ov : DGlyph → List Int → Int} {u g : Int} {l : List DGlyph} (h : askV (u, l) g = 0) : dpI ov (u, l) g = gv (vAll ov l) g := by unfold dpI; rw [if_pos h]
theorem dpI_not {ov : DGlyph → List Int → Int} {u g : Int} {l : List DGlyph} (h : ¬ askV (u, l) g = 0) : dpI ov (u, l) g = 0 := by unfold dpI; rw [if_neg h]
theorem vAll_len {ov : DGlyph → List Int → Int} {l : List DGlyph} : (vAll ov l).length = l.length := vRun_len _
set_option maxHeartbeats 1600000 in
theorem loopCounts_any (u : Int) (A : Option Addr) (c : Nat) (l : List DGlyph) (w : World) (hs : vS (u, l) = true) (ht : totRow totGlyph l ≤ 1048576) (r : Row RvGlyph 7 w w.heap.size A l) :
    Calls Try.prog 111 #[.agg #[.int .i64 u, .slice A l.length c]] w fun e w' => ∃ P, e = .returned (.slice (some ⟨P, 0, none⟩) l.length l.length) ∧ Blk w' P 2 (iArr (vAll ovC l)) ∧ Below w.heap.size w w' := by
  have hn := vS_use hs
  have C := Lib.hid (fun (w1 : World) r => fromParts_loops u l A c w1 hn.1 ht (parts_ok (vS_all hs) hn.2.1) (fun w1 k x0 x1 x2 x3A x3c x3l x4A x4c x4l x5A x5c x5l x6 ps B d r3 r4 r5 h1 h2 h3 h4 h5 => loopsOver_any w1 k x0 x1 x2 x3A x3c x3l x4A x4c x4l x5A x5c x5l x6 ps B d r3 r4 r5 h1 h2 h3 h4 h5) r)
  clear hn hs
  generalize l.length = n at *
  go_enter Try.func111, Try.ntmps111
  go_wp2_with fail
  refine (C.out _ ?_).mono ?_
  · exact (Row.alloc r (Nat.le_refl _) _).more (by simp)
  intro e w1 hq
  obtain ⟨P, rfl, bP, hb⟩ := hq
  go_wp2_with fail
  go_ret
  exact ⟨P, rfl, bP, by repeat' (first | with_reducible assumption | with_reducible exact Below.refl _ _ | (with_reducible refine Below.setCell ?_ ?_ _) | (with_reducible refine Below.alloc ?_ ?_ _) | (with_reducible refine Below.drew ?_) | (with_reducible refine below_dr ?_ _) | (with_reducible refine Below.trans ?_ (Below.mono (by with_reducible assumption) ?_)) | omega | (simp; done) | (simp; omega))⟩
set_option maxHeartbeats 3200000 in
theorem implGlyphDepth_any (u : Int) (A : Option Addr) (c : Nat) (l : List DGlyph) (gl : Int) (w : World) (h : totGlyphSet (u, l) ≤ 1048576) (r : Row RvGlyph 7 w w.heap.size A l) :
    Calls Try.prog 43 #[.agg #[.int .i64 u, .slice A l.length c], .int .i64 gl] w fun e w' => e = .returned (.tuple #[.int .i64 (dpI ovD (u, l) gl), .int .i64 (askV (u, l) gl)]) ∧ Below w.heap.size w w' := by
  have ht : totRow totGlyph l ≤ 1048576 := h
  have CK := Lib.hid (fun w1 r => check_any u l A c gl w1 ht r)
  by_cases hz : askV (u, l) gl = 0
  case neg =>
    rw [dpI_not hz]
    generalize askV (u, l) gl = cd at *
    generalize l.length = n at *
    have q1 : (cd != 0) = true := by rw [bne_iff_ne]; exact hz
    go_enter Try.func43, Try.ntmps43
    go_wp2_with fail
    refine (CK.out _ ?_).mono ?_
    · exact (Row.alloc r (Nat.le_refl _) _).more (by simp)
    rintro e w1 ⟨rfl, hb⟩
    go_wp2_with fail
    refine bodyPost_ret (v := .tuple #[.int .i64 (0), .int .i64 (cd)]) (by simp [results, Try.results43, go_sem, *]) rfl ?_
    exact ⟨rfl, by repeat' (first | with_reducible assumption | with_reducible exact Below.refl _ _ | (with_reducible refine Below.setCell ?_ ?_ _) | (with_reducible refine Below.alloc ?_ ?_ _) | (with_reducible refine Below.drew ?_) | (with_reducible refine below_dr ?_ _) | (with_reducible refine Below.trans ?_ (Below.mono (by with_reducible assumption) ?_)) | omega | (simp; done) | (simp; omega))⟩
  case pos =>
    rw [dpI_zero hz]
    obtain ⟨hs, g0, g1⟩ := askV_zero hz
    rw [hz] at CK ⊢
    have hn := vS_use hs
    obtain ⟨gi, rfl⟩ : ∃ gi : Nat, gl = (gi : Int) := ⟨gl.toNat, by omega⟩
    have hgi : gi < (vAll ovD l).length := by rw [vAll_len]; omega
    have HG := Lib.hid (iArr_at (gv_get hgi))
    have C := Lib.hid (fun (w1 : World) r => fromParts_depth u l A c w1 hn.1 ht (parts_ok (vS_all hs) hn.2.1) (fun w1 k x0 x1 x2 x3A x3c x3l x4A x4c x4l x5A x5c x5l x6 ps B d r3 r4 r5 h1 h2 h3 h4 h5 => depthOver_any w1 k x0 x1 x2 x3A x3c x3l x4A x4c x4l x5A x5c x5l x6 ps B d r3 r4 r5 h1 h2 h3 h4 h5) r)
    clear hn hs hz g0 hgi
    generalize gv (vAll ovD l) (gi : Int) = R at HG ⊢
    generalize iArr (vAll ovD l) = arr at HG C
    generalize l.length = n at *
    go_enter Try.func43, Try.ntmps43
    go_wp2_with fail
    refine (CK.out _ ?_).mono ?_
    · exact (Row.alloc r (Nat.le_refl _) _).more (by simp)
    rintro e w1 ⟨rfl, hb⟩
    have hz1 := hb.size
    simp only [World.size_alloc] at hz1
    have y0 : w1.cell? ⟨w.heap.size, 0, none⟩ = some (.int .i64 u) := (hb.cell (p := ⟨w.heap.size, 0, none⟩) (by simp)).trans (by simp [go_sem])
    have y1 : w1.cell? ⟨w.heap.size, 1, none⟩ = some (.slice A n c) := (hb.cell (p := ⟨w.heap.size, 1, none⟩) (by simp)).trans (by simp [go_sem])
    have b1 : Below w.heap.size w w1 := by repeat' (first | with_reducible assumption | with_reducible exact Below.refl _ _ | (with_reducible refine Below.setCell ?_ ?_ _) | (with_reducible refine Below.alloc ?_ ?_ _) | (with_reducible refine Below.drew ?_) | (with_reducible refine below_dr ?_ _) | (with_reducible refine Below.trans ?_ (Below.mono (by with_reducible assumption) ?_)) | omega | (simp; done) | (simp; omega))
    go_wp2_with fail
    refine (C.out _ ?_).mono ?_
    · exact (Row.carry (w' := _) r b1 (Nat.le_refl _)).more (by omega)
    intro e w2 hq
    obtain ⟨P, rfl, bP, hb2⟩ := hq
    have yP : w2.cell? ⟨P, gi, none⟩ = some (.int .i64 R) := bP.cell gi HG.out
    have lP := bP.lt
    clear bP
    go_wp2_with fail
    refine bodyPost_ret (v := .tuple #[.int .i64 (R), .int .i64 (0)]) (by simp [results, Try.results43, go_sem, *]) rfl ?_
    exact ⟨rfl, by repeat' (first | with_reducible assumption | with_reducible exact Below.refl _ _ | (with_reducible refine Below.setCell ?_ ?_ _) | (with_reducible refine Below.alloc ?_ ?_ _) | (with_reducible refine Below.drew ?_) | (with_reducible refine below_dr ?_ _) | (with_reducible refine Below.trans ?_ (Below.mono (by with_reducible assumption) ?_)) | omega | (simp; done) | (simp; omega))⟩
set_option maxHeartbeats 3200000 in
theorem implLoopCount_any (u : Int) (A : Option Addr) (c : Nat) (l : List DGlyph) (gl : Int) (w : World) (h : totGlyphSet (u, l) ≤ 1048576) (r : Row RvGlyph 7 w w.heap.size A l) :
    Calls Try.prog 45 #[.agg #[.int .i64 u, .slice A l.length c], .int .i64 gl] w fun e w' => e = .returned (.tuple #[.int .i64 (dpI ovC (u, l) gl), .int .i64 (askV (u, l) gl)]) ∧ Below w.heap.size w w' := by
  have ht : totRow totGlyph l ≤ 1048576 := h
  have CK := Lib.hid (fun w1 r => check_any u l A c gl w1 ht r)
  by_cases hz : askV (u, l) gl = 0
  case neg =>
    rw [dpI_not hz]
    generalize askV (u, l) gl = cd at *
    generalize l.length = n at *
    have q1 : (cd != 0) = true := by rw [bne_iff_ne]; exact hz
    go_enter Try.func45, Try.ntmps45
    go_wp2_with fail
    refine (CK.out _ ?_).mono ?_
    · exact (Row.alloc r (Nat.le_refl _) _).more (by simp)
    rintro e w1 ⟨rfl, hb⟩
    go_wp2_with fail
    refine bodyPost_ret (v := .tuple #[.int .i64 (0), .int .i64 (cd)]) (by simp [results, Try.results45, go_sem, *]) rfl ?_
    exact ⟨rfl, by repeat' (first | with_reducible assumption | with_reducible exact Below.refl _ _ | (with_reducible refine Below.setCell ?_ ?_ _) | (with_reducible refine Below.alloc ?_ ?_ _) | (with_reducible refine Below.drew ?_) | (with_reducible refine below_dr ?_ _) | (with_reducible refine Below.trans ?_ (Below.mono (by with_reducible assumption) ?_)) | omega | (simp; done) | (simp; omega))⟩
  case pos =>
    rw [dpI_zero hz]
    obtain ⟨hs, g0, g1⟩ := askV_zero hz
    rw [hz] at CK ⊢
    have hn := vS_use hs
    obtain ⟨gi, rfl⟩ : ∃ gi : Nat, gl = (gi : Int) := ⟨gl.toNat, by omega⟩
    have hgi : gi < (vAll ovC l).length := by rw [vAll_len]; omega
    have HG := Lib.hid (iArr_at (gv_get hgi))
    have C := Lib.hid (fun (w1 : World) r => loopCounts_any u A c l w1 hs ht r)
    clear hn hs hz g0 hgi
    generalize gv (vAll ovC l) (gi : Int) = R at HG ⊢
    generalize iArr (vAll ovC l) = arr at HG C
    generalize l.length = n at *
    go_enter Try.func45, Try.ntmps45
    go_wp2_with fail
    refine (CK.out _ ?_).mono ?_
    · exact (Row.alloc r (Nat.le_refl _) _).more (by simp)
    rintro e w1 ⟨rfl, hb⟩
    have hz1 := hb.size
    simp only [World.size_alloc] at hz1
    have y0 : w1.cell? ⟨w.heap.size, 0, none⟩ = some (.int .i64 u) := (hb.cell (p := ⟨w.heap.size, 0, none⟩) (by simp)).trans (by simp [go_sem])
    have y1 : w1.cell? ⟨w.heap.size, 1, none⟩ = some (.slice A n c) := (hb.cell (p := ⟨w.heap.size, 1, none⟩) (by simp)).trans (by simp [go_sem])
    have b1 : Below w.heap.size w w1 := by repeat' (first | with_reducible assumption | with_reducible exact Below.refl _ _ | (with_reducible refine Below.setCell ?_ ?_ _) | (with_reducible refine Below.alloc ?_ ?_ _) | (with_reducible refine Below.drew ?_) | (with_reducible refine below_dr ?_ _) | (with_reducible refine Below.trans ?_ (Below.mono (by with_reducible assumption) ?_)) | omega | (simp; done) | (simp; omega))
    go_wp2_with fail
    refine (C.out _ ?_).mono ?_
    · exact (Row.carry (w' := _) r b1 (Nat.le_refl _)).more (by omega)
    intro e w2 hq
    obtain ⟨P, rfl, bP, hb2⟩ := hq
    have yP : w2.cell? ⟨P, gi, none⟩ = some (.int .i64 R) := bP.cell gi HG.out
    have lP := bP.lt
    clear bP
    go_wp2_with fail
    refine bodyPost_ret (v := .tuple #[.int .i64 (R), .int .i64 (0)]) (by simp [results, Try.results45, go_sem, *]) rfl ?_
    exact ⟨rfl, by repeat' (first | with_reducible assumption | with_reducible exact Below.refl _ _ | (with_reducible refine Below.setCell ?_ ?_ _) | (with_reducible refine Below.alloc ?_ ?_ _) | (with_reducible refine Below.drew ?_) | (with_reducible refine below_dr ?_ _) | (with_reducible refine Below.trans ?_ (Below.mono (by with_reducible assumption) ?_)) | omega | (simp; done) | (simp; omega))⟩
end Go.Proofs.Ytelefmogmloniaa
