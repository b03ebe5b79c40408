/- Walks: a curve moved, the reference's side. -/
import Derived.Test.YthedimnjbfeaiaaMa
import Derived.Test.YthedimnjbfeaiaaKza
import Derived.StillTailTactics
namespace Go.Proofs.Ythedimnjbfeaiaa
open Go.RowKit
set_option linter.unusedVariables false
set_option maxRecDepth 100000 in
set_option maxHeartbeats 12800000 in
theorem specMove_go (l : List APt) (A : Option Addr) (c : Nat) (cl : Bool) (t : Int) (ff fl : Bool) (fx fy lx ly b0 b1 : Int) (w : World) (hv : vCur l cl t ff fl fx fy lx ly = true) (ho : okB b0 b1 = true) (hl : l.length ≤ 1048576) (r : Rd cPt 2 w w.heap.size A l) :
    Calls Try.prog 24 #[.agg #[.slice A l.length c, .bool cl, .int .i64 t, .bool ff, .bool fl, .int .i64 fx, .int .i64 fy, .int .i64 lx, .int .i64 ly], .agg #[.int .i64 b0, .int .i64 b1]] w (cond (ptsUp (l.map (mvP b0 b1)) l.length) (Ret_Curve cl t ff fl fx fy lx ly 0 (l.map (mvP b0 b1)) w) (Ret_Curve false 0 false false 0 0 0 0 2 [] w)) := by
  obtain ⟨h1, h2, _⟩ := vC_parts hv
  have hlen := len_yes h1
  obtain ⟨b1', b2', b3', b4'⟩ := okB_bounds ho
  have HPT := Lib.hid h2
  have CV := Lib.hid (fun b w at0 r => l06Ok_any l A c cl t ff fl fx fy lx ly b w hl at0 r)
  simp only [hv] at CV
  have CB := Lib.hid (fun w => specValidPt_any b0 b1 w)
  simp only [ho] at CB
  have CO := Lib.hid (fun b w at0 r => l06Own_any l A c cl t ff fl fx fy lx ly b w (by omega) (by omega) at0 r)
  obtain ⟨n, hn⟩ : ∃ n, n = l.length := ⟨_, rfl⟩
  rw [← hn] at CV CO hlen
  rw [← hn]
  have HN := Lib.hid hn
  clear hn hv h1 h2 ho hl
  go_enter Try.func24, Try.ntmps24
  go_wp2_with fail
  generalize hW : ((w.alloc (.cells #[.slice A n c, .bool cl, .int .i64 t, .bool ff, .bool fl, .int .i64 fx, .int .i64 fy, .int .i64 lx, .int .i64 ly] 32)).alloc (.cells #[.int .i64 b0, .int .i64 b1] 30)).alloc (.cells #[.slice none 0 0, .bool false, .int .i64 0, .bool false, .bool false, .int .i64 0, .int .i64 0, .int .i64 0, .int .i64 0] 32) = W0
  have at0 : AtL w.heap.size [.slice A n c, .bool cl, .int .i64 t, .bool ff, .bool fl, .int .i64 fx, .int .i64 fy, .int .i64 lx, .int .i64 ly] W0 := by rw [← hW]; exact ((AtL.new w _ _).alloc _).alloc _
  have ab0 : AtL (w.heap.size + 1) [.int .i64 b0, .int .i64 b1] W0 := by rw [← hW]; exact (AtL.newAt (by simp)).alloc _
  have bk0 : Blk W0 (w.heap.size + 1 + 1) 32 #[.slice none 0 0, .bool false, .int .i64 0, .bool false, .bool false, .int .i64 0, .int .i64 0, .int .i64 0, .int .i64 0] := by rw [← hW]; exact Blk.newAt _ _ _ (by simp)
  have r0 : Rd cPt 2 W0 w.heap.size A l := by rw [← hW]; exact ((r.alloc (Nat.le_refl _) _).alloc (by simp) _).alloc (by simp; omega) _
  have g0 : Below w.heap.size w W0 := by rw [← hW]; repeat' (first | with_reducible assumption | with_reducible exact Below.refl _ _ | (with_reducible refine Below.setCell ?_ ?_ _) | (with_reducible refine Below.alloc ?_ ?_ _) | (with_reducible refine Below.drew ?_) | (with_reducible refine below_dr ?_ _) | (with_reducible refine Below.trans ?_ (Below.mono (by with_reducible assumption) ?_)) | omega | (simp; done) | (simp; omega))
  have z0 : W0.heap.size = w.heap.size + 1 + 1 + 1 := by rw [← hW]; simp
  clear hW r
  refine (CV.out _ _ at0 ?_).mono ?_
  · (refine Rd.more (B := w.heap.size) ?_ (by first | omega | ((try simp only [World.size_setCell]); (try simp only [World.size_drew]); (try simp only [World.size_alloc]); omega) | (simp; done) | (simp; omega))); (repeat' (first | with_reducible assumption | (with_reducible refine Rd.drew ?_) | (with_reducible refine Rd.carry ?_ (by with_reducible assumption) ?_) | (with_reducible refine Rd.alloc ?_ ?_ _) | (with_reducible refine Rd.setCell ?_ ?_ _) | omega | (simp; done) | (simp; omega)))
  rintro e w1 ⟨rfl, hb1⟩
  replace at0 := at0.below hb1
  replace ab0 := ab0.below hb1
  replace bk0 := bk0.carry hb1
  replace r0 := r0.carry hb1 (by omega)
  replace g0 : Below w.heap.size w w1 := by repeat' (first | with_reducible assumption | with_reducible exact Below.refl _ _ | (with_reducible refine Below.setCell ?_ ?_ _) | (with_reducible refine Below.alloc ?_ ?_ _) | (with_reducible refine Below.drew ?_) | (with_reducible refine below_dr ?_ _) | (with_reducible refine Below.trans ?_ (Below.mono (by with_reducible assumption) ?_)) | omega | (simp; done) | (simp; omega))
  have z1 := hb1.size
  clear hb1
  have j0 := ab0.cell 0 rfl
  have j1 := ab0.cell 1 rfl
  have lt1 := ab0.lt
  go_wp2_with fail
  refine (CB.out _).mono ?_
  rintro e w2 ⟨rfl, hb2⟩
  clear j0 j1 lt1
  replace at0 := at0.below hb2
  replace ab0 := ab0.below hb2
  replace bk0 := bk0.carry hb2
  replace r0 := r0.carry hb2 (by omega)
  replace g0 : Below w.heap.size w w2 := by repeat' (first | with_reducible assumption | with_reducible exact Below.refl _ _ | (with_reducible refine Below.setCell ?_ ?_ _) | (with_reducible refine Below.alloc ?_ ?_ _) | (with_reducible refine Below.drew ?_) | (with_reducible refine below_dr ?_ _) | (with_reducible refine Below.trans ?_ (Below.mono (by with_reducible assumption) ?_)) | omega | (simp; done) | (simp; omega))
  have z2 := hb2.size
  clear hb2
  go_wp2_with fail
  refine (CO.out _ _ at0 ?_).mono ?_
  · (refine Rd.more (B := w.heap.size) ?_ (by first | omega | ((try simp only [World.size_setCell]); (try simp only [World.size_drew]); (try simp only [World.size_alloc]); omega) | (simp; done) | (simp; omega))); (repeat' (first | with_reducible assumption | (with_reducible refine Rd.drew ?_) | (with_reducible refine Rd.carry ?_ (by with_reducible assumption) ?_) | (with_reducible refine Rd.alloc ?_ ?_ _) | (with_reducible refine Rd.setCell ?_ ?_ _) | omega | (simp; done) | (simp; omega)))
  intro e w3 hq
  obtain ⟨A', c', rfl, ow3, hb3⟩ := hq
  obtain ⟨g9, rfl, hg9⟩ : ∃ g9, A' = some ⟨g9, 0, none⟩ ∧ w2.heap.size ≤ g9 := by
    obtain ⟨g, cap, h, h2, _⟩ := ow3.form (by omega)
    injection h with h3 _ _
    exact ⟨g, h3, h2⟩
  replace at0 := at0.below hb3
  replace ab0 := ab0.below hb3
  replace bk0 := bk0.carry hb3
  replace r0 := r0.carry hb3 (by omega)
  replace g0 : Below w.heap.size w w3 := by repeat' (first | with_reducible assumption | with_reducible exact Below.refl _ _ | (with_reducible refine Below.setCell ?_ ?_ _) | (with_reducible refine Below.alloc ?_ ?_ _) | (with_reducible refine Below.drew ?_) | (with_reducible refine below_dr ?_ _) | (with_reducible refine Below.trans ?_ (Below.mono (by with_reducible assumption) ?_)) | omega | (simp; done) | (simp; omega))
  have z3 := hb3.size
  clear hb3
  have ROW := own_block ow3 (q := g9) rfl
  go_wp2_with fail
  generalize hW : w3.alloc (.cells #[.slice (some ⟨g9, 0, none⟩) n c', .bool cl, .int .i64 t, .bool ff, .bool fl, .int .i64 fx, .int .i64 fy, .int .i64 lx, .int .i64 ly] 32) = W4
  have at4 : AtL w.heap.size [.slice A n c, .bool cl, .int .i64 t, .bool ff, .bool fl, .int .i64 fx, .int .i64 fy, .int .i64 lx, .int .i64 ly] W4 := by rw [← hW]; exact at0.alloc _
  have ab4 : AtL (w.heap.size + 1) [.int .i64 b0, .int .i64 b1] W4 := by rw [← hW]; exact ab0.alloc _
  have bk4 : Blk W4 (w.heap.size + 1 + 1) 32 #[.slice none 0 0, .bool false, .int .i64 0, .bool false, .bool false, .int .i64 0, .int .i64 0, .int .i64 0, .int .i64 0] := by rw [← hW]; exact bk0.alloc _
  have bm4 : Blk W4 w3.heap.size 32 #[.slice (some ⟨g9, 0, none⟩) n c', .bool cl, .int .i64 t, .bool ff, .bool fl, .int .i64 fx, .int .i64 fy, .int .i64 lx, .int .i64 ly] := by rw [← hW]; exact Blk.new _ _ _
  have ow4 : W4.ownsRow w2.heap.size 30 2 (.slice (some ⟨g9, 0, none⟩) n c') n (cellsF cPt l) := by rw [← hW]; exact ow3.alloc _
  have r4 : Rd cPt 2 W4 w.heap.size A l := by rw [← hW]; exact r0.alloc (by omega) _
  have g4 : Below w.heap.size w W4 := by rw [← hW]; repeat' (first | with_reducible assumption | with_reducible exact Below.refl _ _ | (with_reducible refine Below.setCell ?_ ?_ _) | (with_reducible refine Below.alloc ?_ ?_ _) | (with_reducible refine Below.drew ?_) | (with_reducible refine below_dr ?_ _) | (with_reducible refine Below.trans ?_ (Below.mono (by with_reducible assumption) ?_)) | omega | (simp; done) | (simp; omega))
  have z4 : W4.heap.size = w3.heap.size + 1 := by rw [← hW]; simp
  clear hW at0 ab0 bk0 ow3 r0 g0
  go_loopw [7] (fun i wr => ∃ (k : Nat) (xs : List Value), k ≤ n ∧ i = .int .i64 k ∧ AtL w.heap.size [.slice A n c, .bool cl, .int .i64 t, .bool ff, .bool fl, .int .i64 fx, .int .i64 fy, .int .i64 lx, .int .i64 ly] wr ∧ AtL (w.heap.size + 1) [.int .i64 b0, .int .i64 b1] wr ∧ Blk wr (w.heap.size + 1 + 1) 32 #[.slice none 0 0, .bool false, .int .i64 0, .bool false, .bool false, .int .i64 0, .int .i64 0, .int .i64 0, .int .i64 0] ∧ Blk wr w3.heap.size 32 #[.slice (some ⟨g9, 0, none⟩) n c', .bool cl, .int .i64 t, .bool ff, .bool fl, .int .i64 fx, .int .i64 fy, .int .i64 lx, .int .i64 ly] ∧ wr.ownsRow w2.heap.size 30 2 (.slice (some ⟨g9, 0, none⟩) n c') n xs ∧ Filled (mvF b0 b1) 2 l k xs ∧ ptsUp (l.map (mvP b0 b1)) k = true ∧ Rd cPt 2 wr w.heap.size A l ∧ Below w.heap.size w wr) (fun i _ => n - (intOf i).toNat)
  case atStart => exact ⟨0, _, Nat.zero_le _, rfl, at4, ab4, bk4, bm4, ow4, Filled.zero, rfl, r4, g4⟩
  case round =>
    clear at4 ab4 bk4 bm4 ow4 r4 g4 z4
    obtain ⟨k, xs, hk, rfl, at1, ab1, bk1, bm1, ow1, hfil, hup, r1, g1⟩ := hrel
    have HUP := Lib.hid hup
    have HX := Lib.hid (show xs.length = n * 2 from ow1.1)
    clear hup
    have zk := bk1.lt
    have zm := bm1.lt
    have za := ab1.lt
    have zt := at1.lt
    have m0 := bm1.cell 0 rfl
    by_cases hlt : k < n
    case pos =>
      obtain ⟨⟨x0, x1⟩, ha⟩ : ∃ a, l[k]? = some a := ⟨l[k]'(by have := HN.out; omega), List.getElem?_eq_getElem (by have := HN.out; omega)⟩
      obtain ⟨c1', c2', c3', c4'⟩ := okB_bounds (pts_all HPT.out ha)
      have HA := Lib.hid (show (l.map (mvP b0 b1))[k]? = some (x0 + b0, x1 + b1) by rw [List.getElem?_map, ha]; rfl)
      obtain ⟨g, o, rfl, hg, hc⟩ := r1.elem ha
      have p0 : wr.cell? ⟨g, o + k * 2, none⟩ = some (.int .i64 x0) := hc 0 _ rfl
      have p1 : wr.cell? ⟨g, o + k * 2 + 1, none⟩ = some (.int .i64 x1) := hc 1 _ rfl
      have hstep := Lib.hid (fun h => Filled.step2 hfil ha h ((rfl : mvF b0 b1 _ = _)))
      have hki : (k : Int) < (n : Int) := by omega
      have e1 : IntKind.i64.wrap (x0 + b0) = x0 + b0 := IntWalk.i64_in _ (by omega)
      have e2 : IntKind.i64.wrap (x1 + b1) = x1 + b1 := IntWalk.i64_in _ (by omega)
      clear hc ha hfil c1' c2' c3' c4' b1' b2' b3' b4'
      obtain ⟨yo0, y0⟩ : ∃ v, wr.cell? ⟨g9, k * 2, none⟩ = some v := ⟨_, (ow1.cellAt (k * 2) (by have := HX.out; omega)).trans (List.getElem?_eq_getElem (by have := HX.out; omega))⟩
      have yf0 : wr.frozen? ⟨g9, k * 2, none⟩ = false := ow1.frozenAt (k * 2)
      obtain ⟨yo1, y1⟩ : ∃ v, wr.cell? ⟨g9, k * 2 + 1, none⟩ = some v := ⟨_, (ow1.cellAt (k * 2 + 1) (by have := HX.out; omega)).trans (List.getElem?_eq_getElem (by have := HX.out; omega))⟩
      have yf1 : wr.frozen? ⟨g9, k * 2 + 1, none⟩ = false := ow1.frozenAt (k * 2 + 1)
      have k0 := at1.cell 0 rfl
      have j0 := ab1.cell 0 rfl
      have j1 := ab1.cell 1 rfl
      have CP := Lib.hid (fun w => specValidPt_any (x0 + b0) (x1 + b1) w)
      go_wp2_with fail
      go_still_tail 23, (by kernel_rfl)
      change wpList _ _ _ _ _ wr.drew
      go_wp2_with fail
      clear p0 p1 y0 y1 yf0 yf1 k0 j0 j1 m0 e1 e2
      generalize hW : ((wr.setCell ⟨g9, k * 2, none⟩ (.int .i64 (x0 + b0))).setCell ⟨g9, k * 2 + 1, none⟩ (.int .i64 (x1 + b1))).drew = W7
      have at7 : AtL w.heap.size [.slice (some ⟨g, o, none⟩) n c, .bool cl, .int .i64 t, .bool ff, .bool fl, .int .i64 fx, .int .i64 fy, .int .i64 lx, .int .i64 ly] W7 := by rw [← hW]; exact AtL.drew (AtL.far (AtL.far at1 (by omega) _ _) (by omega) _ _)
      have ab7 : AtL (w.heap.size + 1) [.int .i64 b0, .int .i64 b1] W7 := by rw [← hW]; exact AtL.drew (AtL.far (AtL.far ab1 (by omega) _ _) (by omega) _ _)
      have bk7 : Blk W7 (w.heap.size + 1 + 1) 32 #[.slice none 0 0, .bool false, .int .i64 0, .bool false, .bool false, .int .i64 0, .int .i64 0, .int .i64 0, .int .i64 0] := by rw [← hW]; exact Blk.drew (Blk.far (Blk.far bk1 (by simp only; omega) _) (by simp only; omega) _)
      have bm7 : Blk W7 w3.heap.size 32 #[.slice (some ⟨g9, 0, none⟩) n c', .bool cl, .int .i64 t, .bool ff, .bool fl, .int .i64 fx, .int .i64 fy, .int .i64 lx, .int .i64 ly] := by rw [← hW]; exact Blk.drew (Blk.far (Blk.far bm1 (by simp only; omega) _) (by simp only; omega) _)
      have ow7 : W7.ownsRow w2.heap.size 30 2 (.slice (some ⟨g9, 0, none⟩) n c') n ((xs.set (k * 2) (.int .i64 (x0 + b0))).set (k * 2 + 1) (.int .i64 (x1 + b1))) := by rw [← hW]; exact own_drew (World.ownsRow.stored (World.ownsRow.stored ow1 (k * 2) (.int .i64 (x0 + b0))).1 (k * 2 + 1) (.int .i64 (x1 + b1))).1
      have r7 : Rd cPt 2 W7 w.heap.size (some ⟨g, o, none⟩) l := by rw [← hW]; repeat' (first | with_reducible assumption | (with_reducible refine Rd.drew ?_) | (with_reducible refine Rd.carry ?_ (by with_reducible assumption) ?_) | (with_reducible refine Rd.alloc ?_ ?_ _) | (with_reducible refine Rd.setCell ?_ ?_ _) | omega | (simp; done) | (simp; omega))
      have g7 : Below w.heap.size w W7 := by rw [← hW]; repeat' (first | with_reducible assumption | with_reducible exact Below.refl _ _ | (with_reducible refine Below.setCell ?_ ?_ _) | (with_reducible refine Below.alloc ?_ ?_ _) | (with_reducible refine Below.drew ?_) | (with_reducible refine below_dr ?_ _) | (with_reducible refine Below.trans ?_ (Below.mono (by with_reducible assumption) ?_)) | omega | (simp; done) | (simp; omega))
      clear hW at1 ab1 bk1 bm1 ow1 r1 g1
      rcases hv : okB (x0 + b0) (x1 + b1) with _ | _
      case false =>
        have z7 := g7.size
        have zz7 := r7
        simp only [hv] at CP
        refine (CP.out _).mono ?_
        rintro e w8 ⟨rfl, hb8⟩
        replace at7 := at7.below hb8
        replace ab7 := ab7.below hb8
        replace bk7 := bk7.carry hb8
        replace bm7 := bm7.carry hb8
        replace ow7 := own_stays ow7 hb8
        replace r7 := r7.carry hb8 (by omega)
        replace g7 : Below w.heap.size w w8 := by repeat' (first | with_reducible assumption | with_reducible exact Below.refl _ _ | (with_reducible refine Below.setCell ?_ ?_ _) | (with_reducible refine Below.alloc ?_ ?_ _) | (with_reducible refine Below.drew ?_) | (with_reducible refine below_dr ?_ _) | (with_reducible refine Below.trans ?_ (Below.mono (by with_reducible assumption) ?_)) | omega | (simp; done) | (simp; omega))
        have z8 := hb8.size
        have zk8 := bk7.lt
        have H := Lib.hid (pts_bad (l := l.map (mvP b0 b1)) (n := n) hlt (p_no HA.out hv))
        clear hv
        have y0 := bk7.cell 0 rfl
        have y1 := bk7.cell 1 rfl
        have y2 := bk7.cell 2 rfl
        have y3 := bk7.cell 3 rfl
        have y4 := bk7.cell 4 rfl
        have y5 := bk7.cell 5 rfl
        have y6 := bk7.cell 6 rfl
        have y7 := bk7.cell 7 rfl
        have y8 := bk7.cell 8 rfl
        have u0 := bk7.frozen 0
        have u1 := bk7.frozen 1
        have u2 := bk7.frozen 2
        have u3 := bk7.frozen 3
        have u4 := bk7.frozen 4
        have u5 := bk7.frozen 5
        have u6 := bk7.frozen 6
        have u7 := bk7.frozen 7
        have u8 := bk7.frozen 8
        go_wp2_with fail
        refine bodyPost_ret (v := .tuple #[.agg #[.slice none 0 0, .bool false, .int .i64 0, .bool false, .bool false, .int .i64 0, .int .i64 0, .int .i64 0, .int .i64 0], .int .i64 2]) (by simp [results, Try.results24, go_sem, *]) rfl ?_
        rw [H.out]
        show Ret_Curve _ _ _ _ _ _ _ _ _ _ _ _ _
        refine ⟨none, 0, rfl, ⟨rfl, .inl ⟨rfl, rfl⟩⟩, ?_⟩
        repeat' (first | with_reducible assumption | with_reducible exact Below.refl _ _ | (with_reducible refine Below.setCell ?_ ?_ _) | (with_reducible refine Below.alloc ?_ ?_ _) | (with_reducible refine Below.drew ?_) | (with_reducible refine below_dr ?_ _) | (with_reducible refine Below.trans ?_ (Below.mono (by with_reducible assumption) ?_)) | omega | (simp; done) | (simp; omega))
      case true =>
        have z7 := g7.size
        have zz7 := r7
        simp only [hv] at CP
        refine (CP.out _).mono ?_
        rintro e w8 ⟨rfl, hb8⟩
        replace at7 := at7.below hb8
        replace ab7 := ab7.below hb8
        replace bk7 := bk7.carry hb8
        replace bm7 := bm7.carry hb8
        replace ow7 := own_stays ow7 hb8
        replace r7 := r7.carry hb8 (by omega)
        replace g7 : Below w.heap.size w w8 := by repeat' (first | with_reducible assumption | with_reducible exact Below.refl _ _ | (with_reducible refine Below.setCell ?_ ?_ _) | (with_reducible refine Below.alloc ?_ ?_ _) | (with_reducible refine Below.drew ?_) | (with_reducible refine below_dr ?_ _) | (with_reducible refine Below.trans ?_ (Below.mono (by with_reducible assumption) ?_)) | omega | (simp; done) | (simp; omega))
        have z8 := hb8.size
        have zk8 := bk7.lt
        have H := Lib.hid (pts_succ HUP.out (p_yes HA.out hv))
        clear hv
        go_wp2_with fail
        go_roundw
        case rel => exact ⟨k + 1, _, by omega, by go_num, at7, ab7, bk7, bm7, ow7, hstep.out (by have := HX.out; omega), H.out, r7, g7⟩
        case measure => first | (simp [intOf]; done) | (simp [intOf]; omega)
    case neg =>
      obtain rfl : n = k := by omega
      have hx := Filled.done (f := mvF b0 b1) (s := 2) (l := l) (fun a => rfl) (by omega) (by rw [← HN.out]; exact hfil) (by rw [← HN.out]; exact HX.out)
      rw [cellsF_mv] at hx
      subst hx
      clear hfil HX
      have y0 := bk1.cell 0 rfl
      have y1 := bk1.cell 1 rfl
      have y2 := bk1.cell 2 rfl
      have y3 := bk1.cell 3 rfl
      have y4 := bk1.cell 4 rfl
      have y5 := bk1.cell 5 rfl
      have y6 := bk1.cell 6 rfl
      have y7 := bk1.cell 7 rfl
      have y8 := bk1.cell 8 rfl
      have n0 := bm1.cell 0 rfl
      have n1 := bm1.cell 1 rfl
      have n2 := bm1.cell 2 rfl
      have n3 := bm1.cell 3 rfl
      have n4 := bm1.cell 4 rfl
      have n5 := bm1.cell 5 rfl
      have n6 := bm1.cell 6 rfl
      have n7 := bm1.cell 7 rfl
      have n8 := bm1.cell 8 rfl
      have u0 := bk1.frozen 0
      have u1 := bk1.frozen 1
      have u2 := bk1.frozen 2
      have u3 := bk1.frozen 3
      have u4 := bk1.frozen 4
      have u5 := bk1.frozen 5
      have u6 := bk1.frozen 6
      have u7 := bk1.frozen 7
      have u8 := bk1.frozen 8
      have ROW2 := Lib.hid (fun q hq => own_block ow1 (q := q) hq)
      go_wp2_with fail
      refine bodyPost_ret (v := .tuple #[.agg #[.slice (some ⟨g9, 0, none⟩) n c', .bool cl, .int .i64 t, .bool ff, .bool fl, .int .i64 fx, .int .i64 fy, .int .i64 lx, .int .i64 ly], .int .i64 0]) (by simp [results, Try.results24, go_sem, *]) rfl ?_
      rw [HUP.out]
      show Ret_Curve _ _ _ _ _ _ _ _ _ _ _ _ _
      have hlm : (l.map (mvP b0 b1)).length = n := by rw [List.length_map]; exact HN.out.symm
      unfold Ret_Curve
      rw [hlm]
      refine ⟨_, _, rfl, ?_, ?_⟩
      · have ow2 := own_base (base := w.heap.size) ow1 (by omega)
        repeat' (first | with_reducible assumption | (with_reducible refine own_drew ?_) | (with_reducible refine own_stays ?_ (by with_reducible assumption)) | (with_reducible refine World.ownsRow.alloc ?_ _) | (with_reducible refine own_keep ?_ ?_ _) | (intro q hq h8; have h9 := ROW2.out q hq; dsimp only at h8; omega))
      · repeat' (first | with_reducible assumption | with_reducible exact Below.refl _ _ | (with_reducible refine Below.setCell ?_ ?_ _) | (with_reducible refine Below.alloc ?_ ?_ _) | (with_reducible refine Below.drew ?_) | (with_reducible refine below_dr ?_ _) | (with_reducible refine Below.trans ?_ (Below.mono (by with_reducible assumption) ?_)) | omega | (simp; done) | (simp; omega))
set_option maxRecDepth 100000 in
set_option maxHeartbeats 3200000 in
theorem specMove_f (l : List APt) (A : Option Addr) (c : Nat) (cl : Bool) (t : Int) (ff fl : Bool) (fx fy lx ly b0 b1 : Int) (w : World) (hv : (vCur l cl t ff fl fx fy lx ly && okB b0 b1) = false) (hl : l.length ≤ 1048576) (r : Rd cPt 2 w w.heap.size A l) :
    Calls Try.prog 24 #[.agg #[.slice A l.length c, .bool cl, .int .i64 t, .bool ff, .bool fl, .int .i64 fx, .int .i64 fy, .int .i64 lx, .int .i64 ly], .agg #[.int .i64 b0, .int .i64 b1]] w (Ret_Curve false 0 false false 0 0 0 0 1 [] w) := by
  have CV := Lib.hid (fun b w at0 r => l06Ok_any l A c cl t ff fl fx fy lx ly b w hl at0 r)
  have CB := Lib.hid (fun w => specValidPt_any b0 b1 w)
  generalize vCur l cl t ff fl fx fy lx ly = v at CV hv
  generalize okB b0 b1 = u at CB hv
  clear hl
  generalize l.length = n at CV ⊢
  rcases v with _ | _
  case false =>
    clear hv
    go_enter Try.func24, Try.ntmps24
    go_wp2_with fail
    have bk0 : Blk (((w.alloc (.cells #[.slice A n c, .bool cl, .int .i64 t, .bool ff, .bool fl, .int .i64 fx, .int .i64 fy, .int .i64 lx, .int .i64 ly] 32)).alloc (.cells #[.int .i64 b0, .int .i64 b1] 30)).alloc (.cells #[.slice none 0 0, .bool false, .int .i64 0, .bool false, .bool false, .int .i64 0, .int .i64 0, .int .i64 0, .int .i64 0] 32)) (w.heap.size + 1 + 1) 32 #[.slice none 0 0, .bool false, .int .i64 0, .bool false, .bool false, .int .i64 0, .int .i64 0, .int .i64 0, .int .i64 0] := Blk.newAt _ _ _ (by simp)
    refine (CV.out _ _ (((AtL.new w _ _).alloc _).alloc _) ?_).mono ?_
    · (refine Rd.more (B := w.heap.size) ?_ (by first | omega | ((try simp only [World.size_setCell]); (try simp only [World.size_drew]); (try simp only [World.size_alloc]); omega) | (simp; done) | (simp; omega))); (repeat' (first | with_reducible assumption | (with_reducible refine Rd.drew ?_) | (with_reducible refine Rd.carry ?_ (by with_reducible assumption) ?_) | (with_reducible refine Rd.alloc ?_ ?_ _) | (with_reducible refine Rd.setCell ?_ ?_ _) | omega | (simp; done) | (simp; omega)))
    rintro e w1 ⟨rfl, hb1⟩
    replace bk0 := bk0.carry hb1
    have z1 := hb1.size
    (try simp only [World.size_alloc] at z1)
    have y0 := bk0.cell 0 rfl
    have y1 := bk0.cell 1 rfl
    have y2 := bk0.cell 2 rfl
    have y3 := bk0.cell 3 rfl
    have y4 := bk0.cell 4 rfl
    have y5 := bk0.cell 5 rfl
    have y6 := bk0.cell 6 rfl
    have y7 := bk0.cell 7 rfl
    have y8 := bk0.cell 8 rfl
    have u0 := bk0.frozen 0
    have u1 := bk0.frozen 1
    have u2 := bk0.frozen 2
    have u3 := bk0.frozen 3
    have u4 := bk0.frozen 4
    have u5 := bk0.frozen 5
    have u6 := bk0.frozen 6
    have u7 := bk0.frozen 7
    have u8 := bk0.frozen 8
    have lt1 := bk0.lt
    go_wp2_with fail
    refine bodyPost_ret (v := .tuple #[.agg #[.slice none 0 0, .bool false, .int .i64 0, .bool false, .bool false, .int .i64 0, .int .i64 0, .int .i64 0, .int .i64 0], .int .i64 1]) (by simp [results, Try.results24, go_sem, *]) rfl ⟨none, 0, rfl, ⟨rfl, .inl ⟨rfl, rfl⟩⟩, ?_⟩
    repeat' (first | with_reducible assumption | with_reducible exact Below.refl _ _ | (with_reducible refine Below.setCell ?_ ?_ _) | (with_reducible refine Below.alloc ?_ ?_ _) | (with_reducible refine Below.drew ?_) | (with_reducible refine below_dr ?_ _) | (with_reducible refine Below.trans ?_ (Below.mono (by with_reducible assumption) ?_)) | omega | (simp; done) | (simp; omega))
  case true =>
    obtain rfl : u = false := by simpa using hv
    clear hv
    go_enter Try.func24, Try.ntmps24
    go_wp2_with fail
    have bk0 : Blk (((w.alloc (.cells #[.slice A n c, .bool cl, .int .i64 t, .bool ff, .bool fl, .int .i64 fx, .int .i64 fy, .int .i64 lx, .int .i64 ly] 32)).alloc (.cells #[.int .i64 b0, .int .i64 b1] 30)).alloc (.cells #[.slice none 0 0, .bool false, .int .i64 0, .bool false, .bool false, .int .i64 0, .int .i64 0, .int .i64 0, .int .i64 0] 32)) (w.heap.size + 1 + 1) 32 #[.slice none 0 0, .bool false, .int .i64 0, .bool false, .bool false, .int .i64 0, .int .i64 0, .int .i64 0, .int .i64 0] := Blk.newAt _ _ _ (by simp)
    refine (CV.out _ _ (((AtL.new w _ _).alloc _).alloc _) ?_).mono ?_
    · (refine Rd.more (B := w.heap.size) ?_ (by first | omega | ((try simp only [World.size_setCell]); (try simp only [World.size_drew]); (try simp only [World.size_alloc]); omega) | (simp; done) | (simp; omega))); (repeat' (first | with_reducible assumption | (with_reducible refine Rd.drew ?_) | (with_reducible refine Rd.carry ?_ (by with_reducible assumption) ?_) | (with_reducible refine Rd.alloc ?_ ?_ _) | (with_reducible refine Rd.setCell ?_ ?_ _) | omega | (simp; done) | (simp; omega)))
    rintro e w1 ⟨rfl, hb1⟩
    have ab0 : AtL (w.heap.size + 1) [.int .i64 b0, .int .i64 b1] w1 := AtL.below ((AtL.newAt (by simp)).alloc _) hb1
    have j0 := ab0.cell 0 rfl
    have j1 := ab0.cell 1 rfl
    have lt1 := ab0.lt
    replace bk0 := bk0.carry hb1
    have z1 := hb1.size
    (try simp only [World.size_alloc] at z1)
    go_wp2_with fail
    refine (CB.out _).mono ?_
    rintro e w2 ⟨rfl, hb2⟩
    replace bk0 := bk0.carry hb2
    have z2 := hb2.size
    clear j0 j1 lt1 ab0
    have y0 := bk0.cell 0 rfl
    have y1 := bk0.cell 1 rfl
    have y2 := bk0.cell 2 rfl
    have y3 := bk0.cell 3 rfl
    have y4 := bk0.cell 4 rfl
    have y5 := bk0.cell 5 rfl
    have y6 := bk0.cell 6 rfl
    have y7 := bk0.cell 7 rfl
    have y8 := bk0.cell 8 rfl
    have u0 := bk0.frozen 0
    have u1 := bk0.frozen 1
    have u2 := bk0.frozen 2
    have u3 := bk0.frozen 3
    have u4 := bk0.frozen 4
    have u5 := bk0.frozen 5
    have u6 := bk0.frozen 6
    have u7 := bk0.frozen 7
    have u8 := bk0.frozen 8
    have lt1 := bk0.lt
    go_wp2_with fail
    refine bodyPost_ret (v := .tuple #[.agg #[.slice none 0 0, .bool false, .int .i64 0, .bool false, .bool false, .int .i64 0, .int .i64 0, .int .i64 0, .int .i64 0], .int .i64 1]) (by simp [results, Try.results24, go_sem, *]) rfl ⟨none, 0, rfl, ⟨rfl, .inl ⟨rfl, rfl⟩⟩, ?_⟩
    repeat' (first | with_reducible assumption | with_reducible exact Below.refl _ _ | (with_reducible refine Below.setCell ?_ ?_ _) | (with_reducible refine Below.alloc ?_ ?_ _) | (with_reducible refine Below.drew ?_) | (with_reducible refine below_dr ?_ _) | (with_reducible refine Below.trans ?_ (Below.mono (by with_reducible assumption) ?_)) | omega | (simp; done) | (simp; omega))
end Go.Proofs.Ythedimnjbfeaiaa
