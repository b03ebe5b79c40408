/- Walks: a curve moved, the program's side. -/
import Derived.Test.YthedimnjbfeaiaaKz
import Derived.Test.YthedimnjbfeaiaaKv2
namespace Go.Proofs.Ythedimnjbfeaiaa
open Go.RowKit
set_option linter.unusedVariables false
def mvP (b0 b1 : Int) (a : APt) : APt := (a.1 + b0, a.2 + b1)
def mvF (b0 b1 : Int) (a : APt) : List Value := cPt (mvP b0 b1 a)
theorem cellsF_mv (b0 b1 : Int) (l : List APt) : cellsF (mvF b0 b1) l = cellsF cPt (l.map (mvP b0 b1)) := by
  unfold cellsF
  first | rw [List.flatMap_map]; rfl | (simp [List.flatMap_map, mvF]; done) | (induction l with | nil => rfl | cons a l ih => simp_all [mvF])
theorem cell_set_ne (w : World) (v : Value) {b i c j : Nat} (h : ¬ b = c) : (w.setCell ⟨c, j, none⟩ v).cell? ⟨b, i, none⟩ = w.cell? ⟨b, i, none⟩ := World.cell?_setCell_other w _ _ v (fun e => h (by injection e with h1; first | exact h1 | exact h1.symm))
theorem AtL.keep {g b : Nat} {vs : List Value} {wx wy : World} (h : AtL g vs wx) (hb : Below b wx wy) (hg : g < b) : AtL g vs wy :=
  ⟨fun i v hv => by rw [← h.1 i v hv]; unfold World.cell?; simp only [hb.block g hg], Nat.lt_of_lt_of_le h.2 hb.size⟩
set_option maxHeartbeats 1600000 in
theorem plus_any (a b c d : Int) (w : World) (h1 : -262144 ≤ a ∧ a ≤ 262144) (h2 : -262144 ≤ b ∧ b ≤ 262144) (h3 : -262144 ≤ c ∧ c ≤ 262144) (h4 : -262144 ≤ d ∧ d ≤ 262144) :
    Calls Try.prog 71 #[.agg #[.int .i64 a, .int .i64 b], .agg #[.int .i64 c, .int .i64 d]] w fun e w' => e = .returned (.agg #[.int .i64 (a + c), .int .i64 (b + d)]) ∧ Below w.heap.size w w' := by
  obtain ⟨h1, k1⟩ := h1
  obtain ⟨h2, k2⟩ := h2
  obtain ⟨h3, k3⟩ := h3
  obtain ⟨h4, k4⟩ := h4
  go_enter Try.func71, Try.ntmps71
  go_wp2
  refine bodyPost_ret (v := .agg #[.int .i64 (a + c), .int .i64 (b + d)]) (by simp [results, Try.results71, go_sem]) rfl ⟨rfl, ?_⟩
  repeat' (first | assumption | exact Below.refl _ _ | (refine Below.setCell ?_ ?_ _) | (refine Below.alloc ?_ ?_ _) | (refine below_dr ?_ _) | exact Nat.le_refl _ | (simp; done) | (simp; omega))
set_option maxRecDepth 100000 in
set_option maxHeartbeats 12800000 in
theorem implMove_go (l : List APt) (A : Option Addr) (c : Nat) (cl : Bool) (t : Int) (ff fl : Bool) (fx fy lx ly b0 b1 : Int) (w : World) (hv : vCur l cl t ff fl fx fy lx ly = true) (ho : okB b0 b1 = true) (hl : l.length ≤ 1048576) (r : Rd cPt 2 w w.heap.size A l) :
    Calls Try.prog 26 #[.agg #[.slice A l.length c, .bool cl, .int .i64 t, .bool ff, .bool fl, .int .i64 fx, .int .i64 fy, .int .i64 lx, .int .i64 ly], .agg #[.int .i64 b0, .int .i64 b1]] w (cond (ptsUp (l.map (mvP b0 b1)) l.length) (Ret_Curve cl t ff fl fx fy lx ly 0 (l.map (mvP b0 b1)) w) (Ret_Curve false 0 false false 0 0 0 0 2 [] w)) := by
  obtain ⟨i0, hi0, hz0, hz1, hz2⟩ := info_parts infoPt
  obtain ⟨h1, h2, _⟩ := vC_parts hv
  have hlen := len_yes h1
  obtain ⟨b1', b2', b3', b4'⟩ := okB_bounds ho
  have HPT := Lib.hid h2
  have CV := Lib.hid (fun w r => implValidCurve_any l A c cl t ff fl fx fy lx ly w hl r)
  simp only [hv] at CV
  have CB := Lib.hid (fun w => implValidPt_any b0 b1 w)
  simp only [ho] at CB
  have CW := Lib.hid (fun A c w (r : Rd cPt 2 w w.heap.size A (l.map (mvP b0 b1))) => validPts_rd (l.map (mvP b0 b1)) A c w (by rw [List.length_map]; exact hl) r)
  simp only [List.length_map] at CW
  obtain ⟨n, hn⟩ : ∃ n, n = l.length := ⟨_, rfl⟩
  rw [← hn] at CV CW hlen
  rw [← hn]
  obtain ⟨v, hvv⟩ : ∃ v, v = ptsUp (l.map (mvP b0 b1)) n := ⟨_, rfl⟩
  rw [← hvv] at CW
  rw [← hvv]
  have HN := Lib.hid hn
  clear hn hvv hv h1 h2 ho hl
  have hmk := fun W => run_make_rowN (P := Try.prog) 29 30 i0 _ Try.underlying29 hi0 hz0 .i64 .i64 n n (Nat.le_refl _) (by rw [hz2]; omega) (by omega) W
  rw [hz1] at hmk
  have hsz : (madeCells (Value.cells (.agg #[.int .i64 0, .int .i64 0])) (n * 2)).size = n * 2 := size_madeCells _ _
  generalize hZ : madeCells (Value.cells (.agg #[.int .i64 0, .int .i64 0])) (n * 2) = Z at hmk hsz
  have HSZ := Lib.hid hsz
  clear hZ hsz hi0 hz0 hz1 hz2
  go_enter Try.func26, Try.ntmps26
  go_wp2_with fail
  generalize hW : ((w.alloc (.cells #[.slice A n c, .bool cl, .int .i64 t, .bool ff, .bool fl, .int .i64 fx, .int .i64 fy, .int .i64 lx, .int .i64 ly] 32)).alloc (.cells #[.int .i64 b0, .int .i64 b1] 30)).alloc (.cells #[.slice none 0 0, .bool false, .int .i64 0, .bool false, .bool false, .int .i64 0, .int .i64 0, .int .i64 0, .int .i64 0] 32) = W0
  have at0 : AtL w.heap.size [.slice A n c, .bool cl, .int .i64 t, .bool ff, .bool fl, .int .i64 fx, .int .i64 fy, .int .i64 lx, .int .i64 ly] W0 := by rw [← hW]; exact ((AtL.new w _ _).alloc _).alloc _
  have ab0 : AtL (w.heap.size + 1) [.int .i64 b0, .int .i64 b1] W0 := by rw [← hW]; exact (AtL.newAt (by simp)).alloc _
  have bk0 : Blk W0 (w.heap.size + 1 + 1) 32 #[.slice none 0 0, .bool false, .int .i64 0, .bool false, .bool false, .int .i64 0, .int .i64 0, .int .i64 0, .int .i64 0] := by rw [← hW]; exact Blk.newAt _ _ _ (by simp)
  have r0 : Rd cPt 2 W0 w.heap.size A l := by rw [← hW]; exact ((r.alloc (Nat.le_refl _) _).alloc (by simp) _).alloc (by simp; omega) _
  have g0 : Below w.heap.size w W0 := by rw [← hW]; repeat' (first | with_reducible assumption | with_reducible exact Below.refl _ _ | (with_reducible refine Below.setCell ?_ ?_ _) | (with_reducible refine Below.alloc ?_ ?_ _) | (with_reducible refine Below.drew ?_) | (with_reducible refine below_dr ?_ _) | (with_reducible refine Below.trans ?_ (Below.mono (by with_reducible assumption) ?_)) | omega | (simp; done) | (simp; omega))
  have z0 : W0.heap.size = w.heap.size + 1 + 1 + 1 := by rw [← hW]; simp
  clear hW r
  have k0 := at0.cell 0 rfl
  have k1 := at0.cell 1 rfl
  have k2 := at0.cell 2 rfl
  have k3 := at0.cell 3 rfl
  have k4 := at0.cell 4 rfl
  have k5 := at0.cell 5 rfl
  have k6 := at0.cell 6 rfl
  have k7 := at0.cell 7 rfl
  have k8 := at0.cell 8 rfl
  have lt0 := at0.lt
  refine (CV.out _ ?_).mono ?_
  · (refine Rd.more (B := w.heap.size) ?_ (by first | omega | ((try simp only [World.size_setCell]); (try simp only [World.size_drew]); (try simp only [World.size_alloc]); omega) | (simp; done) | (simp; omega))); (repeat' (first | with_reducible assumption | (with_reducible refine Rd.drew ?_) | (with_reducible refine Rd.carry ?_ (by with_reducible assumption) ?_) | (with_reducible refine Rd.alloc ?_ ?_ _) | (with_reducible refine Rd.setCell ?_ ?_ _) | omega | (simp; done) | (simp; omega)))
  rintro e w1 ⟨rfl, hb1⟩
  clear k0 k1 k2 k3 k4 k5 k6 k7 k8
  replace at0 := at0.below hb1
  replace ab0 := ab0.below hb1
  replace bk0 := bk0.carry hb1
  replace r0 := r0.carry hb1 (by omega)
  replace g0 : Below w.heap.size w w1 := by repeat' (first | with_reducible assumption | with_reducible exact Below.refl _ _ | (with_reducible refine Below.setCell ?_ ?_ _) | (with_reducible refine Below.alloc ?_ ?_ _) | (with_reducible refine Below.drew ?_) | (with_reducible refine below_dr ?_ _) | (with_reducible refine Below.trans ?_ (Below.mono (by with_reducible assumption) ?_)) | omega | (simp; done) | (simp; omega))
  have z1 := hb1.size
  clear lt0 hb1
  have j0 := ab0.cell 0 rfl
  have j1 := ab0.cell 1 rfl
  have lt1 := ab0.lt
  go_wp2_with fail
  refine (CB.out _).mono ?_
  rintro e w2 ⟨rfl, hb2⟩
  clear j0 j1 lt1
  replace at0 := at0.below hb2
  replace ab0 := ab0.below hb2
  replace bk0 := bk0.carry hb2
  replace r0 := r0.carry hb2 (by omega)
  replace g0 : Below w.heap.size w w2 := by repeat' (first | with_reducible assumption | with_reducible exact Below.refl _ _ | (with_reducible refine Below.setCell ?_ ?_ _) | (with_reducible refine Below.alloc ?_ ?_ _) | (with_reducible refine Below.drew ?_) | (with_reducible refine below_dr ?_ _) | (with_reducible refine Below.trans ?_ (Below.mono (by with_reducible assumption) ?_)) | omega | (simp; done) | (simp; omega))
  have z2 := hb2.size
  clear hb2
  have k0 := at0.cell 0 rfl
  have k1 := at0.cell 1 rfl
  have k2 := at0.cell 2 rfl
  have k3 := at0.cell 3 rfl
  have k4 := at0.cell 4 rfl
  have k5 := at0.cell 5 rfl
  have k6 := at0.cell 6 rfl
  have k7 := at0.cell 7 rfl
  have k8 := at0.cell 8 rfl
  have lt0 := at0.lt
  go_wp2_with fail
  clear hmk lt0
  clear k0 k1 k2 k3 k4 k5 k6 k7 k8
  generalize hW : w2.alloc (.cells #[.slice (some ⟨w2.heap.size + 1, 0, none⟩) n n, .bool cl, .int .i64 t, .bool ff, .bool fl, .int .i64 fx, .int .i64 fy, .int .i64 lx, .int .i64 ly] 32) = W5
  have z5 : W5.heap.size = w2.heap.size + 1 := by rw [← hW]; simp
  have hown0 := own_made W5 (w2.heap.size + 1) 30 2 n Z (by omega) (by unfold maxLen; omega) HSZ.out
  rw [z5] at hown0
  generalize hV : W5.alloc (.cells Z 30) = W6 at hown0
  have z6 : W6.heap.size = w2.heap.size + 1 + 1 := by rw [← hV]; simp; omega
  have at6 : AtL w.heap.size [.slice A n c, .bool cl, .int .i64 t, .bool ff, .bool fl, .int .i64 fx, .int .i64 fy, .int .i64 lx, .int .i64 ly] W6 := by rw [← hV, ← hW]; exact (at0.alloc _).alloc _
  have ab6 : AtL (w.heap.size + 1) [.int .i64 b0, .int .i64 b1] W6 := by rw [← hV, ← hW]; exact (ab0.alloc _).alloc _
  have bk6 : Blk W6 (w.heap.size + 1 + 1) 32 #[.slice none 0 0, .bool false, .int .i64 0, .bool false, .bool false, .int .i64 0, .int .i64 0, .int .i64 0, .int .i64 0] := by rw [← hV, ← hW]; exact (bk0.alloc _).alloc _
  have bm6 : Blk W6 w2.heap.size 32 #[.slice (some ⟨w2.heap.size + 1, 0, none⟩) n n, .bool cl, .int .i64 t, .bool ff, .bool fl, .int .i64 fx, .int .i64 fy, .int .i64 lx, .int .i64 ly] := by rw [← hV, ← hW]; exact (Blk.new _ _ _).alloc _
  have r6 : Rd cPt 2 W6 w.heap.size A l := by rw [← hV, ← hW]; exact (r0.alloc (by omega) _).alloc (by simp; omega) _
  have g6 : Below w.heap.size w W6 := by rw [← hV, ← hW]; repeat' (first | with_reducible assumption | with_reducible exact Below.refl _ _ | (with_reducible refine Below.setCell ?_ ?_ _) | (with_reducible refine Below.alloc ?_ ?_ _) | (with_reducible refine Below.drew ?_) | (with_reducible refine below_dr ?_ _) | (with_reducible refine Below.trans ?_ (Below.mono (by with_reducible assumption) ?_)) | omega | (simp; done) | (simp; omega))
  clear hV hW at0 ab0 bk0 r0 g0 z5 W5
  go_loopw [27] (fun i wr => ∃ (k : Nat) (xs : List Value), k ≤ n ∧ i = .int .i64 k ∧ AtL w.heap.size [.slice A n c, .bool cl, .int .i64 t, .bool ff, .bool fl, .int .i64 fx, .int .i64 fy, .int .i64 lx, .int .i64 ly] wr ∧ AtL (w.heap.size + 1) [.int .i64 b0, .int .i64 b1] wr ∧ Blk wr (w.heap.size + 1 + 1) 32 #[.slice none 0 0, .bool false, .int .i64 0, .bool false, .bool false, .int .i64 0, .int .i64 0, .int .i64 0, .int .i64 0] ∧ Blk wr w2.heap.size 32 #[.slice (some ⟨w2.heap.size + 1, 0, none⟩) n n, .bool cl, .int .i64 t, .bool ff, .bool fl, .int .i64 fx, .int .i64 fy, .int .i64 lx, .int .i64 ly] ∧ wr.ownsRow (w2.heap.size + 1) 30 2 (.slice (some ⟨w2.heap.size + 1, 0, none⟩) n n) n xs ∧ Filled (mvF b0 b1) 2 l k xs ∧ Rd cPt 2 wr w.heap.size A l ∧ Below w.heap.size w wr ∧ w2.heap.size + 1 < wr.heap.size) (fun i _ => n - (intOf i).toNat)
  case atStart => exact ⟨0, _, Nat.zero_le _, rfl, at6, ab6, bk6, bm6, hown0, Filled.zero, r6, g6, by omega⟩
  case round =>
    clear at6 ab6 bk6 bm6 hown0 r6 g6 z6
    obtain ⟨k, xs, hk, rfl, at1, ab1, bk1, bm1, ow1, hfil, r1, g1, zw⟩ := hrel
    have hxl : xs.length = n * 2 := ow1.1
    have HX := Lib.hid hxl
    clear hxl
    have zk := bk1.lt
    have zm := bm1.lt
    have za := ab1.lt
    by_cases hlt : k < n
    case pos =>
      obtain ⟨⟨x0, x1⟩, ha⟩ : ∃ a, l[k]? = some a := ⟨l[k]'(by have := HN.out; omega), List.getElem?_eq_getElem (by have := HN.out; omega)⟩
      obtain ⟨c1', c2', c3', c4'⟩ := okB_bounds (pts_all HPT.out ha)
      obtain ⟨g, o, rfl, hg, hc⟩ := r1.elem ha
      have p0 : wr.cell? ⟨g, o + k * 2, none⟩ = some (.int .i64 x0) := hc 0 _ rfl
      have p1 : wr.cell? ⟨g, o + k * 2 + 1, none⟩ = some (.int .i64 x1) := hc 1 _ rfl
      have hstep := Lib.hid (fun h => Filled.step2 hfil ha h ((rfl : mvF b0 b1 _ = _)))
      have hki : (k : Int) < (n : Int) := by omega
      have CP := Lib.hid (fun w => plus_any x0 x1 b0 b1 w ⟨by omega, by omega⟩ ⟨by omega, by omega⟩ ⟨by omega, by omega⟩ ⟨by omega, by omega⟩)
      clear hc ha hfil c1' c2' c3' c4' b1' b2' b3' b4'
      go_wp2_with fail
      clear p0 p1
      generalize hW : wr.alloc (.cells #[.int .i64 x0, .int .i64 x1] 30) = W7
      have m7 : W7.cell? ⟨w2.heap.size, 0, none⟩ = some (.slice (some ⟨w2.heap.size + 1, 0, none⟩) n n) := by rw [← hW]; exact (bm1.alloc _).cell 0 rfl
      have a70 : W7.cell? ⟨wr.heap.size, 0, none⟩ = some (.int .i64 x0) := by rw [← hW]; exact (AtL.new _ [.int .i64 x0, .int .i64 x1] _).cell 0 rfl
      have a71 : W7.cell? ⟨wr.heap.size, 1, none⟩ = some (.int .i64 x1) := by rw [← hW]; exact (AtL.new _ [.int .i64 x0, .int .i64 x1] _).cell 1 rfl
      have b70 : W7.cell? ⟨w.heap.size + 1, 0, none⟩ = some (.int .i64 b0) := by rw [← hW]; exact (ab1.alloc _).cell 0 rfl
      have b71 : W7.cell? ⟨w.heap.size + 1, 1, none⟩ = some (.int .i64 b1) := by rw [← hW]; exact (ab1.alloc _).cell 1 rfl
      have at7 : AtL w.heap.size [.slice (some ⟨g, o, none⟩) n c, .bool cl, .int .i64 t, .bool ff, .bool fl, .int .i64 fx, .int .i64 fy, .int .i64 lx, .int .i64 ly] W7 := by rw [← hW]; exact at1.alloc _
      have ab7 : AtL (w.heap.size + 1) [.int .i64 b0, .int .i64 b1] W7 := by rw [← hW]; exact ab1.alloc _
      have bk7 : Blk W7 (w.heap.size + 1 + 1) 32 #[.slice none 0 0, .bool false, .int .i64 0, .bool false, .bool false, .int .i64 0, .int .i64 0, .int .i64 0, .int .i64 0] := by rw [← hW]; exact bk1.alloc _
      have bm7 : Blk W7 w2.heap.size 32 #[.slice (some ⟨w2.heap.size + 1, 0, none⟩) n n, .bool cl, .int .i64 t, .bool ff, .bool fl, .int .i64 fx, .int .i64 fy, .int .i64 lx, .int .i64 ly] := by rw [← hW]; exact bm1.alloc _
      have ow7 : W7.ownsRow (w2.heap.size + 1) 30 2 (.slice (some ⟨w2.heap.size + 1, 0, none⟩) n n) n xs := by rw [← hW]; exact ow1.alloc _
      have r7 : Rd cPt 2 W7 w.heap.size (some ⟨g, o, none⟩) l := by rw [← hW]; exact r1.alloc (by omega) _
      have g7 : Below w.heap.size w W7 := by rw [← hW]; repeat' (first | with_reducible assumption | with_reducible exact Below.refl _ _ | (with_reducible refine Below.setCell ?_ ?_ _) | (with_reducible refine Below.alloc ?_ ?_ _) | (with_reducible refine Below.drew ?_) | (with_reducible refine below_dr ?_ _) | (with_reducible refine Below.trans ?_ (Below.mono (by with_reducible assumption) ?_)) | omega | (simp; done) | (simp; omega))
      have z7 : W7.heap.size = wr.heap.size + 1 := by rw [← hW]; simp
      clear hW at1 ab1 bk1 bm1 ow1 r1 g1
      have zz7 : wr.heap.size < W7.heap.size := by omega
      have zy7 : w2.heap.size + 1 < W7.heap.size := by omega
      obtain ⟨yo0, y0⟩ : ∃ v, W7.cell? ⟨w2.heap.size + 1, k * 2, none⟩ = some v := ⟨_, (ow7.cellAt (k * 2) (by have := HX.out; omega)).trans (List.getElem?_eq_getElem (by have := HX.out; omega))⟩
      have yf0 : W7.frozen? ⟨w2.heap.size + 1, k * 2, none⟩ = false := ow7.frozenAt (k * 2)
      obtain ⟨yo1, y1⟩ : ∃ v, W7.cell? ⟨w2.heap.size + 1, k * 2 + 1, none⟩ = some v := ⟨_, (ow7.cellAt (k * 2 + 1) (by have := HX.out; omega)).trans (List.getElem?_eq_getElem (by have := HX.out; omega))⟩
      have yf1 : W7.frozen? ⟨w2.heap.size + 1, k * 2 + 1, none⟩ = false := ow7.frozenAt (k * 2 + 1)
      go_region_held3 (fun w' => w'.cell? ⟨w2.heap.size, 0, none⟩ = some (.slice (some ⟨w2.heap.size + 1, 0, none⟩) n n) ∧ w'.cell? ⟨wr.heap.size, 0, none⟩ = some (.int .i64 x0) ∧ w'.cell? ⟨wr.heap.size, 1, none⟩ = some (.int .i64 x1) ∧ w'.cell? ⟨w.heap.size + 1, 0, none⟩ = some (.int .i64 b0) ∧ w'.cell? ⟨w.heap.size + 1, 1, none⟩ = some (.int .i64 b1) ∧ wr.heap.size < w'.heap.size)
        (first | ((try dsimp only); (repeat' apply And.intro); all_goals (first | with_reducible assumption | omega | (simp; omega) | (repeat (first | with_reducible assumption | (with_reducible refine (cell_drew_at _ _).trans ?_) | (with_reducible refine (cell_set_ne _ _ (by omega)).trans ?_) | (with_reducible refine (hcP _ _ (by omega)).trans ?_))))) | fail)
        (first
          | (go_at_call 71; (with_reducible refine (CP.out _).mono ?_); rintro e wP ⟨rfl, hbP⟩; obtain ⟨hcP, hfP⟩ := bcell hbP; have hzP := hbP.size; (try simp only [World.size_drew] at hcP hfP hzP)))
      all_goals
        have owP := own_stays (own_drew ow7) hbP
        go_wp2_with fail
        go_roundw
        case rel =>
          have hst0 := World.ownsRow.stored owP (k * 2) (.int .i64 (x0 + b0))
          have hst1 := World.ownsRow.stored hst0.1 (k * 2 + 1) (.int .i64 (x1 + b1))
          refine ⟨k + 1, _, by omega, by go_num, AtL.far (AtL.far (at7.drew.below hbP) (by omega) _ _) (by omega) _ _, AtL.far (AtL.far (ab7.drew.below hbP) (by omega) _ _) (by omega) _ _, Blk.far (Blk.far (bk7.drew.carry hbP) (by simp only; omega) _) (by simp only; omega) _, Blk.far (Blk.far (bm7.drew.carry hbP) (by simp only; omega) _) (by simp only; omega) _, hst1.1, hstep.out (by have := HX.out; omega), ?_, ?_, ?_⟩
          · repeat' (first | with_reducible assumption | (with_reducible refine Rd.drew ?_) | (with_reducible refine Rd.carry ?_ (by with_reducible assumption) ?_) | (with_reducible refine Rd.alloc ?_ ?_ _) | (with_reducible refine Rd.setCell ?_ ?_ _) | omega | (simp; done) | (simp; omega))
          · repeat' (first | with_reducible assumption | with_reducible exact Below.refl _ _ | (with_reducible refine Below.setCell ?_ ?_ _) | (with_reducible refine Below.alloc ?_ ?_ _) | (with_reducible refine Below.drew ?_) | (with_reducible refine below_dr ?_ _) | (with_reducible refine Below.trans ?_ (Below.mono (by with_reducible assumption) ?_)) | omega | (simp; done) | (simp; omega))
          · first | omega | (simp; omega)
        case measure => first | (simp [intOf]; done) | (simp [intOf]; omega)
    case neg =>
      obtain rfl : n = k := by omega
      have hx := Filled.done (f := mvF b0 b1) (s := 2) (l := l) (fun a => rfl) (by omega) (by rw [← HN.out]; exact hfil) (by rw [← HN.out]; exact HX.out)
      rw [cellsF_mv] at hx
      subst hx
      clear hfil HX
      have m0 := bm1.cell 0 rfl
      go_wp2_with fail
      refine (CW.out _ _ _ ?_).mono ?_
      · exact Rd.of_own (fun a => cPt_len a) (by omega) ow1 (Nat.le_refl _)
      rintro e w8 ⟨rfl, hb8⟩
      clear m0
      have zq := hb8.size
      replace bm1 := bm1.carry hb8
      replace bk1 := bk1.carry hb8
      replace ow1 := own_stays ow1 hb8
      replace g1 : Below w.heap.size w w8 := by repeat' (first | with_reducible assumption | with_reducible exact Below.refl _ _ | (with_reducible refine Below.setCell ?_ ?_ _) | (with_reducible refine Below.alloc ?_ ?_ _) | (with_reducible refine Below.drew ?_) | (with_reducible refine below_dr ?_ _) | (with_reducible refine Below.trans ?_ (Below.mono (by with_reducible assumption) ?_)) | omega | (simp; done) | (simp; omega))
      have ROW := Lib.hid (fun q hq => own_block ow1 (q := q) hq)
      clear hb8
      have y0 := bk1.cell 0 rfl
      have y1 := bk1.cell 1 rfl
      have y2 := bk1.cell 2 rfl
      have y3 := bk1.cell 3 rfl
      have y4 := bk1.cell 4 rfl
      have y5 := bk1.cell 5 rfl
      have y6 := bk1.cell 6 rfl
      have y7 := bk1.cell 7 rfl
      have y8 := bk1.cell 8 rfl
      have m0 := bm1.cell 0 rfl
      have m1 := bm1.cell 1 rfl
      have m2 := bm1.cell 2 rfl
      have m3 := bm1.cell 3 rfl
      have m4 := bm1.cell 4 rfl
      have m5 := bm1.cell 5 rfl
      have m6 := bm1.cell 6 rfl
      have m7 := bm1.cell 7 rfl
      have m8 := bm1.cell 8 rfl
      have u0 := bk1.frozen 0
      have u1 := bk1.frozen 1
      have u2 := bk1.frozen 2
      have u3 := bk1.frozen 3
      have u4 := bk1.frozen 4
      have u5 := bk1.frozen 5
      have u6 := bk1.frozen 6
      have u7 := bk1.frozen 7
      have u8 := bk1.frozen 8
      have lt8 := bk1.lt
      have lt9 := bm1.lt
      clear at1 ab1 r1
      rcases v with _ | _
      case false =>
        go_wp2_with fail
        refine bodyPost_ret (v := .tuple #[.agg #[.slice none 0 0, .bool false, .int .i64 0, .bool false, .bool false, .int .i64 0, .int .i64 0, .int .i64 0, .int .i64 0], .int .i64 2]) (by simp [results, Try.results26, go_sem, *]) rfl ?_
        show Ret_Curve _ _ _ _ _ _ _ _ _ _ _ _ _
        refine ⟨none, 0, rfl, ⟨rfl, .inl ⟨rfl, rfl⟩⟩, ?_⟩
        repeat' (first | with_reducible assumption | with_reducible exact Below.refl _ _ | (with_reducible refine Below.setCell ?_ ?_ _) | (with_reducible refine Below.alloc ?_ ?_ _) | (with_reducible refine Below.drew ?_) | (with_reducible refine below_dr ?_ _) | (with_reducible refine Below.trans ?_ (Below.mono (by with_reducible assumption) ?_)) | omega | (simp; done) | (simp; omega))
      case true =>
        go_wp2_with fail
        refine bodyPost_ret (v := .tuple #[.agg #[.slice (some ⟨w2.heap.size + 1, 0, none⟩) n n, .bool cl, .int .i64 t, .bool ff, .bool fl, .int .i64 fx, .int .i64 fy, .int .i64 lx, .int .i64 ly], .int .i64 0]) (by simp [results, Try.results26, go_sem, *]) rfl ?_
        show Ret_Curve _ _ _ _ _ _ _ _ _ _ _ _ _
        have hlm : (l.map (mvP b0 b1)).length = n := by rw [List.length_map]; exact HN.out.symm
        unfold Ret_Curve
        rw [hlm]
        refine ⟨_, _, rfl, ?_, ?_⟩
        · have ow2 := own_base (base := w.heap.size) ow1 (by omega)
          repeat' (first | with_reducible assumption | (with_reducible refine own_drew ?_) | (with_reducible refine own_stays ?_ (by with_reducible assumption)) | (with_reducible refine World.ownsRow.alloc ?_ _) | (with_reducible refine own_keep ?_ ?_ _) | (intro q hq h8; have h9 := ROW.out q hq; dsimp only at h8; omega))
        · repeat' (first | with_reducible assumption | with_reducible exact Below.refl _ _ | (with_reducible refine Below.setCell ?_ ?_ _) | (with_reducible refine Below.alloc ?_ ?_ _) | (with_reducible refine Below.drew ?_) | (with_reducible refine below_dr ?_ _) | (with_reducible refine Below.trans ?_ (Below.mono (by with_reducible assumption) ?_)) | omega | (simp; done) | (simp; omega))
set_option maxRecDepth 100000 in
set_option maxHeartbeats 3200000 in
theorem implMove_f (l : List APt) (A : Option Addr) (c : Nat) (cl : Bool) (t : Int) (ff fl : Bool) (fx fy lx ly b0 b1 : Int) (w : World) (hv : (vCur l cl t ff fl fx fy lx ly && okB b0 b1) = false) (hl : l.length ≤ 1048576) (r : Rd cPt 2 w w.heap.size A l) :
    Calls Try.prog 26 #[.agg #[.slice A l.length c, .bool cl, .int .i64 t, .bool ff, .bool fl, .int .i64 fx, .int .i64 fy, .int .i64 lx, .int .i64 ly], .agg #[.int .i64 b0, .int .i64 b1]] w (Ret_Curve false 0 false false 0 0 0 0 1 [] w) := by
  have CV := Lib.hid (fun w r => implValidCurve_any l A c cl t ff fl fx fy lx ly w hl r)
  have CB := Lib.hid (fun w => implValidPt_any b0 b1 w)
  generalize vCur l cl t ff fl fx fy lx ly = v at CV hv
  generalize okB b0 b1 = u at CB hv
  clear hl
  generalize l.length = n at CV ⊢
  rcases v with _ | _
  case false =>
    clear hv
    go_enter Try.func26, Try.ntmps26
    go_wp2_with fail
    have bk0 : Blk (((w.alloc (.cells #[.slice A n c, .bool cl, .int .i64 t, .bool ff, .bool fl, .int .i64 fx, .int .i64 fy, .int .i64 lx, .int .i64 ly] 32)).alloc (.cells #[.int .i64 b0, .int .i64 b1] 30)).alloc (.cells #[.slice none 0 0, .bool false, .int .i64 0, .bool false, .bool false, .int .i64 0, .int .i64 0, .int .i64 0, .int .i64 0] 32)) (w.heap.size + 1 + 1) 32 #[.slice none 0 0, .bool false, .int .i64 0, .bool false, .bool false, .int .i64 0, .int .i64 0, .int .i64 0, .int .i64 0] := Blk.newAt _ _ _ (by simp)
    refine (CV.out _ ?_).mono ?_
    · (refine Rd.more (B := w.heap.size) ?_ (by first | omega | ((try simp only [World.size_setCell]); (try simp only [World.size_drew]); (try simp only [World.size_alloc]); omega) | (simp; done) | (simp; omega))); (repeat' (first | with_reducible assumption | (with_reducible refine Rd.drew ?_) | (with_reducible refine Rd.carry ?_ (by with_reducible assumption) ?_) | (with_reducible refine Rd.alloc ?_ ?_ _) | (with_reducible refine Rd.setCell ?_ ?_ _) | omega | (simp; done) | (simp; omega)))
    rintro e w1 ⟨rfl, hb1⟩
    replace bk0 := bk0.carry hb1
    have z1 := hb1.size
    (try simp only [World.size_alloc] at z1)
    have y0 := bk0.cell 0 rfl
    have y1 := bk0.cell 1 rfl
    have y2 := bk0.cell 2 rfl
    have y3 := bk0.cell 3 rfl
    have y4 := bk0.cell 4 rfl
    have y5 := bk0.cell 5 rfl
    have y6 := bk0.cell 6 rfl
    have y7 := bk0.cell 7 rfl
    have y8 := bk0.cell 8 rfl
    have u0 := bk0.frozen 0
    have u1 := bk0.frozen 1
    have u2 := bk0.frozen 2
    have u3 := bk0.frozen 3
    have u4 := bk0.frozen 4
    have u5 := bk0.frozen 5
    have u6 := bk0.frozen 6
    have u7 := bk0.frozen 7
    have u8 := bk0.frozen 8
    have lt1 := bk0.lt
    go_wp2_with fail
    refine bodyPost_ret (v := .tuple #[.agg #[.slice none 0 0, .bool false, .int .i64 0, .bool false, .bool false, .int .i64 0, .int .i64 0, .int .i64 0, .int .i64 0], .int .i64 1]) (by simp [results, Try.results26, go_sem, *]) rfl ⟨none, 0, rfl, ⟨rfl, .inl ⟨rfl, rfl⟩⟩, ?_⟩
    repeat' (first | with_reducible assumption | with_reducible exact Below.refl _ _ | (with_reducible refine Below.setCell ?_ ?_ _) | (with_reducible refine Below.alloc ?_ ?_ _) | (with_reducible refine Below.drew ?_) | (with_reducible refine below_dr ?_ _) | (with_reducible refine Below.trans ?_ (Below.mono (by with_reducible assumption) ?_)) | omega | (simp; done) | (simp; omega))
  case true =>
    obtain rfl : u = false := by simpa using hv
    clear hv
    go_enter Try.func26, Try.ntmps26
    go_wp2_with fail
    have bk0 : Blk (((w.alloc (.cells #[.slice A n c, .bool cl, .int .i64 t, .bool ff, .bool fl, .int .i64 fx, .int .i64 fy, .int .i64 lx, .int .i64 ly] 32)).alloc (.cells #[.int .i64 b0, .int .i64 b1] 30)).alloc (.cells #[.slice none 0 0, .bool false, .int .i64 0, .bool false, .bool false, .int .i64 0, .int .i64 0, .int .i64 0, .int .i64 0] 32)) (w.heap.size + 1 + 1) 32 #[.slice none 0 0, .bool false, .int .i64 0, .bool false, .bool false, .int .i64 0, .int .i64 0, .int .i64 0, .int .i64 0] := Blk.newAt _ _ _ (by simp)
    refine (CV.out _ ?_).mono ?_
    · (refine Rd.more (B := w.heap.size) ?_ (by first | omega | ((try simp only [World.size_setCell]); (try simp only [World.size_drew]); (try simp only [World.size_alloc]); omega) | (simp; done) | (simp; omega))); (repeat' (first | with_reducible assumption | (with_reducible refine Rd.drew ?_) | (with_reducible refine Rd.carry ?_ (by with_reducible assumption) ?_) | (with_reducible refine Rd.alloc ?_ ?_ _) | (with_reducible refine Rd.setCell ?_ ?_ _) | omega | (simp; done) | (simp; omega)))
    rintro e w1 ⟨rfl, hb1⟩
    have ab0 : AtL (w.heap.size + 1) [.int .i64 b0, .int .i64 b1] w1 := AtL.below ((AtL.newAt (by simp)).alloc _) hb1
    have j0 := ab0.cell 0 rfl
    have j1 := ab0.cell 1 rfl
    have lt1 := ab0.lt
    replace bk0 := bk0.carry hb1
    have z1 := hb1.size
    (try simp only [World.size_alloc] at z1)
    go_wp2_with fail
    refine (CB.out _).mono ?_
    rintro e w2 ⟨rfl, hb2⟩
    replace bk0 := bk0.carry hb2
    have z2 := hb2.size
    clear j0 j1 lt1 ab0
    have y0 := bk0.cell 0 rfl
    have y1 := bk0.cell 1 rfl
    have y2 := bk0.cell 2 rfl
    have y3 := bk0.cell 3 rfl
    have y4 := bk0.cell 4 rfl
    have y5 := bk0.cell 5 rfl
    have y6 := bk0.cell 6 rfl
    have y7 := bk0.cell 7 rfl
    have y8 := bk0.cell 8 rfl
    have u0 := bk0.frozen 0
    have u1 := bk0.frozen 1
    have u2 := bk0.frozen 2
    have u3 := bk0.frozen 3
    have u4 := bk0.frozen 4
    have u5 := bk0.frozen 5
    have u6 := bk0.frozen 6
    have u7 := bk0.frozen 7
    have u8 := bk0.frozen 8
    have lt1 := bk0.lt
    go_wp2_with fail
    refine bodyPost_ret (v := .tuple #[.agg #[.slice none 0 0, .bool false, .int .i64 0, .bool false, .bool false, .int .i64 0, .int .i64 0, .int .i64 0, .int .i64 0], .int .i64 1]) (by simp [results, Try.results26, go_sem, *]) rfl ⟨none, 0, rfl, ⟨rfl, .inl ⟨rfl, rfl⟩⟩, ?_⟩
    repeat' (first | with_reducible assumption | with_reducible exact Below.refl _ _ | (with_reducible refine Below.setCell ?_ ?_ _) | (with_reducible refine Below.alloc ?_ ?_ _) | (with_reducible refine Below.drew ?_) | (with_reducible refine below_dr ?_ _) | (with_reducible refine Below.trans ?_ (Below.mono (by with_reducible assumption) ?_)) | omega | (simp; done) | (simp; omega))
end Go.Proofs.Ythedimnjbfeaiaa
