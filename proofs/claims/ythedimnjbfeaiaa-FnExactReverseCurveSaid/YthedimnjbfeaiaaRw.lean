/- Walks: a curve turned round, the program's side. -/
import Derived.Test.YthedimnjbfeaiaaRv
import Derived.Test.YthedimnjbfeaiaaKv2
namespace Go.Proofs.Ythedimnjbfeaiaa
open Go.RowKit
set_option linter.unusedVariables false
set_option maxHeartbeats 1600000 in
theorem opposite_any (f : Bool) (x y : Int) (w : World) (hx : -262144 ≤ x ∧ x ≤ 262144) (hy : -262144 ≤ y ∧ y ≤ 262144) :
    Calls Try.prog 65 #[.agg #[.bool f, .int .i64 x, .int .i64 y]] w fun e w' => e = .returned (.agg #[.bool f, .int .i64 (-x), .int .i64 (-y)]) ∧ Below w.heap.size w w' := by
  have M := Lib.hid (fun w => minus_any 0 0 x y w (by omega) (by omega) hx hy)
  simp only [Int.zero_sub] at M
  clear hx hy
  go_enter Try.func65, Try.ntmps65
  go_wp2_with fail
  generalize hW : (w.alloc (.cells #[.bool f, .int .i64 x, .int .i64 y] 87)).alloc (.cells #[.bool false, .int .i64 0, .int .i64 0] 87) = W0
  have at0 : AtL w.heap.size [.bool f, .int .i64 x, .int .i64 y] W0 := by rw [← hW]; exact (AtL.new w _ _).alloc _
  have at1 : AtL (w.heap.size + 1) [.bool false, .int .i64 0, .int .i64 0] W0 := by rw [← hW]; exact AtL.newAt (by simp)
  have f0 : W0.frozen? ⟨w.heap.size + 1, 0, none⟩ = false := by rw [← hW]; simp [go_sem]
  have f1 : W0.frozen? ⟨w.heap.size + 1, 1, none⟩ = false := by rw [← hW]; simp [go_sem]
  have f2 : W0.frozen? ⟨w.heap.size + 1, 2, none⟩ = false := by rw [← hW]; simp [go_sem]
  have g0 : Below w.heap.size w W0 := by rw [← hW]; repeat' (first | with_reducible assumption | with_reducible exact Below.refl _ _ | (with_reducible refine Below.setCell ?_ ?_ _) | (with_reducible refine Below.alloc ?_ ?_ _) | (with_reducible refine Below.drew ?_) | (with_reducible refine below_dr ?_ _) | (with_reducible refine Below.trans ?_ (Below.mono (by with_reducible assumption) ?_)) | omega | (simp; done) | (simp; omega))
  clear hW
  have k0 := at0.cell 0 rfl
  have k1 := at0.cell 1 rfl
  have k2 := at0.cell 2 rfl
  have lt0 := at0.lt
  have lt1 := at1.lt
  go_region_held3 (fun w' => (∀ b o, b < w.heap.size + 1 → w'.cell? ⟨b, o, none⟩ = W0.cell? ⟨b, o, none⟩) ∧ (∀ b o, b < W0.heap.size → w'.frozen? ⟨b, o, none⟩ = W0.frozen? ⟨b, o, none⟩) ∧ W0.heap.size ≤ w'.heap.size)
    (first | ((try dsimp only); exact ⟨fun b o h => (by (repeat (first | with_reducible exact rfl | (with_reducible refine (cell_drew_at _ _).trans ?_) | (with_reducible refine (cell_set_at _ _ (by first | omega | (simp; done) | (simp; omega))).trans ?_) | (with_reducible refine (cell_alloc_at _ _ (by first | omega | (simp; done) | (simp; omega))).trans ?_) | (with_reducible refine (hcwM b o (by first | omega | (simp; done) | (simp; omega))).trans ?_)))), fun b o h => (by (repeat (first | with_reducible exact rfl | (with_reducible refine (frozen_drew_at _ _).trans ?_) | (with_reducible refine (World.frozen?_setCell _ _ _ _).trans ?_) | (with_reducible refine (frozen_alloc_at _ _ (by first | omega | (simp; done) | (simp; omega))).trans ?_) | (with_reducible refine (hfwM b o (by first | omega | (simp; done) | (simp; omega))).trans ?_)))), (by first | omega | (simp; done) | (simp; omega))⟩) | fail)
    (first
      | (go_at_call 108; (with_reducible refine (M.out _).mono ?_); rintro e wM ⟨rfl, hbwM⟩; obtain ⟨hcwM, hfwM⟩ := bcell hbwM; have hzwM := hbwM.size; (try simp only [World.size_drew] at hcwM hfwM hzwM); have j0 := at1.cell 0 rfl; have j1 := at1.cell 1 rfl; have j2 := at1.cell 2 rfl; have ltM : w.heap.size + 1 < wM.heap.size := (by omega); have ywM0 : wM.cell? ⟨w.heap.size + 1, 0, none⟩ = some (.bool false) := (by (repeat (first | with_reducible assumption | (with_reducible refine (cell_drew_at _ _).trans ?_) | (with_reducible refine (cell_set_at _ _ (by first | omega | (simp; done) | (simp; omega))).trans ?_) | (with_reducible refine (cell_alloc_at _ _ (by first | omega | (simp; done) | (simp; omega))).trans ?_) | (with_reducible refine (hcwM _ _ (by first | omega | (simp; done) | (simp; omega))).trans ?_)))); have ywM1 : wM.cell? ⟨w.heap.size + 1, 1, none⟩ = some (.int .i64 0) := (by (repeat (first | with_reducible assumption | (with_reducible refine (cell_drew_at _ _).trans ?_) | (with_reducible refine (cell_set_at _ _ (by first | omega | (simp; done) | (simp; omega))).trans ?_) | (with_reducible refine (cell_alloc_at _ _ (by first | omega | (simp; done) | (simp; omega))).trans ?_) | (with_reducible refine (hcwM _ _ (by first | omega | (simp; done) | (simp; omega))).trans ?_)))); have ywM2 : wM.cell? ⟨w.heap.size + 1, 2, none⟩ = some (.int .i64 0) := (by (repeat (first | with_reducible assumption | (with_reducible refine (cell_drew_at _ _).trans ?_) | (with_reducible refine (cell_set_at _ _ (by first | omega | (simp; done) | (simp; omega))).trans ?_) | (with_reducible refine (cell_alloc_at _ _ (by first | omega | (simp; done) | (simp; omega))).trans ?_) | (with_reducible refine (hcwM _ _ (by first | omega | (simp; done) | (simp; omega))).trans ?_)))); have yfwM0 : wM.frozen? ⟨w.heap.size + 1, 0, none⟩ = false := (by (repeat (first | with_reducible assumption | (with_reducible refine (frozen_drew_at _ _).trans ?_) | (with_reducible refine (World.frozen?_setCell _ _ _ _).trans ?_) | (with_reducible refine (frozen_alloc_at _ _ (by first | omega | (simp; done) | (simp; omega))).trans ?_) | (with_reducible refine (hfwM _ _ (by first | omega | (simp; done) | (simp; omega))).trans ?_)))); have yfwM1 : wM.frozen? ⟨w.heap.size + 1, 1, none⟩ = false := (by (repeat (first | with_reducible assumption | (with_reducible refine (frozen_drew_at _ _).trans ?_) | (with_reducible refine (World.frozen?_setCell _ _ _ _).trans ?_) | (with_reducible refine (frozen_alloc_at _ _ (by first | omega | (simp; done) | (simp; omega))).trans ?_) | (with_reducible refine (hfwM _ _ (by first | omega | (simp; done) | (simp; omega))).trans ?_)))); have yfwM2 : wM.frozen? ⟨w.heap.size + 1, 2, none⟩ = false := (by (repeat (first | with_reducible assumption | (with_reducible refine (frozen_drew_at _ _).trans ?_) | (with_reducible refine (World.frozen?_setCell _ _ _ _).trans ?_) | (with_reducible refine (frozen_alloc_at _ _ (by first | omega | (simp; done) | (simp; omega))).trans ?_) | (with_reducible refine (hfwM _ _ (by first | omega | (simp; done) | (simp; omega))).trans ?_))))))
  all_goals go_wp2_with fail
  have at2 : AtL (w.heap.size + 1) [.bool f, .int .i64 (-x), .int .i64 (-y)] (((wM.setCell ⟨w.heap.size + 1, 0, none⟩ (.bool f)).setCell ⟨w.heap.size + 1, 1, none⟩ (.int .i64 (-x))).setCell ⟨w.heap.size + 1, 2, none⟩ (.int .i64 (-y))) := (at1.drew.below hbwM).store3
  have r0 := at2.cell 0 rfl
  have r1 := at2.cell 1 rfl
  have r2 := at2.cell 2 rfl
  refine bodyPost_ret (v := .agg #[.bool f, .int .i64 (-x), .int .i64 (-y)]) (by simp [results, Try.results65, go_sem, *]) rfl ⟨rfl, ?_⟩
  repeat' (first | with_reducible assumption | with_reducible exact Below.refl _ _ | (with_reducible refine Below.setCell ?_ ?_ _) | (with_reducible refine Below.alloc ?_ ?_ _) | (with_reducible refine Below.drew ?_) | (with_reducible refine below_dr ?_ _) | (with_reducible refine Below.trans ?_ (Below.mono (by with_reducible assumption) ?_)) | omega | (simp; done) | (simp; omega))
theorem AtL.keep {g b : Nat} {vs : List Value} {wx wy : World} (h : AtL g vs wx) (hb : Below b wx wy) (hg : g < b) : AtL g vs wy :=
  ⟨fun i v hv => by rw [← h.1 i v hv]; unfold World.cell?; simp only [hb.block g hg], Nat.lt_of_lt_of_le h.2 hb.size⟩
theorem Blk.keep {g b : Nat} {t : TypeId} {cs : Array Value} {wx wy : World} (h : Blk wx g t cs) (hb : Below b wx wy) (hg : g < b) : Blk wy g t cs := (hb.block g hg).trans h
set_option maxRecDepth 100000 in
set_option maxHeartbeats 12800000 in
theorem implReverse_t (l : List APt) (A : Option Addr) (c : Nat) (cl : Bool) (t : Int) (ff fl : Bool) (fx fy lx ly : Int) (w : World) (hv : vCur l cl t ff fl fx fy lx ly = true) (hl : l.length ≤ 1048576) (r : Rd cPt 2 w w.heap.size A l) :
    Calls Try.prog 21 #[.agg #[.slice A l.length c, .bool cl, .int .i64 t, .bool ff, .bool fl, .int .i64 fx, .int .i64 fy, .int .i64 lx, .int .i64 ly]] w (Ret_Curve cl t fl ff (-lx) (-ly) (-fx) (-fy) 0 l.reverse w) := by
  obtain ⟨h1, _, _, _, h5, h6, _⟩ := vC_parts hv
  have hlen := len_yes h1
  obtain ⟨b1, b2, b3, b4⟩ := okB_bounds (endB_ok h5)
  obtain ⟨d1, d2, d3, d4⟩ := okB_bounds (endB_ok h6)
  have CV := Lib.hid (fun w r => implValidCurve_any l A c cl t ff fl fx fy lx ly w hl r)
  simp only [hv] at CV
  have CC := Lib.hid (fun w r => clone_any l A c w (by omega) (by omega) r)
  have CR := Lib.hid (fun A c base w ho => reverse_own l A c base w (by omega) (by omega) ho)
  have OF := Lib.hid (fun w => opposite_any ff fx fy w ⟨by omega, by omega⟩ ⟨by omega, by omega⟩)
  have OL := Lib.hid (fun w => opposite_any fl lx ly w ⟨by omega, by omega⟩ ⟨by omega, by omega⟩)
  unfold Ret_Curve
  rw [List.length_reverse]
  clear hv h1 h5 h6 hlen hl b1 b2 b3 b4 d1 d2 d3 d4
  generalize l.length = n at CV CC CR ⊢
  go_enter Try.func21, Try.ntmps21
  go_wp2_with fail
  generalize hW : (w.alloc (.cells #[.slice A n c, .bool cl, .int .i64 t, .bool ff, .bool fl, .int .i64 fx, .int .i64 fy, .int .i64 lx, .int .i64 ly] 32)).alloc (.cells #[.slice none 0 0, .bool false, .int .i64 0, .bool false, .bool false, .int .i64 0, .int .i64 0, .int .i64 0, .int .i64 0] 32) = W0
  have at0 : AtL w.heap.size [.slice A n c, .bool cl, .int .i64 t, .bool ff, .bool fl, .int .i64 fx, .int .i64 fy, .int .i64 lx, .int .i64 ly] W0 := by rw [← hW]; exact (AtL.new w _ _).alloc _
  have bk0 : Blk W0 (w.heap.size + 1) 32 #[.slice none 0 0, .bool false, .int .i64 0, .bool false, .bool false, .int .i64 0, .int .i64 0, .int .i64 0, .int .i64 0] := by rw [← hW]; exact Blk.newAt _ _ _ (by simp)
  have r0 : Rd cPt 2 W0 w.heap.size A l := by rw [← hW]; exact (r.alloc (Nat.le_refl _) _).alloc (by simp) _
  have g0 : Below w.heap.size w W0 := by rw [← hW]; repeat' (first | with_reducible assumption | with_reducible exact Below.refl _ _ | (with_reducible refine Below.setCell ?_ ?_ _) | (with_reducible refine Below.alloc ?_ ?_ _) | (with_reducible refine Below.drew ?_) | (with_reducible refine below_dr ?_ _) | (with_reducible refine Below.trans ?_ (Below.mono (by with_reducible assumption) ?_)) | omega | (simp; done) | (simp; omega))
  have z0 : W0.heap.size = w.heap.size + 1 + 1 := by rw [← hW]; simp
  clear hW r
  have k0 := at0.cell 0 rfl
  have k1 := at0.cell 1 rfl
  have k2 := at0.cell 2 rfl
  have k3 := at0.cell 3 rfl
  have k4 := at0.cell 4 rfl
  have k5 := at0.cell 5 rfl
  have k6 := at0.cell 6 rfl
  have k7 := at0.cell 7 rfl
  have k8 := at0.cell 8 rfl
  have lt0 := at0.lt
  refine (CV.out _ ?_).mono ?_
  · (refine Rd.more (B := w.heap.size) ?_ (by first | omega | ((try simp only [World.size_setCell]); (try simp only [World.size_drew]); (try simp only [World.size_alloc]); omega) | (simp; done) | (simp; omega))); (repeat' (first | with_reducible assumption | (with_reducible refine Rd.drew ?_) | (with_reducible refine Rd.carry ?_ (by with_reducible assumption) ?_) | (with_reducible refine Rd.alloc ?_ ?_ _) | (with_reducible refine Rd.setCell ?_ ?_ _) | omega | (simp; done) | (simp; omega)))
  rintro e w1 ⟨rfl, hb1⟩
  clear k0 k1 k2 k3 k4 k5 k6 k7 k8
  replace at0 := at0.below hb1
  replace bk0 := bk0.carry hb1
  replace r0 := r0.carry hb1 (by omega)
  replace g0 : Below w.heap.size w w1 := by repeat' (first | with_reducible assumption | with_reducible exact Below.refl _ _ | (with_reducible refine Below.setCell ?_ ?_ _) | (with_reducible refine Below.alloc ?_ ?_ _) | (with_reducible refine Below.drew ?_) | (with_reducible refine below_dr ?_ _) | (with_reducible refine Below.trans ?_ (Below.mono (by with_reducible assumption) ?_)) | omega | (simp; done) | (simp; omega))
  have z1 := hb1.size
  clear lt0
  have k0 := at0.cell 0 rfl
  have k1 := at0.cell 1 rfl
  have k2 := at0.cell 2 rfl
  have k3 := at0.cell 3 rfl
  have k4 := at0.cell 4 rfl
  have k5 := at0.cell 5 rfl
  have k6 := at0.cell 6 rfl
  have k7 := at0.cell 7 rfl
  have k8 := at0.cell 8 rfl
  have lt0 := at0.lt
  go_wp2_with fail
  refine (CC.out _ ?_).mono ?_
  · (refine Rd.more (B := w.heap.size) ?_ (by first | omega | ((try simp only [World.size_setCell]); (try simp only [World.size_drew]); (try simp only [World.size_alloc]); omega) | (simp; done) | (simp; omega))); (repeat' (first | with_reducible assumption | (with_reducible refine Rd.drew ?_) | (with_reducible refine Rd.carry ?_ (by with_reducible assumption) ?_) | (with_reducible refine Rd.alloc ?_ ?_ _) | (with_reducible refine Rd.setCell ?_ ?_ _) | omega | (simp; done) | (simp; omega)))
  intro e w2 hq
  obtain ⟨A', c', rfl, own2, hb2⟩ := hq
  clear k0 k1 k2 k3 k4 k5 k6 k7 k8
  replace at0 := at0.below hb2
  replace bk0 := bk0.carry hb2
  have g1 : Below w.heap.size w w2 := by repeat' (first | with_reducible assumption | with_reducible exact Below.refl _ _ | (with_reducible refine Below.setCell ?_ ?_ _) | (with_reducible refine Below.alloc ?_ ?_ _) | (with_reducible refine Below.drew ?_) | (with_reducible refine below_dr ?_ _) | (with_reducible refine Below.trans ?_ (Below.mono (by with_reducible assumption) ?_)) | omega | (simp; done) | (simp; omega))
  have z2 := hb2.size
  clear lt0 r0
  have k0 := at0.cell 0 rfl
  have k1 := at0.cell 1 rfl
  have k2 := at0.cell 2 rfl
  have k3 := at0.cell 3 rfl
  have k4 := at0.cell 4 rfl
  have k5 := at0.cell 5 rfl
  have k6 := at0.cell 6 rfl
  have k7 := at0.cell 7 rfl
  have k8 := at0.cell 8 rfl
  have lt0 := at0.lt
  go_wp2_with fail
  refine (CR.out A' c' w1.heap.size _ own2).mono ?_
  intro e w3 hq
  obtain ⟨rfl, own3, hb3, hoth⟩ := hq
  clear own2 hoth
  clear k0 k1 k2 k3 k4 k5 k6 k7 k8
  replace at0 := at0.keep hb3 (by omega)
  replace bk0 := bk0.keep hb3 (by omega)
  have g2 : Below w.heap.size w w3 := g1.trans (hb3.mono (by omega))
  have z3 := hb3.size
  clear lt0 g0 g1 hb1 hb2 hb3
  have ROW := Lib.hid (fun q (hq : (Value.slice A' n c').ownBlock = some q) => own_block own3 hq)
  have k0 := at0.cell 0 rfl
  have k1 := at0.cell 1 rfl
  have k2 := at0.cell 2 rfl
  have k3 := at0.cell 3 rfl
  have k4 := at0.cell 4 rfl
  have k5 := at0.cell 5 rfl
  have k6 := at0.cell 6 rfl
  have k7 := at0.cell 7 rfl
  have k8 := at0.cell 8 rfl
  have lt0 := at0.lt
  have ltb := bk0.lt
  go_upto_region 5 with fail
  go_cut [5, 6] (fun s5 s6 wx => ∃ q5 q6 : Nat, s5 = .pointer (some ⟨q5, 0, none⟩) ∧ s6 = .pointer (some ⟨q6, 0, none⟩) ∧ AtL q5 [.bool fl, .int .i64 (-lx), .int .i64 (-ly)] wx ∧ AtL q6 [.bool ff, .int .i64 (-fx), .int .i64 (-fy)] wx ∧ AtL w.heap.size [.slice A n c, .bool cl, .int .i64 t, .bool ff, .bool fl, .int .i64 fx, .int .i64 fy, .int .i64 lx, .int .i64 ly] wx ∧ Blk wx (w.heap.size + 1) 32 #[.slice none 0 0, .bool false, .int .i64 0, .bool false, .bool false, .int .i64 0, .int .i64 0, .int .i64 0, .int .i64 0] ∧ wx.ownsRow w1.heap.size 30 2 (.slice A' n c') n (cellsF cPt l.reverse) ∧ Below w.heap.size w wx)
  case first =>
    go_region_held3 (fun w' => (∀ b o, b < w3.heap.size → w'.cell? ⟨b, o, none⟩ = w3.cell? ⟨b, o, none⟩) ∧ w3.heap.size ≤ w'.heap.size)
      (first | ((try dsimp only); exact ⟨fun b o h => (by (repeat (first | with_reducible exact rfl | (with_reducible refine (cell_drew_at _ _).trans ?_) | (with_reducible refine (cell_set_at _ _ (by first | omega | (simp; done) | (simp; omega))).trans ?_) | (with_reducible refine (cell_alloc_at _ _ (by first | omega | (simp; done) | (simp; omega))).trans ?_) | (with_reducible refine (hcwL b o (by first | omega | (simp; done) | (simp; omega))).trans ?_) | (with_reducible refine (hcwF b o (by first | omega | (simp; done) | (simp; omega))).trans ?_) | (with_reducible refine (hcwP b o (by first | omega | (simp; done) | (simp; omega))).trans ?_) | (with_reducible refine (hcwQ b o (by first | omega | (simp; done) | (simp; omega))).trans ?_)))), (by first | omega | (simp; done) | (simp; omega))⟩) | fail)
      (first
        | (go_at_call 58; (with_reducible refine (last_any _ _ _ _ _ _ _ _ _ _ _ _).mono ?_); rintro e wL ⟨rfl, hbwL⟩; obtain ⟨hcwL, hfwL⟩ := bcell hbwL; have hzwL := hbwL.size; (try simp only [World.size_drew] at hcwL hfwL hzwL); (try simp only [World.size_alloc] at hcwL hfwL hzwL); (try have qw30wL : w3.heap.size < wL.heap.size := (by omega)); (try have qw31wL : w3.heap.size + 1 < wL.heap.size := (by omega)))
        | (go_at_call 56; (with_reducible refine (first_any _ _ _ _ _ _ _ _ _ _ _ _).mono ?_); rintro e wF ⟨rfl, hbwF⟩; obtain ⟨hcwF, hfwF⟩ := bcell hbwF; have hzwF := hbwF.size; (try simp only [World.size_drew] at hcwF hfwF hzwF); (try simp only [World.size_alloc] at hcwF hfwF hzwF); (try have qw30wF : w3.heap.size < wF.heap.size := (by omega)); (try have qw31wF : w3.heap.size + 1 < wF.heap.size := (by omega)); (try have qwL0wF : wL.heap.size < wF.heap.size := (by omega)); (try have qwL1wF : wL.heap.size + 1 < wF.heap.size := (by omega)); (try have qwP0wF : wP.heap.size < wF.heap.size := (by omega)); (try have qwP1wF : wP.heap.size + 1 < wF.heap.size := (by omega)))
        | (first | (go_at_call 65; (with_reducible refine (OL.out _).mono ?_); rintro e wP ⟨rfl, hbwP⟩; obtain ⟨hcwP, hfwP⟩ := bcell hbwP; have hzwP := hbwP.size; (try simp only [World.size_drew] at hcwP hfwP hzwP); (try simp only [World.size_alloc] at hcwP hfwP hzwP); (try have qw30wP : w3.heap.size < wP.heap.size := (by omega)); (try have qw31wP : w3.heap.size + 1 < wP.heap.size := (by omega)); (try have qwL0wP : wL.heap.size < wP.heap.size := (by omega)); (try have qwL1wP : wL.heap.size + 1 < wP.heap.size := (by omega))) | (go_at_call 65; (with_reducible refine (OF.out _).mono ?_); rintro e wQ ⟨rfl, hbwQ⟩; obtain ⟨hcwQ, hfwQ⟩ := bcell hbwQ; have hzwQ := hbwQ.size; (try simp only [World.size_drew] at hcwQ hfwQ hzwQ); (try simp only [World.size_alloc] at hcwQ hfwQ hzwQ); (try have qw30wQ : w3.heap.size < wQ.heap.size := (by omega)); (try have qw31wQ : w3.heap.size + 1 < wQ.heap.size := (by omega)); (try have qwL0wQ : wL.heap.size < wQ.heap.size := (by omega)); (try have qwL1wQ : wL.heap.size + 1 < wQ.heap.size := (by omega)); (try have qwP0wQ : wP.heap.size < wQ.heap.size := (by omega)); (try have qwP1wQ : wP.heap.size + 1 < wQ.heap.size := (by omega)); (try have qwF0wQ : wF.heap.size < wQ.heap.size := (by omega)); (try have qwF1wQ : wF.heap.size + 1 < wQ.heap.size := (by omega)))))
    all_goals
      go_wp2_with fail
      go_meet
    all_goals exact ⟨_, _, rfl, rfl, by repeat' (first | ((with_reducible refine AtL.newAt ?_); (first | rfl | (simp; done))) | with_reducible assumption | with_reducible exact AtL.new _ _ _ | (with_reducible refine AtL.drew ?_) | (with_reducible apply AtL.store3) | (with_reducible refine AtL.alloc ?_ _) | (with_reducible refine AtL.far ?_ ?_ _ _) | (with_reducible refine AtL.below ?_ (by with_reducible assumption)) | omega | (simp; done) | (simp; omega)), by repeat' (first | ((with_reducible refine AtL.newAt ?_); (first | rfl | (simp; done))) | with_reducible assumption | with_reducible exact AtL.new _ _ _ | (with_reducible refine AtL.drew ?_) | (with_reducible apply AtL.store3) | (with_reducible refine AtL.alloc ?_ _) | (with_reducible refine AtL.far ?_ ?_ _ _) | (with_reducible refine AtL.below ?_ (by with_reducible assumption)) | omega | (simp; done) | (simp; omega)), by repeat' (first | with_reducible assumption | with_reducible exact AtL.new _ _ _ | ((with_reducible refine AtL.newAt ?_); (first | rfl | (simp; done))) | (with_reducible refine AtL.drew ?_) | (with_reducible refine AtL.below ?_ (by with_reducible assumption)) | (with_reducible refine AtL.alloc ?_ _) | (with_reducible refine AtL.far ?_ ?_ _ _) | omega | (simp; done) | (simp; omega)), by repeat' (first | with_reducible assumption | (with_reducible refine Blk.drew ?_) | (with_reducible refine Blk.carry ?_ (by with_reducible assumption)) | (with_reducible refine Blk.alloc ?_ _) | (with_reducible refine Blk.far ?_ ?_ _) | omega | (simp; done) | (simp; omega)), by repeat' (first | with_reducible assumption | (with_reducible refine own_drew ?_) | (with_reducible refine own_stays ?_ (by with_reducible assumption)) | (with_reducible refine World.ownsRow.alloc ?_ _) | (with_reducible refine own_keep ?_ ?_ _) | (intro q hq h8; have h9 := ROW.out q hq; dsimp only at h8; omega)), by repeat' (first | with_reducible assumption | with_reducible exact Below.refl _ _ | (with_reducible refine Below.setCell ?_ ?_ _) | (with_reducible refine Below.alloc ?_ ?_ _) | (with_reducible refine Below.drew ?_) | (with_reducible refine below_dr ?_ _) | (with_reducible refine Below.trans ?_ (Below.mono (by with_reducible assumption) ?_)) | omega | (simp; done) | (simp; omega))⟩
  case rest =>
    obtain ⟨q5, q6, rfl, rfl, a5, a6, at1, bk1, own4, g3⟩ := hcut
    obtain ⟨W9, rfl⟩ : ∃ W : World, W = wc := ⟨_, rfl⟩
    clear at0 bk0 own3 g2 lt0 ltb k0 k1 k2 k3 k4 k5 k6 k7 k8
    have k0 := at1.cell 0 rfl
    have k1 := at1.cell 1 rfl
    have k2 := at1.cell 2 rfl
    have k3 := at1.cell 3 rfl
    have k4 := at1.cell 4 rfl
    have k5 := at1.cell 5 rfl
    have k6 := at1.cell 6 rfl
    have k7 := at1.cell 7 rfl
    have k8 := at1.cell 8 rfl
    have m0 := a5.cell 0 rfl
    have m1 := a5.cell 1 rfl
    have m2 := a5.cell 2 rfl
    have n0 := a6.cell 0 rfl
    have n1 := a6.cell 1 rfl
    have n2 := a6.cell 2 rfl
    have y0 := bk1.cell 0 rfl
    have y1 := bk1.cell 1 rfl
    have y2 := bk1.cell 2 rfl
    have y3 := bk1.cell 3 rfl
    have y4 := bk1.cell 4 rfl
    have y5 := bk1.cell 5 rfl
    have y6 := bk1.cell 6 rfl
    have y7 := bk1.cell 7 rfl
    have y8 := bk1.cell 8 rfl
    have u0 := bk1.frozen 0
    have u1 := bk1.frozen 1
    have u2 := bk1.frozen 2
    have u3 := bk1.frozen 3
    have u4 := bk1.frozen 4
    have u5 := bk1.frozen 5
    have u6 := bk1.frozen 6
    have u7 := bk1.frozen 7
    have u8 := bk1.frozen 8
    have lt0 := at1.lt
    have lt1 := bk1.lt
    have lt5 := a5.lt
    have lt6 := a6.lt
    go_wp2_with fail
    refine bodyPost_ret (v := .tuple #[.agg #[.slice A' n c', .bool cl, .int .i64 t, .bool fl, .bool ff, .int .i64 (-lx), .int .i64 (-ly), .int .i64 (-fx), .int .i64 (-fy)], .int .i64 0]) (by simp [results, Try.results21, go_sem, *]) rfl ⟨A', c', rfl, ?_, ?_⟩
    · have own5 := own_base (base := w.heap.size) own4 (by omega)
      repeat' (first | with_reducible assumption | (with_reducible refine own_drew ?_) | (with_reducible refine own_stays ?_ (by with_reducible assumption)) | (with_reducible refine World.ownsRow.alloc ?_ _) | (with_reducible refine own_keep ?_ ?_ _) | (intro q hq h8; have h9 := ROW.out q hq; dsimp only at h8; omega))
    · repeat' (first | with_reducible assumption | with_reducible exact Below.refl _ _ | (with_reducible refine Below.setCell ?_ ?_ _) | (with_reducible refine Below.alloc ?_ ?_ _) | (with_reducible refine Below.drew ?_) | (with_reducible refine below_dr ?_ _) | (with_reducible refine Below.trans ?_ (Below.mono (by with_reducible assumption) ?_)) | omega | (simp; done) | (simp; omega))
set_option maxRecDepth 100000 in
set_option maxHeartbeats 3200000 in
theorem implReverse_f (l : List APt) (A : Option Addr) (c : Nat) (cl : Bool) (t : Int) (ff fl : Bool) (fx fy lx ly : Int) (w : World) (hv : vCur l cl t ff fl fx fy lx ly = false) (hl : l.length ≤ 1048576) (r : Rd cPt 2 w w.heap.size A l) :
    Calls Try.prog 21 #[.agg #[.slice A l.length c, .bool cl, .int .i64 t, .bool ff, .bool fl, .int .i64 fx, .int .i64 fy, .int .i64 lx, .int .i64 ly]] w (Ret_Curve false 0 false false 0 0 0 0 1 [] w) := by
  have CV := Lib.hid (fun w r => implValidCurve_any l A c cl t ff fl fx fy lx ly w hl r)
  simp only [hv] at CV
  clear hv hl
  generalize l.length = n at CV ⊢
  go_enter Try.func21, Try.ntmps21
  go_wp2_with fail
  have bk0 : Blk ((w.alloc (.cells #[.slice A n c, .bool cl, .int .i64 t, .bool ff, .bool fl, .int .i64 fx, .int .i64 fy, .int .i64 lx, .int .i64 ly] 32)).alloc (.cells #[.slice none 0 0, .bool false, .int .i64 0, .bool false, .bool false, .int .i64 0, .int .i64 0, .int .i64 0, .int .i64 0] 32)) (w.heap.size + 1) 32 #[.slice none 0 0, .bool false, .int .i64 0, .bool false, .bool false, .int .i64 0, .int .i64 0, .int .i64 0, .int .i64 0] := Blk.newAt _ _ _ (by simp)
  refine (CV.out _ ?_).mono ?_
  · (refine Rd.more (B := w.heap.size) ?_ (by first | omega | ((try simp only [World.size_setCell]); (try simp only [World.size_drew]); (try simp only [World.size_alloc]); omega) | (simp; done) | (simp; omega))); (repeat' (first | with_reducible assumption | (with_reducible refine Rd.drew ?_) | (with_reducible refine Rd.carry ?_ (by with_reducible assumption) ?_) | (with_reducible refine Rd.alloc ?_ ?_ _) | (with_reducible refine Rd.setCell ?_ ?_ _) | omega | (simp; done) | (simp; omega)))
  rintro e w1 ⟨rfl, hb1⟩
  replace bk0 := bk0.carry hb1
  have y0 := bk0.cell 0 rfl
  have y1 := bk0.cell 1 rfl
  have y2 := bk0.cell 2 rfl
  have y3 := bk0.cell 3 rfl
  have y4 := bk0.cell 4 rfl
  have y5 := bk0.cell 5 rfl
  have y6 := bk0.cell 6 rfl
  have y7 := bk0.cell 7 rfl
  have y8 := bk0.cell 8 rfl
  have u0 := bk0.frozen 0
  have u1 := bk0.frozen 1
  have u2 := bk0.frozen 2
  have u3 := bk0.frozen 3
  have u4 := bk0.frozen 4
  have u5 := bk0.frozen 5
  have u6 := bk0.frozen 6
  have u7 := bk0.frozen 7
  have u8 := bk0.frozen 8
  have z1 := hb1.size
  (try simp only [World.size_alloc] at z1)
  have lt1 := bk0.lt
  go_wp2_with fail
  refine bodyPost_ret (v := .tuple #[.agg #[.slice none 0 0, .bool false, .int .i64 0, .bool false, .bool false, .int .i64 0, .int .i64 0, .int .i64 0, .int .i64 0], .int .i64 1]) (by simp [results, Try.results21, go_sem, *]) rfl ⟨none, 0, rfl, ⟨rfl, .inl ⟨rfl, rfl⟩⟩, ?_⟩
  repeat' (first | with_reducible assumption | with_reducible exact Below.refl _ _ | (with_reducible refine Below.setCell ?_ ?_ _) | (with_reducible refine Below.alloc ?_ ?_ _) | (with_reducible refine Below.drew ?_) | (with_reducible refine below_dr ?_ _) | (with_reducible refine Below.trans ?_ (Below.mono (by with_reducible assumption) ?_)) | omega | (simp; done) | (simp; omega))
end Go.Proofs.Ythedimnjbfeaiaa
