/- Walks: the pixels that a segment meets, the program's side. -/
import Derived.Test.YtnlhofepobkljaaIe
import Derived.IntWalk
namespace Go.Proofs.Ytnlhofepobkljaa
open Go.RowKit
set_option linter.unusedVariables false
theorem Blk.set2P {w : World} {g : Nat} {t : TypeId} {x y a b : Value} (h : Blk w g t #[x, y]) : Blk ((w.setCell ⟨g, 0, none⟩ a).setCell ⟨g, 1, none⟩ b) g t #[a, b] := (h.set_ 0 a).set_ 1 b
set_option maxRecDepth 100000 in
set_option maxHeartbeats 6400000 in
theorem meetsPixel_yes (ax ay bx ey px py : Int) (w : World) (va : okB ax ay = true) (vb : okB bx ey = true) (vp : okB px py = true) (hx : btwB ax bx px = true) (hy : btwB ay ey py = true) :
    Calls Try.prog 76 #[.agg #[.int .i64 ax, .int .i64 ay, .int .i64 bx, .int .i64 ey], .agg #[.int .i64 px, .int .i64 py]] w fun e w' => e = .returned (.bool (decide (-4 < sides (bx - ax) (ey - ay) (px - ax) (py - ay) ∧ sides (bx - ax) (ey - ay) (px - ax) (py - ay) < 4))) ∧ Below w.heap.size w w' := by
  obtain ⟨a1, a2, a3, a4⟩ := okB_bounds va
  obtain ⟨b1, b2, b3, b4⟩ := okB_bounds vb
  obtain ⟨p1, p2, p3, p4⟩ := okB_bounds vp
  clear va vb vp
  have CX := Lib.hid (fun w => isBetween_any ax bx px w)
  have CY := Lib.hid (fun w => isBetween_any ay ey py w)
  rw [hx] at CX
  rw [hy] at CY
  clear hx hy
  have M1 := Lib.hid (fun w => minus_any bx ey ax ay w (by omega) (by omega) (by omega) (by omega))
  have M2 := Lib.hid (fun w => minus_any px py ax ay w (by omega) (by omega) (by omega) (by omega))
  have T1 := Lib.hid (fun w => times2_any (px - ax) (py - ay) w (by omega) (by omega))
  have B1 := Lib.hid (show (-1048576 ≤ bx - ax ∧ bx - ax ≤ 1048576) ∧ (-1048576 ≤ ey - ay ∧ ey - ay ≤ 1048576) ∧ (-524288 ≤ px - ax ∧ px - ax ≤ 524288) ∧ (-524288 ≤ py - ay ∧ py - ay ≤ 524288) by omega)
  clear a1 a2 a3 a4 b1 b2 b3 b4 p1 p2 p3 p4
  generalize bx - ax = dx at *
  generalize ey - ay = dy at *
  generalize px - ax = qx at *
  generalize py - ay = qy at *
  go_enter Try.func76, Try.ntmps76
  go_wp2_with fail
  generalize hW : (w.alloc (.cells #[.int .i64 ax, .int .i64 ay, .int .i64 bx, .int .i64 ey] 122)).alloc (.cells #[.int .i64 px, .int .i64 py] 64) = W0
  have at0 : AtL w.heap.size [.int .i64 ax, .int .i64 ay, .int .i64 bx, .int .i64 ey] W0 := by rw [← hW]; exact (AtL.new w _ _).alloc _
  have at1 : AtL (w.heap.size + 1) [.int .i64 px, .int .i64 py] W0 := by rw [← hW]; exact AtL.newAt (by simp)
  have g0 : Below w.heap.size w W0 := by rw [← hW]; repeat' (first | with_reducible assumption | with_reducible exact Below.refl _ _ | (with_reducible refine Below.setCell ?_ ?_ _) | (with_reducible refine Below.alloc ?_ ?_ _) | (with_reducible refine Below.drew ?_) | (with_reducible refine below_dr ?_ _) | (with_reducible refine Below.trans ?_ (Below.mono (by with_reducible assumption) ?_)) | omega | (simp; done) | (simp; omega))
  clear hW
  have s0 := at0.cell 0 rfl
  have s1 := at0.cell 1 rfl
  have s2 := at0.cell 2 rfl
  have s3 := at0.cell 3 rfl
  have u0 := at1.cell 0 rfl
  have u1 := at1.cell 1 rfl
  have l0 := at0.lt
  have l1 := at1.lt
  refine (CX.out _).mono ?_
  rintro e w1 ⟨rfl, rfl⟩
  go_wp2_with fail
  refine (CY.out _).mono ?_
  rintro e w1 ⟨rfl, rfl⟩
  go_upto_region 3 with fail
  go_cut [5, 6] (fun sA sB wx => ∃ q r : Nat, sA = .pointer (some ⟨q, 0, none⟩) ∧ sB = .pointer (some ⟨r, 0, none⟩) ∧ Blk wx q 64 #[.int .i64 dx, .int .i64 dy] ∧ Blk wx r 64 #[.int .i64 (2 * qx), .int .i64 (2 * qy)] ∧ Below W0.heap.size W0 wx)
  case first =>
    go_region_held3 (fun w' => (∀ b o, b < W0.heap.size → w'.cell? ⟨b, o, none⟩ = W0.cell? ⟨b, o, none⟩) ∧ W0.heap.size ≤ w'.heap.size)
      (first | ((try dsimp only); exact ⟨fun b o h => (by (repeat (first | with_reducible exact rfl | (with_reducible refine (cell_drew_at _ _).trans ?_) | (with_reducible refine (cell_set_at _ _ (by first | omega | (simp; done) | (simp; omega))).trans ?_) | (with_reducible refine (cell_alloc_at _ _ (by first | omega | (simp; done) | (simp; omega))).trans ?_) | (with_reducible refine (hcwA b o (by first | omega | (simp; done) | (simp; omega))).trans ?_) | (with_reducible refine (hcwB b o (by first | omega | (simp; done) | (simp; omega))).trans ?_) | (with_reducible refine (hcwC b o (by first | omega | (simp; done) | (simp; omega))).trans ?_)))), (by first | omega | (simp; done) | (simp; omega))⟩) | fail)
      (first
        | (go_at_call 109; (with_reducible refine (M1.out _).mono ?_); rintro e wA ⟨rfl, hbwA⟩; obtain ⟨hcwA, hfwA⟩ := bcell hbwA; have hzwA := hbwA.size; (try simp only [World.size_drew] at hcwA hfwA hzwA); (try simp only [World.size_alloc] at hcwA hfwA hzwA); (try have qW00wA : W0.heap.size < wA.heap.size := (by omega)); (try have qW01wA : W0.heap.size + 1 < wA.heap.size := (by omega)))
        | (go_at_call 109; (with_reducible refine (M2.out _).mono ?_); rintro e wB ⟨rfl, hbwB⟩; obtain ⟨hcwB, hfwB⟩ := bcell hbwB; have hzwB := hbwB.size; (try simp only [World.size_drew] at hcwB hfwB hzwB); (try simp only [World.size_alloc] at hcwB hfwB hzwB); (try have qW00wB : W0.heap.size < wB.heap.size := (by omega)); (try have qW01wB : W0.heap.size + 1 < wB.heap.size := (by omega)); (try have qwA0wB : wA.heap.size < wB.heap.size := (by omega)); (try have qwA1wB : wA.heap.size + 1 < wB.heap.size := (by omega)))
        | (go_at_call 110; (with_reducible refine (T1.out _).mono ?_); rintro e wC ⟨rfl, hbwC⟩; obtain ⟨hcwC, hfwC⟩ := bcell hbwC; have hzwC := hbwC.size; (try simp only [World.size_drew] at hcwC hfwC hzwC); (try simp only [World.size_alloc] at hcwC hfwC hzwC); (try have qW00wC : W0.heap.size < wC.heap.size := (by omega)); (try have qW01wC : W0.heap.size + 1 < wC.heap.size := (by omega)); (try have qwA0wC : wA.heap.size < wC.heap.size := (by omega)); (try have qwA1wC : wA.heap.size + 1 < wC.heap.size := (by omega)); (try have qwB0wC : wB.heap.size < wC.heap.size := (by omega)); (try have qwB1wC : wB.heap.size + 1 < wC.heap.size := (by omega))))
    all_goals
      go_wp2_with fail
      go_meet
    all_goals exact ⟨_, _, rfl, rfl, by repeat' (first | with_reducible assumption | with_reducible exact Blk.new _ _ _ | ((with_reducible refine Blk.newAt _ _ _ ?_); (first | rfl | (simp; done))) | (with_reducible apply Blk.set2P) | (with_reducible refine Blk.drew ?_) | (with_reducible refine Blk.alloc ?_ _) | (with_reducible refine Blk.carry ?_ hbwC) | (with_reducible refine Blk.carry ?_ hbwB) | (with_reducible refine Blk.carry ?_ hbwA) | (with_reducible refine Blk.far ?_ (by first | omega | (simp; done) | (simp; omega)) _)), by repeat' (first | with_reducible assumption | with_reducible exact Blk.new _ _ _ | ((with_reducible refine Blk.newAt _ _ _ ?_); (first | rfl | (simp; done))) | (with_reducible apply Blk.set2P) | (with_reducible refine Blk.drew ?_) | (with_reducible refine Blk.alloc ?_ _) | (with_reducible refine Blk.carry ?_ hbwC) | (with_reducible refine Blk.carry ?_ hbwB) | (with_reducible refine Blk.carry ?_ hbwA) | (with_reducible refine Blk.far ?_ (by first | omega | (simp; done) | (simp; omega)) _)), by repeat' (first | with_reducible assumption | with_reducible exact Below.refl _ _ | (with_reducible refine Below.setCell ?_ ?_ _) | (with_reducible refine Below.alloc ?_ ?_ _) | (with_reducible refine Below.drew ?_) | (with_reducible refine below_dr ?_ _) | (with_reducible refine Below.trans ?_ (Below.mono (by with_reducible assumption) ?_)) | omega | (simp; done) | (simp; omega))⟩
  case rest =>
    obtain ⟨q, r, rfl, rfl, bq, br, bx⟩ := hcut
    have gx : Below w.heap.size w _ := g0.trans (bx.mono g0.size)
    obtain ⟨wc, rfl⟩ : ∃ W : World, W = wc := ⟨_, rfl⟩
    clear bx at0 at1 g0 s0 s1 s2 s3 u0 u1 l0 l1 CX CY M1 M2 T1
    have HS4 := Lib.hid (sidesUp_4 dx dy qx qy)
    have HSB := Lib.hid (sidesUp_b dx dy qx qy)
    go_wp2_with fail
    go_loopw [7, 48] (fun s i wr => ∃ k : Nat, k ≤ 4 ∧ i = .int .i64 (k : Int) ∧ s = .int .i64 (sidesUp dx dy qx qy k) ∧ Blk wr q 64 #[.int .i64 dx, .int .i64 dy] ∧ Blk wr r 64 #[.int .i64 (2 * qx), .int .i64 (2 * qy)] ∧ Below w.heap.size w wr) (fun _ i _ => 4 - (intOf i).toNat)
    case atStart => exact ⟨0, Nat.zero_le _, rfl, rfl, bq, br, gx⟩
    case round =>
      clear bq br gx
      obtain ⟨k, hk, rfl, rfl, bq, br, hbl⟩ := hrel
      have zr := hbl.size
      obtain ⟨b1, b2⟩ := HSB.out k
      obtain ⟨⟨d1, d2⟩, ⟨d3, d4⟩, ⟨d5, d6⟩, ⟨d7, d8⟩⟩ := B1.out
      by_cases hlt : k < 4
      case pos =>
        have hix : ∀ w, (Instr.index 151 (.agg #[.int .i64 (-1), .int .i64 (-1), .int .i64 (1), .int .i64 (-1), .int .i64 (1), .int .i64 (1), .int .i64 (-1), .int .i64 (1)]) (.int .i64 (k : Int))).run Try.prog w = .ok (.agg #[.int .i64 (cnX k), .int .i64 (cnY k)]) w := by
          rcases (show k = 0 ∨ k = 1 ∨ k = 2 ∨ k = 3 by omega) with rfl | rfl | rfl | rfl <;> exact fun _ => by kernel_rfl
        have hcx : -1 ≤ cnX k ∧ cnX k ≤ 1 := by rcases (show k = 0 ∨ k = 1 ∨ k = 2 ∨ k = 3 by omega) with rfl | rfl | rfl | rfl <;> decide
        have hcy : -1 ≤ cnY k ∧ cnY k ≤ 1 := by rcases (show k = 0 ∨ k = 1 ∨ k = 2 ∨ k = 3 by omega) with rfl | rfl | rfl | rfl <;> decide
        have hki : (k : Int) < 4 := by omega
        have HSC := Lib.hid (sidesUp_succ dx dy qx qy k)
        have hcb := cornS_b dx dy qx qy (cnX k) (cnY k)
        generalize cnX k = cx at *
        generalize cnY k = cy at *
        obtain ⟨x1, x2⟩ := hcx
        obtain ⟨y1, y2⟩ := hcy
        have HCN : cornS dx dy qx qy cx cy = orJ (sgnI (dx * (2 * qy + cy) - dy * (2 * qx + cx))) (sgnI (dx * (-1 - cy) - dy * (-1 - cx))) := rfl
        rw [HCN] at HSC hcb
        clear HCN
        have MN := Lib.hid (fun w => minus_any (-1) (-1) cx cy w (by omega) (by omega) (by omega) (by omega))
        have PL := Lib.hid (fun w => plusW_any (2 * qx) (2 * qy) cx cy w (by omega) (by omega) (by omega) (by omega))
        have C1 := Lib.hid (fun w => crossW_any dx dy (2 * qx + cx) (2 * qy + cy) w (by omega) (by omega) (by omega) (by omega))
        have C2 := Lib.hid (fun w => crossW_any dx dy (-1 - cx) (-1 - cy) w (by omega) (by omega) (by omega) (by omega))
        have S1 := Lib.hid (fun w => sign_any (dx * (2 * qy + cy) - dy * (2 * qx + cx)) w)
        have S2 := Lib.hid (fun w => sign_any (dx * (-1 - cy) - dy * (-1 - cx)) w)
        have O1 := Lib.hid (fun g w h0 h1 => orJ_any (sgnI (dx * (2 * qy + cy) - dy * (2 * qx + cx))) (sgnI (dx * (-1 - cy) - dy * (-1 - cx))) g w h0 h1)
        generalize dx * (2 * qy + cy) - dy * (2 * qx + cx) = v1 at *
        generalize dx * (-1 - cy) - dy * (-1 - cx) = v2 at *
        generalize 2 * qx + cx = ux at *
        generalize 2 * qy + cy = uy at *
        generalize -1 - cx = zx at *
        generalize -1 - cy = zy at *
        generalize sgnI v1 = g1 at *
        generalize sgnI v2 = g2 at *
        generalize orJ g1 g2 = og at *
        obtain ⟨b3, b4⟩ := hcb
        generalize sidesUp dx dy qx qy k = sk at *
        clear d1 d2 d3 d4 d5 d6 d7 d8 x1 x2 y1 y2
        generalize 2 * qx = tx at *
        generalize 2 * qy = ty at *
        go_wp2_with fail
        have bk := (Blk.new wr 64 #[.int .i64 cx, .int .i64 cy])
        have bq2 := bq.alloc (.cells #[.int .i64 cx, .int .i64 cy] 64)
        have br2 := br.alloc (.cells #[.int .i64 cx, .int .i64 cy] 64)
        have g2_ : Below w.heap.size w (wr.alloc (.cells #[.int .i64 cx, .int .i64 cy] 64)) := by repeat' (first | with_reducible assumption | with_reducible exact Below.refl _ _ | (with_reducible refine Below.setCell ?_ ?_ _) | (with_reducible refine Below.alloc ?_ ?_ _) | (with_reducible refine Below.drew ?_) | (with_reducible refine below_dr ?_ _) | (with_reducible refine Below.trans ?_ (Below.mono (by with_reducible assumption) ?_)) | omega | (simp; done) | (simp; omega))
        generalize wr.heap.size = Q at *
        refine (MN.out _).mono ?_
        rintro e w3 ⟨rfl, hb3⟩
        have bk3 := bk.carry hb3
        have bq3 := bq2.carry hb3
        have br3 := br2.carry hb3
        have g3 : Below w.heap.size w w3 := g2_.trans (hb3.mono g2_.size)
        clear bk bq2 br2 g2_ hb3 bq br hbl MN zr hix
        go_wp2_with fail
        have bz4 := (Blk.new w3 64 #[.int .i64 zx, .int .i64 zy])
        have bk4 := bk3.alloc (.cells #[.int .i64 zx, .int .i64 zy] 64)
        have bq4 := bq3.alloc (.cells #[.int .i64 zx, .int .i64 zy] 64)
        have br4 := br3.alloc (.cells #[.int .i64 zx, .int .i64 zy] 64)
        have g4 : Below w.heap.size w (w3.alloc (.cells #[.int .i64 zx, .int .i64 zy] 64)) := by have z3 := g3.size; repeat' (first | with_reducible assumption | with_reducible exact Below.refl _ _ | (with_reducible refine Below.setCell ?_ ?_ _) | (with_reducible refine Below.alloc ?_ ?_ _) | (with_reducible refine Below.drew ?_) | (with_reducible refine below_dr ?_ _) | (with_reducible refine Below.trans ?_ (Below.mono (by with_reducible assumption) ?_)) | omega | (simp; done) | (simp; omega))
        have zs : (w3.alloc (.cells #[.int .i64 zx, .int .i64 zy] 64)).heap.size = w3.heap.size + 1 := by simp
        generalize w3.alloc (.cells #[.int .i64 zx, .int .i64 zy] 64) = W4 at *
        generalize w3.heap.size = Z at *
        clear bk3 bq3 br3 g3 zs
        have cz0 := bz4.cell 0 rfl
        have cz1 := bz4.cell 1 rfl
        have ck0 := bk4.cell 0 rfl
        have ck1 := bk4.cell 1 rfl
        have cq0 := bq4.cell 0 rfl
        have cq1 := bq4.cell 1 rfl
        have cr0 := br4.cell 0 rfl
        have cr1 := br4.cell 1 rfl
        have lz := bz4.lt
        have lk := bk4.lt
        have lq := bq4.lt
        have lr := br4.lt
        go_region_held3 (fun w' => (∀ b o, b < W4.heap.size → w'.cell? ⟨b, o, none⟩ = W4.cell? ⟨b, o, none⟩) ∧ W4.heap.size ≤ w'.heap.size)
          (first | ((try dsimp only); exact ⟨fun b o h => (by (repeat (first | with_reducible exact rfl | (with_reducible refine (cell_drew_at _ _).trans ?_) | (with_reducible refine (cell_set_at _ _ (by first | omega | (simp; done) | (simp; omega))).trans ?_) | (with_reducible refine (cell_alloc_at _ _ (by first | omega | (simp; done) | (simp; omega))).trans ?_) | (with_reducible refine (hcwP b o (by first | omega | (simp; done) | (simp; omega))).trans ?_) | (with_reducible refine (hcwA b o (by first | omega | (simp; done) | (simp; omega))).trans ?_) | (with_reducible refine (hcwB b o (by first | omega | (simp; done) | (simp; omega))).trans ?_)))), (by first | omega | (simp; done) | (simp; omega))⟩) | fail)
          (first
            | (go_at_call 114; (with_reducible refine (PL.out _).mono ?_); rintro e wP ⟨rfl, hbwP⟩; obtain ⟨hcwP, hfwP⟩ := bcell hbwP; have hzwP := hbwP.size; (try simp only [World.size_drew] at hcwP hfwP hzwP); (try simp only [World.size_alloc] at hcwP hfwP hzwP))
            | (go_at_call 113; (with_reducible refine (C1.out _).mono ?_); rintro e wA ⟨rfl, hbwA⟩; obtain ⟨hcwA, hfwA⟩ := bcell hbwA; have hzwA := hbwA.size; (try simp only [World.size_drew] at hcwA hfwA hzwA); (try simp only [World.size_alloc] at hcwA hfwA hzwA))
            | (go_at_call 113; (with_reducible refine (C2.out _).mono ?_); rintro e wB ⟨rfl, hbwB⟩; obtain ⟨hcwB, hfwB⟩ := bcell hbwB; have hzwB := hbwB.size; (try simp only [World.size_drew] at hcwB hfwB hzwB); (try simp only [World.size_alloc] at hcwB hfwB hzwB))
            | (go_at_call 112; (with_reducible refine (S1.out _).mono ?_); rintro e wS ⟨rfl, rfl⟩)
            | (go_at_call 112; (with_reducible refine (S2.out _).mono ?_); rintro e wS ⟨rfl, rfl⟩)
            | (go_at_call 111; (with_reducible refine (O1.out _ _ ?_ ?_).mono ?_); (focus (first | (simp [go_sem]; done) | skip)); (focus (first | (simp [go_sem]; done) | skip)); rintro e wO ⟨rfl, rfl⟩))
        all_goals
          have bqB : Blk wB q 64 #[.int .i64 dx, .int .i64 dy] := by first | exact ((bq4.drew.carry hbwP).carry hbwA).carry hbwB | exact ((bq4.carry hbwP).carry hbwA).carry hbwB
          have brB : Blk wB r 64 #[.int .i64 tx, .int .i64 ty] := by first | exact ((br4.drew.carry hbwP).carry hbwA).carry hbwB | exact ((br4.carry hbwP).carry hbwA).carry hbwB
          have gP : Below w.heap.size w wP := by first | exact g4.trans (hbwP.mono g4.size) | exact (Below.drew g4).trans (hbwP.mono (Below.drew g4).size)
          have gA := gP.trans (hbwA.mono gP.size)
          have gB := gA.trans (hbwB.mono gA.size)
          have zB := gB.size
          have ew : IntKind.i64.wrap (sk + og) = sk + og := IntWalk.i64_in _ (by omega)
          clear cz0 cz1 ck0 ck1 cq0 cq1 cr0 cr1
          go_wp2_with fail
          go_roundw
          case rel => exact ⟨k + 1, by omega, by go_num, by rw [HSC.out, ew], by repeat' (first | with_reducible assumption | with_reducible exact Blk.new _ _ _ | ((with_reducible refine Blk.newAt _ _ _ ?_); (first | rfl | (simp; done))) | (with_reducible apply Blk.set2P) | (with_reducible refine Blk.drew ?_) | (with_reducible refine Blk.alloc ?_ _) | (with_reducible refine Blk.carry ?_ hbwC) | (with_reducible refine Blk.carry ?_ hbwB) | (with_reducible refine Blk.carry ?_ hbwA) | (with_reducible refine Blk.far ?_ (by first | omega | (simp; done) | (simp; omega)) _)), by repeat' (first | with_reducible assumption | with_reducible exact Blk.new _ _ _ | ((with_reducible refine Blk.newAt _ _ _ ?_); (first | rfl | (simp; done))) | (with_reducible apply Blk.set2P) | (with_reducible refine Blk.drew ?_) | (with_reducible refine Blk.alloc ?_ _) | (with_reducible refine Blk.carry ?_ hbwC) | (with_reducible refine Blk.carry ?_ hbwB) | (with_reducible refine Blk.carry ?_ hbwA) | (with_reducible refine Blk.far ?_ (by first | omega | (simp; done) | (simp; omega)) _)), by repeat' (first | with_reducible assumption | with_reducible exact Below.refl _ _ | (with_reducible refine Below.setCell ?_ ?_ _) | (with_reducible refine Below.alloc ?_ ?_ _) | (with_reducible refine Below.drew ?_) | (with_reducible refine below_dr ?_ _) | (with_reducible refine Below.trans ?_ (Below.mono (by with_reducible assumption) ?_)) | omega | (simp; done) | (simp; omega))⟩
          case measure => first | (simp [intOf]; done) | (simp [intOf]; omega)
      case neg =>
        obtain rfl : k = 4 := by omega
        have HV := Lib.hid HS4.out
        generalize sidesUp dx dy qx qy 4 = S at *
        have hr1 : -9223372036854775808 ≤ S := by omega
        have hr2 : S ≤ 9223372036854775807 := by omega
        by_cases e1 : -4 < S
        case neg =>
          have d1_ : decide (-4 < S) = false := decide_eq_false e1
          have HR := Lib.hid (show false = decide (-4 < sides dx dy qx qy ∧ sides dx dy qx qy < 4) by rw [← HV.out]; symm; rw [decide_eq_false_iff_not]; omega)
          clear e1 HS4 HSB HV B1 b1 b2 d1 d2 d3 d4 d5 d6 d7 d8 hr1 hr2
          go_wp2_with fail
          go_ret
          exact ⟨ret_bool HR.out, hbl⟩
        case pos =>
          by_cases e2 : S < 4
          case neg =>
            have d2_ : decide (S < 4) = false := decide_eq_false e2
            have HR := Lib.hid (show false = decide (-4 < sides dx dy qx qy ∧ sides dx dy qx qy < 4) by rw [← HV.out]; symm; rw [decide_eq_false_iff_not]; omega)
            clear e2 HS4 HSB HV B1 b1 b2 d1 d2 d3 d4 d5 d6 d7 d8 hr1 hr2
            go_wp2_with fail
            go_ret
            exact ⟨ret_bool HR.out, hbl⟩
          case pos =>
            have HR := Lib.hid (show true = decide (-4 < sides dx dy qx qy ∧ sides dx dy qx qy < 4) by rw [← HV.out]; symm; rw [decide_eq_true_eq]; omega)
            clear HS4 HSB HV B1 b1 b2 d1 d2 d3 d4 d5 d6 d7 d8 hr1 hr2
            go_wp2_with fail
            go_ret
            exact ⟨ret_bool HR.out, hbl⟩
end Go.Proofs.Ytnlhofepobkljaa
