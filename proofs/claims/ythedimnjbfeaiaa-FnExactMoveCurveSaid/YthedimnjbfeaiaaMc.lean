/- Walks: the law on MoveCurve: it returns true. -/
import Derived.Test.YthedimnjbfeaiaaMb
import Derived.Test.YthedimnjbfeaiaaKn
namespace Go.Proofs.Ythedimnjbfeaiaa
open Go.RowKit
set_option linter.unusedVariables false
theorem move_both (l : List APt) (cl : Bool) (t : Int) (ff fl : Bool) (fx fy lx ly b0 b1 : Int) : ∃ (p1 : Bool) (p2 : Int) (p3 p4 : Bool) (p5 p6 p7 p8 code : Int) (l2 : List APt), l2.length ≤ 1048576 ∧ (∀ (A : Option Addr) (c : Nat) (w : World), l.length ≤ 1048576 → Rd cPt 2 w w.heap.size A l → Calls Try.prog 24 #[.agg #[.slice A l.length c, .bool cl, .int .i64 t, .bool ff, .bool fl, .int .i64 fx, .int .i64 fy, .int .i64 lx, .int .i64 ly], .agg #[.int .i64 b0, .int .i64 b1]] w (Ret_Curve p1 p2 p3 p4 p5 p6 p7 p8 code l2 w)) ∧ (∀ (A : Option Addr) (c : Nat) (w : World), l.length ≤ 1048576 → Rd cPt 2 w w.heap.size A l → Calls Try.prog 26 #[.agg #[.slice A l.length c, .bool cl, .int .i64 t, .bool ff, .bool fl, .int .i64 fx, .int .i64 fy, .int .i64 lx, .int .i64 ly], .agg #[.int .i64 b0, .int .i64 b1]] w (Ret_Curve p1 p2 p3 p4 p5 p6 p7 p8 code l2 w)) := by
  rcases hv : (vCur l cl t ff fl fx fy lx ly && okB b0 b1) with _ | _
  · exact ⟨_, _, _, _, _, _, _, _, _, _, by simp, fun A c w hl r => specMove_f l A c cl t ff fl fx fy lx ly b0 b1 w hv hl r, fun A c w hl r => implMove_f l A c cl t ff fl fx fy lx ly b0 b1 w hv hl r⟩
  · have hv : vCur l cl t ff fl fx fy lx ly = true ∧ okB b0 b1 = true := by simpa using hv
    rcases hp : ptsUp (l.map (mvP b0 b1)) l.length with _ | _
    · exact ⟨false, 0, false, false, 0, 0, 0, 0, 2, [], by simp, fun A c w hl r => by have h := specMove_go l A c cl t ff fl fx fy lx ly b0 b1 w hv.1 hv.2 hl r; rw [hp] at h; exact h, fun A c w hl r => by have h := implMove_go l A c cl t ff fl fx fy lx ly b0 b1 w hv.1 hv.2 hl r; rw [hp] at h; exact h⟩
    · exact ⟨cl, t, ff, fl, fx, fy, lx, ly, 0, l.map (mvP b0 b1), by rw [List.length_map]; have := len_yes (vC_parts hv.1).1; omega, fun A c w hl r => by have h := specMove_go l A c cl t ff fl fx fy lx ly b0 b1 w hv.1 hv.2 hl r; rw [hp] at h; exact h, fun A c w hl r => by have h := implMove_go l A c cl t ff fl fx fy lx ly b0 b1 w hv.1 hv.2 hl r; rw [hp] at h; exact h⟩
set_option maxRecDepth 100000 in
set_option maxHeartbeats 12800000 in
theorem walk_MoveCurve (a : ACurve) (f0 f1 : Int) (wf0 : (Lit.int .i64 f0).wf = true) (wf1 : (Lit.int .i64 f1).wf = true) (w : World) (k_a : okCurve w w.heap.size a) :
    Calls Try.prog 6 #[.agg #[.slice a.1.1 a.1.2.2.length a.1.2.1, .bool a.2.1, .int .i64 a.2.2.1, .bool a.2.2.2.1, .bool a.2.2.2.2.1, .int .i64 a.2.2.2.2.2.1, .int .i64 a.2.2.2.2.2.2.1, .int .i64 a.2.2.2.2.2.2.2.1, .int .i64 a.2.2.2.2.2.2.2.2], .agg #[.int .i64 f0, .int .i64 f1]] w fun e w' => e = .returned (.bool true) ∧ Below w.heap.size w w' := by
  obtain ⟨⟨a0A, a0c, a0l⟩, a1, a2, a3, a4, a5, a6, a7, a8⟩ := a
  obtain ⟨nc_a0, cm_a0, rd_a0, ok_a0, w_a2, w_a5, w_a6, w_a7, w_a8⟩ := k_a
  simp only at nc_a0 cm_a0 rd_a0 ok_a0 w_a2 w_a5 w_a6 w_a7 w_a8 ⊢
  have hm_a0 : a0l.length ≤ 9223372036854775807 := by unfold maxLen at cm_a0; omega
  have HOK_a0 := Lib.hid (show ∀ (w2 : World) (B : Nat) (i : Nat) (b : APt), a0l[i]? = some b → okPt w2 B b from fun _ _ i b h => ok_a0 i b h)
  clear ok_a0 nc_a0 cm_a0
  obtain ⟨p1, p2, p3, p4, p5, p6, p7, p8, code, l2, hll, C1', C2'⟩ := move_both a0l a1 a2 a3 a4 a5 a6 a7 a8 f0 f1
  have C1 := Lib.hid C1'
  have C2 := Lib.hid C2'
  clear C1' C2'
  have e_c : (code != code) = false := by simp
  clear w_a2 w_a5 w_a6 w_a7 w_a8 wf0 wf1
  obtain ⟨M, hM⟩ : ∃ M : Int, M = ((1 + 2 * l2.length : Nat) : Int) := ⟨_, rfl⟩
  have hM0 : 0 ≤ M := by omega
  have HM := Lib.hid hM
  have e_M : (M != M) = false := by simp
  clear hM
  obtain ⟨M1, hM1⟩ : ∃ M1 : Int, M1 = ((1 + 2 * a0l.length : Nat) : Int) := ⟨_, rfl⟩
  have hM10 : 0 ≤ M1 := by omega
  have HM1 := Lib.hid hM1
  clear hM1
  go_enter Try.func6, Try.ntmps6
  go_wp2_with fail
  generalize hW : ((w.alloc (.cells #[.slice a0A a0l.length a0c, .bool a1, .int .i64 a2, .bool a3, .bool a4, .int .i64 a5, .int .i64 a6, .int .i64 a7, .int .i64 a8] 26)).alloc (.cells #[.int .i64 f0, .int .i64 f1] 24)) = W0
  have rd_a0w : Rd cPt 2 w (w.heap.size) a0A a0l := rd_a0
  have bx_aW0 : AtL (w.heap.size) [.slice a0A a0l.length a0c, .bool a1, .int .i64 a2, .bool a3, .bool a4, .int .i64 a5, .int .i64 a6, .int .i64 a7, .int .i64 a8] W0 := by rw [← hW]; repeat' (first | with_reducible assumption | with_reducible exact AtL.new _ _ _ | ((with_reducible refine AtL.newAt ?_); (first | rfl | (simp; done))) | (with_reducible refine AtL.drew ?_) | (with_reducible refine AtL.below ?_ (by with_reducible assumption)) | (with_reducible refine AtL.alloc ?_ _) | (with_reducible refine AtL.far ?_ ?_ _ _) | omega | (simp; done) | (simp; omega))
  have rd_a0W0 : Rd cPt 2 W0 (w.heap.size) a0A a0l := by rw [← hW]; repeat' (first | with_reducible assumption | (with_reducible refine Rd.drew ?_) | (with_reducible refine Rd.carry ?_ (by with_reducible assumption) ?_) | (with_reducible refine Rd.alloc ?_ ?_ _) | (with_reducible refine Rd.setCell ?_ ?_ _) | omega | (simp; done) | (simp; omega))
  have bx_fW0 : AtL (w.heap.size + 1) [.int .i64 f0, .int .i64 f1] W0 := by rw [← hW]; repeat' (first | with_reducible assumption | with_reducible exact AtL.new _ _ _ | ((with_reducible refine AtL.newAt ?_); (first | rfl | (simp; done))) | (with_reducible refine AtL.drew ?_) | (with_reducible refine AtL.below ?_ (by with_reducible assumption)) | (with_reducible refine AtL.alloc ?_ _) | (with_reducible refine AtL.far ?_ ?_ _ _) | omega | (simp; done) | (simp; omega))
  have qW0 : w.heap.size ≤ W0.heap.size := by rw [← hW]; simp; omega
  have bn : Below w.heap.size w W0 := by rw [← hW]; repeat' (first | with_reducible assumption | with_reducible exact Below.refl _ _ | (with_reducible refine Below.setCell ?_ ?_ _) | (with_reducible refine Below.alloc ?_ ?_ _) | (with_reducible refine Below.drew ?_) | (with_reducible refine below_dr ?_ _) | (with_reducible refine Below.trans ?_ (Below.mono (by with_reducible assumption) ?_)) | omega | (simp; done) | (simp; omega))
  have bW0 := Lib.hid bn
  clear hW bn
  clear rd_a0w rd_a0
  have hV0 : 0 ≤ (1048576 : Int) ∧ (1048576 : Int) ≤ 1048576 := by omega
  by_cases hfit : ((a0l.length : Nat) : Int) ≤ 1048576
  case neg =>
    replace hfit : 1048576 < ((a0l.length : Nat) : Int) := by omega
    refine (szCurve_no a0A a0c a0l a1 a2 a3 a4 a5 a6 a7 a8 1048576 _ (by omega) (by omega) hm_a0 hfit ?_ (HOK_a0.out _ _)).mono ?_
    · (refine Rd.more (B := w.heap.size) ?_ (by first | omega | ((try simp only [World.size_setCell]); (try simp only [World.size_drew]); (try simp only [World.size_alloc]); omega) | (simp; done) | (simp; omega))); (repeat' (first | with_reducible assumption | (with_reducible refine Rd.drew ?_) | (with_reducible refine Rd.carry ?_ (by with_reducible assumption) ?_) | (with_reducible refine Rd.alloc ?_ ?_ _) | (with_reducible refine Rd.setCell ?_ ?_ _) | omega | (simp; done) | (simp; omega)))
    rintro e wN ⟨rfl, hb⟩
    go_wp2_with fail
    go_ret
    have bp := bW0.out
    exact ⟨rfl, by repeat' (first | with_reducible assumption | with_reducible exact Below.refl _ _ | (with_reducible refine Below.setCell ?_ ?_ _) | (with_reducible refine Below.alloc ?_ ?_ _) | (with_reducible refine Below.drew ?_) | (with_reducible refine below_dr ?_ _) | (with_reducible refine Below.trans ?_ (Below.mono (by with_reducible assumption) ?_)) | omega | (simp; done) | (simp; omega))⟩
  case pos =>
    have hl_a0 : a0l.length ≤ 1048576 := by omega
    refine (szCurve_yes a0A a0c a0l a1 a2 a3 a4 a5 a6 a7 a8 1048576 _ (by omega) (by omega) (by omega) hfit ?_ (HOK_a0.out _ _)).mono ?_
    · (refine Rd.more (B := w.heap.size) ?_ (by first | omega | ((try simp only [World.size_setCell]); (try simp only [World.size_drew]); (try simp only [World.size_alloc]); omega) | (simp; done) | (simp; omega))); (repeat' (first | with_reducible assumption | (with_reducible refine Rd.drew ?_) | (with_reducible refine Rd.carry ?_ (by with_reducible assumption) ?_) | (with_reducible refine Rd.alloc ?_ ?_ _) | (with_reducible refine Rd.setCell ?_ ?_ _) | omega | (simp; done) | (simp; omega)))
    obtain ⟨V0, hV⟩ : ∃ V : Int, V = 1048576 - (a0l.length : Nat) := ⟨_, rfl⟩
    have hVV : 0 ≤ V0 ∧ V0 ≤ 1048576 := by omega
    rw [← hV]
    rintro e wS0 ⟨rfl, hbwS0⟩
    clear hV hfit
    obtain ⟨hV0_0, hV1_0⟩ := hVV
    have zwS0 := hbwS0.size
    (try simp only [World.size_setCell] at zwS0)
    (try simp only [World.size_drew] at zwS0)
    (try simp only [World.size_alloc] at zwS0)
    have qwS0 : w.heap.size ≤ wS0.heap.size := by omega
    have bx_awS0 : AtL (w.heap.size) [.slice a0A a0l.length a0c, .bool a1, .int .i64 a2, .bool a3, .bool a4, .int .i64 a5, .int .i64 a6, .int .i64 a7, .int .i64 a8] wS0 := by repeat' (first | with_reducible assumption | with_reducible exact AtL.new _ _ _ | ((with_reducible refine AtL.newAt ?_); (first | rfl | (simp; done))) | (with_reducible refine AtL.drew ?_) | (with_reducible refine AtL.below ?_ (by with_reducible assumption)) | (with_reducible refine AtL.alloc ?_ _) | (with_reducible refine AtL.far ?_ ?_ _ _) | omega | (simp; done) | (simp; omega))
    have rd_a0wS0 : Rd cPt 2 wS0 (w.heap.size) a0A a0l := by repeat' (first | with_reducible assumption | (with_reducible refine Rd.drew ?_) | (with_reducible refine Rd.carry ?_ (by with_reducible assumption) ?_) | (with_reducible refine Rd.alloc ?_ ?_ _) | (with_reducible refine Rd.setCell ?_ ?_ _) | omega | (simp; done) | (simp; omega))
    have bx_fwS0 : AtL (w.heap.size + 1) [.int .i64 f0, .int .i64 f1] wS0 := by repeat' (first | with_reducible assumption | with_reducible exact AtL.new _ _ _ | ((with_reducible refine AtL.newAt ?_); (first | rfl | (simp; done))) | (with_reducible refine AtL.drew ?_) | (with_reducible refine AtL.below ?_ (by with_reducible assumption)) | (with_reducible refine AtL.alloc ?_ _) | (with_reducible refine AtL.far ?_ ?_ _ _) | omega | (simp; done) | (simp; omega))
    have bp := bW0.out
    have bn : Below w.heap.size w wS0 := by repeat' (first | with_reducible assumption | with_reducible exact Below.refl _ _ | (with_reducible refine Below.setCell ?_ ?_ _) | (with_reducible refine Below.alloc ?_ ?_ _) | (with_reducible refine Below.drew ?_) | (with_reducible refine below_dr ?_ _) | (with_reducible refine Below.trans ?_ (Below.mono (by with_reducible assumption) ?_)) | omega | (simp; done) | (simp; omega))
    have bwS0 := Lib.hid bn
    clear bn
    clear bp bW0
    clear hbwS0
    clear bx_aW0
    clear rd_a0W0
    clear bx_fW0
    have kbx_a0 := bx_awS0.cell 0 rfl
    have kbx_a1 := bx_awS0.cell 1 rfl
    have kbx_a2 := bx_awS0.cell 2 rfl
    have kbx_a3 := bx_awS0.cell 3 rfl
    have kbx_a4 := bx_awS0.cell 4 rfl
    have kbx_a5 := bx_awS0.cell 5 rfl
    have kbx_a6 := bx_awS0.cell 6 rfl
    have kbx_a7 := bx_awS0.cell 7 rfl
    have kbx_a8 := bx_awS0.cell 8 rfl
    have lbx_a := bx_awS0.lt
    have kbx_f0 := bx_fwS0.cell 0 rfl
    have kbx_f1 := bx_fwS0.cell 1 rfl
    have lbx_f := bx_fwS0.lt
    go_wp2_with fail
    clear kbx_a0 kbx_a1 kbx_a2 kbx_a3 kbx_a4 kbx_a5 kbx_a6 kbx_a7 kbx_a8 lbx_a
    clear kbx_f0 kbx_f1 lbx_f
    have lt_a := bx_awS0.lt
    have lt_f := bx_fwS0.lt
    have kbx_a0 := bx_awS0.cell 0 rfl
    have kbx_a1 := bx_awS0.cell 1 rfl
    have kbx_a2 := bx_awS0.cell 2 rfl
    have kbx_a3 := bx_awS0.cell 3 rfl
    have kbx_a4 := bx_awS0.cell 4 rfl
    have kbx_a5 := bx_awS0.cell 5 rfl
    have kbx_a6 := bx_awS0.cell 6 rfl
    have kbx_a7 := bx_awS0.cell 7 rfl
    have kbx_a8 := bx_awS0.cell 8 rfl
    have lbx_a := bx_awS0.lt
    have kbx_f0 := bx_fwS0.cell 0 rfl
    have kbx_f1 := bx_fwS0.cell 1 rfl
    have lbx_f := bx_fwS0.lt
    go_upto_region 5 with fail
    go_cut [6, 7] (fun sA sB wx => Left_Curve p1 p2 p3 p4 p5 p6 p7 p8 code l2 wS0.heap.size sA sB wx ∧ Below wS0.heap.size wS0 wx)
    case first =>
      go_region_held3 (fun w' => (∀ b o, b < wS0.heap.size → w'.cell? ⟨b, o, none⟩ = wS0.cell? ⟨b, o, none⟩) ∧ wS0.heap.size ≤ w'.heap.size)
        (first | ((try dsimp only); exact ⟨fun b o h => (by (repeat (first | with_reducible exact rfl | (with_reducible refine (cell_drew_at _ _).trans ?_) | (with_reducible refine (cell_set_at _ _ (by first | omega | (simp; done) | (simp; omega))).trans ?_) | (with_reducible refine (cell_alloc_at _ _ (by first | omega | (simp; done) | (simp; omega))).trans ?_) | (with_reducible refine (hcwA0 b o (by first | omega | (simp; done) | (simp; omega))).trans ?_) | (with_reducible refine (hcwA1 b o (by first | omega | (simp; done) | (simp; omega))).trans ?_) | (with_reducible refine (hcwB b o (by first | omega | (simp; done) | (simp; omega))).trans ?_)))), (by first | omega | (simp; done) | (simp; omega))⟩) | fail)
        (first
          | (go_at_call 15; (with_reducible refine (toCurve_any a0A a0c a0l a1 a2 a3 a4 a5 a6 a7 a8 _ hl_a0 ?_).mono ?_); (focus ((refine Rd.more (B := w.heap.size) ?_ (by first | omega | ((try simp only [World.size_setCell]); (try simp only [World.size_drew]); (try simp only [World.size_alloc]); omega) | (simp; done) | (simp; omega))); (repeat' (first | with_reducible assumption | (with_reducible refine Rd.drew ?_) | (with_reducible refine Rd.carry ?_ (by with_reducible assumption) ?_) | (with_reducible refine Rd.alloc ?_ ?_ _) | (with_reducible refine Rd.setCell ?_ ?_ _) | omega | (simp; done) | (simp; omega))))); intro e wA0 hq; obtain ⟨g_owA0_a0, rfl, owA0_a0, hbwA0⟩ := hq; obtain ⟨hcwA0, hfwA0⟩ := bcell hbwA0; have hzwA0 := hbwA0.size; (try simp only [World.size_drew] at hcwA0 hfwA0 hzwA0); (try simp only [World.size_alloc] at hcwA0 hfwA0 hzwA0); (try have qqwS0wA0 : wS0.heap.size < wA0.heap.size := by omega); (try have qqwA1wA0 : wA1.heap.size < wA0.heap.size := by omega))
          | (go_at_call 25; (with_reducible refine (toPt_any f0 f1 _).mono ?_); rintro e wA1 ⟨rfl, hbwA1⟩; obtain ⟨hcwA1, hfwA1⟩ := bcell hbwA1; have hzwA1 := hbwA1.size; (try simp only [World.size_drew] at hcwA1 hfwA1 hzwA1); (try simp only [World.size_alloc] at hcwA1 hfwA1 hzwA1); (try have qqwS0wA1 : wS0.heap.size < wA1.heap.size := by omega); (try have qqwA0wA1 : wA0.heap.size < wA1.heap.size := by omega))
          | (go_at_call 24; (with_reducible refine (C1.out (some ⟨g_owA0_a0, 0, none⟩) a0l.length _ hl_a0 ?_).mono ?_); (focus ((refine Rd.more (B := wA0.heap.size) ?_ (by first | exact Nat.le_refl _ | omega | ((try simp only [World.size_drew]); (try simp only [World.size_alloc]); (try simp only [World.size_drew]); omega) | (simp; done) | (simp; omega))); (repeat' (first | with_reducible assumption | exact Rd.of_own (fun a => cPt_len a) (by omega) owA0_a0 (Nat.le_refl _) | (with_reducible refine Rd.drew ?_) | (with_reducible refine Rd.alloc ?_ ?_ _) | (with_reducible refine Rd.carry ?_ (by with_reducible assumption) ?_) | exact Nat.le_refl _ | omega | (simp; done) | (simp; omega))))); intro e wB hq; obtain ⟨AC, cC, rfl, owC, hbwB⟩ := hq; obtain ⟨hcwB, hfwB⟩ := bcell hbwB; have hzwB := hbwB.size; (try simp only [World.size_drew] at hcwB hfwB hzwB); (try simp only [World.size_alloc] at hcwB hfwB hzwB); have owC0 := owC; replace owC := own_base (base := wS0.heap.size) owC (by first | omega | ((try simp only [World.size_drew]); (try simp only [World.size_alloc]); omega) | (simp; omega)); (try have qqwS0wB : wS0.heap.size < wB.heap.size := by omega); (try have qqwA0wB : wA0.heap.size < wB.heap.size := by omega); (try have qqwA1wB : wA1.heap.size < wB.heap.size := by omega)))
      all_goals
        go_wp2_with fail
        go_meet
      all_goals exact ⟨⟨_, _, _, rfl, rfl, by repeat' (first | (with_reducible apply AtL.store9) | with_reducible assumption | with_reducible exact AtL.new _ _ _ | ((with_reducible refine AtL.newAt ?_); (first | rfl | (simp; done))) | (with_reducible refine AtL.drew ?_) | (with_reducible refine AtL.below ?_ (by with_reducible assumption)) | (with_reducible refine AtL.alloc ?_ _) | (with_reducible refine AtL.far ?_ ?_ _ _) | omega | (simp; done) | (simp; omega)), by first | omega | (simp; done) | (simp; omega), by repeat (first | with_reducible exact owC | (with_reducible refine own_drew ?_) | (with_reducible refine World.ownsRow.alloc ?_ _) | (with_reducible refine own_keep ?_ (fun q hq => by have h := own_block owC0 hq; (try simp only [World.size_drew] at h); (try simp only [World.size_alloc] at h); (try simp only [World.size_drew] at h); simp only; omega) _)), fun r hr => by have h := own_block owC0 hr; (try simp only [World.size_drew] at h); (try simp only [World.size_alloc] at h); (try simp only [World.size_drew] at h); omega⟩, by repeat' (first | with_reducible assumption | with_reducible exact Below.refl _ _ | (with_reducible refine Below.setCell ?_ ?_ _) | (with_reducible refine Below.alloc ?_ ?_ _) | (with_reducible refine Below.drew ?_) | (with_reducible refine below_dr ?_ _) | (with_reducible refine Below.trans ?_ (Below.mono (by with_reducible assumption) ?_)) | omega | (simp; done) | (simp; omega))⟩
    case rest =>
      clear kbx_a0 kbx_a1 kbx_a2 kbx_a3 kbx_a4 kbx_a5 kbx_a6 kbx_a7 kbx_a8 lbx_a
      clear kbx_f0 kbx_f1 lbx_f
      obtain ⟨⟨qw, Aw, cw, rfl, rfl, atw, low, oww, new⟩, hbwC⟩ := hcut
      obtain ⟨wC, rfl⟩ : ∃ W : World, W = wc := ⟨_, rfl⟩
      have NEw := Lib.hid new
      have ltw := atw.lt
      have OBw := Lib.hid (fun r hr => own_block oww (q := r) hr)
      clear new
      have zwC := hbwC.size
      (try simp only [World.size_setCell] at zwC)
      (try simp only [World.size_drew] at zwC)
      (try simp only [World.size_alloc] at zwC)
      have qwC : w.heap.size ≤ wC.heap.size := by omega
      have bx_awC : AtL (w.heap.size) [.slice a0A a0l.length a0c, .bool a1, .int .i64 a2, .bool a3, .bool a4, .int .i64 a5, .int .i64 a6, .int .i64 a7, .int .i64 a8] wC := by repeat' (first | with_reducible assumption | with_reducible exact AtL.new _ _ _ | ((with_reducible refine AtL.newAt ?_); (first | rfl | (simp; done))) | (with_reducible refine AtL.drew ?_) | (with_reducible refine AtL.below ?_ (by with_reducible assumption)) | (with_reducible refine AtL.alloc ?_ _) | (with_reducible refine AtL.far ?_ ?_ _ _) | omega | (simp; done) | (simp; omega))
      have rd_a0wC : Rd cPt 2 wC (w.heap.size) a0A a0l := by repeat' (first | with_reducible assumption | (with_reducible refine Rd.drew ?_) | (with_reducible refine Rd.carry ?_ (by with_reducible assumption) ?_) | (with_reducible refine Rd.alloc ?_ ?_ _) | (with_reducible refine Rd.setCell ?_ ?_ _) | omega | (simp; done) | (simp; omega))
      have bx_fwC : AtL (w.heap.size + 1) [.int .i64 f0, .int .i64 f1] wC := by repeat' (first | with_reducible assumption | with_reducible exact AtL.new _ _ _ | ((with_reducible refine AtL.newAt ?_); (first | rfl | (simp; done))) | (with_reducible refine AtL.drew ?_) | (with_reducible refine AtL.below ?_ (by with_reducible assumption)) | (with_reducible refine AtL.alloc ?_ _) | (with_reducible refine AtL.far ?_ ?_ _ _) | omega | (simp; done) | (simp; omega))
      have bp := bwS0.out
      have bn : Below w.heap.size w wC := by repeat' (first | with_reducible assumption | with_reducible exact Below.refl _ _ | (with_reducible refine Below.setCell ?_ ?_ _) | (with_reducible refine Below.alloc ?_ ?_ _) | (with_reducible refine Below.drew ?_) | (with_reducible refine below_dr ?_ _) | (with_reducible refine Below.trans ?_ (Below.mono (by with_reducible assumption) ?_)) | omega | (simp; done) | (simp; omega))
      have bwC := Lib.hid bn
      clear bn
      clear bp bwS0
      clear hbwC
      clear bx_awS0
      clear rd_a0wS0
      clear bx_fwS0
      have bx_wwC := atw
      clear atw
      have r1wC : Rd cPt 2 wC (wC.heap.size) Aw l2 := Rd.of_own (fun a => cPt_len a) (by omega) oww (Nat.le_refl _)
      clear oww NEw OBw
      have kbx_a0 := bx_awC.cell 0 rfl
      have kbx_a1 := bx_awC.cell 1 rfl
      have kbx_a2 := bx_awC.cell 2 rfl
      have kbx_a3 := bx_awC.cell 3 rfl
      have kbx_a4 := bx_awC.cell 4 rfl
      have kbx_a5 := bx_awC.cell 5 rfl
      have kbx_a6 := bx_awC.cell 6 rfl
      have kbx_a7 := bx_awC.cell 7 rfl
      have kbx_a8 := bx_awC.cell 8 rfl
      have lbx_a := bx_awC.lt
      go_wp2_with fail
      clear kbx_a0 kbx_a1 kbx_a2 kbx_a3 kbx_a4 kbx_a5 kbx_a6 kbx_a7 kbx_a8 lbx_a
      refine (toCurve_any a0A a0c a0l a1 a2 a3 a4 a5 a6 a7 a8 _ hl_a0 ?_).mono ?_
      · (refine Rd.more (B := w.heap.size) ?_ (by first | omega | ((try simp only [World.size_setCell]); (try simp only [World.size_drew]); (try simp only [World.size_alloc]); omega) | (simp; done) | (simp; omega))); (repeat' (first | with_reducible assumption | (with_reducible refine Rd.drew ?_) | (with_reducible refine Rd.carry ?_ (by with_reducible assumption) ?_) | (with_reducible refine Rd.alloc ?_ ?_ _) | (with_reducible refine Rd.setCell ?_ ?_ _) | omega | (simp; done) | (simp; omega)))
      intro e wX hq
      obtain ⟨gX_a0, rfl, owX, hbwX⟩ := hq
      have zwX := hbwX.size
      (try simp only [World.size_setCell] at zwX)
      (try simp only [World.size_drew] at zwX)
      (try simp only [World.size_alloc] at zwX)
      have qwX : w.heap.size ≤ wX.heap.size := by omega
      have bx_awX : AtL (w.heap.size) [.slice a0A a0l.length a0c, .bool a1, .int .i64 a2, .bool a3, .bool a4, .int .i64 a5, .int .i64 a6, .int .i64 a7, .int .i64 a8] wX := by repeat' (first | with_reducible assumption | with_reducible exact AtL.new _ _ _ | ((with_reducible refine AtL.newAt ?_); (first | rfl | (simp; done))) | (with_reducible refine AtL.drew ?_) | (with_reducible refine AtL.below ?_ (by with_reducible assumption)) | (with_reducible refine AtL.alloc ?_ _) | (with_reducible refine AtL.far ?_ ?_ _ _) | omega | (simp; done) | (simp; omega))
      have rd_a0wX : Rd cPt 2 wX (w.heap.size) a0A a0l := by repeat' (first | with_reducible assumption | (with_reducible refine Rd.drew ?_) | (with_reducible refine Rd.carry ?_ (by with_reducible assumption) ?_) | (with_reducible refine Rd.alloc ?_ ?_ _) | (with_reducible refine Rd.setCell ?_ ?_ _) | omega | (simp; done) | (simp; omega))
      have bx_fwX : AtL (w.heap.size + 1) [.int .i64 f0, .int .i64 f1] wX := by repeat' (first | with_reducible assumption | with_reducible exact AtL.new _ _ _ | ((with_reducible refine AtL.newAt ?_); (first | rfl | (simp; done))) | (with_reducible refine AtL.drew ?_) | (with_reducible refine AtL.below ?_ (by with_reducible assumption)) | (with_reducible refine AtL.alloc ?_ _) | (with_reducible refine AtL.far ?_ ?_ _ _) | omega | (simp; done) | (simp; omega))
      have bx_wwX : AtL (qw) [.slice Aw l2.length cw, .bool p1, .int .i64 p2, .bool p3, .bool p4, .int .i64 p5, .int .i64 p6, .int .i64 p7, .int .i64 p8] wX := by repeat' (first | with_reducible assumption | with_reducible exact AtL.new _ _ _ | ((with_reducible refine AtL.newAt ?_); (first | rfl | (simp; done))) | (with_reducible refine AtL.drew ?_) | (with_reducible refine AtL.below ?_ (by with_reducible assumption)) | (with_reducible refine AtL.alloc ?_ _) | (with_reducible refine AtL.far ?_ ?_ _ _) | omega | (simp; done) | (simp; omega))
      have r1wX : Rd cPt 2 wX (wC.heap.size) Aw l2 := by repeat' (first | with_reducible assumption | (with_reducible refine Rd.drew ?_) | (with_reducible refine Rd.carry ?_ (by with_reducible assumption) ?_) | (with_reducible refine Rd.alloc ?_ ?_ _) | (with_reducible refine Rd.setCell ?_ ?_ _) | omega | (simp; done) | (simp; omega))
      have bp := bwC.out
      have bn : Below w.heap.size w wX := by repeat' (first | with_reducible assumption | with_reducible exact Below.refl _ _ | (with_reducible refine Below.setCell ?_ ?_ _) | (with_reducible refine Below.alloc ?_ ?_ _) | (with_reducible refine Below.drew ?_) | (with_reducible refine below_dr ?_ _) | (with_reducible refine Below.trans ?_ (Below.mono (by with_reducible assumption) ?_)) | omega | (simp; done) | (simp; omega))
      have bwX := Lib.hid bn
      clear bn
      clear bp bwC
      clear hbwX
      clear bx_awC
      clear rd_a0wC
      clear bx_fwC
      clear bx_wwC
      clear r1wC
      have rxwX : Rd cPt 2 wX (wX.heap.size) (some ⟨gX_a0, 0, none⟩) a0l := Rd.of_own (fun a => cPt_len a) (by omega) owX (Nat.le_refl _)
      have ROWX := Lib.hid (fun q (hq : (Value.slice (some ⟨gX_a0, 0, none⟩) a0l.length a0l.length).ownBlock = some q) => own_block owX hq)
      have oxwX := owX
      clear owX
      go_wp2_with fail
      generalize hW : wX.alloc (.cells #[.slice (some ⟨gX_a0, 0, none⟩) a0l.length a0l.length, .bool a1, .int .i64 a2, .bool a3, .bool a4, .int .i64 a5, .int .i64 a6, .int .i64 a7, .int .i64 a8] 32) = wY
      have bx_awY : AtL (w.heap.size) [.slice a0A a0l.length a0c, .bool a1, .int .i64 a2, .bool a3, .bool a4, .int .i64 a5, .int .i64 a6, .int .i64 a7, .int .i64 a8] wY := by rw [← hW]; repeat' (first | with_reducible assumption | with_reducible exact AtL.new _ _ _ | ((with_reducible refine AtL.newAt ?_); (first | rfl | (simp; done))) | (with_reducible refine AtL.drew ?_) | (with_reducible refine AtL.below ?_ (by with_reducible assumption)) | (with_reducible refine AtL.alloc ?_ _) | (with_reducible refine AtL.far ?_ ?_ _ _) | omega | (simp; done) | (simp; omega))
      have rd_a0wY : Rd cPt 2 wY (w.heap.size) a0A a0l := by rw [← hW]; repeat' (first | with_reducible assumption | (with_reducible refine Rd.drew ?_) | (with_reducible refine Rd.carry ?_ (by with_reducible assumption) ?_) | (with_reducible refine Rd.alloc ?_ ?_ _) | (with_reducible refine Rd.setCell ?_ ?_ _) | omega | (simp; done) | (simp; omega))
      have bx_fwY : AtL (w.heap.size + 1) [.int .i64 f0, .int .i64 f1] wY := by rw [← hW]; repeat' (first | with_reducible assumption | with_reducible exact AtL.new _ _ _ | ((with_reducible refine AtL.newAt ?_); (first | rfl | (simp; done))) | (with_reducible refine AtL.drew ?_) | (with_reducible refine AtL.below ?_ (by with_reducible assumption)) | (with_reducible refine AtL.alloc ?_ _) | (with_reducible refine AtL.far ?_ ?_ _ _) | omega | (simp; done) | (simp; omega))
      have bx_wwY : AtL (qw) [.slice Aw l2.length cw, .bool p1, .int .i64 p2, .bool p3, .bool p4, .int .i64 p5, .int .i64 p6, .int .i64 p7, .int .i64 p8] wY := by rw [← hW]; repeat' (first | with_reducible assumption | with_reducible exact AtL.new _ _ _ | ((with_reducible refine AtL.newAt ?_); (first | rfl | (simp; done))) | (with_reducible refine AtL.drew ?_) | (with_reducible refine AtL.below ?_ (by with_reducible assumption)) | (with_reducible refine AtL.alloc ?_ _) | (with_reducible refine AtL.far ?_ ?_ _ _) | omega | (simp; done) | (simp; omega))
      have r1wY : Rd cPt 2 wY (wC.heap.size) Aw l2 := by rw [← hW]; repeat' (first | with_reducible assumption | (with_reducible refine Rd.drew ?_) | (with_reducible refine Rd.carry ?_ (by with_reducible assumption) ?_) | (with_reducible refine Rd.alloc ?_ ?_ _) | (with_reducible refine Rd.setCell ?_ ?_ _) | omega | (simp; done) | (simp; omega))
      have rxwY : Rd cPt 2 wY (wX.heap.size) (some ⟨gX_a0, 0, none⟩) a0l := by rw [← hW]; repeat' (first | with_reducible assumption | (with_reducible refine Rd.drew ?_) | (with_reducible refine Rd.carry ?_ (by with_reducible assumption) ?_) | (with_reducible refine Rd.alloc ?_ ?_ _) | (with_reducible refine Rd.setCell ?_ ?_ _) | omega | (simp; done) | (simp; omega))
      have oxwY : wY.ownsRow (wC.heap.size) 30 2 (.slice (some ⟨gX_a0, 0, none⟩) a0l.length a0l.length) a0l.length (cellsF cPt a0l) := by rw [← hW]; repeat' (first | with_reducible assumption | (with_reducible refine own_drew ?_) | (with_reducible refine own_stays ?_ (by with_reducible assumption)) | (with_reducible refine World.ownsRow.alloc ?_ _))
      have at_xwY : AtL (wX.heap.size) [.slice (some ⟨gX_a0, 0, none⟩) a0l.length a0l.length, .bool a1, .int .i64 a2, .bool a3, .bool a4, .int .i64 a5, .int .i64 a6, .int .i64 a7, .int .i64 a8] wY := by rw [← hW]; repeat' (first | with_reducible assumption | with_reducible exact AtL.new _ _ _ | ((with_reducible refine AtL.newAt ?_); (first | rfl | (simp; done))) | (with_reducible refine AtL.drew ?_) | (with_reducible refine AtL.below ?_ (by with_reducible assumption)) | (with_reducible refine AtL.alloc ?_ _) | (with_reducible refine AtL.far ?_ ?_ _ _) | omega | (simp; done) | (simp; omega))
      have bp := bwX.out
      have bn : Below w.heap.size w wY := by rw [← hW]; repeat' (first | with_reducible assumption | with_reducible exact Below.refl _ _ | (with_reducible refine Below.setCell ?_ ?_ _) | (with_reducible refine Below.alloc ?_ ?_ _) | (with_reducible refine Below.drew ?_) | (with_reducible refine below_dr ?_ _) | (with_reducible refine Below.trans ?_ (Below.mono (by with_reducible assumption) ?_)) | omega | (simp; done) | (simp; omega))
      have bwY := Lib.hid bn
      have qwY : w.heap.size ≤ wY.heap.size := bn.size
      have zwY : wX.heap.size ≤ wY.heap.size := by rw [← hW]; simp
      clear hW bn bp bwX
      clear bx_awX
      clear rd_a0wX
      clear bx_fwX
      clear bx_wwX
      clear r1wX
      clear rxwX
      clear oxwX
      have zxy : wX.heap.size < wY.heap.size := at_xwY.lt
      have kbx_f0 := bx_fwY.cell 0 rfl
      have kbx_f1 := bx_fwY.cell 1 rfl
      have lbx_f := bx_fwY.lt
      have kat_x0 := at_xwY.cell 0 rfl
      have kat_x1 := at_xwY.cell 1 rfl
      have kat_x2 := at_xwY.cell 2 rfl
      have kat_x3 := at_xwY.cell 3 rfl
      have kat_x4 := at_xwY.cell 4 rfl
      have kat_x5 := at_xwY.cell 5 rfl
      have kat_x6 := at_xwY.cell 6 rfl
      have kat_x7 := at_xwY.cell 7 rfl
      have kat_x8 := at_xwY.cell 8 rfl
      have lat_x := at_xwY.lt
      go_upto_region 7 with fail
      go_cut [9, 10] (fun sA sB wx => Left_Curve p1 p2 p3 p4 p5 p6 p7 p8 code l2 wY.heap.size sA sB wx ∧ Below wY.heap.size wY wx)
      case first =>
        go_region_held3 (fun w' => (∀ b o, b < wY.heap.size → w'.cell? ⟨b, o, none⟩ = wY.cell? ⟨b, o, none⟩) ∧ wY.heap.size ≤ w'.heap.size)
          (first | ((try dsimp only); exact ⟨fun b o h => (by (repeat (first | with_reducible exact rfl | (with_reducible refine (cell_drew_at _ _).trans ?_) | (with_reducible refine (cell_set_at _ _ (by first | omega | (simp; done) | (simp; omega))).trans ?_) | (with_reducible refine (cell_alloc_at _ _ (by first | omega | (simp; done) | (simp; omega))).trans ?_) | (with_reducible refine (hcwF0 b o (by first | omega | (simp; done) | (simp; omega))).trans ?_) | (with_reducible refine (hcwB b o (by first | omega | (simp; done) | (simp; omega))).trans ?_)))), (by first | omega | (simp; done) | (simp; omega))⟩) | fail)
          (first
            | (go_at_call 25; (with_reducible refine (toPt_any f0 f1 _).mono ?_); rintro e wF0 ⟨rfl, hbwF0⟩; obtain ⟨hcwF0, hfwF0⟩ := bcell hbwF0; have hzwF0 := hbwF0.size; (try simp only [World.size_drew] at hcwF0 hfwF0 hzwF0); (try simp only [World.size_alloc] at hcwF0 hfwF0 hzwF0); (try have qqwYwF0 : wY.heap.size < wF0.heap.size := by omega))
            | (go_at_call 26; (with_reducible refine (C2.out (some ⟨gX_a0, 0, none⟩) a0l.length _ hl_a0 ?_).mono ?_); (focus ((refine Rd.more (B := wX.heap.size) ?_ (by first | omega | ((try simp only [World.size_drew]); (try simp only [World.size_alloc]); (try simp only [World.size_drew]); omega) | (simp; omega))); (repeat' (first | with_reducible assumption | (with_reducible refine Rd.drew ?_) | (with_reducible refine Rd.carry ?_ (by with_reducible assumption) ?_) | (with_reducible refine Rd.alloc ?_ ?_ _) | (with_reducible refine Rd.setCell ?_ ?_ _) | omega | (simp; done) | (simp; omega))))); intro e wB hq; obtain ⟨AC, cC, rfl, owC, hbwB⟩ := hq; obtain ⟨hcwB, hfwB⟩ := bcell hbwB; have hzwB := hbwB.size; (try simp only [World.size_drew] at hcwB hfwB hzwB); (try simp only [World.size_alloc] at hcwB hfwB hzwB); have owC0 := owC; replace owC := own_base (base := wY.heap.size) owC (by first | omega | ((try simp only [World.size_drew]); (try simp only [World.size_alloc]); omega) | (simp; omega)); (try have qqwYwB : wY.heap.size < wB.heap.size := by omega); (try have qqwF0wB : wF0.heap.size < wB.heap.size := by omega)))
        all_goals
          go_wp2_with fail
          go_meet
        all_goals exact ⟨⟨_, _, _, rfl, rfl, by repeat' (first | (with_reducible apply AtL.store9) | with_reducible assumption | with_reducible exact AtL.new _ _ _ | ((with_reducible refine AtL.newAt ?_); (first | rfl | (simp; done))) | (with_reducible refine AtL.drew ?_) | (with_reducible refine AtL.below ?_ (by with_reducible assumption)) | (with_reducible refine AtL.alloc ?_ _) | (with_reducible refine AtL.far ?_ ?_ _ _) | omega | (simp; done) | (simp; omega)), by first | omega | (simp; done) | (simp; omega), by repeat (first | with_reducible exact owC | (with_reducible refine own_drew ?_) | (with_reducible refine World.ownsRow.alloc ?_ _) | (with_reducible refine own_keep ?_ (fun q hq => by have h := own_block owC0 hq; (try simp only [World.size_drew] at h); (try simp only [World.size_alloc] at h); (try simp only [World.size_drew] at h); simp only; omega) _)), fun r hr => by have h := own_block owC0 hr; (try simp only [World.size_drew] at h); (try simp only [World.size_alloc] at h); (try simp only [World.size_drew] at h); omega⟩, by repeat' (first | with_reducible assumption | with_reducible exact Below.refl _ _ | (with_reducible refine Below.setCell ?_ ?_ _) | (with_reducible refine Below.alloc ?_ ?_ _) | (with_reducible refine Below.drew ?_) | (with_reducible refine below_dr ?_ _) | (with_reducible refine Below.trans ?_ (Below.mono (by with_reducible assumption) ?_)) | omega | (simp; done) | (simp; omega))⟩
      case rest =>
        clear kbx_f0 kbx_f1 lbx_f
        clear kat_x0 kat_x1 kat_x2 kat_x3 kat_x4 kat_x5 kat_x6 kat_x7 kat_x8 lat_x
        obtain ⟨⟨qg, Ag, cg, rfl, rfl, atg, log, owg, neg⟩, hbwD⟩ := hcut
        obtain ⟨wD, rfl⟩ : ∃ W : World, W = wc := ⟨_, rfl⟩
        have NEg := Lib.hid neg
        have ltg := atg.lt
        have OBg := Lib.hid (fun r hr => own_block owg (q := r) hr)
        clear neg
        have zwD := hbwD.size
        (try simp only [World.size_setCell] at zwD)
        (try simp only [World.size_drew] at zwD)
        (try simp only [World.size_alloc] at zwD)
        have qwD : w.heap.size ≤ wD.heap.size := by omega
        have bx_awD : AtL (w.heap.size) [.slice a0A a0l.length a0c, .bool a1, .int .i64 a2, .bool a3, .bool a4, .int .i64 a5, .int .i64 a6, .int .i64 a7, .int .i64 a8] wD := by repeat' (first | with_reducible assumption | with_reducible exact AtL.new _ _ _ | ((with_reducible refine AtL.newAt ?_); (first | rfl | (simp; done))) | (with_reducible refine AtL.drew ?_) | (with_reducible refine AtL.below ?_ (by with_reducible assumption)) | (with_reducible refine AtL.alloc ?_ _) | (with_reducible refine AtL.far ?_ ?_ _ _) | omega | (simp; done) | (simp; omega))
        have rd_a0wD : Rd cPt 2 wD (w.heap.size) a0A a0l := by repeat' (first | with_reducible assumption | (with_reducible refine Rd.drew ?_) | (with_reducible refine Rd.carry ?_ (by with_reducible assumption) ?_) | (with_reducible refine Rd.alloc ?_ ?_ _) | (with_reducible refine Rd.setCell ?_ ?_ _) | omega | (simp; done) | (simp; omega))
        have bx_fwD : AtL (w.heap.size + 1) [.int .i64 f0, .int .i64 f1] wD := by repeat' (first | with_reducible assumption | with_reducible exact AtL.new _ _ _ | ((with_reducible refine AtL.newAt ?_); (first | rfl | (simp; done))) | (with_reducible refine AtL.drew ?_) | (with_reducible refine AtL.below ?_ (by with_reducible assumption)) | (with_reducible refine AtL.alloc ?_ _) | (with_reducible refine AtL.far ?_ ?_ _ _) | omega | (simp; done) | (simp; omega))
        have bx_wwD : AtL (qw) [.slice Aw l2.length cw, .bool p1, .int .i64 p2, .bool p3, .bool p4, .int .i64 p5, .int .i64 p6, .int .i64 p7, .int .i64 p8] wD := by repeat' (first | with_reducible assumption | with_reducible exact AtL.new _ _ _ | ((with_reducible refine AtL.newAt ?_); (first | rfl | (simp; done))) | (with_reducible refine AtL.drew ?_) | (with_reducible refine AtL.below ?_ (by with_reducible assumption)) | (with_reducible refine AtL.alloc ?_ _) | (with_reducible refine AtL.far ?_ ?_ _ _) | omega | (simp; done) | (simp; omega))
        have r1wD : Rd cPt 2 wD (wC.heap.size) Aw l2 := by repeat' (first | with_reducible assumption | (with_reducible refine Rd.drew ?_) | (with_reducible refine Rd.carry ?_ (by with_reducible assumption) ?_) | (with_reducible refine Rd.alloc ?_ ?_ _) | (with_reducible refine Rd.setCell ?_ ?_ _) | omega | (simp; done) | (simp; omega))
        have rxwD : Rd cPt 2 wD (wX.heap.size) (some ⟨gX_a0, 0, none⟩) a0l := by repeat' (first | with_reducible assumption | (with_reducible refine Rd.drew ?_) | (with_reducible refine Rd.carry ?_ (by with_reducible assumption) ?_) | (with_reducible refine Rd.alloc ?_ ?_ _) | (with_reducible refine Rd.setCell ?_ ?_ _) | omega | (simp; done) | (simp; omega))
        have oxwD : wD.ownsRow (wC.heap.size) 30 2 (.slice (some ⟨gX_a0, 0, none⟩) a0l.length a0l.length) a0l.length (cellsF cPt a0l) := by repeat' (first | with_reducible assumption | (with_reducible refine own_drew ?_) | (with_reducible refine own_stays ?_ (by with_reducible assumption)) | (with_reducible refine World.ownsRow.alloc ?_ _))
        have at_xwD : AtL (wX.heap.size) [.slice (some ⟨gX_a0, 0, none⟩) a0l.length a0l.length, .bool a1, .int .i64 a2, .bool a3, .bool a4, .int .i64 a5, .int .i64 a6, .int .i64 a7, .int .i64 a8] wD := by repeat' (first | with_reducible assumption | with_reducible exact AtL.new _ _ _ | ((with_reducible refine AtL.newAt ?_); (first | rfl | (simp; done))) | (with_reducible refine AtL.drew ?_) | (with_reducible refine AtL.below ?_ (by with_reducible assumption)) | (with_reducible refine AtL.alloc ?_ _) | (with_reducible refine AtL.far ?_ ?_ _ _) | omega | (simp; done) | (simp; omega))
        have bp := bwY.out
        have bn : Below w.heap.size w wD := by repeat' (first | with_reducible assumption | with_reducible exact Below.refl _ _ | (with_reducible refine Below.setCell ?_ ?_ _) | (with_reducible refine Below.alloc ?_ ?_ _) | (with_reducible refine Below.drew ?_) | (with_reducible refine below_dr ?_ _) | (with_reducible refine Below.trans ?_ (Below.mono (by with_reducible assumption) ?_)) | omega | (simp; done) | (simp; omega))
        have bwD := Lib.hid bn
        clear bn
        clear bp bwY
        clear hbwD
        clear bx_awY
        clear rd_a0wY
        clear bx_fwY
        clear bx_wwY
        clear r1wY
        clear rxwY
        clear oxwY
        clear at_xwY
        have bx_gwD := atg
        clear atg
        have ogwD := owg
        clear owg
        have kbx_g0 := bx_gwD.cell 0 rfl
        have kbx_g1 := bx_gwD.cell 1 rfl
        have kbx_g2 := bx_gwD.cell 2 rfl
        have kbx_g3 := bx_gwD.cell 3 rfl
        have kbx_g4 := bx_gwD.cell 4 rfl
        have kbx_g5 := bx_gwD.cell 5 rfl
        have kbx_g6 := bx_gwD.cell 6 rfl
        have kbx_g7 := bx_gwD.cell 7 rfl
        have kbx_g8 := bx_gwD.cell 8 rfl
        have lbx_g := bx_gwD.lt
        have kbx_w0 := bx_wwD.cell 0 rfl
        have kbx_w1 := bx_wwD.cell 1 rfl
        have kbx_w2 := bx_wwD.cell 2 rfl
        have kbx_w3 := bx_wwD.cell 3 rfl
        have kbx_w4 := bx_wwD.cell 4 rfl
        have kbx_w5 := bx_wwD.cell 5 rfl
        have kbx_w6 := bx_wwD.cell 6 rfl
        have kbx_w7 := bx_wwD.cell 7 rfl
        have kbx_w8 := bx_wwD.cell 8 rfl
        have lbx_w := bx_wwD.lt
        go_wp2_with fail
        clear kbx_g0 kbx_g1 kbx_g2 kbx_g3 kbx_g4 kbx_g5 kbx_g6 kbx_g7 kbx_g8 lbx_g
        clear kbx_w0 kbx_w1 kbx_w2 kbx_w3 kbx_w4 kbx_w5 kbx_w6 kbx_w7 kbx_w8 lbx_w
        refine (eqCurve_same Ag cg l2 p1 p2 p3 p4 p5 p6 p7 p8 Aw cw _ (by omega) ?_ ?_).mono ?_
        · refine Rd.of_own (fun a => cPt_len a) (by omega) (base := wY.heap.size) (e := 30) (n := l2.length) (c := cg) ?_ (Nat.le_refl _); (repeat' (first | with_reducible assumption | (with_reducible refine own_drew ?_) | (with_reducible refine own_stays ?_ (by with_reducible assumption)) | (with_reducible refine World.ownsRow.alloc ?_ _)))
        · refine Rd.more (B := wC.heap.size) ?_ (by (try simp only [World.size_drew]); (try simp only [World.size_alloc]); omega)
          repeat' (first | with_reducible assumption | (with_reducible refine Rd.drew ?_) | (with_reducible refine Rd.carry ?_ (by with_reducible assumption) ?_) | (with_reducible refine Rd.alloc ?_ ?_ _) | (with_reducible refine Rd.setCell ?_ ?_ _) | omega | (simp; done) | (simp; omega))
        rintro e wE ⟨rfl, hbwE⟩
        have zwE := hbwE.size
        (try simp only [World.size_setCell] at zwE)
        (try simp only [World.size_drew] at zwE)
        (try simp only [World.size_alloc] at zwE)
        have qwE : w.heap.size ≤ wE.heap.size := by omega
        have bx_awE : AtL (w.heap.size) [.slice a0A a0l.length a0c, .bool a1, .int .i64 a2, .bool a3, .bool a4, .int .i64 a5, .int .i64 a6, .int .i64 a7, .int .i64 a8] wE := by repeat' (first | with_reducible assumption | with_reducible exact AtL.new _ _ _ | ((with_reducible refine AtL.newAt ?_); (first | rfl | (simp; done))) | (with_reducible refine AtL.drew ?_) | (with_reducible refine AtL.below ?_ (by with_reducible assumption)) | (with_reducible refine AtL.alloc ?_ _) | (with_reducible refine AtL.far ?_ ?_ _ _) | omega | (simp; done) | (simp; omega))
        have rd_a0wE : Rd cPt 2 wE (w.heap.size) a0A a0l := by repeat' (first | with_reducible assumption | (with_reducible refine Rd.drew ?_) | (with_reducible refine Rd.carry ?_ (by with_reducible assumption) ?_) | (with_reducible refine Rd.alloc ?_ ?_ _) | (with_reducible refine Rd.setCell ?_ ?_ _) | omega | (simp; done) | (simp; omega))
        have bx_fwE : AtL (w.heap.size + 1) [.int .i64 f0, .int .i64 f1] wE := by repeat' (first | with_reducible assumption | with_reducible exact AtL.new _ _ _ | ((with_reducible refine AtL.newAt ?_); (first | rfl | (simp; done))) | (with_reducible refine AtL.drew ?_) | (with_reducible refine AtL.below ?_ (by with_reducible assumption)) | (with_reducible refine AtL.alloc ?_ _) | (with_reducible refine AtL.far ?_ ?_ _ _) | omega | (simp; done) | (simp; omega))
        have bx_wwE : AtL (qw) [.slice Aw l2.length cw, .bool p1, .int .i64 p2, .bool p3, .bool p4, .int .i64 p5, .int .i64 p6, .int .i64 p7, .int .i64 p8] wE := by repeat' (first | with_reducible assumption | with_reducible exact AtL.new _ _ _ | ((with_reducible refine AtL.newAt ?_); (first | rfl | (simp; done))) | (with_reducible refine AtL.drew ?_) | (with_reducible refine AtL.below ?_ (by with_reducible assumption)) | (with_reducible refine AtL.alloc ?_ _) | (with_reducible refine AtL.far ?_ ?_ _ _) | omega | (simp; done) | (simp; omega))
        have r1wE : Rd cPt 2 wE (wC.heap.size) Aw l2 := by repeat' (first | with_reducible assumption | (with_reducible refine Rd.drew ?_) | (with_reducible refine Rd.carry ?_ (by with_reducible assumption) ?_) | (with_reducible refine Rd.alloc ?_ ?_ _) | (with_reducible refine Rd.setCell ?_ ?_ _) | omega | (simp; done) | (simp; omega))
        have rxwE : Rd cPt 2 wE (wX.heap.size) (some ⟨gX_a0, 0, none⟩) a0l := by repeat' (first | with_reducible assumption | (with_reducible refine Rd.drew ?_) | (with_reducible refine Rd.carry ?_ (by with_reducible assumption) ?_) | (with_reducible refine Rd.alloc ?_ ?_ _) | (with_reducible refine Rd.setCell ?_ ?_ _) | omega | (simp; done) | (simp; omega))
        have oxwE : wE.ownsRow (wC.heap.size) 30 2 (.slice (some ⟨gX_a0, 0, none⟩) a0l.length a0l.length) a0l.length (cellsF cPt a0l) := by repeat' (first | with_reducible assumption | (with_reducible refine own_drew ?_) | (with_reducible refine own_stays ?_ (by with_reducible assumption)) | (with_reducible refine World.ownsRow.alloc ?_ _))
        have at_xwE : AtL (wX.heap.size) [.slice (some ⟨gX_a0, 0, none⟩) a0l.length a0l.length, .bool a1, .int .i64 a2, .bool a3, .bool a4, .int .i64 a5, .int .i64 a6, .int .i64 a7, .int .i64 a8] wE := by repeat' (first | with_reducible assumption | with_reducible exact AtL.new _ _ _ | ((with_reducible refine AtL.newAt ?_); (first | rfl | (simp; done))) | (with_reducible refine AtL.drew ?_) | (with_reducible refine AtL.below ?_ (by with_reducible assumption)) | (with_reducible refine AtL.alloc ?_ _) | (with_reducible refine AtL.far ?_ ?_ _ _) | omega | (simp; done) | (simp; omega))
        have bx_gwE : AtL (qg) [.slice Ag l2.length cg, .bool p1, .int .i64 p2, .bool p3, .bool p4, .int .i64 p5, .int .i64 p6, .int .i64 p7, .int .i64 p8] wE := by repeat' (first | with_reducible assumption | with_reducible exact AtL.new _ _ _ | ((with_reducible refine AtL.newAt ?_); (first | rfl | (simp; done))) | (with_reducible refine AtL.drew ?_) | (with_reducible refine AtL.below ?_ (by with_reducible assumption)) | (with_reducible refine AtL.alloc ?_ _) | (with_reducible refine AtL.far ?_ ?_ _ _) | omega | (simp; done) | (simp; omega))
        have ogwE : wE.ownsRow (wY.heap.size) 30 2 (.slice Ag l2.length cg) l2.length (cellsF cPt l2) := by repeat' (first | with_reducible assumption | (with_reducible refine own_drew ?_) | (with_reducible refine own_stays ?_ (by with_reducible assumption)) | (with_reducible refine World.ownsRow.alloc ?_ _))
        have bp := bwD.out
        have bn : Below w.heap.size w wE := by repeat' (first | with_reducible assumption | with_reducible exact Below.refl _ _ | (with_reducible refine Below.setCell ?_ ?_ _) | (with_reducible refine Below.alloc ?_ ?_ _) | (with_reducible refine Below.drew ?_) | (with_reducible refine below_dr ?_ _) | (with_reducible refine Below.trans ?_ (Below.mono (by with_reducible assumption) ?_)) | omega | (simp; done) | (simp; omega))
        have bwE := Lib.hid bn
        clear bn
        clear bp bwD
        clear hbwE
        clear bx_awD
        clear rd_a0wD
        clear bx_fwD
        clear bx_wwD
        clear r1wD
        clear rxwD
        clear oxwD
        clear at_xwD
        clear bx_gwD
        clear ogwD
        have kat_x0 := at_xwE.cell 0 rfl
        have kat_x1 := at_xwE.cell 1 rfl
        have kat_x2 := at_xwE.cell 2 rfl
        have kat_x3 := at_xwE.cell 3 rfl
        have kat_x4 := at_xwE.cell 4 rfl
        have kat_x5 := at_xwE.cell 5 rfl
        have kat_x6 := at_xwE.cell 6 rfl
        have kat_x7 := at_xwE.cell 7 rfl
        have kat_x8 := at_xwE.cell 8 rfl
        have lat_x := at_xwE.lt
        have kbx_a0 := bx_awE.cell 0 rfl
        have kbx_a1 := bx_awE.cell 1 rfl
        have kbx_a2 := bx_awE.cell 2 rfl
        have kbx_a3 := bx_awE.cell 3 rfl
        have kbx_a4 := bx_awE.cell 4 rfl
        have kbx_a5 := bx_awE.cell 5 rfl
        have kbx_a6 := bx_awE.cell 6 rfl
        have kbx_a7 := bx_awE.cell 7 rfl
        have kbx_a8 := bx_awE.cell 8 rfl
        have lbx_a := bx_awE.lt
        go_wp2_with fail
        go_region_held3 (fun w' => (∀ b o, b < wE.heap.size → w'.cell? ⟨b, o, none⟩ = wE.cell? ⟨b, o, none⟩) ∧ wE.heap.size ≤ w'.heap.size)
          (first | ((try dsimp only); exact ⟨fun b o h => (by (repeat (first | with_reducible exact rfl | (with_reducible refine (cell_drew_at _ _).trans ?_) | (with_reducible refine (cell_set_at _ _ (by first | omega | (simp; done) | (simp; omega))).trans ?_) | (with_reducible refine (cell_alloc_at _ _ (by first | omega | (simp; done) | (simp; omega))).trans ?_) | (with_reducible refine (hcwT b o (by first | omega | (simp; done) | (simp; omega))).trans ?_) | (with_reducible refine (hcwG b o (by first | omega | (simp; done) | (simp; omega))).trans ?_)))), (by first | omega | (simp; done) | (simp; omega))⟩) | fail)
          (first
            | (go_at_call 15; (with_reducible refine (toCurve_any a0A a0c a0l a1 a2 a3 a4 a5 a6 a7 a8 _ hl_a0 ?_).mono ?_); (focus ((refine Rd.more (B := w.heap.size) ?_ (by first | omega | ((try simp only [World.size_setCell]); (try simp only [World.size_drew]); (try simp only [World.size_alloc]); omega) | (simp; done) | (simp; omega))); (repeat' (first | with_reducible assumption | (with_reducible refine Rd.drew ?_) | (with_reducible refine Rd.carry ?_ (by with_reducible assumption) ?_) | (with_reducible refine Rd.alloc ?_ ?_ _) | (with_reducible refine Rd.setCell ?_ ?_ _) | omega | (simp; done) | (simp; omega))))); intro e wT hq; obtain ⟨g_owE_a0, rfl, owE_a0, hbwT⟩ := hq; obtain ⟨hcwT, hfwT⟩ := bcell hbwT; have hzwT := hbwT.size; (try simp only [World.size_drew] at hcwT hfwT hzwT); (try simp only [World.size_alloc] at hcwT hfwT hzwT))
            | (go_at_call 17; (with_reducible refine (eqCurve_same (some ⟨gX_a0, 0, none⟩) a0l.length a0l a1 a2 a3 a4 a5 a6 a7 a8 (some ⟨g_owE_a0, 0, none⟩) a0l.length _ (by omega) ?_ ?_).mono ?_); (focus ((refine Rd.more (B := wX.heap.size) ?_ (by first | omega | ((try simp only [World.size_setCell]); (try simp only [World.size_drew]); (try simp only [World.size_alloc]); omega) | (simp; done) | (simp; omega))); (repeat' (first | with_reducible assumption | (with_reducible refine Rd.drew ?_) | (with_reducible refine Rd.carry ?_ (by with_reducible assumption) ?_) | (with_reducible refine Rd.alloc ?_ ?_ _) | (with_reducible refine Rd.setCell ?_ ?_ _) | omega | (simp; done) | (simp; omega))))); (focus ((first | exact Rd.of_own (fun a => cPt_len a) (by omega) owE_a0 (by first | exact Nat.le_refl _ | (simp; done)) | exact Rd.drew (Rd.of_own (fun a => cPt_len a) (by omega) owE_a0 (by first | exact Nat.le_refl _ | (simp; done)))))); rintro e wG ⟨rfl, hbwG⟩; obtain ⟨hcwG, hfwG⟩ := bcell hbwG; have hzwG := hbwG.size; (try simp only [World.size_drew] at hcwG hfwG hzwG); (try simp only [World.size_alloc] at hcwG hfwG hzwG)))
        clear kat_x0 kat_x1 kat_x2 kat_x3 kat_x4 kat_x5 kat_x6 kat_x7 kat_x8 lat_x
        clear kbx_a0 kbx_a1 kbx_a2 kbx_a3 kbx_a4 kbx_a5 kbx_a6 kbx_a7 kbx_a8 lbx_a
        all_goals
          have zwG := hbwG.size
          (try simp only [World.size_setCell] at zwG)
          (try simp only [World.size_drew] at zwG)
          (try simp only [World.size_alloc] at zwG)
          have qwG : w.heap.size ≤ wG.heap.size := by omega
          have bx_awG : AtL (w.heap.size) [.slice a0A a0l.length a0c, .bool a1, .int .i64 a2, .bool a3, .bool a4, .int .i64 a5, .int .i64 a6, .int .i64 a7, .int .i64 a8] wG := by repeat' (first | with_reducible assumption | with_reducible exact AtL.new _ _ _ | ((with_reducible refine AtL.newAt ?_); (first | rfl | (simp; done))) | (with_reducible refine AtL.drew ?_) | (with_reducible refine AtL.below ?_ (by with_reducible assumption)) | (with_reducible refine AtL.alloc ?_ _) | (with_reducible refine AtL.far ?_ ?_ _ _) | omega | (simp; done) | (simp; omega))
          have rd_a0wG : Rd cPt 2 wG (w.heap.size) a0A a0l := by repeat' (first | with_reducible assumption | (with_reducible refine Rd.drew ?_) | (with_reducible refine Rd.carry ?_ (by with_reducible assumption) ?_) | (with_reducible refine Rd.alloc ?_ ?_ _) | (with_reducible refine Rd.setCell ?_ ?_ _) | omega | (simp; done) | (simp; omega))
          have bx_fwG : AtL (w.heap.size + 1) [.int .i64 f0, .int .i64 f1] wG := by repeat' (first | with_reducible assumption | with_reducible exact AtL.new _ _ _ | ((with_reducible refine AtL.newAt ?_); (first | rfl | (simp; done))) | (with_reducible refine AtL.drew ?_) | (with_reducible refine AtL.below ?_ (by with_reducible assumption)) | (with_reducible refine AtL.alloc ?_ _) | (with_reducible refine AtL.far ?_ ?_ _ _) | omega | (simp; done) | (simp; omega))
          have bx_wwG : AtL (qw) [.slice Aw l2.length cw, .bool p1, .int .i64 p2, .bool p3, .bool p4, .int .i64 p5, .int .i64 p6, .int .i64 p7, .int .i64 p8] wG := by repeat' (first | with_reducible assumption | with_reducible exact AtL.new _ _ _ | ((with_reducible refine AtL.newAt ?_); (first | rfl | (simp; done))) | (with_reducible refine AtL.drew ?_) | (with_reducible refine AtL.below ?_ (by with_reducible assumption)) | (with_reducible refine AtL.alloc ?_ _) | (with_reducible refine AtL.far ?_ ?_ _ _) | omega | (simp; done) | (simp; omega))
          have r1wG : Rd cPt 2 wG (wC.heap.size) Aw l2 := by repeat' (first | with_reducible assumption | (with_reducible refine Rd.drew ?_) | (with_reducible refine Rd.carry ?_ (by with_reducible assumption) ?_) | (with_reducible refine Rd.alloc ?_ ?_ _) | (with_reducible refine Rd.setCell ?_ ?_ _) | omega | (simp; done) | (simp; omega))
          have rxwG : Rd cPt 2 wG (wX.heap.size) (some ⟨gX_a0, 0, none⟩) a0l := by repeat' (first | with_reducible assumption | (with_reducible refine Rd.drew ?_) | (with_reducible refine Rd.carry ?_ (by with_reducible assumption) ?_) | (with_reducible refine Rd.alloc ?_ ?_ _) | (with_reducible refine Rd.setCell ?_ ?_ _) | omega | (simp; done) | (simp; omega))
          have oxwG : wG.ownsRow (wC.heap.size) 30 2 (.slice (some ⟨gX_a0, 0, none⟩) a0l.length a0l.length) a0l.length (cellsF cPt a0l) := by repeat' (first | with_reducible assumption | (with_reducible refine own_drew ?_) | (with_reducible refine own_stays ?_ (by with_reducible assumption)) | (with_reducible refine World.ownsRow.alloc ?_ _))
          have at_xwG : AtL (wX.heap.size) [.slice (some ⟨gX_a0, 0, none⟩) a0l.length a0l.length, .bool a1, .int .i64 a2, .bool a3, .bool a4, .int .i64 a5, .int .i64 a6, .int .i64 a7, .int .i64 a8] wG := by repeat' (first | with_reducible assumption | with_reducible exact AtL.new _ _ _ | ((with_reducible refine AtL.newAt ?_); (first | rfl | (simp; done))) | (with_reducible refine AtL.drew ?_) | (with_reducible refine AtL.below ?_ (by with_reducible assumption)) | (with_reducible refine AtL.alloc ?_ _) | (with_reducible refine AtL.far ?_ ?_ _ _) | omega | (simp; done) | (simp; omega))
          have bx_gwG : AtL (qg) [.slice Ag l2.length cg, .bool p1, .int .i64 p2, .bool p3, .bool p4, .int .i64 p5, .int .i64 p6, .int .i64 p7, .int .i64 p8] wG := by repeat' (first | with_reducible assumption | with_reducible exact AtL.new _ _ _ | ((with_reducible refine AtL.newAt ?_); (first | rfl | (simp; done))) | (with_reducible refine AtL.drew ?_) | (with_reducible refine AtL.below ?_ (by with_reducible assumption)) | (with_reducible refine AtL.alloc ?_ _) | (with_reducible refine AtL.far ?_ ?_ _ _) | omega | (simp; done) | (simp; omega))
          have ogwG : wG.ownsRow (wY.heap.size) 30 2 (.slice Ag l2.length cg) l2.length (cellsF cPt l2) := by repeat' (first | with_reducible assumption | (with_reducible refine own_drew ?_) | (with_reducible refine own_stays ?_ (by with_reducible assumption)) | (with_reducible refine World.ownsRow.alloc ?_ _))
          have bp := bwE.out
          have bn : Below w.heap.size w wG := by repeat' (first | with_reducible assumption | with_reducible exact Below.refl _ _ | (with_reducible refine Below.setCell ?_ ?_ _) | (with_reducible refine Below.alloc ?_ ?_ _) | (with_reducible refine Below.drew ?_) | (with_reducible refine below_dr ?_ _) | (with_reducible refine Below.trans ?_ (Below.mono (by with_reducible assumption) ?_)) | omega | (simp; done) | (simp; omega))
          have bwG := Lib.hid bn
          clear bn
          clear bp bwE
          clear hbwG
          clear bx_awE
          clear rd_a0wE
          clear bx_fwE
          clear bx_wwE
          clear r1wE
          clear rxwE
          clear oxwE
          clear at_xwE
          clear bx_gwE
          clear ogwE
          clear hbwT hcwT hfwT hcwG hfwG
          have kat_x0 := at_xwG.cell 0 rfl
          have kat_x1 := at_xwG.cell 1 rfl
          have kat_x2 := at_xwG.cell 2 rfl
          have kat_x3 := at_xwG.cell 3 rfl
          have kat_x4 := at_xwG.cell 4 rfl
          have kat_x5 := at_xwG.cell 5 rfl
          have kat_x6 := at_xwG.cell 6 rfl
          have kat_x7 := at_xwG.cell 7 rfl
          have kat_x8 := at_xwG.cell 8 rfl
          have lat_x := at_xwG.lt
          go_wp2_with fail
          clear kat_x0 kat_x1 kat_x2 kat_x3 kat_x4 kat_x5 kat_x6 kat_x7 kat_x8 lat_x
          refine (markCurve_any (some ⟨gX_a0, 0, none⟩) a0l.length a1 a2 a3 a4 a5 a6 a7 a8 1 a0l.length (wC.heap.size) (cellsF cPt a0l) _ (by omega) (by omega) (by repeat' (first | with_reducible assumption | (with_reducible refine own_drew ?_) | (with_reducible refine own_stays ?_ (by with_reducible assumption)) | (with_reducible refine World.ownsRow.alloc ?_ _)))).mono ?_
          rw [← HM1.out]
          rintro e wH ⟨rfl, omwH, hg⟩
          have zwH := hg.size
          have qwH : w.heap.size ≤ wH.heap.size := by omega
          have bp := bwG.out
          have bn : Below w.heap.size w wH := by exact below_of_grown (by repeat' (first | with_reducible assumption | with_reducible exact Below.refl _ _ | (with_reducible refine Below.setCell ?_ ?_ _) | (with_reducible refine Below.alloc ?_ ?_ _) | (with_reducible refine Below.drew ?_) | (with_reducible refine below_dr ?_ _) | (with_reducible refine Below.trans ?_ (Below.mono (by with_reducible assumption) ?_)) | omega | (simp; done) | (simp; omega))) hg (by omega) (fun q hq => by have := ROWX.out q hq; omega)
          have bwH := Lib.hid bn
          clear bn
          clear bp bwG
          have bx_awH : AtL (w.heap.size) [.slice a0A a0l.length a0c, .bool a1, .int .i64 a2, .bool a3, .bool a4, .int .i64 a5, .int .i64 a6, .int .i64 a7, .int .i64 a8] wH := AtL.grown (bx_awG) hg (fun q hq => by have := ROWX.out q hq; omega)
          have rd_a0wH : Rd cPt 2 wH (w.heap.size) a0A a0l := Rd.grown2 rd_a0wG hg (by omega) (fun q hq => by have := ROWX.out q hq; omega)
          have bx_fwH : AtL (w.heap.size + 1) [.int .i64 f0, .int .i64 f1] wH := AtL.grown (bx_fwG) hg (fun q hq => by have := ROWX.out q hq; omega)
          have bx_wwH : AtL (qw) [.slice Aw l2.length cw, .bool p1, .int .i64 p2, .bool p3, .bool p4, .int .i64 p5, .int .i64 p6, .int .i64 p7, .int .i64 p8] wH := AtL.grown (bx_wwG) hg (fun q hq => by have := ROWX.out q hq; omega)
          have r1wH : Rd cPt 2 wH (wC.heap.size) Aw l2 := Rd.grown2 r1wG hg (by omega) (fun q hq => by have := ROWX.out q hq; omega)
          have at_xwH : AtL (wX.heap.size) [.slice (some ⟨gX_a0, 0, none⟩) a0l.length a0l.length, .bool a1, .int .i64 a2, .bool a3, .bool a4, .int .i64 a5, .int .i64 a6, .int .i64 a7, .int .i64 a8] wH := AtL.grown (at_xwG) hg (fun q hq => by have := ROWX.out q hq; omega)
          have bx_gwH : AtL (qg) [.slice Ag l2.length cg, .bool p1, .int .i64 p2, .bool p3, .bool p4, .int .i64 p5, .int .i64 p6, .int .i64 p7, .int .i64 p8] wH := AtL.grown (bx_gwG) hg (fun q hq => by have := ROWX.out q hq; omega)
          have ogwH : wH.ownsRow (wY.heap.size) 30 2 (.slice Ag l2.length cg) l2.length (cellsF cPt l2) := own_grown ogwG hg (fun q h1 h2 => by have h3 := ROWX.out q h2; have h4 := own_block ogwG h1; omega)
          clear hg bx_awG rd_a0wG bx_fwG bx_wwG r1wG rxwG oxwG at_xwG bx_gwG ogwG
          clear omwH
          clear at_xwH
          have ROWG := Lib.hid (fun q (hq : (Value.slice Ag l2.length cg).ownBlock = some q) => (⟨(own_block ogwH hq).1, (OBg.out q hq).2, NEg.out q hq⟩ : wY.heap.size ≤ q ∧ q < wD.heap.size ∧ ¬ q = qg))
          have kbx_g0 := bx_gwH.cell 0 rfl
          have kbx_g1 := bx_gwH.cell 1 rfl
          have kbx_g2 := bx_gwH.cell 2 rfl
          have kbx_g3 := bx_gwH.cell 3 rfl
          have kbx_g4 := bx_gwH.cell 4 rfl
          have kbx_g5 := bx_gwH.cell 5 rfl
          have kbx_g6 := bx_gwH.cell 6 rfl
          have kbx_g7 := bx_gwH.cell 7 rfl
          have kbx_g8 := bx_gwH.cell 8 rfl
          have lbx_g := bx_gwH.lt
          have kbx_w0 := bx_wwH.cell 0 rfl
          have kbx_w1 := bx_wwH.cell 1 rfl
          have kbx_w2 := bx_wwH.cell 2 rfl
          have kbx_w3 := bx_wwH.cell 3 rfl
          have kbx_w4 := bx_wwH.cell 4 rfl
          have kbx_w5 := bx_wwH.cell 5 rfl
          have kbx_w6 := bx_wwH.cell 6 rfl
          have kbx_w7 := bx_wwH.cell 7 rfl
          have kbx_w8 := bx_wwH.cell 8 rfl
          have lbx_w := bx_wwH.lt
          go_wp2_with fail
          clear kbx_g0 kbx_g1 kbx_g2 kbx_g3 kbx_g4 kbx_g5 kbx_g6 kbx_g7 kbx_g8 lbx_g
          clear kbx_w0 kbx_w1 kbx_w2 kbx_w3 kbx_w4 kbx_w5 kbx_w6 kbx_w7 kbx_w8 lbx_w
          refine (eqCurve_same Ag cg l2 p1 p2 p3 p4 p5 p6 p7 p8 Aw cw _ (by omega) ?_ ?_).mono ?_
          · refine Rd.of_own (fun a => cPt_len a) (by omega) (base := wY.heap.size) (e := 30) (n := l2.length) (c := cg) ?_ (Nat.le_refl _); (repeat' (first | with_reducible assumption | (with_reducible refine own_drew ?_) | (with_reducible refine own_stays ?_ (by with_reducible assumption)) | (with_reducible refine World.ownsRow.alloc ?_ _)))
          · refine Rd.more (B := wC.heap.size) ?_ (by (try simp only [World.size_drew]); (try simp only [World.size_alloc]); omega)
            repeat' (first | with_reducible assumption | (with_reducible refine Rd.drew ?_) | (with_reducible refine Rd.carry ?_ (by with_reducible assumption) ?_) | (with_reducible refine Rd.alloc ?_ ?_ _) | (with_reducible refine Rd.setCell ?_ ?_ _) | omega | (simp; done) | (simp; omega))
          rintro e wJ ⟨rfl, hbwJ⟩
          have zwJ := hbwJ.size
          (try simp only [World.size_setCell] at zwJ)
          (try simp only [World.size_drew] at zwJ)
          (try simp only [World.size_alloc] at zwJ)
          have qwJ : w.heap.size ≤ wJ.heap.size := by omega
          have bx_awJ : AtL (w.heap.size) [.slice a0A a0l.length a0c, .bool a1, .int .i64 a2, .bool a3, .bool a4, .int .i64 a5, .int .i64 a6, .int .i64 a7, .int .i64 a8] wJ := by repeat' (first | with_reducible assumption | with_reducible exact AtL.new _ _ _ | ((with_reducible refine AtL.newAt ?_); (first | rfl | (simp; done))) | (with_reducible refine AtL.drew ?_) | (with_reducible refine AtL.below ?_ (by with_reducible assumption)) | (with_reducible refine AtL.alloc ?_ _) | (with_reducible refine AtL.far ?_ ?_ _ _) | omega | (simp; done) | (simp; omega))
          have rd_a0wJ : Rd cPt 2 wJ (w.heap.size) a0A a0l := by repeat' (first | with_reducible assumption | (with_reducible refine Rd.drew ?_) | (with_reducible refine Rd.carry ?_ (by with_reducible assumption) ?_) | (with_reducible refine Rd.alloc ?_ ?_ _) | (with_reducible refine Rd.setCell ?_ ?_ _) | omega | (simp; done) | (simp; omega))
          have bx_fwJ : AtL (w.heap.size + 1) [.int .i64 f0, .int .i64 f1] wJ := by repeat' (first | with_reducible assumption | with_reducible exact AtL.new _ _ _ | ((with_reducible refine AtL.newAt ?_); (first | rfl | (simp; done))) | (with_reducible refine AtL.drew ?_) | (with_reducible refine AtL.below ?_ (by with_reducible assumption)) | (with_reducible refine AtL.alloc ?_ _) | (with_reducible refine AtL.far ?_ ?_ _ _) | omega | (simp; done) | (simp; omega))
          have bx_wwJ : AtL (qw) [.slice Aw l2.length cw, .bool p1, .int .i64 p2, .bool p3, .bool p4, .int .i64 p5, .int .i64 p6, .int .i64 p7, .int .i64 p8] wJ := by repeat' (first | with_reducible assumption | with_reducible exact AtL.new _ _ _ | ((with_reducible refine AtL.newAt ?_); (first | rfl | (simp; done))) | (with_reducible refine AtL.drew ?_) | (with_reducible refine AtL.below ?_ (by with_reducible assumption)) | (with_reducible refine AtL.alloc ?_ _) | (with_reducible refine AtL.far ?_ ?_ _ _) | omega | (simp; done) | (simp; omega))
          have r1wJ : Rd cPt 2 wJ (wC.heap.size) Aw l2 := by repeat' (first | with_reducible assumption | (with_reducible refine Rd.drew ?_) | (with_reducible refine Rd.carry ?_ (by with_reducible assumption) ?_) | (with_reducible refine Rd.alloc ?_ ?_ _) | (with_reducible refine Rd.setCell ?_ ?_ _) | omega | (simp; done) | (simp; omega))
          have bx_gwJ : AtL (qg) [.slice Ag l2.length cg, .bool p1, .int .i64 p2, .bool p3, .bool p4, .int .i64 p5, .int .i64 p6, .int .i64 p7, .int .i64 p8] wJ := by repeat' (first | with_reducible assumption | with_reducible exact AtL.new _ _ _ | ((with_reducible refine AtL.newAt ?_); (first | rfl | (simp; done))) | (with_reducible refine AtL.drew ?_) | (with_reducible refine AtL.below ?_ (by with_reducible assumption)) | (with_reducible refine AtL.alloc ?_ _) | (with_reducible refine AtL.far ?_ ?_ _ _) | omega | (simp; done) | (simp; omega))
          have ogwJ : wJ.ownsRow (wY.heap.size) 30 2 (.slice Ag l2.length cg) l2.length (cellsF cPt l2) := by repeat' (first | with_reducible assumption | (with_reducible refine own_drew ?_) | (with_reducible refine own_stays ?_ (by with_reducible assumption)) | (with_reducible refine World.ownsRow.alloc ?_ _))
          have bp := bwH.out
          have bn : Below w.heap.size w wJ := by repeat' (first | with_reducible assumption | with_reducible exact Below.refl _ _ | (with_reducible refine Below.setCell ?_ ?_ _) | (with_reducible refine Below.alloc ?_ ?_ _) | (with_reducible refine Below.drew ?_) | (with_reducible refine below_dr ?_ _) | (with_reducible refine Below.trans ?_ (Below.mono (by with_reducible assumption) ?_)) | omega | (simp; done) | (simp; omega))
          have bwJ := Lib.hid bn
          clear bn
          clear bp bwH
          clear hbwJ
          clear bx_awH
          clear rd_a0wH
          clear bx_fwH
          clear bx_wwH
          clear r1wH
          clear bx_gwH
          clear ogwH
          have kbx_g0 := bx_gwJ.cell 0 rfl
          have kbx_g1 := bx_gwJ.cell 1 rfl
          have kbx_g2 := bx_gwJ.cell 2 rfl
          have kbx_g3 := bx_gwJ.cell 3 rfl
          have kbx_g4 := bx_gwJ.cell 4 rfl
          have kbx_g5 := bx_gwJ.cell 5 rfl
          have kbx_g6 := bx_gwJ.cell 6 rfl
          have kbx_g7 := bx_gwJ.cell 7 rfl
          have kbx_g8 := bx_gwJ.cell 8 rfl
          have lbx_g := bx_gwJ.lt
          go_wp2_with fail
          clear kbx_g0 kbx_g1 kbx_g2 kbx_g3 kbx_g4 kbx_g5 kbx_g6 kbx_g7 kbx_g8 lbx_g
          refine (markCurve_any Ag cg p1 p2 p3 p4 p5 p6 p7 p8 1 l2.length (wY.heap.size) (cellsF cPt l2) _ (by omega) (by omega) (by repeat' (first | with_reducible assumption | (with_reducible refine own_drew ?_) | (with_reducible refine own_stays ?_ (by with_reducible assumption)) | (with_reducible refine World.ownsRow.alloc ?_ _)))).mono ?_
          rw [← HM.out]
          rintro e wK ⟨rfl, omwK, hg⟩
          have zwK := hg.size
          have qwK : w.heap.size ≤ wK.heap.size := by omega
          have bp := bwJ.out
          have bn : Below w.heap.size w wK := by exact below_of_grown (by repeat' (first | with_reducible assumption | with_reducible exact Below.refl _ _ | (with_reducible refine Below.setCell ?_ ?_ _) | (with_reducible refine Below.alloc ?_ ?_ _) | (with_reducible refine Below.drew ?_) | (with_reducible refine below_dr ?_ _) | (with_reducible refine Below.trans ?_ (Below.mono (by with_reducible assumption) ?_)) | omega | (simp; done) | (simp; omega))) hg (by omega) (fun q hq => by have := ROWG.out q hq; omega)
          have bwK := Lib.hid bn
          clear bn
          clear bp bwJ
          have bx_awK : AtL (w.heap.size) [.slice a0A a0l.length a0c, .bool a1, .int .i64 a2, .bool a3, .bool a4, .int .i64 a5, .int .i64 a6, .int .i64 a7, .int .i64 a8] wK := AtL.grown (bx_awJ) hg (fun q hq => by have := ROWG.out q hq; omega)
          have rd_a0wK : Rd cPt 2 wK (w.heap.size) a0A a0l := Rd.grown2 rd_a0wJ hg (by omega) (fun q hq => by have := ROWG.out q hq; omega)
          have bx_fwK : AtL (w.heap.size + 1) [.int .i64 f0, .int .i64 f1] wK := AtL.grown (bx_fwJ) hg (fun q hq => by have := ROWG.out q hq; omega)
          have bx_wwK : AtL (qw) [.slice Aw l2.length cw, .bool p1, .int .i64 p2, .bool p3, .bool p4, .int .i64 p5, .int .i64 p6, .int .i64 p7, .int .i64 p8] wK := AtL.grown (bx_wwJ) hg (fun q hq => by have := ROWG.out q hq; omega)
          have r1wK : Rd cPt 2 wK (wC.heap.size) Aw l2 := Rd.grown2 r1wJ hg (by omega) (fun q hq => by have := ROWG.out q hq; omega)
          have bx_gwK : AtL (qg) [.slice Ag l2.length cg, .bool p1, .int .i64 p2, .bool p3, .bool p4, .int .i64 p5, .int .i64 p6, .int .i64 p7, .int .i64 p8] wK := AtL.grown (bx_gwJ) hg (fun q hq => by have := ROWG.out q hq; omega)
          clear hg bx_awJ rd_a0wJ bx_fwJ bx_wwJ r1wJ bx_gwJ ogwJ
          have kbx_g0 := bx_gwK.cell 0 rfl
          have kbx_g1 := bx_gwK.cell 1 rfl
          have kbx_g2 := bx_gwK.cell 2 rfl
          have kbx_g3 := bx_gwK.cell 3 rfl
          have kbx_g4 := bx_gwK.cell 4 rfl
          have kbx_g5 := bx_gwK.cell 5 rfl
          have kbx_g6 := bx_gwK.cell 6 rfl
          have kbx_g7 := bx_gwK.cell 7 rfl
          have kbx_g8 := bx_gwK.cell 8 rfl
          have lbx_g := bx_gwK.lt
          go_wp2_with fail
          clear kbx_g0 kbx_g1 kbx_g2 kbx_g3 kbx_g4 kbx_g5 kbx_g6 kbx_g7 kbx_g8 lbx_g
          refine (heldCurve_any Ag cg p1 p2 p3 p4 p5 p6 p7 p8 1 l2.length _ (by omega) (by omega) ?_).mono ?_
          · refine Rd.of_own (fun a => cPt_len a) (by omega) (base := wY.heap.size) (e := 30) (n := l2.length) (c := cg) ?_ (Nat.le_refl _); (repeat' (first | with_reducible assumption | (with_reducible refine own_drew ?_) | (with_reducible refine own_stays ?_ (by with_reducible assumption)) | (with_reducible refine World.ownsRow.alloc ?_ _)))
          rw [← HM.out]
          rintro e wL ⟨rfl, hbwL⟩
          have zwL := hbwL.size
          (try simp only [World.size_setCell] at zwL)
          (try simp only [World.size_drew] at zwL)
          (try simp only [World.size_alloc] at zwL)
          have qwL : w.heap.size ≤ wL.heap.size := by omega
          have bx_awL : AtL (w.heap.size) [.slice a0A a0l.length a0c, .bool a1, .int .i64 a2, .bool a3, .bool a4, .int .i64 a5, .int .i64 a6, .int .i64 a7, .int .i64 a8] wL := by repeat' (first | with_reducible assumption | with_reducible exact AtL.new _ _ _ | ((with_reducible refine AtL.newAt ?_); (first | rfl | (simp; done))) | (with_reducible refine AtL.drew ?_) | (with_reducible refine AtL.below ?_ (by with_reducible assumption)) | (with_reducible refine AtL.alloc ?_ _) | (with_reducible refine AtL.far ?_ ?_ _ _) | omega | (simp; done) | (simp; omega))
          have rd_a0wL : Rd cPt 2 wL (w.heap.size) a0A a0l := by repeat' (first | with_reducible assumption | (with_reducible refine Rd.drew ?_) | (with_reducible refine Rd.carry ?_ (by with_reducible assumption) ?_) | (with_reducible refine Rd.alloc ?_ ?_ _) | (with_reducible refine Rd.setCell ?_ ?_ _) | omega | (simp; done) | (simp; omega))
          have bx_fwL : AtL (w.heap.size + 1) [.int .i64 f0, .int .i64 f1] wL := by repeat' (first | with_reducible assumption | with_reducible exact AtL.new _ _ _ | ((with_reducible refine AtL.newAt ?_); (first | rfl | (simp; done))) | (with_reducible refine AtL.drew ?_) | (with_reducible refine AtL.below ?_ (by with_reducible assumption)) | (with_reducible refine AtL.alloc ?_ _) | (with_reducible refine AtL.far ?_ ?_ _ _) | omega | (simp; done) | (simp; omega))
          have bx_wwL : AtL (qw) [.slice Aw l2.length cw, .bool p1, .int .i64 p2, .bool p3, .bool p4, .int .i64 p5, .int .i64 p6, .int .i64 p7, .int .i64 p8] wL := by repeat' (first | with_reducible assumption | with_reducible exact AtL.new _ _ _ | ((with_reducible refine AtL.newAt ?_); (first | rfl | (simp; done))) | (with_reducible refine AtL.drew ?_) | (with_reducible refine AtL.below ?_ (by with_reducible assumption)) | (with_reducible refine AtL.alloc ?_ _) | (with_reducible refine AtL.far ?_ ?_ _ _) | omega | (simp; done) | (simp; omega))
          have r1wL : Rd cPt 2 wL (wC.heap.size) Aw l2 := by repeat' (first | with_reducible assumption | (with_reducible refine Rd.drew ?_) | (with_reducible refine Rd.carry ?_ (by with_reducible assumption) ?_) | (with_reducible refine Rd.alloc ?_ ?_ _) | (with_reducible refine Rd.setCell ?_ ?_ _) | omega | (simp; done) | (simp; omega))
          have bx_gwL : AtL (qg) [.slice Ag l2.length cg, .bool p1, .int .i64 p2, .bool p3, .bool p4, .int .i64 p5, .int .i64 p6, .int .i64 p7, .int .i64 p8] wL := by repeat' (first | with_reducible assumption | with_reducible exact AtL.new _ _ _ | ((with_reducible refine AtL.newAt ?_); (first | rfl | (simp; done))) | (with_reducible refine AtL.drew ?_) | (with_reducible refine AtL.below ?_ (by with_reducible assumption)) | (with_reducible refine AtL.alloc ?_ _) | (with_reducible refine AtL.far ?_ ?_ _ _) | omega | (simp; done) | (simp; omega))
          have omwL : wL.ownsRow (wY.heap.size) 30 2 (.slice Ag l2.length cg) l2.length (cellsF cPt (marksPt 1 l2.length)) := by repeat' (first | with_reducible assumption | (with_reducible refine own_drew ?_) | (with_reducible refine own_stays ?_ (by with_reducible assumption)) | (with_reducible refine World.ownsRow.alloc ?_ _))
          have bp := bwK.out
          have bn : Below w.heap.size w wL := by repeat' (first | with_reducible assumption | with_reducible exact Below.refl _ _ | (with_reducible refine Below.setCell ?_ ?_ _) | (with_reducible refine Below.alloc ?_ ?_ _) | (with_reducible refine Below.drew ?_) | (with_reducible refine below_dr ?_ _) | (with_reducible refine Below.trans ?_ (Below.mono (by with_reducible assumption) ?_)) | omega | (simp; done) | (simp; omega))
          have bwL := Lib.hid bn
          clear bn
          clear bp bwK
          clear hbwL
          clear bx_awK
          clear rd_a0wK
          clear bx_fwK
          clear bx_wwK
          clear r1wK
          clear bx_gwK
          clear omwK
          go_wp2_with fail
          have kbx_a0 := bx_awL.cell 0 rfl
          have kbx_a1 := bx_awL.cell 1 rfl
          have kbx_a2 := bx_awL.cell 2 rfl
          have kbx_a3 := bx_awL.cell 3 rfl
          have kbx_a4 := bx_awL.cell 4 rfl
          have kbx_a5 := bx_awL.cell 5 rfl
          have kbx_a6 := bx_awL.cell 6 rfl
          have kbx_a7 := bx_awL.cell 7 rfl
          have kbx_a8 := bx_awL.cell 8 rfl
          have lbx_a := bx_awL.lt
          have kbx_f0 := bx_fwL.cell 0 rfl
          have kbx_f1 := bx_fwL.cell 1 rfl
          have lbx_f := bx_fwL.lt
          go_upto_region 24 with fail
          go_cut [14, 15] (fun sA sB wx => Left_Curve p1 p2 p3 p4 p5 p6 p7 p8 code l2 wL.heap.size sA sB wx ∧ Below wL.heap.size wL wx)
          case first =>
            go_region_held3 (fun w' => (∀ b o, b < wL.heap.size → w'.cell? ⟨b, o, none⟩ = wL.cell? ⟨b, o, none⟩) ∧ wL.heap.size ≤ w'.heap.size)
              (first | ((try dsimp only); exact ⟨fun b o h => (by (repeat (first | with_reducible exact rfl | (with_reducible refine (cell_drew_at _ _).trans ?_) | (with_reducible refine (cell_set_at _ _ (by first | omega | (simp; done) | (simp; omega))).trans ?_) | (with_reducible refine (cell_alloc_at _ _ (by first | omega | (simp; done) | (simp; omega))).trans ?_) | (with_reducible refine (hcwP0 b o (by first | omega | (simp; done) | (simp; omega))).trans ?_) | (with_reducible refine (hcwP1 b o (by first | omega | (simp; done) | (simp; omega))).trans ?_) | (with_reducible refine (hcwB b o (by first | omega | (simp; done) | (simp; omega))).trans ?_)))), (by first | omega | (simp; done) | (simp; omega))⟩) | fail)
              (first
                | (go_at_call 15; (with_reducible refine (toCurve_any a0A a0c a0l a1 a2 a3 a4 a5 a6 a7 a8 _ hl_a0 ?_).mono ?_); (focus ((refine Rd.more (B := w.heap.size) ?_ (by first | omega | ((try simp only [World.size_setCell]); (try simp only [World.size_drew]); (try simp only [World.size_alloc]); omega) | (simp; done) | (simp; omega))); (repeat' (first | with_reducible assumption | (with_reducible refine Rd.drew ?_) | (with_reducible refine Rd.carry ?_ (by with_reducible assumption) ?_) | (with_reducible refine Rd.alloc ?_ ?_ _) | (with_reducible refine Rd.setCell ?_ ?_ _) | omega | (simp; done) | (simp; omega))))); intro e wP0 hq; obtain ⟨g_owP0_a0, rfl, owP0_a0, hbwP0⟩ := hq; obtain ⟨hcwP0, hfwP0⟩ := bcell hbwP0; have hzwP0 := hbwP0.size; (try simp only [World.size_drew] at hcwP0 hfwP0 hzwP0); (try simp only [World.size_alloc] at hcwP0 hfwP0 hzwP0); (try have qqwLwP0 : wL.heap.size < wP0.heap.size := by omega); (try have qqwP1wP0 : wP1.heap.size < wP0.heap.size := by omega))
                | (go_at_call 25; (with_reducible refine (toPt_any f0 f1 _).mono ?_); rintro e wP1 ⟨rfl, hbwP1⟩; obtain ⟨hcwP1, hfwP1⟩ := bcell hbwP1; have hzwP1 := hbwP1.size; (try simp only [World.size_drew] at hcwP1 hfwP1 hzwP1); (try simp only [World.size_alloc] at hcwP1 hfwP1 hzwP1); (try have qqwLwP1 : wL.heap.size < wP1.heap.size := by omega); (try have qqwP0wP1 : wP0.heap.size < wP1.heap.size := by omega))
                | (go_at_call 26; (with_reducible refine (C2.out (some ⟨g_owP0_a0, 0, none⟩) a0l.length _ hl_a0 ?_).mono ?_); (focus ((refine Rd.more (B := wP0.heap.size) ?_ (by first | exact Nat.le_refl _ | omega | ((try simp only [World.size_drew]); (try simp only [World.size_alloc]); (try simp only [World.size_drew]); omega) | (simp; done) | (simp; omega))); (repeat' (first | with_reducible assumption | exact Rd.of_own (fun a => cPt_len a) (by omega) owP0_a0 (Nat.le_refl _) | (with_reducible refine Rd.drew ?_) | (with_reducible refine Rd.alloc ?_ ?_ _) | (with_reducible refine Rd.carry ?_ (by with_reducible assumption) ?_) | exact Nat.le_refl _ | omega | (simp; done) | (simp; omega))))); intro e wB hq; obtain ⟨AC, cC, rfl, owC, hbwB⟩ := hq; obtain ⟨hcwB, hfwB⟩ := bcell hbwB; have hzwB := hbwB.size; (try simp only [World.size_drew] at hcwB hfwB hzwB); (try simp only [World.size_alloc] at hcwB hfwB hzwB); have owC0 := owC; replace owC := own_base (base := wL.heap.size) owC (by first | omega | ((try simp only [World.size_drew]); (try simp only [World.size_alloc]); omega) | (simp; omega)); (try have qqwLwB : wL.heap.size < wB.heap.size := by omega); (try have qqwP0wB : wP0.heap.size < wB.heap.size := by omega); (try have qqwP1wB : wP1.heap.size < wB.heap.size := by omega)))
            all_goals
              go_wp2_with fail
              go_meet
            all_goals exact ⟨⟨_, _, _, rfl, rfl, by repeat' (first | (with_reducible apply AtL.store9) | with_reducible assumption | with_reducible exact AtL.new _ _ _ | ((with_reducible refine AtL.newAt ?_); (first | rfl | (simp; done))) | (with_reducible refine AtL.drew ?_) | (with_reducible refine AtL.below ?_ (by with_reducible assumption)) | (with_reducible refine AtL.alloc ?_ _) | (with_reducible refine AtL.far ?_ ?_ _ _) | omega | (simp; done) | (simp; omega)), by first | omega | (simp; done) | (simp; omega), by repeat (first | with_reducible exact owC | (with_reducible refine own_drew ?_) | (with_reducible refine World.ownsRow.alloc ?_ _) | (with_reducible refine own_keep ?_ (fun q hq => by have h := own_block owC0 hq; (try simp only [World.size_drew] at h); (try simp only [World.size_alloc] at h); (try simp only [World.size_drew] at h); simp only; omega) _)), fun r hr => by have h := own_block owC0 hr; (try simp only [World.size_drew] at h); (try simp only [World.size_alloc] at h); (try simp only [World.size_drew] at h); omega⟩, by repeat' (first | with_reducible assumption | with_reducible exact Below.refl _ _ | (with_reducible refine Below.setCell ?_ ?_ _) | (with_reducible refine Below.alloc ?_ ?_ _) | (with_reducible refine Below.drew ?_) | (with_reducible refine below_dr ?_ _) | (with_reducible refine Below.trans ?_ (Below.mono (by with_reducible assumption) ?_)) | omega | (simp; done) | (simp; omega))⟩
          case rest =>
            clear kbx_a0 kbx_a1 kbx_a2 kbx_a3 kbx_a4 kbx_a5 kbx_a6 kbx_a7 kbx_a8 lbx_a
            clear kbx_f0 kbx_f1 lbx_f
            obtain ⟨⟨qh, Ah, ch, rfl, rfl, ath, loh, owh, neh⟩, hbwQ⟩ := hcut
            obtain ⟨wQ, rfl⟩ : ∃ W : World, W = wc := ⟨_, rfl⟩
            have NEh := Lib.hid neh
            have lth := ath.lt
            have OBh := Lib.hid (fun r hr => own_block owh (q := r) hr)
            clear neh
            have zwQ := hbwQ.size
            (try simp only [World.size_setCell] at zwQ)
            (try simp only [World.size_drew] at zwQ)
            (try simp only [World.size_alloc] at zwQ)
            have qwQ : w.heap.size ≤ wQ.heap.size := by omega
            have bx_awQ : AtL (w.heap.size) [.slice a0A a0l.length a0c, .bool a1, .int .i64 a2, .bool a3, .bool a4, .int .i64 a5, .int .i64 a6, .int .i64 a7, .int .i64 a8] wQ := by repeat' (first | with_reducible assumption | with_reducible exact AtL.new _ _ _ | ((with_reducible refine AtL.newAt ?_); (first | rfl | (simp; done))) | (with_reducible refine AtL.drew ?_) | (with_reducible refine AtL.below ?_ (by with_reducible assumption)) | (with_reducible refine AtL.alloc ?_ _) | (with_reducible refine AtL.far ?_ ?_ _ _) | omega | (simp; done) | (simp; omega))
            have rd_a0wQ : Rd cPt 2 wQ (w.heap.size) a0A a0l := by repeat' (first | with_reducible assumption | (with_reducible refine Rd.drew ?_) | (with_reducible refine Rd.carry ?_ (by with_reducible assumption) ?_) | (with_reducible refine Rd.alloc ?_ ?_ _) | (with_reducible refine Rd.setCell ?_ ?_ _) | omega | (simp; done) | (simp; omega))
            have bx_fwQ : AtL (w.heap.size + 1) [.int .i64 f0, .int .i64 f1] wQ := by repeat' (first | with_reducible assumption | with_reducible exact AtL.new _ _ _ | ((with_reducible refine AtL.newAt ?_); (first | rfl | (simp; done))) | (with_reducible refine AtL.drew ?_) | (with_reducible refine AtL.below ?_ (by with_reducible assumption)) | (with_reducible refine AtL.alloc ?_ _) | (with_reducible refine AtL.far ?_ ?_ _ _) | omega | (simp; done) | (simp; omega))
            have bx_wwQ : AtL (qw) [.slice Aw l2.length cw, .bool p1, .int .i64 p2, .bool p3, .bool p4, .int .i64 p5, .int .i64 p6, .int .i64 p7, .int .i64 p8] wQ := by repeat' (first | with_reducible assumption | with_reducible exact AtL.new _ _ _ | ((with_reducible refine AtL.newAt ?_); (first | rfl | (simp; done))) | (with_reducible refine AtL.drew ?_) | (with_reducible refine AtL.below ?_ (by with_reducible assumption)) | (with_reducible refine AtL.alloc ?_ _) | (with_reducible refine AtL.far ?_ ?_ _ _) | omega | (simp; done) | (simp; omega))
            have r1wQ : Rd cPt 2 wQ (wC.heap.size) Aw l2 := by repeat' (first | with_reducible assumption | (with_reducible refine Rd.drew ?_) | (with_reducible refine Rd.carry ?_ (by with_reducible assumption) ?_) | (with_reducible refine Rd.alloc ?_ ?_ _) | (with_reducible refine Rd.setCell ?_ ?_ _) | omega | (simp; done) | (simp; omega))
            have bx_gwQ : AtL (qg) [.slice Ag l2.length cg, .bool p1, .int .i64 p2, .bool p3, .bool p4, .int .i64 p5, .int .i64 p6, .int .i64 p7, .int .i64 p8] wQ := by repeat' (first | with_reducible assumption | with_reducible exact AtL.new _ _ _ | ((with_reducible refine AtL.newAt ?_); (first | rfl | (simp; done))) | (with_reducible refine AtL.drew ?_) | (with_reducible refine AtL.below ?_ (by with_reducible assumption)) | (with_reducible refine AtL.alloc ?_ _) | (with_reducible refine AtL.far ?_ ?_ _ _) | omega | (simp; done) | (simp; omega))
            have omwQ : wQ.ownsRow (wY.heap.size) 30 2 (.slice Ag l2.length cg) l2.length (cellsF cPt (marksPt 1 l2.length)) := by repeat' (first | with_reducible assumption | (with_reducible refine own_drew ?_) | (with_reducible refine own_stays ?_ (by with_reducible assumption)) | (with_reducible refine World.ownsRow.alloc ?_ _))
            have bp := bwL.out
            have bn : Below w.heap.size w wQ := by repeat' (first | with_reducible assumption | with_reducible exact Below.refl _ _ | (with_reducible refine Below.setCell ?_ ?_ _) | (with_reducible refine Below.alloc ?_ ?_ _) | (with_reducible refine Below.drew ?_) | (with_reducible refine below_dr ?_ _) | (with_reducible refine Below.trans ?_ (Below.mono (by with_reducible assumption) ?_)) | omega | (simp; done) | (simp; omega))
            have bwQ := Lib.hid bn
            clear bn
            clear bp bwL
            clear hbwQ
            clear bx_awL
            clear rd_a0wL
            clear bx_fwL
            clear bx_wwL
            clear r1wL
            clear bx_gwL
            clear omwL
            have bx_hwQ := ath
            clear ath
            have ohwQ := owh
            clear owh NEh OBh
            have kbx_h0 := bx_hwQ.cell 0 rfl
            have kbx_h1 := bx_hwQ.cell 1 rfl
            have kbx_h2 := bx_hwQ.cell 2 rfl
            have kbx_h3 := bx_hwQ.cell 3 rfl
            have kbx_h4 := bx_hwQ.cell 4 rfl
            have kbx_h5 := bx_hwQ.cell 5 rfl
            have kbx_h6 := bx_hwQ.cell 6 rfl
            have kbx_h7 := bx_hwQ.cell 7 rfl
            have kbx_h8 := bx_hwQ.cell 8 rfl
            have lbx_h := bx_hwQ.lt
            have kbx_w0 := bx_wwQ.cell 0 rfl
            have kbx_w1 := bx_wwQ.cell 1 rfl
            have kbx_w2 := bx_wwQ.cell 2 rfl
            have kbx_w3 := bx_wwQ.cell 3 rfl
            have kbx_w4 := bx_wwQ.cell 4 rfl
            have kbx_w5 := bx_wwQ.cell 5 rfl
            have kbx_w6 := bx_wwQ.cell 6 rfl
            have kbx_w7 := bx_wwQ.cell 7 rfl
            have kbx_w8 := bx_wwQ.cell 8 rfl
            have lbx_w := bx_wwQ.lt
            go_wp2_with fail
            clear kbx_h0 kbx_h1 kbx_h2 kbx_h3 kbx_h4 kbx_h5 kbx_h6 kbx_h7 kbx_h8 lbx_h
            clear kbx_w0 kbx_w1 kbx_w2 kbx_w3 kbx_w4 kbx_w5 kbx_w6 kbx_w7 kbx_w8 lbx_w
            refine (eqCurve_same Ah ch l2 p1 p2 p3 p4 p5 p6 p7 p8 Aw cw _ (by omega) ?_ ?_).mono ?_
            · refine Rd.of_own (fun a => cPt_len a) (by omega) (base := wL.heap.size) (e := 30) (n := l2.length) (c := ch) ?_ (Nat.le_refl _); (repeat' (first | with_reducible assumption | (with_reducible refine own_drew ?_) | (with_reducible refine own_stays ?_ (by with_reducible assumption)) | (with_reducible refine World.ownsRow.alloc ?_ _)))
            · refine Rd.more (B := wC.heap.size) ?_ (by (try simp only [World.size_drew]); (try simp only [World.size_alloc]); omega)
              repeat' (first | with_reducible assumption | (with_reducible refine Rd.drew ?_) | (with_reducible refine Rd.carry ?_ (by with_reducible assumption) ?_) | (with_reducible refine Rd.alloc ?_ ?_ _) | (with_reducible refine Rd.setCell ?_ ?_ _) | omega | (simp; done) | (simp; omega))
            rintro e wR ⟨rfl, hbwR⟩
            have zwR := hbwR.size
            (try simp only [World.size_setCell] at zwR)
            (try simp only [World.size_drew] at zwR)
            (try simp only [World.size_alloc] at zwR)
            have qwR : w.heap.size ≤ wR.heap.size := by omega
            have bx_awR : AtL (w.heap.size) [.slice a0A a0l.length a0c, .bool a1, .int .i64 a2, .bool a3, .bool a4, .int .i64 a5, .int .i64 a6, .int .i64 a7, .int .i64 a8] wR := by repeat' (first | with_reducible assumption | with_reducible exact AtL.new _ _ _ | ((with_reducible refine AtL.newAt ?_); (first | rfl | (simp; done))) | (with_reducible refine AtL.drew ?_) | (with_reducible refine AtL.below ?_ (by with_reducible assumption)) | (with_reducible refine AtL.alloc ?_ _) | (with_reducible refine AtL.far ?_ ?_ _ _) | omega | (simp; done) | (simp; omega))
            have rd_a0wR : Rd cPt 2 wR (w.heap.size) a0A a0l := by repeat' (first | with_reducible assumption | (with_reducible refine Rd.drew ?_) | (with_reducible refine Rd.carry ?_ (by with_reducible assumption) ?_) | (with_reducible refine Rd.alloc ?_ ?_ _) | (with_reducible refine Rd.setCell ?_ ?_ _) | omega | (simp; done) | (simp; omega))
            have bx_fwR : AtL (w.heap.size + 1) [.int .i64 f0, .int .i64 f1] wR := by repeat' (first | with_reducible assumption | with_reducible exact AtL.new _ _ _ | ((with_reducible refine AtL.newAt ?_); (first | rfl | (simp; done))) | (with_reducible refine AtL.drew ?_) | (with_reducible refine AtL.below ?_ (by with_reducible assumption)) | (with_reducible refine AtL.alloc ?_ _) | (with_reducible refine AtL.far ?_ ?_ _ _) | omega | (simp; done) | (simp; omega))
            have bx_wwR : AtL (qw) [.slice Aw l2.length cw, .bool p1, .int .i64 p2, .bool p3, .bool p4, .int .i64 p5, .int .i64 p6, .int .i64 p7, .int .i64 p8] wR := by repeat' (first | with_reducible assumption | with_reducible exact AtL.new _ _ _ | ((with_reducible refine AtL.newAt ?_); (first | rfl | (simp; done))) | (with_reducible refine AtL.drew ?_) | (with_reducible refine AtL.below ?_ (by with_reducible assumption)) | (with_reducible refine AtL.alloc ?_ _) | (with_reducible refine AtL.far ?_ ?_ _ _) | omega | (simp; done) | (simp; omega))
            have r1wR : Rd cPt 2 wR (wC.heap.size) Aw l2 := by repeat' (first | with_reducible assumption | (with_reducible refine Rd.drew ?_) | (with_reducible refine Rd.carry ?_ (by with_reducible assumption) ?_) | (with_reducible refine Rd.alloc ?_ ?_ _) | (with_reducible refine Rd.setCell ?_ ?_ _) | omega | (simp; done) | (simp; omega))
            have bx_gwR : AtL (qg) [.slice Ag l2.length cg, .bool p1, .int .i64 p2, .bool p3, .bool p4, .int .i64 p5, .int .i64 p6, .int .i64 p7, .int .i64 p8] wR := by repeat' (first | with_reducible assumption | with_reducible exact AtL.new _ _ _ | ((with_reducible refine AtL.newAt ?_); (first | rfl | (simp; done))) | (with_reducible refine AtL.drew ?_) | (with_reducible refine AtL.below ?_ (by with_reducible assumption)) | (with_reducible refine AtL.alloc ?_ _) | (with_reducible refine AtL.far ?_ ?_ _ _) | omega | (simp; done) | (simp; omega))
            have omwR : wR.ownsRow (wY.heap.size) 30 2 (.slice Ag l2.length cg) l2.length (cellsF cPt (marksPt 1 l2.length)) := by repeat' (first | with_reducible assumption | (with_reducible refine own_drew ?_) | (with_reducible refine own_stays ?_ (by with_reducible assumption)) | (with_reducible refine World.ownsRow.alloc ?_ _))
            have bx_hwR : AtL (qh) [.slice Ah l2.length ch, .bool p1, .int .i64 p2, .bool p3, .bool p4, .int .i64 p5, .int .i64 p6, .int .i64 p7, .int .i64 p8] wR := by repeat' (first | with_reducible assumption | with_reducible exact AtL.new _ _ _ | ((with_reducible refine AtL.newAt ?_); (first | rfl | (simp; done))) | (with_reducible refine AtL.drew ?_) | (with_reducible refine AtL.below ?_ (by with_reducible assumption)) | (with_reducible refine AtL.alloc ?_ _) | (with_reducible refine AtL.far ?_ ?_ _ _) | omega | (simp; done) | (simp; omega))
            have ohwR : wR.ownsRow (wL.heap.size) 30 2 (.slice Ah l2.length ch) l2.length (cellsF cPt l2) := by repeat' (first | with_reducible assumption | (with_reducible refine own_drew ?_) | (with_reducible refine own_stays ?_ (by with_reducible assumption)) | (with_reducible refine World.ownsRow.alloc ?_ _))
            have bp := bwQ.out
            have bn : Below w.heap.size w wR := by repeat' (first | with_reducible assumption | with_reducible exact Below.refl _ _ | (with_reducible refine Below.setCell ?_ ?_ _) | (with_reducible refine Below.alloc ?_ ?_ _) | (with_reducible refine Below.drew ?_) | (with_reducible refine below_dr ?_ _) | (with_reducible refine Below.trans ?_ (Below.mono (by with_reducible assumption) ?_)) | omega | (simp; done) | (simp; omega))
            have bwR := Lib.hid bn
            clear bn
            clear bp bwQ
            clear hbwR
            clear bx_awQ
            clear rd_a0wQ
            clear bx_fwQ
            clear bx_wwQ
            clear r1wQ
            clear bx_gwQ
            clear omwQ
            clear bx_hwQ
            clear ohwQ
            have kbx_g0 := bx_gwR.cell 0 rfl
            have kbx_g1 := bx_gwR.cell 1 rfl
            have kbx_g2 := bx_gwR.cell 2 rfl
            have kbx_g3 := bx_gwR.cell 3 rfl
            have kbx_g4 := bx_gwR.cell 4 rfl
            have kbx_g5 := bx_gwR.cell 5 rfl
            have kbx_g6 := bx_gwR.cell 6 rfl
            have kbx_g7 := bx_gwR.cell 7 rfl
            have kbx_g8 := bx_gwR.cell 8 rfl
            have lbx_g := bx_gwR.lt
            go_wp2_with fail
            clear kbx_g0 kbx_g1 kbx_g2 kbx_g3 kbx_g4 kbx_g5 kbx_g6 kbx_g7 kbx_g8 lbx_g
            refine (heldCurve_any Ag cg p1 p2 p3 p4 p5 p6 p7 p8 1 l2.length _ (by omega) (by omega) ?_).mono ?_
            · refine Rd.of_own (fun a => cPt_len a) (by omega) (base := wY.heap.size) (e := 30) (n := l2.length) (c := cg) ?_ (Nat.le_refl _); (repeat' (first | with_reducible assumption | (with_reducible refine own_drew ?_) | (with_reducible refine own_stays ?_ (by with_reducible assumption)) | (with_reducible refine World.ownsRow.alloc ?_ _)))
            rw [← HM.out]
            rintro e wV ⟨rfl, hbwV⟩
            have zwV := hbwV.size
            (try simp only [World.size_setCell] at zwV)
            (try simp only [World.size_drew] at zwV)
            (try simp only [World.size_alloc] at zwV)
            have qwV : w.heap.size ≤ wV.heap.size := by omega
            have bx_awV : AtL (w.heap.size) [.slice a0A a0l.length a0c, .bool a1, .int .i64 a2, .bool a3, .bool a4, .int .i64 a5, .int .i64 a6, .int .i64 a7, .int .i64 a8] wV := by repeat' (first | with_reducible assumption | with_reducible exact AtL.new _ _ _ | ((with_reducible refine AtL.newAt ?_); (first | rfl | (simp; done))) | (with_reducible refine AtL.drew ?_) | (with_reducible refine AtL.below ?_ (by with_reducible assumption)) | (with_reducible refine AtL.alloc ?_ _) | (with_reducible refine AtL.far ?_ ?_ _ _) | omega | (simp; done) | (simp; omega))
            have rd_a0wV : Rd cPt 2 wV (w.heap.size) a0A a0l := by repeat' (first | with_reducible assumption | (with_reducible refine Rd.drew ?_) | (with_reducible refine Rd.carry ?_ (by with_reducible assumption) ?_) | (with_reducible refine Rd.alloc ?_ ?_ _) | (with_reducible refine Rd.setCell ?_ ?_ _) | omega | (simp; done) | (simp; omega))
            have bx_fwV : AtL (w.heap.size + 1) [.int .i64 f0, .int .i64 f1] wV := by repeat' (first | with_reducible assumption | with_reducible exact AtL.new _ _ _ | ((with_reducible refine AtL.newAt ?_); (first | rfl | (simp; done))) | (with_reducible refine AtL.drew ?_) | (with_reducible refine AtL.below ?_ (by with_reducible assumption)) | (with_reducible refine AtL.alloc ?_ _) | (with_reducible refine AtL.far ?_ ?_ _ _) | omega | (simp; done) | (simp; omega))
            have bx_wwV : AtL (qw) [.slice Aw l2.length cw, .bool p1, .int .i64 p2, .bool p3, .bool p4, .int .i64 p5, .int .i64 p6, .int .i64 p7, .int .i64 p8] wV := by repeat' (first | with_reducible assumption | with_reducible exact AtL.new _ _ _ | ((with_reducible refine AtL.newAt ?_); (first | rfl | (simp; done))) | (with_reducible refine AtL.drew ?_) | (with_reducible refine AtL.below ?_ (by with_reducible assumption)) | (with_reducible refine AtL.alloc ?_ _) | (with_reducible refine AtL.far ?_ ?_ _ _) | omega | (simp; done) | (simp; omega))
            have r1wV : Rd cPt 2 wV (wC.heap.size) Aw l2 := by repeat' (first | with_reducible assumption | (with_reducible refine Rd.drew ?_) | (with_reducible refine Rd.carry ?_ (by with_reducible assumption) ?_) | (with_reducible refine Rd.alloc ?_ ?_ _) | (with_reducible refine Rd.setCell ?_ ?_ _) | omega | (simp; done) | (simp; omega))
            have bx_gwV : AtL (qg) [.slice Ag l2.length cg, .bool p1, .int .i64 p2, .bool p3, .bool p4, .int .i64 p5, .int .i64 p6, .int .i64 p7, .int .i64 p8] wV := by repeat' (first | with_reducible assumption | with_reducible exact AtL.new _ _ _ | ((with_reducible refine AtL.newAt ?_); (first | rfl | (simp; done))) | (with_reducible refine AtL.drew ?_) | (with_reducible refine AtL.below ?_ (by with_reducible assumption)) | (with_reducible refine AtL.alloc ?_ _) | (with_reducible refine AtL.far ?_ ?_ _ _) | omega | (simp; done) | (simp; omega))
            have omwV : wV.ownsRow (wY.heap.size) 30 2 (.slice Ag l2.length cg) l2.length (cellsF cPt (marksPt 1 l2.length)) := by repeat' (first | with_reducible assumption | (with_reducible refine own_drew ?_) | (with_reducible refine own_stays ?_ (by with_reducible assumption)) | (with_reducible refine World.ownsRow.alloc ?_ _))
            have bx_hwV : AtL (qh) [.slice Ah l2.length ch, .bool p1, .int .i64 p2, .bool p3, .bool p4, .int .i64 p5, .int .i64 p6, .int .i64 p7, .int .i64 p8] wV := by repeat' (first | with_reducible assumption | with_reducible exact AtL.new _ _ _ | ((with_reducible refine AtL.newAt ?_); (first | rfl | (simp; done))) | (with_reducible refine AtL.drew ?_) | (with_reducible refine AtL.below ?_ (by with_reducible assumption)) | (with_reducible refine AtL.alloc ?_ _) | (with_reducible refine AtL.far ?_ ?_ _ _) | omega | (simp; done) | (simp; omega))
            have ohwV : wV.ownsRow (wL.heap.size) 30 2 (.slice Ah l2.length ch) l2.length (cellsF cPt l2) := by repeat' (first | with_reducible assumption | (with_reducible refine own_drew ?_) | (with_reducible refine own_stays ?_ (by with_reducible assumption)) | (with_reducible refine World.ownsRow.alloc ?_ _))
            have bp := bwR.out
            have bn : Below w.heap.size w wV := by repeat' (first | with_reducible assumption | with_reducible exact Below.refl _ _ | (with_reducible refine Below.setCell ?_ ?_ _) | (with_reducible refine Below.alloc ?_ ?_ _) | (with_reducible refine Below.drew ?_) | (with_reducible refine below_dr ?_ _) | (with_reducible refine Below.trans ?_ (Below.mono (by with_reducible assumption) ?_)) | omega | (simp; done) | (simp; omega))
            have bwV := Lib.hid bn
            clear bn
            clear bp bwR
            clear hbwV
            clear bx_awR
            clear rd_a0wR
            clear bx_fwR
            clear bx_wwR
            clear r1wR
            clear bx_gwR
            clear omwR
            clear bx_hwR
            clear ohwR
            go_wp2_with fail
            go_ret
            have bp := bwV.out
            exact ⟨rfl, by repeat' (first | with_reducible assumption | with_reducible exact Below.refl _ _ | (with_reducible refine Below.setCell ?_ ?_ _) | (with_reducible refine Below.alloc ?_ ?_ _) | (with_reducible refine Below.drew ?_) | (with_reducible refine below_dr ?_ _) | (with_reducible refine Below.trans ?_ (Below.mono (by with_reducible assumption) ?_)) | omega | (simp; done) | (simp; omega))⟩
end Go.Proofs.Ythedimnjbfeaiaa
