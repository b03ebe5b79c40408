/- Walks: the law on ScaleLinear: it returns true. -/
import Derived.Test.YthedimnjbfeaiaaSe
namespace Go.Proofs.Ythedimnjbfeaiaa
open Go.RowKit
set_option linter.unusedVariables false
theorem i64_of {n : Int} (h : (Lit.int .i64 n).wf = true) : -9223372036854775808 ≤ n ∧ n ≤ 9223372036854775807 := by simpa [Lit.wf, IntKind.min, IntKind.max, IntKind.signed, IntKind.bits] using h
theorem scL_len (n d : Int) (l : List ATerm) (n2 d2 : Int) : (scL n d l n2 d2).length ≤ 1048576 := by
  unfold scL
  by_cases h : scC n d l n2 d2 = 0
  · rw [if_pos h]
    by_cases hz : n2 = 0
    · rw [if_pos hz]; simp
    · rw [if_neg hz, List.length_map]
      rcases hv : vLin n d l with _ | _
      · unfold scC at h
        rw [if_neg (fun e => by rw [e.1] at hv; cases hv)] at h
        omega
      · have := vLin_len hv; omega
  · rw [if_neg h]; simp
set_option maxRecDepth 100000 in
set_option maxHeartbeats 12800000 in
theorem walk_ScaleLinear (a : ALinear) (f0 f1 : Int) (wf0 : (Lit.int .i64 f0).wf = true) (wf1 : (Lit.int .i64 f1).wf = true) (w : World) (k_a : okLinear w w.heap.size a) :
    Calls Try.prog 7 #[.agg #[.int .i64 a.1, .int .i64 a.2.1, .slice a.2.2.1 a.2.2.2.2.length a.2.2.2.1], .agg #[.int .i64 f0, .int .i64 f1]] w fun e w' => e = .returned (.bool true) ∧ Below w.heap.size w w' := by
  obtain ⟨a0, a1, ⟨a2A, a2c, a2l⟩⟩ := a
  obtain ⟨w_a0, w_a1, nc_a2, cm_a2, rd_a2, ok_a2⟩ := k_a
  simp only at w_a0 w_a1 nc_a2 cm_a2 rd_a2 ok_a2 ⊢
  have hm_a2 : a2l.length ≤ 9223372036854775807 := by unfold maxLen at cm_a2; omega
  have HOK_a2 := Lib.hid (show ∀ (w2 : World) (B : Nat) (i : Nat) (b : ATerm), a2l[i]? = some b → okTerm w2 B b from fun _ _ i b h => ok_a2 i b h)
  clear ok_a2 nc_a2 cm_a2
  have C1 := Lib.hid (fun A c w hl r => specScale_any a0 a1 A c a2l f0 f1 w (i64_of w_a0) (i64_of w_a1) (i64_of wf0) (i64_of wf1) hl r HOK_a2.out)
  have C2 := Lib.hid (fun A c w hl r => implScale_any a0 a1 A c a2l f0 f1 w (i64_of w_a0) (i64_of w_a1) (i64_of wf0) (i64_of wf1) hl r HOK_a2.out)
  have hll := scL_len a0 a1 a2l f0 f1
  generalize scN a0 a1 a2l f0 f1 = cn at C1 C2
  generalize scD a0 a1 a2l f0 f1 = cd at C1 C2
  generalize scC a0 a1 a2l f0 f1 = code at C1 C2
  generalize scL a0 a1 a2l f0 f1 = l at C1 C2 hll
  have e_c : (code != code) = false := by simp
  clear w_a0 w_a1 wf0 wf1
  obtain ⟨M, hM⟩ : ∃ M : Int, M = ((1 + 3 * l.length : Nat) : Int) := ⟨_, rfl⟩
  have hM0 : 0 ≤ M := by omega
  have HM := Lib.hid hM
  have e_M : (M != M) = false := by simp
  clear hM
  obtain ⟨M1, hM1⟩ : ∃ M1 : Int, M1 = ((1 + 3 * a2l.length : Nat) : Int) := ⟨_, rfl⟩
  have hM10 : 0 ≤ M1 := by omega
  have HM1 := Lib.hid hM1
  clear hM1
  go_enter Try.func7, Try.ntmps7
  go_wp2_with fail
  generalize hW : ((w.alloc (.cells #[.int .i64 a0, .int .i64 a1, .slice a2A a2l.length a2c] 47)).alloc (.cells #[.int .i64 f0, .int .i64 f1] 44)) = W0
  have rd_a2w : Rd cTerm 3 w (w.heap.size) a2A a2l := rd_a2
  have bx_aW0 : AtL (w.heap.size) [.int .i64 a0, .int .i64 a1, .slice a2A a2l.length a2c] W0 := by rw [← hW]; repeat' (first | with_reducible assumption | with_reducible exact AtL.new _ _ _ | ((with_reducible refine AtL.newAt ?_); (first | rfl | (simp; done))) | (with_reducible refine AtL.drew ?_) | (with_reducible refine AtL.below ?_ (by with_reducible assumption)) | (with_reducible refine AtL.alloc ?_ _) | (with_reducible refine AtL.far ?_ ?_ _ _) | omega | (simp; done) | (simp; omega))
  have rd_a2W0 : Rd cTerm 3 W0 (w.heap.size) a2A a2l := by rw [← hW]; repeat' (first | with_reducible assumption | (with_reducible refine Rd.drew ?_) | (with_reducible refine Rd.carry ?_ (by with_reducible assumption) ?_) | (with_reducible refine Rd.alloc ?_ ?_ _) | (with_reducible refine Rd.setCell ?_ ?_ _) | omega | (simp; done) | (simp; omega))
  have bx_fW0 : AtL (w.heap.size + 1) [.int .i64 f0, .int .i64 f1] W0 := by rw [← hW]; repeat' (first | with_reducible assumption | with_reducible exact AtL.new _ _ _ | ((with_reducible refine AtL.newAt ?_); (first | rfl | (simp; done))) | (with_reducible refine AtL.drew ?_) | (with_reducible refine AtL.below ?_ (by with_reducible assumption)) | (with_reducible refine AtL.alloc ?_ _) | (with_reducible refine AtL.far ?_ ?_ _ _) | omega | (simp; done) | (simp; omega))
  have qW0 : w.heap.size ≤ W0.heap.size := by rw [← hW]; simp; omega
  have bn : Below w.heap.size w W0 := by rw [← hW]; repeat' (first | with_reducible assumption | with_reducible exact Below.refl _ _ | (with_reducible refine Below.setCell ?_ ?_ _) | (with_reducible refine Below.alloc ?_ ?_ _) | (with_reducible refine Below.drew ?_) | (with_reducible refine below_dr ?_ _) | (with_reducible refine Below.trans ?_ (Below.mono (by with_reducible assumption) ?_)) | omega | (simp; done) | (simp; omega))
  have bW0 := Lib.hid bn
  clear hW bn
  clear rd_a2w rd_a2
  have hV0 : 0 ≤ (1048576 : Int) ∧ (1048576 : Int) ≤ 1048576 := by omega
  by_cases hfit : ((a2l.length + totTerm a2l : Nat) : Int) ≤ 1048576
  case neg =>
    replace hfit : 1048576 < ((a2l.length + totTerm a2l : Nat) : Int) := by omega
    refine (szLinear_no a0 a1 a2A a2c a2l 1048576 _ (by omega) (by omega) hm_a2 hfit ?_ (HOK_a2.out _ _)).mono ?_
    · (refine Rd.more (B := w.heap.size) ?_ (by first | omega | ((try simp only [World.size_setCell]); (try simp only [World.size_drew]); (try simp only [World.size_alloc]); omega) | (simp; done) | (simp; omega))); (repeat' (first | with_reducible assumption | (with_reducible refine Rd.drew ?_) | (with_reducible refine Rd.carry ?_ (by with_reducible assumption) ?_) | (with_reducible refine Rd.alloc ?_ ?_ _) | (with_reducible refine Rd.setCell ?_ ?_ _) | omega | (simp; done) | (simp; omega)))
    rintro e wN ⟨rfl, hb⟩
    go_wp2_with fail
    go_ret
    have bp := bW0.out
    exact ⟨rfl, by repeat' (first | with_reducible assumption | with_reducible exact Below.refl _ _ | (with_reducible refine Below.setCell ?_ ?_ _) | (with_reducible refine Below.alloc ?_ ?_ _) | (with_reducible refine Below.drew ?_) | (with_reducible refine below_dr ?_ _) | (with_reducible refine Below.trans ?_ (Below.mono (by with_reducible assumption) ?_)) | omega | (simp; done) | (simp; omega))⟩
  case pos =>
    have hl_a2 : a2l.length ≤ 1048576 := by omega
    refine (szLinear_yes a0 a1 a2A a2c a2l 1048576 _ (by omega) (by omega) (by omega) hfit ?_ (HOK_a2.out _ _)).mono ?_
    · (refine Rd.more (B := w.heap.size) ?_ (by first | omega | ((try simp only [World.size_setCell]); (try simp only [World.size_drew]); (try simp only [World.size_alloc]); omega) | (simp; done) | (simp; omega))); (repeat' (first | with_reducible assumption | (with_reducible refine Rd.drew ?_) | (with_reducible refine Rd.carry ?_ (by with_reducible assumption) ?_) | (with_reducible refine Rd.alloc ?_ ?_ _) | (with_reducible refine Rd.setCell ?_ ?_ _) | omega | (simp; done) | (simp; omega)))
    obtain ⟨V0, hV⟩ : ∃ V : Int, V = 1048576 - (a2l.length + totTerm a2l : Nat) := ⟨_, rfl⟩
    have hVV : 0 ≤ V0 ∧ V0 ≤ 1048576 := by omega
    rw [← hV]
    rintro e wS0 ⟨rfl, hbwS0⟩
    clear hV hfit
    obtain ⟨hV0_0, hV1_0⟩ := hVV
    have zwS0 := hbwS0.size
    (try simp only [World.size_setCell] at zwS0)
    (try simp only [World.size_drew] at zwS0)
    (try simp only [World.size_alloc] at zwS0)
    have qwS0 : w.heap.size ≤ wS0.heap.size := by omega
    have bx_awS0 : AtL (w.heap.size) [.int .i64 a0, .int .i64 a1, .slice a2A a2l.length a2c] wS0 := by repeat' (first | with_reducible assumption | with_reducible exact AtL.new _ _ _ | ((with_reducible refine AtL.newAt ?_); (first | rfl | (simp; done))) | (with_reducible refine AtL.drew ?_) | (with_reducible refine AtL.below ?_ (by with_reducible assumption)) | (with_reducible refine AtL.alloc ?_ _) | (with_reducible refine AtL.far ?_ ?_ _ _) | omega | (simp; done) | (simp; omega))
    have rd_a2wS0 : Rd cTerm 3 wS0 (w.heap.size) a2A a2l := by repeat' (first | with_reducible assumption | (with_reducible refine Rd.drew ?_) | (with_reducible refine Rd.carry ?_ (by with_reducible assumption) ?_) | (with_reducible refine Rd.alloc ?_ ?_ _) | (with_reducible refine Rd.setCell ?_ ?_ _) | omega | (simp; done) | (simp; omega))
    have bx_fwS0 : AtL (w.heap.size + 1) [.int .i64 f0, .int .i64 f1] wS0 := by repeat' (first | with_reducible assumption | with_reducible exact AtL.new _ _ _ | ((with_reducible refine AtL.newAt ?_); (first | rfl | (simp; done))) | (with_reducible refine AtL.drew ?_) | (with_reducible refine AtL.below ?_ (by with_reducible assumption)) | (with_reducible refine AtL.alloc ?_ _) | (with_reducible refine AtL.far ?_ ?_ _ _) | omega | (simp; done) | (simp; omega))
    have bp := bW0.out
    have bn : Below w.heap.size w wS0 := by repeat' (first | with_reducible assumption | with_reducible exact Below.refl _ _ | (with_reducible refine Below.setCell ?_ ?_ _) | (with_reducible refine Below.alloc ?_ ?_ _) | (with_reducible refine Below.drew ?_) | (with_reducible refine below_dr ?_ _) | (with_reducible refine Below.trans ?_ (Below.mono (by with_reducible assumption) ?_)) | omega | (simp; done) | (simp; omega))
    have bwS0 := Lib.hid bn
    clear bn
    clear bp bW0
    clear hbwS0
    clear bx_aW0
    clear rd_a2W0
    clear bx_fW0
    have kbx_a0 := bx_awS0.cell 0 rfl
    have kbx_a1 := bx_awS0.cell 1 rfl
    have kbx_a2 := bx_awS0.cell 2 rfl
    have lbx_a := bx_awS0.lt
    have kbx_f0 := bx_fwS0.cell 0 rfl
    have kbx_f1 := bx_fwS0.cell 1 rfl
    have lbx_f := bx_fwS0.lt
    go_wp2_with fail
    clear kbx_a0 kbx_a1 kbx_a2 lbx_a
    clear kbx_f0 kbx_f1 lbx_f
    have lt_a := bx_awS0.lt
    have lt_f := bx_fwS0.lt
    have kbx_a0 := bx_awS0.cell 0 rfl
    have kbx_a1 := bx_awS0.cell 1 rfl
    have kbx_a2 := bx_awS0.cell 2 rfl
    have lbx_a := bx_awS0.lt
    have kbx_f0 := bx_fwS0.cell 0 rfl
    have kbx_f1 := bx_fwS0.cell 1 rfl
    have lbx_f := bx_fwS0.lt
    go_upto_region 5 with fail
    go_cut [6, 7] (fun sA sB wx => Left_Linear cn cd code l wS0.heap.size sA sB wx ∧ Below wS0.heap.size wS0 wx)
    case first =>
      go_region_held3 (fun w' => (∀ b o, b < wS0.heap.size → w'.cell? ⟨b, o, none⟩ = wS0.cell? ⟨b, o, none⟩) ∧ wS0.heap.size ≤ w'.heap.size)
        (first | ((try dsimp only); exact ⟨fun b o h => (by (repeat (first | with_reducible exact rfl | (with_reducible refine (cell_drew_at _ _).trans ?_) | (with_reducible refine (cell_set_at _ _ (by first | omega | (simp; done) | (simp; omega))).trans ?_) | (with_reducible refine (cell_alloc_at _ _ (by first | omega | (simp; done) | (simp; omega))).trans ?_) | (with_reducible refine (hcwA0 b o (by first | omega | (simp; done) | (simp; omega))).trans ?_) | (with_reducible refine (hcwA1 b o (by first | omega | (simp; done) | (simp; omega))).trans ?_) | (with_reducible refine (hcwB b o (by first | omega | (simp; done) | (simp; omega))).trans ?_)))), (by first | omega | (simp; done) | (simp; omega))⟩) | fail)
        (first
          | (go_at_call 29; (with_reducible refine (toLinear_any a0 a1 a2A a2c a2l _ hl_a2 ?_).mono ?_); (focus ((refine Rd.more (B := w.heap.size) ?_ (by first | omega | ((try simp only [World.size_setCell]); (try simp only [World.size_drew]); (try simp only [World.size_alloc]); omega) | (simp; done) | (simp; omega))); (repeat' (first | with_reducible assumption | (with_reducible refine Rd.drew ?_) | (with_reducible refine Rd.carry ?_ (by with_reducible assumption) ?_) | (with_reducible refine Rd.alloc ?_ ?_ _) | (with_reducible refine Rd.setCell ?_ ?_ _) | omega | (simp; done) | (simp; omega))))); intro e wA0 hq; obtain ⟨g_owA0_a2, rfl, owA0_a2, hbwA0⟩ := hq; obtain ⟨hcwA0, hfwA0⟩ := bcell hbwA0; have hzwA0 := hbwA0.size; (try simp only [World.size_drew] at hcwA0 hfwA0 hzwA0); (try simp only [World.size_alloc] at hcwA0 hfwA0 hzwA0); (try have qqwS0wA0 : wS0.heap.size < wA0.heap.size := by omega); (try have qqwA1wA0 : wA1.heap.size < wA0.heap.size := by omega))
          | (go_at_call 30; (with_reducible refine (toFrac_any f0 f1 _).mono ?_); rintro e wA1 ⟨rfl, hbwA1⟩; obtain ⟨hcwA1, hfwA1⟩ := bcell hbwA1; have hzwA1 := hbwA1.size; (try simp only [World.size_drew] at hcwA1 hfwA1 hzwA1); (try simp only [World.size_alloc] at hcwA1 hfwA1 hzwA1); (try have qqwS0wA1 : wS0.heap.size < wA1.heap.size := by omega); (try have qqwA0wA1 : wA0.heap.size < wA1.heap.size := by omega))
          | (go_at_call 28; (with_reducible refine (C1.out (some ⟨g_owA0_a2, 0, none⟩) a2l.length _ hl_a2 ?_).mono ?_); (focus ((refine Rd.more (B := wA0.heap.size) ?_ (by first | exact Nat.le_refl _ | omega | ((try simp only [World.size_drew]); (try simp only [World.size_alloc]); (try simp only [World.size_drew]); omega) | (simp; done) | (simp; omega))); (repeat' (first | with_reducible assumption | exact Rd.of_own (fun a => cTerm_len a) (by omega) owA0_a2 (Nat.le_refl _) | (with_reducible refine Rd.drew ?_) | (with_reducible refine Rd.alloc ?_ ?_ _) | (with_reducible refine Rd.carry ?_ (by with_reducible assumption) ?_) | exact Nat.le_refl _ | omega | (simp; done) | (simp; omega))))); intro e wB hq; obtain ⟨AC, cC, rfl, owC, hbwB⟩ := hq; obtain ⟨hcwB, hfwB⟩ := bcell hbwB; have hzwB := hbwB.size; (try simp only [World.size_drew] at hcwB hfwB hzwB); (try simp only [World.size_alloc] at hcwB hfwB hzwB); have owC0 := owC; replace owC := own_base (base := wS0.heap.size) owC (by first | omega | ((try simp only [World.size_drew]); (try simp only [World.size_alloc]); omega) | (simp; omega)); (try have qqwS0wB : wS0.heap.size < wB.heap.size := by omega); (try have qqwA0wB : wA0.heap.size < wB.heap.size := by omega); (try have qqwA1wB : wA1.heap.size < wB.heap.size := by omega)))
      all_goals
        go_wp2_with fail
        go_meet
      all_goals exact ⟨⟨_, _, _, rfl, rfl, by repeat' (first | (with_reducible apply AtL.store3) | with_reducible assumption | with_reducible exact AtL.new _ _ _ | ((with_reducible refine AtL.newAt ?_); (first | rfl | (simp; done))) | (with_reducible refine AtL.drew ?_) | (with_reducible refine AtL.below ?_ (by with_reducible assumption)) | (with_reducible refine AtL.alloc ?_ _) | (with_reducible refine AtL.far ?_ ?_ _ _) | omega | (simp; done) | (simp; omega)), by first | omega | (simp; done) | (simp; omega), by repeat (first | with_reducible exact owC | (with_reducible refine own_drew ?_) | (with_reducible refine World.ownsRow.alloc ?_ _) | (with_reducible refine own_keep ?_ (fun q hq => by have h := own_block owC0 hq; (try simp only [World.size_drew] at h); (try simp only [World.size_alloc] at h); (try simp only [World.size_drew] at h); simp only; omega) _)), fun r hr => by have h := own_block owC0 hr; (try simp only [World.size_drew] at h); (try simp only [World.size_alloc] at h); (try simp only [World.size_drew] at h); omega⟩, by repeat' (first | with_reducible assumption | with_reducible exact Below.refl _ _ | (with_reducible refine Below.setCell ?_ ?_ _) | (with_reducible refine Below.alloc ?_ ?_ _) | (with_reducible refine Below.drew ?_) | (with_reducible refine below_dr ?_ _) | (with_reducible refine Below.trans ?_ (Below.mono (by with_reducible assumption) ?_)) | omega | (simp; done) | (simp; omega))⟩
    case rest =>
      clear kbx_a0 kbx_a1 kbx_a2 lbx_a
      clear kbx_f0 kbx_f1 lbx_f
      obtain ⟨⟨qw, Aw, cw, rfl, rfl, atw, low, oww, new⟩, hbwC⟩ := hcut
      obtain ⟨wC, rfl⟩ : ∃ W : World, W = wc := ⟨_, rfl⟩
      have NEw := Lib.hid new
      have ltw := atw.lt
      have OBw := Lib.hid (fun r hr => own_block oww (q := r) hr)
      clear new
      have zwC := hbwC.size
      (try simp only [World.size_setCell] at zwC)
      (try simp only [World.size_drew] at zwC)
      (try simp only [World.size_alloc] at zwC)
      have qwC : w.heap.size ≤ wC.heap.size := by omega
      have bx_awC : AtL (w.heap.size) [.int .i64 a0, .int .i64 a1, .slice a2A a2l.length a2c] wC := by repeat' (first | with_reducible assumption | with_reducible exact AtL.new _ _ _ | ((with_reducible refine AtL.newAt ?_); (first | rfl | (simp; done))) | (with_reducible refine AtL.drew ?_) | (with_reducible refine AtL.below ?_ (by with_reducible assumption)) | (with_reducible refine AtL.alloc ?_ _) | (with_reducible refine AtL.far ?_ ?_ _ _) | omega | (simp; done) | (simp; omega))
      have rd_a2wC : Rd cTerm 3 wC (w.heap.size) a2A a2l := by repeat' (first | with_reducible assumption | (with_reducible refine Rd.drew ?_) | (with_reducible refine Rd.carry ?_ (by with_reducible assumption) ?_) | (with_reducible refine Rd.alloc ?_ ?_ _) | (with_reducible refine Rd.setCell ?_ ?_ _) | omega | (simp; done) | (simp; omega))
      have bx_fwC : AtL (w.heap.size + 1) [.int .i64 f0, .int .i64 f1] wC := by repeat' (first | with_reducible assumption | with_reducible exact AtL.new _ _ _ | ((with_reducible refine AtL.newAt ?_); (first | rfl | (simp; done))) | (with_reducible refine AtL.drew ?_) | (with_reducible refine AtL.below ?_ (by with_reducible assumption)) | (with_reducible refine AtL.alloc ?_ _) | (with_reducible refine AtL.far ?_ ?_ _ _) | omega | (simp; done) | (simp; omega))
      have bp := bwS0.out
      have bn : Below w.heap.size w wC := by repeat' (first | with_reducible assumption | with_reducible exact Below.refl _ _ | (with_reducible refine Below.setCell ?_ ?_ _) | (with_reducible refine Below.alloc ?_ ?_ _) | (with_reducible refine Below.drew ?_) | (with_reducible refine below_dr ?_ _) | (with_reducible refine Below.trans ?_ (Below.mono (by with_reducible assumption) ?_)) | omega | (simp; done) | (simp; omega))
      have bwC := Lib.hid bn
      clear bn
      clear bp bwS0
      clear hbwC
      clear bx_awS0
      clear rd_a2wS0
      clear bx_fwS0
      have bx_wwC := atw
      clear atw
      have r1wC : Rd cTerm 3 wC (wC.heap.size) Aw l := Rd.of_own (fun a => cTerm_len a) (by omega) oww (Nat.le_refl _)
      clear oww NEw OBw
      have kbx_a0 := bx_awC.cell 0 rfl
      have kbx_a1 := bx_awC.cell 1 rfl
      have kbx_a2 := bx_awC.cell 2 rfl
      have lbx_a := bx_awC.lt
      go_wp2_with fail
      clear kbx_a0 kbx_a1 kbx_a2 lbx_a
      refine (toLinear_any a0 a1 a2A a2c a2l _ hl_a2 ?_).mono ?_
      · (refine Rd.more (B := w.heap.size) ?_ (by first | omega | ((try simp only [World.size_setCell]); (try simp only [World.size_drew]); (try simp only [World.size_alloc]); omega) | (simp; done) | (simp; omega))); (repeat' (first | with_reducible assumption | (with_reducible refine Rd.drew ?_) | (with_reducible refine Rd.carry ?_ (by with_reducible assumption) ?_) | (with_reducible refine Rd.alloc ?_ ?_ _) | (with_reducible refine Rd.setCell ?_ ?_ _) | omega | (simp; done) | (simp; omega)))
      intro e wX hq
      obtain ⟨gX_a2, rfl, owX, hbwX⟩ := hq
      have zwX := hbwX.size
      (try simp only [World.size_setCell] at zwX)
      (try simp only [World.size_drew] at zwX)
      (try simp only [World.size_alloc] at zwX)
      have qwX : w.heap.size ≤ wX.heap.size := by omega
      have bx_awX : AtL (w.heap.size) [.int .i64 a0, .int .i64 a1, .slice a2A a2l.length a2c] wX := by repeat' (first | with_reducible assumption | with_reducible exact AtL.new _ _ _ | ((with_reducible refine AtL.newAt ?_); (first | rfl | (simp; done))) | (with_reducible refine AtL.drew ?_) | (with_reducible refine AtL.below ?_ (by with_reducible assumption)) | (with_reducible refine AtL.alloc ?_ _) | (with_reducible refine AtL.far ?_ ?_ _ _) | omega | (simp; done) | (simp; omega))
      have rd_a2wX : Rd cTerm 3 wX (w.heap.size) a2A a2l := by repeat' (first | with_reducible assumption | (with_reducible refine Rd.drew ?_) | (with_reducible refine Rd.carry ?_ (by with_reducible assumption) ?_) | (with_reducible refine Rd.alloc ?_ ?_ _) | (with_reducible refine Rd.setCell ?_ ?_ _) | omega | (simp; done) | (simp; omega))
      have bx_fwX : AtL (w.heap.size + 1) [.int .i64 f0, .int .i64 f1] wX := by repeat' (first | with_reducible assumption | with_reducible exact AtL.new _ _ _ | ((with_reducible refine AtL.newAt ?_); (first | rfl | (simp; done))) | (with_reducible refine AtL.drew ?_) | (with_reducible refine AtL.below ?_ (by with_reducible assumption)) | (with_reducible refine AtL.alloc ?_ _) | (with_reducible refine AtL.far ?_ ?_ _ _) | omega | (simp; done) | (simp; omega))
      have bx_wwX : AtL (qw) [.int .i64 cn, .int .i64 cd, .slice Aw l.length cw] wX := by repeat' (first | with_reducible assumption | with_reducible exact AtL.new _ _ _ | ((with_reducible refine AtL.newAt ?_); (first | rfl | (simp; done))) | (with_reducible refine AtL.drew ?_) | (with_reducible refine AtL.below ?_ (by with_reducible assumption)) | (with_reducible refine AtL.alloc ?_ _) | (with_reducible refine AtL.far ?_ ?_ _ _) | omega | (simp; done) | (simp; omega))
      have r1wX : Rd cTerm 3 wX (wC.heap.size) Aw l := by repeat' (first | with_reducible assumption | (with_reducible refine Rd.drew ?_) | (with_reducible refine Rd.carry ?_ (by with_reducible assumption) ?_) | (with_reducible refine Rd.alloc ?_ ?_ _) | (with_reducible refine Rd.setCell ?_ ?_ _) | omega | (simp; done) | (simp; omega))
      have bp := bwC.out
      have bn : Below w.heap.size w wX := by repeat' (first | with_reducible assumption | with_reducible exact Below.refl _ _ | (with_reducible refine Below.setCell ?_ ?_ _) | (with_reducible refine Below.alloc ?_ ?_ _) | (with_reducible refine Below.drew ?_) | (with_reducible refine below_dr ?_ _) | (with_reducible refine Below.trans ?_ (Below.mono (by with_reducible assumption) ?_)) | omega | (simp; done) | (simp; omega))
      have bwX := Lib.hid bn
      clear bn
      clear bp bwC
      clear hbwX
      clear bx_awC
      clear rd_a2wC
      clear bx_fwC
      clear bx_wwC
      clear r1wC
      have rxwX : Rd cTerm 3 wX (wX.heap.size) (some ⟨gX_a2, 0, none⟩) a2l := Rd.of_own (fun a => cTerm_len a) (by omega) owX (Nat.le_refl _)
      have ROWX := Lib.hid (fun q (hq : (Value.slice (some ⟨gX_a2, 0, none⟩) a2l.length a2l.length).ownBlock = some q) => own_block owX hq)
      have oxwX := owX
      clear owX
      go_wp2_with fail
      generalize hW : wX.alloc (.cells #[.int .i64 a0, .int .i64 a1, .slice (some ⟨gX_a2, 0, none⟩) a2l.length a2l.length] 52) = wY
      have bx_awY : AtL (w.heap.size) [.int .i64 a0, .int .i64 a1, .slice a2A a2l.length a2c] wY := by rw [← hW]; repeat' (first | with_reducible assumption | with_reducible exact AtL.new _ _ _ | ((with_reducible refine AtL.newAt ?_); (first | rfl | (simp; done))) | (with_reducible refine AtL.drew ?_) | (with_reducible refine AtL.below ?_ (by with_reducible assumption)) | (with_reducible refine AtL.alloc ?_ _) | (with_reducible refine AtL.far ?_ ?_ _ _) | omega | (simp; done) | (simp; omega))
      have rd_a2wY : Rd cTerm 3 wY (w.heap.size) a2A a2l := by rw [← hW]; repeat' (first | with_reducible assumption | (with_reducible refine Rd.drew ?_) | (with_reducible refine Rd.carry ?_ (by with_reducible assumption) ?_) | (with_reducible refine Rd.alloc ?_ ?_ _) | (with_reducible refine Rd.setCell ?_ ?_ _) | omega | (simp; done) | (simp; omega))
      have bx_fwY : AtL (w.heap.size + 1) [.int .i64 f0, .int .i64 f1] wY := by rw [← hW]; repeat' (first | with_reducible assumption | with_reducible exact AtL.new _ _ _ | ((with_reducible refine AtL.newAt ?_); (first | rfl | (simp; done))) | (with_reducible refine AtL.drew ?_) | (with_reducible refine AtL.below ?_ (by with_reducible assumption)) | (with_reducible refine AtL.alloc ?_ _) | (with_reducible refine AtL.far ?_ ?_ _ _) | omega | (simp; done) | (simp; omega))
      have bx_wwY : AtL (qw) [.int .i64 cn, .int .i64 cd, .slice Aw l.length cw] wY := by rw [← hW]; repeat' (first | with_reducible assumption | with_reducible exact AtL.new _ _ _ | ((with_reducible refine AtL.newAt ?_); (first | rfl | (simp; done))) | (with_reducible refine AtL.drew ?_) | (with_reducible refine AtL.below ?_ (by with_reducible assumption)) | (with_reducible refine AtL.alloc ?_ _) | (with_reducible refine AtL.far ?_ ?_ _ _) | omega | (simp; done) | (simp; omega))
      have r1wY : Rd cTerm 3 wY (wC.heap.size) Aw l := by rw [← hW]; repeat' (first | with_reducible assumption | (with_reducible refine Rd.drew ?_) | (with_reducible refine Rd.carry ?_ (by with_reducible assumption) ?_) | (with_reducible refine Rd.alloc ?_ ?_ _) | (with_reducible refine Rd.setCell ?_ ?_ _) | omega | (simp; done) | (simp; omega))
      have rxwY : Rd cTerm 3 wY (wX.heap.size) (some ⟨gX_a2, 0, none⟩) a2l := by rw [← hW]; repeat' (first | with_reducible assumption | (with_reducible refine Rd.drew ?_) | (with_reducible refine Rd.carry ?_ (by with_reducible assumption) ?_) | (with_reducible refine Rd.alloc ?_ ?_ _) | (with_reducible refine Rd.setCell ?_ ?_ _) | omega | (simp; done) | (simp; omega))
      have oxwY : wY.ownsRow (wC.heap.size) 109 3 (.slice (some ⟨gX_a2, 0, none⟩) a2l.length a2l.length) a2l.length (cellsF cTerm a2l) := by rw [← hW]; repeat' (first | with_reducible assumption | (with_reducible refine own_drew ?_) | (with_reducible refine own_stays ?_ (by with_reducible assumption)) | (with_reducible refine World.ownsRow.alloc ?_ _))
      have at_xwY : AtL (wX.heap.size) [.int .i64 a0, .int .i64 a1, .slice (some ⟨gX_a2, 0, none⟩) a2l.length a2l.length] wY := by rw [← hW]; repeat' (first | with_reducible assumption | with_reducible exact AtL.new _ _ _ | ((with_reducible refine AtL.newAt ?_); (first | rfl | (simp; done))) | (with_reducible refine AtL.drew ?_) | (with_reducible refine AtL.below ?_ (by with_reducible assumption)) | (with_reducible refine AtL.alloc ?_ _) | (with_reducible refine AtL.far ?_ ?_ _ _) | omega | (simp; done) | (simp; omega))
      have bp := bwX.out
      have bn : Below w.heap.size w wY := by rw [← hW]; repeat' (first | with_reducible assumption | with_reducible exact Below.refl _ _ | (with_reducible refine Below.setCell ?_ ?_ _) | (with_reducible refine Below.alloc ?_ ?_ _) | (with_reducible refine Below.drew ?_) | (with_reducible refine below_dr ?_ _) | (with_reducible refine Below.trans ?_ (Below.mono (by with_reducible assumption) ?_)) | omega | (simp; done) | (simp; omega))
      have bwY := Lib.hid bn
      have qwY : w.heap.size ≤ wY.heap.size := bn.size
      have zwY : wX.heap.size ≤ wY.heap.size := by rw [← hW]; simp
      clear hW bn bp bwX
      clear bx_awX
      clear rd_a2wX
      clear bx_fwX
      clear bx_wwX
      clear r1wX
      clear rxwX
      clear oxwX
      have zxy : wX.heap.size < wY.heap.size := at_xwY.lt
      have kbx_f0 := bx_fwY.cell 0 rfl
      have kbx_f1 := bx_fwY.cell 1 rfl
      have lbx_f := bx_fwY.lt
      have kat_x0 := at_xwY.cell 0 rfl
      have kat_x1 := at_xwY.cell 1 rfl
      have kat_x2 := at_xwY.cell 2 rfl
      have lat_x := at_xwY.lt
      go_upto_region 7 with fail
      go_cut [9, 10] (fun sA sB wx => Left_Linear cn cd code l wY.heap.size sA sB wx ∧ Below wY.heap.size wY wx)
      case first =>
        go_region_held3 (fun w' => (∀ b o, b < wY.heap.size → w'.cell? ⟨b, o, none⟩ = wY.cell? ⟨b, o, none⟩) ∧ wY.heap.size ≤ w'.heap.size)
          (first | ((try dsimp only); exact ⟨fun b o h => (by (repeat (first | with_reducible exact rfl | (with_reducible refine (cell_drew_at _ _).trans ?_) | (with_reducible refine (cell_set_at _ _ (by first | omega | (simp; done) | (simp; omega))).trans ?_) | (with_reducible refine (cell_alloc_at _ _ (by first | omega | (simp; done) | (simp; omega))).trans ?_) | (with_reducible refine (hcwF0 b o (by first | omega | (simp; done) | (simp; omega))).trans ?_) | (with_reducible refine (hcwB b o (by first | omega | (simp; done) | (simp; omega))).trans ?_)))), (by first | omega | (simp; done) | (simp; omega))⟩) | fail)
          (first
            | (go_at_call 30; (with_reducible refine (toFrac_any f0 f1 _).mono ?_); rintro e wF0 ⟨rfl, hbwF0⟩; obtain ⟨hcwF0, hfwF0⟩ := bcell hbwF0; have hzwF0 := hbwF0.size; (try simp only [World.size_drew] at hcwF0 hfwF0 hzwF0); (try simp only [World.size_alloc] at hcwF0 hfwF0 hzwF0); (try have qqwYwF0 : wY.heap.size < wF0.heap.size := by omega))
            | (go_at_call 31; (with_reducible refine (C2.out (some ⟨gX_a2, 0, none⟩) a2l.length _ hl_a2 ?_).mono ?_); (focus ((refine Rd.more (B := wX.heap.size) ?_ (by first | omega | ((try simp only [World.size_drew]); (try simp only [World.size_alloc]); (try simp only [World.size_drew]); omega) | (simp; omega))); (repeat' (first | with_reducible assumption | (with_reducible refine Rd.drew ?_) | (with_reducible refine Rd.carry ?_ (by with_reducible assumption) ?_) | (with_reducible refine Rd.alloc ?_ ?_ _) | (with_reducible refine Rd.setCell ?_ ?_ _) | omega | (simp; done) | (simp; omega))))); intro e wB hq; obtain ⟨AC, cC, rfl, owC, hbwB⟩ := hq; obtain ⟨hcwB, hfwB⟩ := bcell hbwB; have hzwB := hbwB.size; (try simp only [World.size_drew] at hcwB hfwB hzwB); (try simp only [World.size_alloc] at hcwB hfwB hzwB); have owC0 := owC; replace owC := own_base (base := wY.heap.size) owC (by first | omega | ((try simp only [World.size_drew]); (try simp only [World.size_alloc]); omega) | (simp; omega)); (try have qqwYwB : wY.heap.size < wB.heap.size := by omega); (try have qqwF0wB : wF0.heap.size < wB.heap.size := by omega)))
        all_goals
          go_wp2_with fail
          go_meet
        all_goals exact ⟨⟨_, _, _, rfl, rfl, by repeat' (first | (with_reducible apply AtL.store3) | with_reducible assumption | with_reducible exact AtL.new _ _ _ | ((with_reducible refine AtL.newAt ?_); (first | rfl | (simp; done))) | (with_reducible refine AtL.drew ?_) | (with_reducible refine AtL.below ?_ (by with_reducible assumption)) | (with_reducible refine AtL.alloc ?_ _) | (with_reducible refine AtL.far ?_ ?_ _ _) | omega | (simp; done) | (simp; omega)), by first | omega | (simp; done) | (simp; omega), by repeat (first | with_reducible exact owC | (with_reducible refine own_drew ?_) | (with_reducible refine World.ownsRow.alloc ?_ _) | (with_reducible refine own_keep ?_ (fun q hq => by have h := own_block owC0 hq; (try simp only [World.size_drew] at h); (try simp only [World.size_alloc] at h); (try simp only [World.size_drew] at h); simp only; omega) _)), fun r hr => by have h := own_block owC0 hr; (try simp only [World.size_drew] at h); (try simp only [World.size_alloc] at h); (try simp only [World.size_drew] at h); omega⟩, by repeat' (first | with_reducible assumption | with_reducible exact Below.refl _ _ | (with_reducible refine Below.setCell ?_ ?_ _) | (with_reducible refine Below.alloc ?_ ?_ _) | (with_reducible refine Below.drew ?_) | (with_reducible refine below_dr ?_ _) | (with_reducible refine Below.trans ?_ (Below.mono (by with_reducible assumption) ?_)) | omega | (simp; done) | (simp; omega))⟩
      case rest =>
        clear kbx_f0 kbx_f1 lbx_f
        clear kat_x0 kat_x1 kat_x2 lat_x
        obtain ⟨⟨qg, Ag, cg, rfl, rfl, atg, log, owg, neg⟩, hbwD⟩ := hcut
        obtain ⟨wD, rfl⟩ : ∃ W : World, W = wc := ⟨_, rfl⟩
        have NEg := Lib.hid neg
        have ltg := atg.lt
        have OBg := Lib.hid (fun r hr => own_block owg (q := r) hr)
        clear neg
        have zwD := hbwD.size
        (try simp only [World.size_setCell] at zwD)
        (try simp only [World.size_drew] at zwD)
        (try simp only [World.size_alloc] at zwD)
        have qwD : w.heap.size ≤ wD.heap.size := by omega
        have bx_awD : AtL (w.heap.size) [.int .i64 a0, .int .i64 a1, .slice a2A a2l.length a2c] wD := by repeat' (first | with_reducible assumption | with_reducible exact AtL.new _ _ _ | ((with_reducible refine AtL.newAt ?_); (first | rfl | (simp; done))) | (with_reducible refine AtL.drew ?_) | (with_reducible refine AtL.below ?_ (by with_reducible assumption)) | (with_reducible refine AtL.alloc ?_ _) | (with_reducible refine AtL.far ?_ ?_ _ _) | omega | (simp; done) | (simp; omega))
        have rd_a2wD : Rd cTerm 3 wD (w.heap.size) a2A a2l := by repeat' (first | with_reducible assumption | (with_reducible refine Rd.drew ?_) | (with_reducible refine Rd.carry ?_ (by with_reducible assumption) ?_) | (with_reducible refine Rd.alloc ?_ ?_ _) | (with_reducible refine Rd.setCell ?_ ?_ _) | omega | (simp; done) | (simp; omega))
        have bx_fwD : AtL (w.heap.size + 1) [.int .i64 f0, .int .i64 f1] wD := by repeat' (first | with_reducible assumption | with_reducible exact AtL.new _ _ _ | ((with_reducible refine AtL.newAt ?_); (first | rfl | (simp; done))) | (with_reducible refine AtL.drew ?_) | (with_reducible refine AtL.below ?_ (by with_reducible assumption)) | (with_reducible refine AtL.alloc ?_ _) | (with_reducible refine AtL.far ?_ ?_ _ _) | omega | (simp; done) | (simp; omega))
        have bx_wwD : AtL (qw) [.int .i64 cn, .int .i64 cd, .slice Aw l.length cw] wD := by repeat' (first | with_reducible assumption | with_reducible exact AtL.new _ _ _ | ((with_reducible refine AtL.newAt ?_); (first | rfl | (simp; done))) | (with_reducible refine AtL.drew ?_) | (with_reducible refine AtL.below ?_ (by with_reducible assumption)) | (with_reducible refine AtL.alloc ?_ _) | (with_reducible refine AtL.far ?_ ?_ _ _) | omega | (simp; done) | (simp; omega))
        have r1wD : Rd cTerm 3 wD (wC.heap.size) Aw l := by repeat' (first | with_reducible assumption | (with_reducible refine Rd.drew ?_) | (with_reducible refine Rd.carry ?_ (by with_reducible assumption) ?_) | (with_reducible refine Rd.alloc ?_ ?_ _) | (with_reducible refine Rd.setCell ?_ ?_ _) | omega | (simp; done) | (simp; omega))
        have rxwD : Rd cTerm 3 wD (wX.heap.size) (some ⟨gX_a2, 0, none⟩) a2l := by repeat' (first | with_reducible assumption | (with_reducible refine Rd.drew ?_) | (with_reducible refine Rd.carry ?_ (by with_reducible assumption) ?_) | (with_reducible refine Rd.alloc ?_ ?_ _) | (with_reducible refine Rd.setCell ?_ ?_ _) | omega | (simp; done) | (simp; omega))
        have oxwD : wD.ownsRow (wC.heap.size) 109 3 (.slice (some ⟨gX_a2, 0, none⟩) a2l.length a2l.length) a2l.length (cellsF cTerm a2l) := by repeat' (first | with_reducible assumption | (with_reducible refine own_drew ?_) | (with_reducible refine own_stays ?_ (by with_reducible assumption)) | (with_reducible refine World.ownsRow.alloc ?_ _))
        have at_xwD : AtL (wX.heap.size) [.int .i64 a0, .int .i64 a1, .slice (some ⟨gX_a2, 0, none⟩) a2l.length a2l.length] wD := by repeat' (first | with_reducible assumption | with_reducible exact AtL.new _ _ _ | ((with_reducible refine AtL.newAt ?_); (first | rfl | (simp; done))) | (with_reducible refine AtL.drew ?_) | (with_reducible refine AtL.below ?_ (by with_reducible assumption)) | (with_reducible refine AtL.alloc ?_ _) | (with_reducible refine AtL.far ?_ ?_ _ _) | omega | (simp; done) | (simp; omega))
        have bp := bwY.out
        have bn : Below w.heap.size w wD := by repeat' (first | with_reducible assumption | with_reducible exact Below.refl _ _ | (with_reducible refine Below.setCell ?_ ?_ _) | (with_reducible refine Below.alloc ?_ ?_ _) | (with_reducible refine Below.drew ?_) | (with_reducible refine below_dr ?_ _) | (with_reducible refine Below.trans ?_ (Below.mono (by with_reducible assumption) ?_)) | omega | (simp; done) | (simp; omega))
        have bwD := Lib.hid bn
        clear bn
        clear bp bwY
        clear hbwD
        clear bx_awY
        clear rd_a2wY
        clear bx_fwY
        clear bx_wwY
        clear r1wY
        clear rxwY
        clear oxwY
        clear at_xwY
        have bx_gwD := atg
        clear atg
        have ogwD := owg
        clear owg
        have kbx_g0 := bx_gwD.cell 0 rfl
        have kbx_g1 := bx_gwD.cell 1 rfl
        have kbx_g2 := bx_gwD.cell 2 rfl
        have lbx_g := bx_gwD.lt
        have kbx_w0 := bx_wwD.cell 0 rfl
        have kbx_w1 := bx_wwD.cell 1 rfl
        have kbx_w2 := bx_wwD.cell 2 rfl
        have lbx_w := bx_wwD.lt
        go_wp2_with fail
        clear kbx_g0 kbx_g1 kbx_g2 lbx_g
        clear kbx_w0 kbx_w1 kbx_w2 lbx_w
        refine (eqLinear_same cn cd Ag cg l Aw cw _ (by omega) ?_ ?_).mono ?_
        · refine Rd.of_own (fun a => cTerm_len a) (by omega) (base := wY.heap.size) (e := 109) (n := l.length) (c := cg) ?_ (Nat.le_refl _); (repeat' (first | with_reducible assumption | (with_reducible refine own_drew ?_) | (with_reducible refine own_stays ?_ (by with_reducible assumption)) | (with_reducible refine World.ownsRow.alloc ?_ _)))
        · refine Rd.more (B := wC.heap.size) ?_ (by (try simp only [World.size_drew]); (try simp only [World.size_alloc]); omega)
          repeat' (first | with_reducible assumption | (with_reducible refine Rd.drew ?_) | (with_reducible refine Rd.carry ?_ (by with_reducible assumption) ?_) | (with_reducible refine Rd.alloc ?_ ?_ _) | (with_reducible refine Rd.setCell ?_ ?_ _) | omega | (simp; done) | (simp; omega))
        rintro e wE ⟨rfl, hbwE⟩
        have zwE := hbwE.size
        (try simp only [World.size_setCell] at zwE)
        (try simp only [World.size_drew] at zwE)
        (try simp only [World.size_alloc] at zwE)
        have qwE : w.heap.size ≤ wE.heap.size := by omega
        have bx_awE : AtL (w.heap.size) [.int .i64 a0, .int .i64 a1, .slice a2A a2l.length a2c] wE := by repeat' (first | with_reducible assumption | with_reducible exact AtL.new _ _ _ | ((with_reducible refine AtL.newAt ?_); (first | rfl | (simp; done))) | (with_reducible refine AtL.drew ?_) | (with_reducible refine AtL.below ?_ (by with_reducible assumption)) | (with_reducible refine AtL.alloc ?_ _) | (with_reducible refine AtL.far ?_ ?_ _ _) | omega | (simp; done) | (simp; omega))
        have rd_a2wE : Rd cTerm 3 wE (w.heap.size) a2A a2l := by repeat' (first | with_reducible assumption | (with_reducible refine Rd.drew ?_) | (with_reducible refine Rd.carry ?_ (by with_reducible assumption) ?_) | (with_reducible refine Rd.alloc ?_ ?_ _) | (with_reducible refine Rd.setCell ?_ ?_ _) | omega | (simp; done) | (simp; omega))
        have bx_fwE : AtL (w.heap.size + 1) [.int .i64 f0, .int .i64 f1] wE := by repeat' (first | with_reducible assumption | with_reducible exact AtL.new _ _ _ | ((with_reducible refine AtL.newAt ?_); (first | rfl | (simp; done))) | (with_reducible refine AtL.drew ?_) | (with_reducible refine AtL.below ?_ (by with_reducible assumption)) | (with_reducible refine AtL.alloc ?_ _) | (with_reducible refine AtL.far ?_ ?_ _ _) | omega | (simp; done) | (simp; omega))
        have bx_wwE : AtL (qw) [.int .i64 cn, .int .i64 cd, .slice Aw l.length cw] wE := by repeat' (first | with_reducible assumption | with_reducible exact AtL.new _ _ _ | ((with_reducible refine AtL.newAt ?_); (first | rfl | (simp; done))) | (with_reducible refine AtL.drew ?_) | (with_reducible refine AtL.below ?_ (by with_reducible assumption)) | (with_reducible refine AtL.alloc ?_ _) | (with_reducible refine AtL.far ?_ ?_ _ _) | omega | (simp; done) | (simp; omega))
        have r1wE : Rd cTerm 3 wE (wC.heap.size) Aw l := by repeat' (first | with_reducible assumption | (with_reducible refine Rd.drew ?_) | (with_reducible refine Rd.carry ?_ (by with_reducible assumption) ?_) | (with_reducible refine Rd.alloc ?_ ?_ _) | (with_reducible refine Rd.setCell ?_ ?_ _) | omega | (simp; done) | (simp; omega))
        have rxwE : Rd cTerm 3 wE (wX.heap.size) (some ⟨gX_a2, 0, none⟩) a2l := by repeat' (first | with_reducible assumption | (with_reducible refine Rd.drew ?_) | (with_reducible refine Rd.carry ?_ (by with_reducible assumption) ?_) | (with_reducible refine Rd.alloc ?_ ?_ _) | (with_reducible refine Rd.setCell ?_ ?_ _) | omega | (simp; done) | (simp; omega))
        have oxwE : wE.ownsRow (wC.heap.size) 109 3 (.slice (some ⟨gX_a2, 0, none⟩) a2l.length a2l.length) a2l.length (cellsF cTerm a2l) := by repeat' (first | with_reducible assumption | (with_reducible refine own_drew ?_) | (with_reducible refine own_stays ?_ (by with_reducible assumption)) | (with_reducible refine World.ownsRow.alloc ?_ _))
        have at_xwE : AtL (wX.heap.size) [.int .i64 a0, .int .i64 a1, .slice (some ⟨gX_a2, 0, none⟩) a2l.length a2l.length] wE := by repeat' (first | with_reducible assumption | with_reducible exact AtL.new _ _ _ | ((with_reducible refine AtL.newAt ?_); (first | rfl | (simp; done))) | (with_reducible refine AtL.drew ?_) | (with_reducible refine AtL.below ?_ (by with_reducible assumption)) | (with_reducible refine AtL.alloc ?_ _) | (with_reducible refine AtL.far ?_ ?_ _ _) | omega | (simp; done) | (simp; omega))
        have bx_gwE : AtL (qg) [.int .i64 cn, .int .i64 cd, .slice Ag l.length cg] wE := by repeat' (first | with_reducible assumption | with_reducible exact AtL.new _ _ _ | ((with_reducible refine AtL.newAt ?_); (first | rfl | (simp; done))) | (with_reducible refine AtL.drew ?_) | (with_reducible refine AtL.below ?_ (by with_reducible assumption)) | (with_reducible refine AtL.alloc ?_ _) | (with_reducible refine AtL.far ?_ ?_ _ _) | omega | (simp; done) | (simp; omega))
        have ogwE : wE.ownsRow (wY.heap.size) 109 3 (.slice Ag l.length cg) l.length (cellsF cTerm l) := by repeat' (first | with_reducible assumption | (with_reducible refine own_drew ?_) | (with_reducible refine own_stays ?_ (by with_reducible assumption)) | (with_reducible refine World.ownsRow.alloc ?_ _))
        have bp := bwD.out
        have bn : Below w.heap.size w wE := by repeat' (first | with_reducible assumption | with_reducible exact Below.refl _ _ | (with_reducible refine Below.setCell ?_ ?_ _) | (with_reducible refine Below.alloc ?_ ?_ _) | (with_reducible refine Below.drew ?_) | (with_reducible refine below_dr ?_ _) | (with_reducible refine Below.trans ?_ (Below.mono (by with_reducible assumption) ?_)) | omega | (simp; done) | (simp; omega))
        have bwE := Lib.hid bn
        clear bn
        clear bp bwD
        clear hbwE
        clear bx_awD
        clear rd_a2wD
        clear bx_fwD
        clear bx_wwD
        clear r1wD
        clear rxwD
        clear oxwD
        clear at_xwD
        clear bx_gwD
        clear ogwD
        have kat_x0 := at_xwE.cell 0 rfl
        have kat_x1 := at_xwE.cell 1 rfl
        have kat_x2 := at_xwE.cell 2 rfl
        have lat_x := at_xwE.lt
        have kbx_a0 := bx_awE.cell 0 rfl
        have kbx_a1 := bx_awE.cell 1 rfl
        have kbx_a2 := bx_awE.cell 2 rfl
        have lbx_a := bx_awE.lt
        go_wp2_with fail
        go_region_held3 (fun w' => (∀ b o, b < wE.heap.size → w'.cell? ⟨b, o, none⟩ = wE.cell? ⟨b, o, none⟩) ∧ wE.heap.size ≤ w'.heap.size)
          (first | ((try dsimp only); exact ⟨fun b o h => (by (repeat (first | with_reducible exact rfl | (with_reducible refine (cell_drew_at _ _).trans ?_) | (with_reducible refine (cell_set_at _ _ (by first | omega | (simp; done) | (simp; omega))).trans ?_) | (with_reducible refine (cell_alloc_at _ _ (by first | omega | (simp; done) | (simp; omega))).trans ?_) | (with_reducible refine (hcwT b o (by first | omega | (simp; done) | (simp; omega))).trans ?_) | (with_reducible refine (hcwG b o (by first | omega | (simp; done) | (simp; omega))).trans ?_)))), (by first | omega | (simp; done) | (simp; omega))⟩) | fail)
          (first
            | (go_at_call 29; (with_reducible refine (toLinear_any a0 a1 a2A a2c a2l _ hl_a2 ?_).mono ?_); (focus ((refine Rd.more (B := w.heap.size) ?_ (by first | omega | ((try simp only [World.size_setCell]); (try simp only [World.size_drew]); (try simp only [World.size_alloc]); omega) | (simp; done) | (simp; omega))); (repeat' (first | with_reducible assumption | (with_reducible refine Rd.drew ?_) | (with_reducible refine Rd.carry ?_ (by with_reducible assumption) ?_) | (with_reducible refine Rd.alloc ?_ ?_ _) | (with_reducible refine Rd.setCell ?_ ?_ _) | omega | (simp; done) | (simp; omega))))); intro e wT hq; obtain ⟨g_owE_a2, rfl, owE_a2, hbwT⟩ := hq; obtain ⟨hcwT, hfwT⟩ := bcell hbwT; have hzwT := hbwT.size; (try simp only [World.size_drew] at hcwT hfwT hzwT); (try simp only [World.size_alloc] at hcwT hfwT hzwT))
            | (go_at_call 32; (with_reducible refine (eqLinear_same a0 a1 (some ⟨gX_a2, 0, none⟩) a2l.length a2l (some ⟨g_owE_a2, 0, none⟩) a2l.length _ (by omega) ?_ ?_).mono ?_); (focus ((refine Rd.more (B := wX.heap.size) ?_ (by first | omega | ((try simp only [World.size_setCell]); (try simp only [World.size_drew]); (try simp only [World.size_alloc]); omega) | (simp; done) | (simp; omega))); (repeat' (first | with_reducible assumption | (with_reducible refine Rd.drew ?_) | (with_reducible refine Rd.carry ?_ (by with_reducible assumption) ?_) | (with_reducible refine Rd.alloc ?_ ?_ _) | (with_reducible refine Rd.setCell ?_ ?_ _) | omega | (simp; done) | (simp; omega))))); (focus ((first | exact Rd.of_own (fun a => cTerm_len a) (by omega) owE_a2 (by first | exact Nat.le_refl _ | (simp; done)) | exact Rd.drew (Rd.of_own (fun a => cTerm_len a) (by omega) owE_a2 (by first | exact Nat.le_refl _ | (simp; done)))))); rintro e wG ⟨rfl, hbwG⟩; obtain ⟨hcwG, hfwG⟩ := bcell hbwG; have hzwG := hbwG.size; (try simp only [World.size_drew] at hcwG hfwG hzwG); (try simp only [World.size_alloc] at hcwG hfwG hzwG)))
        clear kat_x0 kat_x1 kat_x2 lat_x
        clear kbx_a0 kbx_a1 kbx_a2 lbx_a
        all_goals
          have zwG := hbwG.size
          (try simp only [World.size_setCell] at zwG)
          (try simp only [World.size_drew] at zwG)
          (try simp only [World.size_alloc] at zwG)
          have qwG : w.heap.size ≤ wG.heap.size := by omega
          have bx_awG : AtL (w.heap.size) [.int .i64 a0, .int .i64 a1, .slice a2A a2l.length a2c] wG := by repeat' (first | with_reducible assumption | with_reducible exact AtL.new _ _ _ | ((with_reducible refine AtL.newAt ?_); (first | rfl | (simp; done))) | (with_reducible refine AtL.drew ?_) | (with_reducible refine AtL.below ?_ (by with_reducible assumption)) | (with_reducible refine AtL.alloc ?_ _) | (with_reducible refine AtL.far ?_ ?_ _ _) | omega | (simp; done) | (simp; omega))
          have rd_a2wG : Rd cTerm 3 wG (w.heap.size) a2A a2l := by repeat' (first | with_reducible assumption | (with_reducible refine Rd.drew ?_) | (with_reducible refine Rd.carry ?_ (by with_reducible assumption) ?_) | (with_reducible refine Rd.alloc ?_ ?_ _) | (with_reducible refine Rd.setCell ?_ ?_ _) | omega | (simp; done) | (simp; omega))
          have bx_fwG : AtL (w.heap.size + 1) [.int .i64 f0, .int .i64 f1] wG := by repeat' (first | with_reducible assumption | with_reducible exact AtL.new _ _ _ | ((with_reducible refine AtL.newAt ?_); (first | rfl | (simp; done))) | (with_reducible refine AtL.drew ?_) | (with_reducible refine AtL.below ?_ (by with_reducible assumption)) | (with_reducible refine AtL.alloc ?_ _) | (with_reducible refine AtL.far ?_ ?_ _ _) | omega | (simp; done) | (simp; omega))
          have bx_wwG : AtL (qw) [.int .i64 cn, .int .i64 cd, .slice Aw l.length cw] wG := by repeat' (first | with_reducible assumption | with_reducible exact AtL.new _ _ _ | ((with_reducible refine AtL.newAt ?_); (first | rfl | (simp; done))) | (with_reducible refine AtL.drew ?_) | (with_reducible refine AtL.below ?_ (by with_reducible assumption)) | (with_reducible refine AtL.alloc ?_ _) | (with_reducible refine AtL.far ?_ ?_ _ _) | omega | (simp; done) | (simp; omega))
          have r1wG : Rd cTerm 3 wG (wC.heap.size) Aw l := by repeat' (first | with_reducible assumption | (with_reducible refine Rd.drew ?_) | (with_reducible refine Rd.carry ?_ (by with_reducible assumption) ?_) | (with_reducible refine Rd.alloc ?_ ?_ _) | (with_reducible refine Rd.setCell ?_ ?_ _) | omega | (simp; done) | (simp; omega))
          have rxwG : Rd cTerm 3 wG (wX.heap.size) (some ⟨gX_a2, 0, none⟩) a2l := by repeat' (first | with_reducible assumption | (with_reducible refine Rd.drew ?_) | (with_reducible refine Rd.carry ?_ (by with_reducible assumption) ?_) | (with_reducible refine Rd.alloc ?_ ?_ _) | (with_reducible refine Rd.setCell ?_ ?_ _) | omega | (simp; done) | (simp; omega))
          have oxwG : wG.ownsRow (wC.heap.size) 109 3 (.slice (some ⟨gX_a2, 0, none⟩) a2l.length a2l.length) a2l.length (cellsF cTerm a2l) := by repeat' (first | with_reducible assumption | (with_reducible refine own_drew ?_) | (with_reducible refine own_stays ?_ (by with_reducible assumption)) | (with_reducible refine World.ownsRow.alloc ?_ _))
          have at_xwG : AtL (wX.heap.size) [.int .i64 a0, .int .i64 a1, .slice (some ⟨gX_a2, 0, none⟩) a2l.length a2l.length] wG := by repeat' (first | with_reducible assumption | with_reducible exact AtL.new _ _ _ | ((with_reducible refine AtL.newAt ?_); (first | rfl | (simp; done))) | (with_reducible refine AtL.drew ?_) | (with_reducible refine AtL.below ?_ (by with_reducible assumption)) | (with_reducible refine AtL.alloc ?_ _) | (with_reducible refine AtL.far ?_ ?_ _ _) | omega | (simp; done) | (simp; omega))
          have bx_gwG : AtL (qg) [.int .i64 cn, .int .i64 cd, .slice Ag l.length cg] wG := by repeat' (first | with_reducible assumption | with_reducible exact AtL.new _ _ _ | ((with_reducible refine AtL.newAt ?_); (first | rfl | (simp; done))) | (with_reducible refine AtL.drew ?_) | (with_reducible refine AtL.below ?_ (by with_reducible assumption)) | (with_reducible refine AtL.alloc ?_ _) | (with_reducible refine AtL.far ?_ ?_ _ _) | omega | (simp; done) | (simp; omega))
          have ogwG : wG.ownsRow (wY.heap.size) 109 3 (.slice Ag l.length cg) l.length (cellsF cTerm l) := by repeat' (first | with_reducible assumption | (with_reducible refine own_drew ?_) | (with_reducible refine own_stays ?_ (by with_reducible assumption)) | (with_reducible refine World.ownsRow.alloc ?_ _))
          have bp := bwE.out
          have bn : Below w.heap.size w wG := by repeat' (first | with_reducible assumption | with_reducible exact Below.refl _ _ | (with_reducible refine Below.setCell ?_ ?_ _) | (with_reducible refine Below.alloc ?_ ?_ _) | (with_reducible refine Below.drew ?_) | (with_reducible refine below_dr ?_ _) | (with_reducible refine Below.trans ?_ (Below.mono (by with_reducible assumption) ?_)) | omega | (simp; done) | (simp; omega))
          have bwG := Lib.hid bn
          clear bn
          clear bp bwE
          clear hbwG
          clear bx_awE
          clear rd_a2wE
          clear bx_fwE
          clear bx_wwE
          clear r1wE
          clear rxwE
          clear oxwE
          clear at_xwE
          clear bx_gwE
          clear ogwE
          clear hbwT hcwT hfwT hcwG hfwG
          have kat_x0 := at_xwG.cell 0 rfl
          have kat_x1 := at_xwG.cell 1 rfl
          have kat_x2 := at_xwG.cell 2 rfl
          have lat_x := at_xwG.lt
          go_wp2_with fail
          clear kat_x0 kat_x1 kat_x2 lat_x
          refine (markLinear_any a0 a1 (some ⟨gX_a2, 0, none⟩) a2l.length 1 a2l.length (wC.heap.size) (cellsF cTerm a2l) _ (by omega) (by omega) (by repeat' (first | with_reducible assumption | (with_reducible refine own_drew ?_) | (with_reducible refine own_stays ?_ (by with_reducible assumption)) | (with_reducible refine World.ownsRow.alloc ?_ _)))).mono ?_
          rw [← HM1.out]
          rintro e wH ⟨rfl, omwH, hg⟩
          have zwH := hg.size
          have qwH : w.heap.size ≤ wH.heap.size := by omega
          have bp := bwG.out
          have bn : Below w.heap.size w wH := by exact below_of_grown (by repeat' (first | with_reducible assumption | with_reducible exact Below.refl _ _ | (with_reducible refine Below.setCell ?_ ?_ _) | (with_reducible refine Below.alloc ?_ ?_ _) | (with_reducible refine Below.drew ?_) | (with_reducible refine below_dr ?_ _) | (with_reducible refine Below.trans ?_ (Below.mono (by with_reducible assumption) ?_)) | omega | (simp; done) | (simp; omega))) hg (by omega) (fun q hq => by have := ROWX.out q hq; omega)
          have bwH := Lib.hid bn
          clear bn
          clear bp bwG
          have bx_awH : AtL (w.heap.size) [.int .i64 a0, .int .i64 a1, .slice a2A a2l.length a2c] wH := AtL.grown (bx_awG) hg (fun q hq => by have := ROWX.out q hq; omega)
          have rd_a2wH : Rd cTerm 3 wH (w.heap.size) a2A a2l := Rd.grown2 rd_a2wG hg (by omega) (fun q hq => by have := ROWX.out q hq; omega)
          have bx_fwH : AtL (w.heap.size + 1) [.int .i64 f0, .int .i64 f1] wH := AtL.grown (bx_fwG) hg (fun q hq => by have := ROWX.out q hq; omega)
          have bx_wwH : AtL (qw) [.int .i64 cn, .int .i64 cd, .slice Aw l.length cw] wH := AtL.grown (bx_wwG) hg (fun q hq => by have := ROWX.out q hq; omega)
          have r1wH : Rd cTerm 3 wH (wC.heap.size) Aw l := Rd.grown2 r1wG hg (by omega) (fun q hq => by have := ROWX.out q hq; omega)
          have at_xwH : AtL (wX.heap.size) [.int .i64 a0, .int .i64 a1, .slice (some ⟨gX_a2, 0, none⟩) a2l.length a2l.length] wH := AtL.grown (at_xwG) hg (fun q hq => by have := ROWX.out q hq; omega)
          have bx_gwH : AtL (qg) [.int .i64 cn, .int .i64 cd, .slice Ag l.length cg] wH := AtL.grown (bx_gwG) hg (fun q hq => by have := ROWX.out q hq; omega)
          have ogwH : wH.ownsRow (wY.heap.size) 109 3 (.slice Ag l.length cg) l.length (cellsF cTerm l) := own_grown ogwG hg (fun q h1 h2 => by have h3 := ROWX.out q h2; have h4 := own_block ogwG h1; omega)
          clear hg bx_awG rd_a2wG bx_fwG bx_wwG r1wG rxwG oxwG at_xwG bx_gwG ogwG
          clear omwH
          clear at_xwH
          have ROWG := Lib.hid (fun q (hq : (Value.slice Ag l.length cg).ownBlock = some q) => (⟨(own_block ogwH hq).1, (OBg.out q hq).2, NEg.out q hq⟩ : wY.heap.size ≤ q ∧ q < wD.heap.size ∧ ¬ q = qg))
          have kbx_g0 := bx_gwH.cell 0 rfl
          have kbx_g1 := bx_gwH.cell 1 rfl
          have kbx_g2 := bx_gwH.cell 2 rfl
          have lbx_g := bx_gwH.lt
          have kbx_w0 := bx_wwH.cell 0 rfl
          have kbx_w1 := bx_wwH.cell 1 rfl
          have kbx_w2 := bx_wwH.cell 2 rfl
          have lbx_w := bx_wwH.lt
          go_wp2_with fail
          clear kbx_g0 kbx_g1 kbx_g2 lbx_g
          clear kbx_w0 kbx_w1 kbx_w2 lbx_w
          refine (eqLinear_same cn cd Ag cg l Aw cw _ (by omega) ?_ ?_).mono ?_
          · refine Rd.of_own (fun a => cTerm_len a) (by omega) (base := wY.heap.size) (e := 109) (n := l.length) (c := cg) ?_ (Nat.le_refl _); (repeat' (first | with_reducible assumption | (with_reducible refine own_drew ?_) | (with_reducible refine own_stays ?_ (by with_reducible assumption)) | (with_reducible refine World.ownsRow.alloc ?_ _)))
          · refine Rd.more (B := wC.heap.size) ?_ (by (try simp only [World.size_drew]); (try simp only [World.size_alloc]); omega)
            repeat' (first | with_reducible assumption | (with_reducible refine Rd.drew ?_) | (with_reducible refine Rd.carry ?_ (by with_reducible assumption) ?_) | (with_reducible refine Rd.alloc ?_ ?_ _) | (with_reducible refine Rd.setCell ?_ ?_ _) | omega | (simp; done) | (simp; omega))
          rintro e wJ ⟨rfl, hbwJ⟩
          have zwJ := hbwJ.size
          (try simp only [World.size_setCell] at zwJ)
          (try simp only [World.size_drew] at zwJ)
          (try simp only [World.size_alloc] at zwJ)
          have qwJ : w.heap.size ≤ wJ.heap.size := by omega
          have bx_awJ : AtL (w.heap.size) [.int .i64 a0, .int .i64 a1, .slice a2A a2l.length a2c] wJ := by repeat' (first | with_reducible assumption | with_reducible exact AtL.new _ _ _ | ((with_reducible refine AtL.newAt ?_); (first | rfl | (simp; done))) | (with_reducible refine AtL.drew ?_) | (with_reducible refine AtL.below ?_ (by with_reducible assumption)) | (with_reducible refine AtL.alloc ?_ _) | (with_reducible refine AtL.far ?_ ?_ _ _) | omega | (simp; done) | (simp; omega))
          have rd_a2wJ : Rd cTerm 3 wJ (w.heap.size) a2A a2l := by repeat' (first | with_reducible assumption | (with_reducible refine Rd.drew ?_) | (with_reducible refine Rd.carry ?_ (by with_reducible assumption) ?_) | (with_reducible refine Rd.alloc ?_ ?_ _) | (with_reducible refine Rd.setCell ?_ ?_ _) | omega | (simp; done) | (simp; omega))
          have bx_fwJ : AtL (w.heap.size + 1) [.int .i64 f0, .int .i64 f1] wJ := by repeat' (first | with_reducible assumption | with_reducible exact AtL.new _ _ _ | ((with_reducible refine AtL.newAt ?_); (first | rfl | (simp; done))) | (with_reducible refine AtL.drew ?_) | (with_reducible refine AtL.below ?_ (by with_reducible assumption)) | (with_reducible refine AtL.alloc ?_ _) | (with_reducible refine AtL.far ?_ ?_ _ _) | omega | (simp; done) | (simp; omega))
          have bx_wwJ : AtL (qw) [.int .i64 cn, .int .i64 cd, .slice Aw l.length cw] wJ := by repeat' (first | with_reducible assumption | with_reducible exact AtL.new _ _ _ | ((with_reducible refine AtL.newAt ?_); (first | rfl | (simp; done))) | (with_reducible refine AtL.drew ?_) | (with_reducible refine AtL.below ?_ (by with_reducible assumption)) | (with_reducible refine AtL.alloc ?_ _) | (with_reducible refine AtL.far ?_ ?_ _ _) | omega | (simp; done) | (simp; omega))
          have r1wJ : Rd cTerm 3 wJ (wC.heap.size) Aw l := by repeat' (first | with_reducible assumption | (with_reducible refine Rd.drew ?_) | (with_reducible refine Rd.carry ?_ (by with_reducible assumption) ?_) | (with_reducible refine Rd.alloc ?_ ?_ _) | (with_reducible refine Rd.setCell ?_ ?_ _) | omega | (simp; done) | (simp; omega))
          have bx_gwJ : AtL (qg) [.int .i64 cn, .int .i64 cd, .slice Ag l.length cg] wJ := by repeat' (first | with_reducible assumption | with_reducible exact AtL.new _ _ _ | ((with_reducible refine AtL.newAt ?_); (first | rfl | (simp; done))) | (with_reducible refine AtL.drew ?_) | (with_reducible refine AtL.below ?_ (by with_reducible assumption)) | (with_reducible refine AtL.alloc ?_ _) | (with_reducible refine AtL.far ?_ ?_ _ _) | omega | (simp; done) | (simp; omega))
          have ogwJ : wJ.ownsRow (wY.heap.size) 109 3 (.slice Ag l.length cg) l.length (cellsF cTerm l) := by repeat' (first | with_reducible assumption | (with_reducible refine own_drew ?_) | (with_reducible refine own_stays ?_ (by with_reducible assumption)) | (with_reducible refine World.ownsRow.alloc ?_ _))
          have bp := bwH.out
          have bn : Below w.heap.size w wJ := by repeat' (first | with_reducible assumption | with_reducible exact Below.refl _ _ | (with_reducible refine Below.setCell ?_ ?_ _) | (with_reducible refine Below.alloc ?_ ?_ _) | (with_reducible refine Below.drew ?_) | (with_reducible refine below_dr ?_ _) | (with_reducible refine Below.trans ?_ (Below.mono (by with_reducible assumption) ?_)) | omega | (simp; done) | (simp; omega))
          have bwJ := Lib.hid bn
          clear bn
          clear bp bwH
          clear hbwJ
          clear bx_awH
          clear rd_a2wH
          clear bx_fwH
          clear bx_wwH
          clear r1wH
          clear bx_gwH
          clear ogwH
          have kbx_g0 := bx_gwJ.cell 0 rfl
          have kbx_g1 := bx_gwJ.cell 1 rfl
          have kbx_g2 := bx_gwJ.cell 2 rfl
          have lbx_g := bx_gwJ.lt
          go_wp2_with fail
          clear kbx_g0 kbx_g1 kbx_g2 lbx_g
          refine (markLinear_any cn cd Ag cg 1 l.length (wY.heap.size) (cellsF cTerm l) _ (by omega) (by omega) (by repeat' (first | with_reducible assumption | (with_reducible refine own_drew ?_) | (with_reducible refine own_stays ?_ (by with_reducible assumption)) | (with_reducible refine World.ownsRow.alloc ?_ _)))).mono ?_
          rw [← HM.out]
          rintro e wK ⟨rfl, omwK, hg⟩
          have zwK := hg.size
          have qwK : w.heap.size ≤ wK.heap.size := by omega
          have bp := bwJ.out
          have bn : Below w.heap.size w wK := by exact below_of_grown (by repeat' (first | with_reducible assumption | with_reducible exact Below.refl _ _ | (with_reducible refine Below.setCell ?_ ?_ _) | (with_reducible refine Below.alloc ?_ ?_ _) | (with_reducible refine Below.drew ?_) | (with_reducible refine below_dr ?_ _) | (with_reducible refine Below.trans ?_ (Below.mono (by with_reducible assumption) ?_)) | omega | (simp; done) | (simp; omega))) hg (by omega) (fun q hq => by have := ROWG.out q hq; omega)
          have bwK := Lib.hid bn
          clear bn
          clear bp bwJ
          have bx_awK : AtL (w.heap.size) [.int .i64 a0, .int .i64 a1, .slice a2A a2l.length a2c] wK := AtL.grown (bx_awJ) hg (fun q hq => by have := ROWG.out q hq; omega)
          have rd_a2wK : Rd cTerm 3 wK (w.heap.size) a2A a2l := Rd.grown2 rd_a2wJ hg (by omega) (fun q hq => by have := ROWG.out q hq; omega)
          have bx_fwK : AtL (w.heap.size + 1) [.int .i64 f0, .int .i64 f1] wK := AtL.grown (bx_fwJ) hg (fun q hq => by have := ROWG.out q hq; omega)
          have bx_wwK : AtL (qw) [.int .i64 cn, .int .i64 cd, .slice Aw l.length cw] wK := AtL.grown (bx_wwJ) hg (fun q hq => by have := ROWG.out q hq; omega)
          have r1wK : Rd cTerm 3 wK (wC.heap.size) Aw l := Rd.grown2 r1wJ hg (by omega) (fun q hq => by have := ROWG.out q hq; omega)
          have bx_gwK : AtL (qg) [.int .i64 cn, .int .i64 cd, .slice Ag l.length cg] wK := AtL.grown (bx_gwJ) hg (fun q hq => by have := ROWG.out q hq; omega)
          clear hg bx_awJ rd_a2wJ bx_fwJ bx_wwJ r1wJ bx_gwJ ogwJ
          have kbx_g0 := bx_gwK.cell 0 rfl
          have kbx_g1 := bx_gwK.cell 1 rfl
          have kbx_g2 := bx_gwK.cell 2 rfl
          have lbx_g := bx_gwK.lt
          go_wp2_with fail
          clear kbx_g0 kbx_g1 kbx_g2 lbx_g
          refine (heldLinear_any cn cd Ag cg 1 l.length _ (by omega) (by omega) ?_).mono ?_
          · refine Rd.of_own (fun a => cTerm_len a) (by omega) (base := wY.heap.size) (e := 109) (n := l.length) (c := cg) ?_ (Nat.le_refl _); (repeat' (first | with_reducible assumption | (with_reducible refine own_drew ?_) | (with_reducible refine own_stays ?_ (by with_reducible assumption)) | (with_reducible refine World.ownsRow.alloc ?_ _)))
          rw [← HM.out]
          rintro e wL ⟨rfl, hbwL⟩
          have zwL := hbwL.size
          (try simp only [World.size_setCell] at zwL)
          (try simp only [World.size_drew] at zwL)
          (try simp only [World.size_alloc] at zwL)
          have qwL : w.heap.size ≤ wL.heap.size := by omega
          have bx_awL : AtL (w.heap.size) [.int .i64 a0, .int .i64 a1, .slice a2A a2l.length a2c] wL := by repeat' (first | with_reducible assumption | with_reducible exact AtL.new _ _ _ | ((with_reducible refine AtL.newAt ?_); (first | rfl | (simp; done))) | (with_reducible refine AtL.drew ?_) | (with_reducible refine AtL.below ?_ (by with_reducible assumption)) | (with_reducible refine AtL.alloc ?_ _) | (with_reducible refine AtL.far ?_ ?_ _ _) | omega | (simp; done) | (simp; omega))
          have rd_a2wL : Rd cTerm 3 wL (w.heap.size) a2A a2l := by repeat' (first | with_reducible assumption | (with_reducible refine Rd.drew ?_) | (with_reducible refine Rd.carry ?_ (by with_reducible assumption) ?_) | (with_reducible refine Rd.alloc ?_ ?_ _) | (with_reducible refine Rd.setCell ?_ ?_ _) | omega | (simp; done) | (simp; omega))
          have bx_fwL : AtL (w.heap.size + 1) [.int .i64 f0, .int .i64 f1] wL := by repeat' (first | with_reducible assumption | with_reducible exact AtL.new _ _ _ | ((with_reducible refine AtL.newAt ?_); (first | rfl | (simp; done))) | (with_reducible refine AtL.drew ?_) | (with_reducible refine AtL.below ?_ (by with_reducible assumption)) | (with_reducible refine AtL.alloc ?_ _) | (with_reducible refine AtL.far ?_ ?_ _ _) | omega | (simp; done) | (simp; omega))
          have bx_wwL : AtL (qw) [.int .i64 cn, .int .i64 cd, .slice Aw l.length cw] wL := by repeat' (first | with_reducible assumption | with_reducible exact AtL.new _ _ _ | ((with_reducible refine AtL.newAt ?_); (first | rfl | (simp; done))) | (with_reducible refine AtL.drew ?_) | (with_reducible refine AtL.below ?_ (by with_reducible assumption)) | (with_reducible refine AtL.alloc ?_ _) | (with_reducible refine AtL.far ?_ ?_ _ _) | omega | (simp; done) | (simp; omega))
          have r1wL : Rd cTerm 3 wL (wC.heap.size) Aw l := by repeat' (first | with_reducible assumption | (with_reducible refine Rd.drew ?_) | (with_reducible refine Rd.carry ?_ (by with_reducible assumption) ?_) | (with_reducible refine Rd.alloc ?_ ?_ _) | (with_reducible refine Rd.setCell ?_ ?_ _) | omega | (simp; done) | (simp; omega))
          have bx_gwL : AtL (qg) [.int .i64 cn, .int .i64 cd, .slice Ag l.length cg] wL := by repeat' (first | with_reducible assumption | with_reducible exact AtL.new _ _ _ | ((with_reducible refine AtL.newAt ?_); (first | rfl | (simp; done))) | (with_reducible refine AtL.drew ?_) | (with_reducible refine AtL.below ?_ (by with_reducible assumption)) | (with_reducible refine AtL.alloc ?_ _) | (with_reducible refine AtL.far ?_ ?_ _ _) | omega | (simp; done) | (simp; omega))
          have omwL : wL.ownsRow (wY.heap.size) 109 3 (.slice Ag l.length cg) l.length (cellsF cTerm (marksTerm 1 l.length)) := by repeat' (first | with_reducible assumption | (with_reducible refine own_drew ?_) | (with_reducible refine own_stays ?_ (by with_reducible assumption)) | (with_reducible refine World.ownsRow.alloc ?_ _))
          have bp := bwK.out
          have bn : Below w.heap.size w wL := by repeat' (first | with_reducible assumption | with_reducible exact Below.refl _ _ | (with_reducible refine Below.setCell ?_ ?_ _) | (with_reducible refine Below.alloc ?_ ?_ _) | (with_reducible refine Below.drew ?_) | (with_reducible refine below_dr ?_ _) | (with_reducible refine Below.trans ?_ (Below.mono (by with_reducible assumption) ?_)) | omega | (simp; done) | (simp; omega))
          have bwL := Lib.hid bn
          clear bn
          clear bp bwK
          clear hbwL
          clear bx_awK
          clear rd_a2wK
          clear bx_fwK
          clear bx_wwK
          clear r1wK
          clear bx_gwK
          clear omwK
          go_wp2_with fail
          have kbx_a0 := bx_awL.cell 0 rfl
          have kbx_a1 := bx_awL.cell 1 rfl
          have kbx_a2 := bx_awL.cell 2 rfl
          have lbx_a := bx_awL.lt
          have kbx_f0 := bx_fwL.cell 0 rfl
          have kbx_f1 := bx_fwL.cell 1 rfl
          have lbx_f := bx_fwL.lt
          go_upto_region 24 with fail
          go_cut [14, 15] (fun sA sB wx => Left_Linear cn cd code l wL.heap.size sA sB wx ∧ Below wL.heap.size wL wx)
          case first =>
            go_region_held3 (fun w' => (∀ b o, b < wL.heap.size → w'.cell? ⟨b, o, none⟩ = wL.cell? ⟨b, o, none⟩) ∧ wL.heap.size ≤ w'.heap.size)
              (first | ((try dsimp only); exact ⟨fun b o h => (by (repeat (first | with_reducible exact rfl | (with_reducible refine (cell_drew_at _ _).trans ?_) | (with_reducible refine (cell_set_at _ _ (by first | omega | (simp; done) | (simp; omega))).trans ?_) | (with_reducible refine (cell_alloc_at _ _ (by first | omega | (simp; done) | (simp; omega))).trans ?_) | (with_reducible refine (hcwP0 b o (by first | omega | (simp; done) | (simp; omega))).trans ?_) | (with_reducible refine (hcwP1 b o (by first | omega | (simp; done) | (simp; omega))).trans ?_) | (with_reducible refine (hcwB b o (by first | omega | (simp; done) | (simp; omega))).trans ?_)))), (by first | omega | (simp; done) | (simp; omega))⟩) | fail)
              (first
                | (go_at_call 29; (with_reducible refine (toLinear_any a0 a1 a2A a2c a2l _ hl_a2 ?_).mono ?_); (focus ((refine Rd.more (B := w.heap.size) ?_ (by first | omega | ((try simp only [World.size_setCell]); (try simp only [World.size_drew]); (try simp only [World.size_alloc]); omega) | (simp; done) | (simp; omega))); (repeat' (first | with_reducible assumption | (with_reducible refine Rd.drew ?_) | (with_reducible refine Rd.carry ?_ (by with_reducible assumption) ?_) | (with_reducible refine Rd.alloc ?_ ?_ _) | (with_reducible refine Rd.setCell ?_ ?_ _) | omega | (simp; done) | (simp; omega))))); intro e wP0 hq; obtain ⟨g_owP0_a2, rfl, owP0_a2, hbwP0⟩ := hq; obtain ⟨hcwP0, hfwP0⟩ := bcell hbwP0; have hzwP0 := hbwP0.size; (try simp only [World.size_drew] at hcwP0 hfwP0 hzwP0); (try simp only [World.size_alloc] at hcwP0 hfwP0 hzwP0); (try have qqwLwP0 : wL.heap.size < wP0.heap.size := by omega); (try have qqwP1wP0 : wP1.heap.size < wP0.heap.size := by omega))
                | (go_at_call 30; (with_reducible refine (toFrac_any f0 f1 _).mono ?_); rintro e wP1 ⟨rfl, hbwP1⟩; obtain ⟨hcwP1, hfwP1⟩ := bcell hbwP1; have hzwP1 := hbwP1.size; (try simp only [World.size_drew] at hcwP1 hfwP1 hzwP1); (try simp only [World.size_alloc] at hcwP1 hfwP1 hzwP1); (try have qqwLwP1 : wL.heap.size < wP1.heap.size := by omega); (try have qqwP0wP1 : wP0.heap.size < wP1.heap.size := by omega))
                | (go_at_call 31; (with_reducible refine (C2.out (some ⟨g_owP0_a2, 0, none⟩) a2l.length _ hl_a2 ?_).mono ?_); (focus ((refine Rd.more (B := wP0.heap.size) ?_ (by first | exact Nat.le_refl _ | omega | ((try simp only [World.size_drew]); (try simp only [World.size_alloc]); (try simp only [World.size_drew]); omega) | (simp; done) | (simp; omega))); (repeat' (first | with_reducible assumption | exact Rd.of_own (fun a => cTerm_len a) (by omega) owP0_a2 (Nat.le_refl _) | (with_reducible refine Rd.drew ?_) | (with_reducible refine Rd.alloc ?_ ?_ _) | (with_reducible refine Rd.carry ?_ (by with_reducible assumption) ?_) | exact Nat.le_refl _ | omega | (simp; done) | (simp; omega))))); intro e wB hq; obtain ⟨AC, cC, rfl, owC, hbwB⟩ := hq; obtain ⟨hcwB, hfwB⟩ := bcell hbwB; have hzwB := hbwB.size; (try simp only [World.size_drew] at hcwB hfwB hzwB); (try simp only [World.size_alloc] at hcwB hfwB hzwB); have owC0 := owC; replace owC := own_base (base := wL.heap.size) owC (by first | omega | ((try simp only [World.size_drew]); (try simp only [World.size_alloc]); omega) | (simp; omega)); (try have qqwLwB : wL.heap.size < wB.heap.size := by omega); (try have qqwP0wB : wP0.heap.size < wB.heap.size := by omega); (try have qqwP1wB : wP1.heap.size < wB.heap.size := by omega)))
            all_goals
              go_wp2_with fail
              go_meet
            all_goals exact ⟨⟨_, _, _, rfl, rfl, by repeat' (first | (with_reducible apply AtL.store3) | with_reducible assumption | with_reducible exact AtL.new _ _ _ | ((with_reducible refine AtL.newAt ?_); (first | rfl | (simp; done))) | (with_reducible refine AtL.drew ?_) | (with_reducible refine AtL.below ?_ (by with_reducible assumption)) | (with_reducible refine AtL.alloc ?_ _) | (with_reducible refine AtL.far ?_ ?_ _ _) | omega | (simp; done) | (simp; omega)), by first | omega | (simp; done) | (simp; omega), by repeat (first | with_reducible exact owC | (with_reducible refine own_drew ?_) | (with_reducible refine World.ownsRow.alloc ?_ _) | (with_reducible refine own_keep ?_ (fun q hq => by have h := own_block owC0 hq; (try simp only [World.size_drew] at h); (try simp only [World.size_alloc] at h); (try simp only [World.size_drew] at h); simp only; omega) _)), fun r hr => by have h := own_block owC0 hr; (try simp only [World.size_drew] at h); (try simp only [World.size_alloc] at h); (try simp only [World.size_drew] at h); omega⟩, by repeat' (first | with_reducible assumption | with_reducible exact Below.refl _ _ | (with_reducible refine Below.setCell ?_ ?_ _) | (with_reducible refine Below.alloc ?_ ?_ _) | (with_reducible refine Below.drew ?_) | (with_reducible refine below_dr ?_ _) | (with_reducible refine Below.trans ?_ (Below.mono (by with_reducible assumption) ?_)) | omega | (simp; done) | (simp; omega))⟩
          case rest =>
            clear kbx_a0 kbx_a1 kbx_a2 lbx_a
            clear kbx_f0 kbx_f1 lbx_f
            obtain ⟨⟨qh, Ah, ch, rfl, rfl, ath, loh, owh, neh⟩, hbwQ⟩ := hcut
            obtain ⟨wQ, rfl⟩ : ∃ W : World, W = wc := ⟨_, rfl⟩
            have NEh := Lib.hid neh
            have lth := ath.lt
            have OBh := Lib.hid (fun r hr => own_block owh (q := r) hr)
            clear neh
            have zwQ := hbwQ.size
            (try simp only [World.size_setCell] at zwQ)
            (try simp only [World.size_drew] at zwQ)
            (try simp only [World.size_alloc] at zwQ)
            have qwQ : w.heap.size ≤ wQ.heap.size := by omega
            have bx_awQ : AtL (w.heap.size) [.int .i64 a0, .int .i64 a1, .slice a2A a2l.length a2c] wQ := by repeat' (first | with_reducible assumption | with_reducible exact AtL.new _ _ _ | ((with_reducible refine AtL.newAt ?_); (first | rfl | (simp; done))) | (with_reducible refine AtL.drew ?_) | (with_reducible refine AtL.below ?_ (by with_reducible assumption)) | (with_reducible refine AtL.alloc ?_ _) | (with_reducible refine AtL.far ?_ ?_ _ _) | omega | (simp; done) | (simp; omega))
            have rd_a2wQ : Rd cTerm 3 wQ (w.heap.size) a2A a2l := by repeat' (first | with_reducible assumption | (with_reducible refine Rd.drew ?_) | (with_reducible refine Rd.carry ?_ (by with_reducible assumption) ?_) | (with_reducible refine Rd.alloc ?_ ?_ _) | (with_reducible refine Rd.setCell ?_ ?_ _) | omega | (simp; done) | (simp; omega))
            have bx_fwQ : AtL (w.heap.size + 1) [.int .i64 f0, .int .i64 f1] wQ := by repeat' (first | with_reducible assumption | with_reducible exact AtL.new _ _ _ | ((with_reducible refine AtL.newAt ?_); (first | rfl | (simp; done))) | (with_reducible refine AtL.drew ?_) | (with_reducible refine AtL.below ?_ (by with_reducible assumption)) | (with_reducible refine AtL.alloc ?_ _) | (with_reducible refine AtL.far ?_ ?_ _ _) | omega | (simp; done) | (simp; omega))
            have bx_wwQ : AtL (qw) [.int .i64 cn, .int .i64 cd, .slice Aw l.length cw] wQ := by repeat' (first | with_reducible assumption | with_reducible exact AtL.new _ _ _ | ((with_reducible refine AtL.newAt ?_); (first | rfl | (simp; done))) | (with_reducible refine AtL.drew ?_) | (with_reducible refine AtL.below ?_ (by with_reducible assumption)) | (with_reducible refine AtL.alloc ?_ _) | (with_reducible refine AtL.far ?_ ?_ _ _) | omega | (simp; done) | (simp; omega))
            have r1wQ : Rd cTerm 3 wQ (wC.heap.size) Aw l := by repeat' (first | with_reducible assumption | (with_reducible refine Rd.drew ?_) | (with_reducible refine Rd.carry ?_ (by with_reducible assumption) ?_) | (with_reducible refine Rd.alloc ?_ ?_ _) | (with_reducible refine Rd.setCell ?_ ?_ _) | omega | (simp; done) | (simp; omega))
            have bx_gwQ : AtL (qg) [.int .i64 cn, .int .i64 cd, .slice Ag l.length cg] wQ := by repeat' (first | with_reducible assumption | with_reducible exact AtL.new _ _ _ | ((with_reducible refine AtL.newAt ?_); (first | rfl | (simp; done))) | (with_reducible refine AtL.drew ?_) | (with_reducible refine AtL.below ?_ (by with_reducible assumption)) | (with_reducible refine AtL.alloc ?_ _) | (with_reducible refine AtL.far ?_ ?_ _ _) | omega | (simp; done) | (simp; omega))
            have omwQ : wQ.ownsRow (wY.heap.size) 109 3 (.slice Ag l.length cg) l.length (cellsF cTerm (marksTerm 1 l.length)) := by repeat' (first | with_reducible assumption | (with_reducible refine own_drew ?_) | (with_reducible refine own_stays ?_ (by with_reducible assumption)) | (with_reducible refine World.ownsRow.alloc ?_ _))
            have bp := bwL.out
            have bn : Below w.heap.size w wQ := by repeat' (first | with_reducible assumption | with_reducible exact Below.refl _ _ | (with_reducible refine Below.setCell ?_ ?_ _) | (with_reducible refine Below.alloc ?_ ?_ _) | (with_reducible refine Below.drew ?_) | (with_reducible refine below_dr ?_ _) | (with_reducible refine Below.trans ?_ (Below.mono (by with_reducible assumption) ?_)) | omega | (simp; done) | (simp; omega))
            have bwQ := Lib.hid bn
            clear bn
            clear bp bwL
            clear hbwQ
            clear bx_awL
            clear rd_a2wL
            clear bx_fwL
            clear bx_wwL
            clear r1wL
            clear bx_gwL
            clear omwL
            have bx_hwQ := ath
            clear ath
            have ohwQ := owh
            clear owh NEh OBh
            have kbx_h0 := bx_hwQ.cell 0 rfl
            have kbx_h1 := bx_hwQ.cell 1 rfl
            have kbx_h2 := bx_hwQ.cell 2 rfl
            have lbx_h := bx_hwQ.lt
            have kbx_w0 := bx_wwQ.cell 0 rfl
            have kbx_w1 := bx_wwQ.cell 1 rfl
            have kbx_w2 := bx_wwQ.cell 2 rfl
            have lbx_w := bx_wwQ.lt
            go_wp2_with fail
            clear kbx_h0 kbx_h1 kbx_h2 lbx_h
            clear kbx_w0 kbx_w1 kbx_w2 lbx_w
            refine (eqLinear_same cn cd Ah ch l Aw cw _ (by omega) ?_ ?_).mono ?_
            · refine Rd.of_own (fun a => cTerm_len a) (by omega) (base := wL.heap.size) (e := 109) (n := l.length) (c := ch) ?_ (Nat.le_refl _); (repeat' (first | with_reducible assumption | (with_reducible refine own_drew ?_) | (with_reducible refine own_stays ?_ (by with_reducible assumption)) | (with_reducible refine World.ownsRow.alloc ?_ _)))
            · refine Rd.more (B := wC.heap.size) ?_ (by (try simp only [World.size_drew]); (try simp only [World.size_alloc]); omega)
              repeat' (first | with_reducible assumption | (with_reducible refine Rd.drew ?_) | (with_reducible refine Rd.carry ?_ (by with_reducible assumption) ?_) | (with_reducible refine Rd.alloc ?_ ?_ _) | (with_reducible refine Rd.setCell ?_ ?_ _) | omega | (simp; done) | (simp; omega))
            rintro e wR ⟨rfl, hbwR⟩
            have zwR := hbwR.size
            (try simp only [World.size_setCell] at zwR)
            (try simp only [World.size_drew] at zwR)
            (try simp only [World.size_alloc] at zwR)
            have qwR : w.heap.size ≤ wR.heap.size := by omega
            have bx_awR : AtL (w.heap.size) [.int .i64 a0, .int .i64 a1, .slice a2A a2l.length a2c] wR := by repeat' (first | with_reducible assumption | with_reducible exact AtL.new _ _ _ | ((with_reducible refine AtL.newAt ?_); (first | rfl | (simp; done))) | (with_reducible refine AtL.drew ?_) | (with_reducible refine AtL.below ?_ (by with_reducible assumption)) | (with_reducible refine AtL.alloc ?_ _) | (with_reducible refine AtL.far ?_ ?_ _ _) | omega | (simp; done) | (simp; omega))
            have rd_a2wR : Rd cTerm 3 wR (w.heap.size) a2A a2l := by repeat' (first | with_reducible assumption | (with_reducible refine Rd.drew ?_) | (with_reducible refine Rd.carry ?_ (by with_reducible assumption) ?_) | (with_reducible refine Rd.alloc ?_ ?_ _) | (with_reducible refine Rd.setCell ?_ ?_ _) | omega | (simp; done) | (simp; omega))
            have bx_fwR : AtL (w.heap.size + 1) [.int .i64 f0, .int .i64 f1] wR := by repeat' (first | with_reducible assumption | with_reducible exact AtL.new _ _ _ | ((with_reducible refine AtL.newAt ?_); (first | rfl | (simp; done))) | (with_reducible refine AtL.drew ?_) | (with_reducible refine AtL.below ?_ (by with_reducible assumption)) | (with_reducible refine AtL.alloc ?_ _) | (with_reducible refine AtL.far ?_ ?_ _ _) | omega | (simp; done) | (simp; omega))
            have bx_wwR : AtL (qw) [.int .i64 cn, .int .i64 cd, .slice Aw l.length cw] wR := by repeat' (first | with_reducible assumption | with_reducible exact AtL.new _ _ _ | ((with_reducible refine AtL.newAt ?_); (first | rfl | (simp; done))) | (with_reducible refine AtL.drew ?_) | (with_reducible refine AtL.below ?_ (by with_reducible assumption)) | (with_reducible refine AtL.alloc ?_ _) | (with_reducible refine AtL.far ?_ ?_ _ _) | omega | (simp; done) | (simp; omega))
            have r1wR : Rd cTerm 3 wR (wC.heap.size) Aw l := by repeat' (first | with_reducible assumption | (with_reducible refine Rd.drew ?_) | (with_reducible refine Rd.carry ?_ (by with_reducible assumption) ?_) | (with_reducible refine Rd.alloc ?_ ?_ _) | (with_reducible refine Rd.setCell ?_ ?_ _) | omega | (simp; done) | (simp; omega))
            have bx_gwR : AtL (qg) [.int .i64 cn, .int .i64 cd, .slice Ag l.length cg] wR := by repeat' (first | with_reducible assumption | with_reducible exact AtL.new _ _ _ | ((with_reducible refine AtL.newAt ?_); (first | rfl | (simp; done))) | (with_reducible refine AtL.drew ?_) | (with_reducible refine AtL.below ?_ (by with_reducible assumption)) | (with_reducible refine AtL.alloc ?_ _) | (with_reducible refine AtL.far ?_ ?_ _ _) | omega | (simp; done) | (simp; omega))
            have omwR : wR.ownsRow (wY.heap.size) 109 3 (.slice Ag l.length cg) l.length (cellsF cTerm (marksTerm 1 l.length)) := by repeat' (first | with_reducible assumption | (with_reducible refine own_drew ?_) | (with_reducible refine own_stays ?_ (by with_reducible assumption)) | (with_reducible refine World.ownsRow.alloc ?_ _))
            have bx_hwR : AtL (qh) [.int .i64 cn, .int .i64 cd, .slice Ah l.length ch] wR := by repeat' (first | with_reducible assumption | with_reducible exact AtL.new _ _ _ | ((with_reducible refine AtL.newAt ?_); (first | rfl | (simp; done))) | (with_reducible refine AtL.drew ?_) | (with_reducible refine AtL.below ?_ (by with_reducible assumption)) | (with_reducible refine AtL.alloc ?_ _) | (with_reducible refine AtL.far ?_ ?_ _ _) | omega | (simp; done) | (simp; omega))
            have ohwR : wR.ownsRow (wL.heap.size) 109 3 (.slice Ah l.length ch) l.length (cellsF cTerm l) := by repeat' (first | with_reducible assumption | (with_reducible refine own_drew ?_) | (with_reducible refine own_stays ?_ (by with_reducible assumption)) | (with_reducible refine World.ownsRow.alloc ?_ _))
            have bp := bwQ.out
            have bn : Below w.heap.size w wR := by repeat' (first | with_reducible assumption | with_reducible exact Below.refl _ _ | (with_reducible refine Below.setCell ?_ ?_ _) | (with_reducible refine Below.alloc ?_ ?_ _) | (with_reducible refine Below.drew ?_) | (with_reducible refine below_dr ?_ _) | (with_reducible refine Below.trans ?_ (Below.mono (by with_reducible assumption) ?_)) | omega | (simp; done) | (simp; omega))
            have bwR := Lib.hid bn
            clear bn
            clear bp bwQ
            clear hbwR
            clear bx_awQ
            clear rd_a2wQ
            clear bx_fwQ
            clear bx_wwQ
            clear r1wQ
            clear bx_gwQ
            clear omwQ
            clear bx_hwQ
            clear ohwQ
            have kbx_g0 := bx_gwR.cell 0 rfl
            have kbx_g1 := bx_gwR.cell 1 rfl
            have kbx_g2 := bx_gwR.cell 2 rfl
            have lbx_g := bx_gwR.lt
            go_wp2_with fail
            clear kbx_g0 kbx_g1 kbx_g2 lbx_g
            refine (heldLinear_any cn cd Ag cg 1 l.length _ (by omega) (by omega) ?_).mono ?_
            · refine Rd.of_own (fun a => cTerm_len a) (by omega) (base := wY.heap.size) (e := 109) (n := l.length) (c := cg) ?_ (Nat.le_refl _); (repeat' (first | with_reducible assumption | (with_reducible refine own_drew ?_) | (with_reducible refine own_stays ?_ (by with_reducible assumption)) | (with_reducible refine World.ownsRow.alloc ?_ _)))
            rw [← HM.out]
            rintro e wV ⟨rfl, hbwV⟩
            have zwV := hbwV.size
            (try simp only [World.size_setCell] at zwV)
            (try simp only [World.size_drew] at zwV)
            (try simp only [World.size_alloc] at zwV)
            have qwV : w.heap.size ≤ wV.heap.size := by omega
            have bx_awV : AtL (w.heap.size) [.int .i64 a0, .int .i64 a1, .slice a2A a2l.length a2c] wV := by repeat' (first | with_reducible assumption | with_reducible exact AtL.new _ _ _ | ((with_reducible refine AtL.newAt ?_); (first | rfl | (simp; done))) | (with_reducible refine AtL.drew ?_) | (with_reducible refine AtL.below ?_ (by with_reducible assumption)) | (with_reducible refine AtL.alloc ?_ _) | (with_reducible refine AtL.far ?_ ?_ _ _) | omega | (simp; done) | (simp; omega))
            have rd_a2wV : Rd cTerm 3 wV (w.heap.size) a2A a2l := by repeat' (first | with_reducible assumption | (with_reducible refine Rd.drew ?_) | (with_reducible refine Rd.carry ?_ (by with_reducible assumption) ?_) | (with_reducible refine Rd.alloc ?_ ?_ _) | (with_reducible refine Rd.setCell ?_ ?_ _) | omega | (simp; done) | (simp; omega))
            have bx_fwV : AtL (w.heap.size + 1) [.int .i64 f0, .int .i64 f1] wV := by repeat' (first | with_reducible assumption | with_reducible exact AtL.new _ _ _ | ((with_reducible refine AtL.newAt ?_); (first | rfl | (simp; done))) | (with_reducible refine AtL.drew ?_) | (with_reducible refine AtL.below ?_ (by with_reducible assumption)) | (with_reducible refine AtL.alloc ?_ _) | (with_reducible refine AtL.far ?_ ?_ _ _) | omega | (simp; done) | (simp; omega))
            have bx_wwV : AtL (qw) [.int .i64 cn, .int .i64 cd, .slice Aw l.length cw] wV := by repeat' (first | with_reducible assumption | with_reducible exact AtL.new _ _ _ | ((with_reducible refine AtL.newAt ?_); (first | rfl | (simp; done))) | (with_reducible refine AtL.drew ?_) | (with_reducible refine AtL.below ?_ (by with_reducible assumption)) | (with_reducible refine AtL.alloc ?_ _) | (with_reducible refine AtL.far ?_ ?_ _ _) | omega | (simp; done) | (simp; omega))
            have r1wV : Rd cTerm 3 wV (wC.heap.size) Aw l := by repeat' (first | with_reducible assumption | (with_reducible refine Rd.drew ?_) | (with_reducible refine Rd.carry ?_ (by with_reducible assumption) ?_) | (with_reducible refine Rd.alloc ?_ ?_ _) | (with_reducible refine Rd.setCell ?_ ?_ _) | omega | (simp; done) | (simp; omega))
            have bx_gwV : AtL (qg) [.int .i64 cn, .int .i64 cd, .slice Ag l.length cg] wV := by repeat' (first | with_reducible assumption | with_reducible exact AtL.new _ _ _ | ((with_reducible refine AtL.newAt ?_); (first | rfl | (simp; done))) | (with_reducible refine AtL.drew ?_) | (with_reducible refine AtL.below ?_ (by with_reducible assumption)) | (with_reducible refine AtL.alloc ?_ _) | (with_reducible refine AtL.far ?_ ?_ _ _) | omega | (simp; done) | (simp; omega))
            have omwV : wV.ownsRow (wY.heap.size) 109 3 (.slice Ag l.length cg) l.length (cellsF cTerm (marksTerm 1 l.length)) := by repeat' (first | with_reducible assumption | (with_reducible refine own_drew ?_) | (with_reducible refine own_stays ?_ (by with_reducible assumption)) | (with_reducible refine World.ownsRow.alloc ?_ _))
            have bx_hwV : AtL (qh) [.int .i64 cn, .int .i64 cd, .slice Ah l.length ch] wV := by repeat' (first | with_reducible assumption | with_reducible exact AtL.new _ _ _ | ((with_reducible refine AtL.newAt ?_); (first | rfl | (simp; done))) | (with_reducible refine AtL.drew ?_) | (with_reducible refine AtL.below ?_ (by with_reducible assumption)) | (with_reducible refine AtL.alloc ?_ _) | (with_reducible refine AtL.far ?_ ?_ _ _) | omega | (simp; done) | (simp; omega))
            have ohwV : wV.ownsRow (wL.heap.size) 109 3 (.slice Ah l.length ch) l.length (cellsF cTerm l) := by repeat' (first | with_reducible assumption | (with_reducible refine own_drew ?_) | (with_reducible refine own_stays ?_ (by with_reducible assumption)) | (with_reducible refine World.ownsRow.alloc ?_ _))
            have bp := bwR.out
            have bn : Below w.heap.size w wV := by repeat' (first | with_reducible assumption | with_reducible exact Below.refl _ _ | (with_reducible refine Below.setCell ?_ ?_ _) | (with_reducible refine Below.alloc ?_ ?_ _) | (with_reducible refine Below.drew ?_) | (with_reducible refine below_dr ?_ _) | (with_reducible refine Below.trans ?_ (Below.mono (by with_reducible assumption) ?_)) | omega | (simp; done) | (simp; omega))
            have bwV := Lib.hid bn
            clear bn
            clear bp bwR
            clear hbwV
            clear bx_awR
            clear rd_a2wR
            clear bx_fwR
            clear bx_wwR
            clear r1wR
            clear bx_gwR
            clear omwR
            clear bx_hwR
            clear ohwR
            go_wp2_with fail
            go_ret
            have bp := bwV.out
            exact ⟨rfl, by repeat' (first | with_reducible assumption | with_reducible exact Below.refl _ _ | (with_reducible refine Below.setCell ?_ ?_ _) | (with_reducible refine Below.alloc ?_ ?_ _) | (with_reducible refine Below.drew ?_) | (with_reducible refine below_dr ?_ _) | (with_reducible refine Below.trans ?_ (Below.mono (by with_reducible assumption) ?_)) | omega | (simp; done) | (simp; omega))⟩
end Go.Proofs.Ythedimnjbfeaiaa
