/- Walks: the law on JoinRegions: it returns true. -/
import Derived.Test.YtdeemhfhmgnbgaaBn
import Derived.Test.YtdeemhfhmgnbgaaYh
import Derived.Deep.RegionHeld3
namespace Go.Proofs.Ytdeemhfhmgnbgaa
open Go.RowKit
set_option linter.unusedVariables false
theorem AtL.store1 {g : Nat} {a0 y0 : Value} {wx : World} (h : AtL g [y0] wx) : AtL g [a0] (wx.setCell ⟨g, 0, none⟩ a0) := h.set 0 a0
theorem tot_app (a b : List DRing) : totRing (a ++ b) = totRing a + totRing b := by
  unfold totRing; rw [List.map_append, List.sum_append_nat]
theorem tot_le {ds : List DRing} {N : Nat} (h : ∀ d ∈ ds, d.length ≤ N) : totRing ds ≤ ds.length * N := by
  induction ds with
  | nil => simp [totRing]
  | cons d ds ih =>
    have h1 := ih (fun x hx => h x (List.mem_cons_of_mem _ hx))
    have h2 := h d (List.mem_cons_self ..)
    unfold totRing oneRing at *
    simp only [List.map_cons, List.sum_cons, List.length_cons, Nat.succ_mul] at *
    omega
theorem tot_ok {ds : List DRing} (h : vRn ds = true) : totRing ds ≤ 1048576 := by
  have h1 := tot_le (N := 400) (fun d hd => (vRg_parts (vRn_each h d hd)).2.1)
  have h2 := (vRn_parts h).1
  omega
/-- Both sides hand back the same. -/
theorem join_both (ds1 ds2 : List DRing) : ∃ (l : List DRing) (code : Int), (ds1.length ≤ 1048576 ∧ totRing ds1 ≤ 1048576) → (ds2.length ≤ 1048576 ∧ totRing ds2 ≤ 1048576) → l.length ≤ 1048576 ∧ totRing l ≤ 1048576 ∧
    (∀ (A1 : Option Addr) (c1 : Nat) (A2 : Option Addr) (c2 : Nat) (w : World), RdRing w w.heap.size A1 ds1 → RdRing w w.heap.size A2 ds2 → Calls Try.prog 15 #[.agg #[.slice A1 ds1.length c1], .agg #[.slice A2 ds2.length c2]] w (OutRet code l w)) ∧
    (∀ (A1 : Option Addr) (c1 : Nat) (A2 : Option Addr) (c2 : Nat) (w : World), RdRing w w.heap.size A1 ds1 → RdRing w w.heap.size A2 ds2 → Calls Try.prog 17 #[.agg #[.slice A1 ds1.length c1], .agg #[.slice A2 ds2.length c2]] w (OutRet code l w)) := by
  rcases hv1 : vRn ds1 with _ | _
  · exact ⟨[], 1, fun h1 h2 => ⟨Nat.zero_le _, Nat.zero_le _, fun A1 c1 A2 c2 w r1 r2 => specJoin_bad1 ds1 ds2 A1 A2 c1 c2 w hv1 h1.1 h2.1 (inRing h1.2) (inRing h2.2) r1 r2, fun A1 c1 A2 c2 w r1 r2 => implJoin_bad1 ds1 ds2 A1 A2 c1 c2 w hv1 h1.1 h2.1 (inRing h1.2) (inRing h2.2) r1 r2⟩⟩
  · rcases hv2 : vRn ds2 with _ | _
    · exact ⟨[], 1, fun h1 h2 => ⟨Nat.zero_le _, Nat.zero_le _, fun A1 c1 A2 c2 w r1 r2 => specJoin_bad2 ds1 ds2 A1 A2 c1 c2 w hv1 hv2 h1.1 h2.1 (inRing h1.2) (inRing h2.2) r1 r2, fun A1 c1 A2 c2 w r1 r2 => implJoin_bad2 ds1 ds2 A1 A2 c1 c2 w hv1 hv2 h1.1 h2.1 (inRing h1.2) (inRing h2.2) r1 r2⟩⟩
    · rcases hv : vRn (ds1 ++ ds2) with _ | _
      · exact ⟨[], 5, fun h1 h2 => ⟨Nat.zero_le _, Nat.zero_le _, fun A1 c1 A2 c2 w r1 r2 => specJoin_full ds1 ds2 A1 A2 c1 c2 w hv1 hv2 hv h1.1 h2.1 (inRing h1.2) (inRing h2.2) r1 r2, fun A1 c1 A2 c2 w r1 r2 => implJoin_full ds1 ds2 A1 A2 c1 c2 w hv1 hv2 hv h1.1 h2.1 (inRing h1.2) (inRing h2.2) r1 r2⟩⟩
      · exact ⟨ds1 ++ ds2, 0, fun h1 h2 => ⟨by have := (vRn_parts hv).1; omega, tot_ok hv, fun A1 c1 A2 c2 w r1 r2 => specJoin_ok ds1 ds2 A1 A2 c1 c2 w hv1 hv2 hv h1.1 h2.1 (inRing h1.2) (inRing h2.2) r1 r2, fun A1 c1 A2 c2 w r1 r2 => implJoin_ok ds1 ds2 A1 A2 c1 c2 w hv1 hv2 hv h1.1 h2.1 (inRing h1.2) (inRing h2.2) r1 r2⟩⟩
set_option maxRecDepth 100000 in
set_option maxHeartbeats 12800000 in
theorem walk_JoinRegions (a : ARegion) (b : ARegion) (w : World) (k_a : okRegion w w.heap.size a) (k_b : okRegion w w.heap.size b) :
    Calls Try.prog 4 #[.agg #[.slice a.1 a.2.2.length a.2.1], .agg #[.slice b.1 b.2.2.length b.2.1]] w fun e w' => e = .returned (.bool true) ∧ Below w.heap.size w w' := by
  obtain ⟨a0A, a0c, a0l⟩ := a
  obtain ⟨nc_a0, cm_a0, rd_a0, ok_a0⟩ := k_a
  simp only at nc_a0 cm_a0 rd_a0 ok_a0 ⊢
  have hm_a0 : a0l.length ≤ 9223372036854775807 := by unfold maxLen at cm_a0; omega
  have okd_a0 := okDRing_all a0l ok_a0
  replace rd_a0 := RdRing.of a0l rd_a0 ok_a0
  obtain ⟨a0d, hd_a0⟩ : ∃ ds, ds = a0l.map dRing := ⟨_, rfl⟩
  have hn_a0 : a0l.length = a0d.length := by rw [hd_a0, List.length_map]
  rw [← hd_a0] at okd_a0 rd_a0
  rw [hn_a0] at hm_a0 ⊢
  have HOK_a0 := Lib.hid okd_a0
  clear ok_a0 nc_a0 cm_a0 okd_a0 hd_a0 hn_a0
  obtain ⟨b0A, b0c, b0l⟩ := b
  obtain ⟨nc_b0, cm_b0, rd_b0, ok_b0⟩ := k_b
  simp only at nc_b0 cm_b0 rd_b0 ok_b0 ⊢
  have hm_b0 : b0l.length ≤ 9223372036854775807 := by unfold maxLen at cm_b0; omega
  have okd_b0 := okDRing_all b0l ok_b0
  replace rd_b0 := RdRing.of b0l rd_b0 ok_b0
  obtain ⟨b0d, hd_b0⟩ : ∃ ds, ds = b0l.map dRing := ⟨_, rfl⟩
  have hn_b0 : b0l.length = b0d.length := by rw [hd_b0, List.length_map]
  rw [← hd_b0] at okd_b0 rd_b0
  rw [hn_b0] at hm_b0 ⊢
  have HOK_b0 := Lib.hid okd_b0
  clear ok_b0 nc_b0 cm_b0 okd_b0 hd_b0 hn_b0
  obtain ⟨l, code, HB0⟩ := join_both a0d b0d
  have HB := Lib.hid HB0
  clear HB0
  have e_code : (code != code) = false := by simp
  obtain ⟨M, hM⟩ : ∃ M : Int, M = ((kAt 1 l l.length : Nat) : Int) := ⟨_, rfl⟩
  have hM0 : 0 ≤ M := by omega
  have HM := Lib.hid hM
  have e_M : (M != M) = false := by simp
  clear hM
  obtain ⟨K1, hK1⟩ : ∃ K1 : Nat, K1 = kAt 1 a0d a0d.length := ⟨_, rfl⟩
  have hK10 : 1 ≤ K1 := by rw [hK1, kAt_tot]; omega
  have HM10 := Lib.hid (show (K1 : Int) = ((kAt 1 a0d a0d.length : Nat) : Int) by rw [hK1])
  have HK1E := Lib.hid hK1
  clear hK1
  obtain ⟨M2, hM2⟩ : ∃ M2 : Int, M2 = ((kAt K1 b0d b0d.length : Nat) : Int) := ⟨_, rfl⟩
  have hM20 : 0 ≤ M2 := by omega
  have HM11 := Lib.hid hM2
  clear hM2
  go_enter Try.func4, Try.ntmps4
  go_wp2_with fail
  generalize hW : ((w.alloc (.cells #[.slice a0A a0d.length a0c] 36)).alloc (.cells #[.slice b0A b0d.length b0c] 36)) = W0
  have rd_a0w : RdRing w (w.heap.size) a0A a0d := rd_a0
  have rd_b0w : RdRing w (w.heap.size) b0A b0d := rd_b0
  have bx_aW0 : AtL (w.heap.size) [.slice a0A a0d.length a0c] W0 := by rw [← hW]; repeat' (first | with_reducible assumption | with_reducible exact AtL.new _ _ _ | ((with_reducible refine AtL.newAt ?_); (first | rfl | (simp; done))) | (with_reducible refine AtL.drew ?_) | (with_reducible refine AtL.below ?_ (by with_reducible assumption)) | (with_reducible refine AtL.alloc ?_ _) | (with_reducible refine AtL.far ?_ ?_ _ _) | omega | (simp; done) | (simp; omega))
  have rd_a0W0 : RdRing W0 (w.heap.size) a0A a0d := by rw [← hW]; repeat' (first | with_reducible assumption | (with_reducible refine RdRing.drew ?_) | (with_reducible refine RdRing.carry ?_ (by with_reducible assumption) ?_) | (with_reducible refine RdRing.alloc ?_ ?_ _) | (with_reducible refine RdRing.setCell ?_ ?_ _) | omega | (simp; done) | (simp; omega))
  have bx_bW0 : AtL (w.heap.size + 1) [.slice b0A b0d.length b0c] W0 := by rw [← hW]; repeat' (first | with_reducible assumption | with_reducible exact AtL.new _ _ _ | ((with_reducible refine AtL.newAt ?_); (first | rfl | (simp; done))) | (with_reducible refine AtL.drew ?_) | (with_reducible refine AtL.below ?_ (by with_reducible assumption)) | (with_reducible refine AtL.alloc ?_ _) | (with_reducible refine AtL.far ?_ ?_ _ _) | omega | (simp; done) | (simp; omega))
  have rd_b0W0 : RdRing W0 (w.heap.size) b0A b0d := by rw [← hW]; repeat' (first | with_reducible assumption | (with_reducible refine RdRing.drew ?_) | (with_reducible refine RdRing.carry ?_ (by with_reducible assumption) ?_) | (with_reducible refine RdRing.alloc ?_ ?_ _) | (with_reducible refine RdRing.setCell ?_ ?_ _) | omega | (simp; done) | (simp; omega))
  have qW0 : w.heap.size ≤ W0.heap.size := by rw [← hW]; simp; omega
  have bn : Below w.heap.size w W0 := by rw [← hW]; repeat' (first | with_reducible assumption | with_reducible exact Below.refl _ _ | (with_reducible refine Below.setCell ?_ ?_ _) | (with_reducible refine Below.alloc ?_ ?_ _) | (with_reducible refine Below.drew ?_) | (with_reducible refine below_dr ?_ _) | (with_reducible refine Below.trans ?_ (Below.mono (by with_reducible assumption) ?_)) | omega | (simp; done) | (simp; omega))
  have bW0 := Lib.hid bn
  clear hW bn
  clear rd_a0w rd_b0w rd_a0 rd_b0
  have hV0 : 0 ≤ (1048576 : Int) ∧ (1048576 : Int) ≤ 1048576 := by omega
  by_cases hfit : ((a0d.length + totRing a0d : Nat) : Int) ≤ 1048576
  case neg =>
    replace hfit : 1048576 < ((a0d.length + totRing a0d : Nat) : Int) := by omega
    refine (szRegion_no a0A a0c a0d 1048576 _ (by omega) (by omega) hm_a0 hfit ?_ HOK_a0.out).mono ?_
    · (refine RdRing.more (B := w.heap.size) ?_ (by first | omega | ((try simp only [World.size_setCell]); (try simp only [World.size_drew]); (try simp only [World.size_alloc]); omega) | (simp; done) | (simp; omega))); (repeat' (first | with_reducible assumption | (with_reducible refine RdRing.drew ?_) | (with_reducible refine RdRing.carry ?_ (by with_reducible assumption) ?_) | (with_reducible refine RdRing.alloc ?_ ?_ _) | (with_reducible refine RdRing.setCell ?_ ?_ _) | omega | (simp; done) | (simp; omega)))
    rintro e wN ⟨rfl, hb⟩
    go_wp2_with fail
    go_ret
    have bp := bW0.out
    exact ⟨rfl, by repeat' (first | with_reducible assumption | with_reducible exact Below.refl _ _ | (with_reducible refine Below.setCell ?_ ?_ _) | (with_reducible refine Below.alloc ?_ ?_ _) | (with_reducible refine Below.drew ?_) | (with_reducible refine below_dr ?_ _) | (with_reducible refine Below.trans ?_ (Below.mono (by with_reducible assumption) ?_)) | omega | (simp; done) | (simp; omega))⟩
  case pos =>
    have hl_a0 : a0d.length ≤ 1048576 := by omega
    have hin_a0 : totRing a0d ≤ 1048576 := by omega
    have HIN_a0 := Lib.hid (inRing hin_a0)
    have HT_a0 := Lib.hid hin_a0
    clear hin_a0
    refine (szRegion_yes a0A a0c a0d 1048576 _ (by omega) (by omega) (by omega) hfit ?_ HOK_a0.out).mono ?_
    · (refine RdRing.more (B := w.heap.size) ?_ (by first | omega | ((try simp only [World.size_setCell]); (try simp only [World.size_drew]); (try simp only [World.size_alloc]); omega) | (simp; done) | (simp; omega))); (repeat' (first | with_reducible assumption | (with_reducible refine RdRing.drew ?_) | (with_reducible refine RdRing.carry ?_ (by with_reducible assumption) ?_) | (with_reducible refine RdRing.alloc ?_ ?_ _) | (with_reducible refine RdRing.setCell ?_ ?_ _) | omega | (simp; done) | (simp; omega)))
    obtain ⟨V0, hV⟩ : ∃ V : Int, V = 1048576 - (a0d.length + totRing a0d : Nat) := ⟨_, rfl⟩
    have hVV : 0 ≤ V0 ∧ V0 ≤ 1048576 := by omega
    rw [← hV]
    rintro e wS0 ⟨rfl, hbwS0⟩
    clear hV hfit
    obtain ⟨hV0_0, hV1_0⟩ := hVV
    have zwS0 := hbwS0.size
    (try simp only [World.size_setCell] at zwS0)
    (try simp only [World.size_drew] at zwS0)
    (try simp only [World.size_alloc] at zwS0)
    have qwS0 : w.heap.size ≤ wS0.heap.size := by omega
    have bx_awS0 : AtL (w.heap.size) [.slice a0A a0d.length a0c] wS0 := by repeat' (first | with_reducible assumption | with_reducible exact AtL.new _ _ _ | ((with_reducible refine AtL.newAt ?_); (first | rfl | (simp; done))) | (with_reducible refine AtL.drew ?_) | (with_reducible refine AtL.below ?_ (by with_reducible assumption)) | (with_reducible refine AtL.alloc ?_ _) | (with_reducible refine AtL.far ?_ ?_ _ _) | omega | (simp; done) | (simp; omega))
    have rd_a0wS0 : RdRing wS0 (w.heap.size) a0A a0d := by repeat' (first | with_reducible assumption | (with_reducible refine RdRing.drew ?_) | (with_reducible refine RdRing.carry ?_ (by with_reducible assumption) ?_) | (with_reducible refine RdRing.alloc ?_ ?_ _) | (with_reducible refine RdRing.setCell ?_ ?_ _) | omega | (simp; done) | (simp; omega))
    have bx_bwS0 : AtL (w.heap.size + 1) [.slice b0A b0d.length b0c] wS0 := by repeat' (first | with_reducible assumption | with_reducible exact AtL.new _ _ _ | ((with_reducible refine AtL.newAt ?_); (first | rfl | (simp; done))) | (with_reducible refine AtL.drew ?_) | (with_reducible refine AtL.below ?_ (by with_reducible assumption)) | (with_reducible refine AtL.alloc ?_ _) | (with_reducible refine AtL.far ?_ ?_ _ _) | omega | (simp; done) | (simp; omega))
    have rd_b0wS0 : RdRing wS0 (w.heap.size) b0A b0d := by repeat' (first | with_reducible assumption | (with_reducible refine RdRing.drew ?_) | (with_reducible refine RdRing.carry ?_ (by with_reducible assumption) ?_) | (with_reducible refine RdRing.alloc ?_ ?_ _) | (with_reducible refine RdRing.setCell ?_ ?_ _) | omega | (simp; done) | (simp; omega))
    have bp := bW0.out
    have bn : Below w.heap.size w wS0 := by repeat' (first | with_reducible assumption | with_reducible exact Below.refl _ _ | (with_reducible refine Below.setCell ?_ ?_ _) | (with_reducible refine Below.alloc ?_ ?_ _) | (with_reducible refine Below.drew ?_) | (with_reducible refine below_dr ?_ _) | (with_reducible refine Below.trans ?_ (Below.mono (by with_reducible assumption) ?_)) | omega | (simp; done) | (simp; omega))
    have bwS0 := Lib.hid bn
    clear bn
    clear bp bW0
    clear hbwS0
    clear bx_aW0
    clear rd_a0W0
    clear bx_bW0
    clear rd_b0W0
    have kbx_a0 := bx_awS0.cell 0 rfl
    have lbx_a := bx_awS0.lt
    have kbx_b0 := bx_bwS0.cell 0 rfl
    have lbx_b := bx_bwS0.lt
    go_wp2_with fail
    clear kbx_a0 lbx_a
    clear kbx_b0 lbx_b
    have hV1 : 0 ≤ (V0 : Int) ∧ (V0 : Int) ≤ 1048576 := by omega
    by_cases hfit : ((b0d.length + totRing b0d : Nat) : Int) ≤ V0
    case neg =>
      replace hfit : V0 < ((b0d.length + totRing b0d : Nat) : Int) := by omega
      refine (szRegion_no b0A b0c b0d V0 _ (by omega) (by omega) hm_b0 hfit ?_ HOK_b0.out).mono ?_
      · (refine RdRing.more (B := w.heap.size) ?_ (by first | omega | ((try simp only [World.size_setCell]); (try simp only [World.size_drew]); (try simp only [World.size_alloc]); omega) | (simp; done) | (simp; omega))); (repeat' (first | with_reducible assumption | (with_reducible refine RdRing.drew ?_) | (with_reducible refine RdRing.carry ?_ (by with_reducible assumption) ?_) | (with_reducible refine RdRing.alloc ?_ ?_ _) | (with_reducible refine RdRing.setCell ?_ ?_ _) | omega | (simp; done) | (simp; omega)))
      rintro e wN ⟨rfl, hb⟩
      go_wp2_with fail
      go_ret
      have bp := bwS0.out
      exact ⟨rfl, by repeat' (first | with_reducible assumption | with_reducible exact Below.refl _ _ | (with_reducible refine Below.setCell ?_ ?_ _) | (with_reducible refine Below.alloc ?_ ?_ _) | (with_reducible refine Below.drew ?_) | (with_reducible refine below_dr ?_ _) | (with_reducible refine Below.trans ?_ (Below.mono (by with_reducible assumption) ?_)) | omega | (simp; done) | (simp; omega))⟩
    case pos =>
      have hl_b0 : b0d.length ≤ 1048576 := by omega
      have hin_b0 : totRing b0d ≤ 1048576 := by omega
      have HIN_b0 := Lib.hid (inRing hin_b0)
      have HT_b0 := Lib.hid hin_b0
      clear hin_b0
      refine (szRegion_yes b0A b0c b0d V0 _ (by omega) (by omega) (by omega) hfit ?_ HOK_b0.out).mono ?_
      · (refine RdRing.more (B := w.heap.size) ?_ (by first | omega | ((try simp only [World.size_setCell]); (try simp only [World.size_drew]); (try simp only [World.size_alloc]); omega) | (simp; done) | (simp; omega))); (repeat' (first | with_reducible assumption | (with_reducible refine RdRing.drew ?_) | (with_reducible refine RdRing.carry ?_ (by with_reducible assumption) ?_) | (with_reducible refine RdRing.alloc ?_ ?_ _) | (with_reducible refine RdRing.setCell ?_ ?_ _) | omega | (simp; done) | (simp; omega)))
      obtain ⟨V1, hV⟩ : ∃ V : Int, V = V0 - (b0d.length + totRing b0d : Nat) := ⟨_, rfl⟩
      have hVV : 0 ≤ V1 ∧ V1 ≤ 1048576 := by omega
      rw [← hV]
      rintro e wS1 ⟨rfl, hbwS1⟩
      clear hV hfit
      obtain ⟨hV0_1, hV1_1⟩ := hVV
      have zwS1 := hbwS1.size
      (try simp only [World.size_setCell] at zwS1)
      (try simp only [World.size_drew] at zwS1)
      (try simp only [World.size_alloc] at zwS1)
      have qwS1 : w.heap.size ≤ wS1.heap.size := by omega
      have bx_awS1 : AtL (w.heap.size) [.slice a0A a0d.length a0c] wS1 := by repeat' (first | with_reducible assumption | with_reducible exact AtL.new _ _ _ | ((with_reducible refine AtL.newAt ?_); (first | rfl | (simp; done))) | (with_reducible refine AtL.drew ?_) | (with_reducible refine AtL.below ?_ (by with_reducible assumption)) | (with_reducible refine AtL.alloc ?_ _) | (with_reducible refine AtL.far ?_ ?_ _ _) | omega | (simp; done) | (simp; omega))
      have rd_a0wS1 : RdRing wS1 (w.heap.size) a0A a0d := by repeat' (first | with_reducible assumption | (with_reducible refine RdRing.drew ?_) | (with_reducible refine RdRing.carry ?_ (by with_reducible assumption) ?_) | (with_reducible refine RdRing.alloc ?_ ?_ _) | (with_reducible refine RdRing.setCell ?_ ?_ _) | omega | (simp; done) | (simp; omega))
      have bx_bwS1 : AtL (w.heap.size + 1) [.slice b0A b0d.length b0c] wS1 := by repeat' (first | with_reducible assumption | with_reducible exact AtL.new _ _ _ | ((with_reducible refine AtL.newAt ?_); (first | rfl | (simp; done))) | (with_reducible refine AtL.drew ?_) | (with_reducible refine AtL.below ?_ (by with_reducible assumption)) | (with_reducible refine AtL.alloc ?_ _) | (with_reducible refine AtL.far ?_ ?_ _ _) | omega | (simp; done) | (simp; omega))
      have rd_b0wS1 : RdRing wS1 (w.heap.size) b0A b0d := by repeat' (first | with_reducible assumption | (with_reducible refine RdRing.drew ?_) | (with_reducible refine RdRing.carry ?_ (by with_reducible assumption) ?_) | (with_reducible refine RdRing.alloc ?_ ?_ _) | (with_reducible refine RdRing.setCell ?_ ?_ _) | omega | (simp; done) | (simp; omega))
      have bp := bwS0.out
      have bn : Below w.heap.size w wS1 := by repeat' (first | with_reducible assumption | with_reducible exact Below.refl _ _ | (with_reducible refine Below.setCell ?_ ?_ _) | (with_reducible refine Below.alloc ?_ ?_ _) | (with_reducible refine Below.drew ?_) | (with_reducible refine below_dr ?_ _) | (with_reducible refine Below.trans ?_ (Below.mono (by with_reducible assumption) ?_)) | omega | (simp; done) | (simp; omega))
      have bwS1 := Lib.hid bn
      clear bn
      clear bp bwS0
      clear hbwS1
      clear bx_awS0
      clear rd_a0wS0
      clear bx_bwS0
      clear rd_b0wS0
      have kbx_a0 := bx_awS1.cell 0 rfl
      have lbx_a := bx_awS1.lt
      have kbx_b0 := bx_bwS1.cell 0 rfl
      have lbx_b := bx_bwS1.lt
      go_wp2_with fail
      clear kbx_a0 lbx_a
      clear kbx_b0 lbx_b
      obtain ⟨hlen_r, htot_r, C1x, C2x⟩ := HB.out ⟨hl_a0, HT_a0.out⟩ ⟨hl_b0, HT_b0.out⟩
      have C1 := Lib.hid C1x
      have C2 := Lib.hid C2x
      have HIN_r := Lib.hid (inRing htot_r)
      have HMK_r := Lib.hid (show kAt 1 l l.length ≤ 4611686018427387904 by rw [kAt_tot]; omega)
      have HK10 := Lib.hid (show kAt 1 a0d a0d.length ≤ 4611686018427387904 by rw [kAt_tot]; have := HT_a0.out; omega)
      have HK11 := Lib.hid (show kAt K1 b0d b0d.length ≤ 4611686018427387904 by rw [HK1E.out, kAt_tot, kAt_tot]; have := HT_a0.out; have := HT_b0.out; omega)
      clear htot_r C1x C2x HB
      have lt_a := bx_awS1.lt
      have lt_b := bx_bwS1.lt
      have kbx_a0 := bx_awS1.cell 0 rfl
      have lbx_a := bx_awS1.lt
      have kbx_b0 := bx_bwS1.cell 0 rfl
      have lbx_b := bx_bwS1.lt
      go_upto_region 8 with fail
      go_cut [6, 7] (fun sA sB wx => ∃ (wC : World) (qw : Nat) (Aw : Option Addr) (cw : Nat), wC = wx ∧ sA = .pointer (some ⟨qw, 0, none⟩) ∧ sB = .int .i64 code ∧ AtL qw [.slice Aw l.length cw] wC ∧ RdRing wC (wC.heap.size) Aw l ∧ wS1.heap.size ≤ qw ∧ Below wS1.heap.size wS1 wC)
      case first =>
        go_region_held3 (fun w' => (∀ b o, b < wS1.heap.size → w'.cell? ⟨b, o, none⟩ = wS1.cell? ⟨b, o, none⟩) ∧ wS1.heap.size ≤ w'.heap.size)
          (first | ((try dsimp only); exact ⟨fun b o h => (by (repeat (first | with_reducible exact rfl | (with_reducible refine (cell_drew_at _ _).trans ?_) | (with_reducible refine (cell_set_at _ _ (by first | omega | (simp; done) | (simp; omega))).trans ?_) | (with_reducible refine (cell_alloc_at _ _ (by first | omega | (simp; done) | (simp; omega))).trans ?_) | (with_reducible refine (hcwA0 b o (by first | omega | (simp; done) | (simp; omega))).trans ?_) | (with_reducible refine (hcwA1 b o (by first | omega | (simp; done) | (simp; omega))).trans ?_) | (with_reducible refine (hcwR b o (by first | omega | (simp; done) | (simp; omega))).trans ?_)))), (by first | omega | (simp; done) | (simp; omega))⟩) | fail)
          (first
            | (go_at_call 16; (with_reducible refine (toRegion_own a0d a0A a0c _ hl_a0 HIN_a0.out ?_).mono ?_); (focus ((refine RdRing.more (B := w.heap.size) ?_ (by first | omega | ((try simp only [World.size_setCell]); (try simp only [World.size_drew]); (try simp only [World.size_alloc]); omega) | (simp; done) | (simp; omega))); (repeat' (first | with_reducible assumption | (with_reducible refine RdRing.drew ?_) | (with_reducible refine RdRing.carry ?_ (by with_reducible assumption) ?_) | (with_reducible refine RdRing.alloc ?_ ?_ _) | (with_reducible refine RdRing.setCell ?_ ?_ _) | omega | (simp; done) | (simp; omega))))); intro e wA0 hq; obtain ⟨g_owA0, rfl, owA0, hbwA0⟩ := hq; obtain ⟨hcwA0, hfwA0⟩ := bcell hbwA0; have hzwA0 := hbwA0.size; (try simp only [World.size_drew] at hcwA0 hfwA0 hzwA0); (try simp only [World.size_alloc] at hcwA0 hfwA0 hzwA0); (try have qqwS1wA0 : wS1.heap.size < wA0.heap.size := by omega); (try have qqwA1wA0 : wA1.heap.size < wA0.heap.size := by omega))
            | (go_at_call 16; (with_reducible refine (toRegion_own b0d b0A b0c _ hl_b0 HIN_b0.out ?_).mono ?_); (focus ((refine RdRing.more (B := w.heap.size) ?_ (by first | omega | ((try simp only [World.size_setCell]); (try simp only [World.size_drew]); (try simp only [World.size_alloc]); omega) | (simp; done) | (simp; omega))); (repeat' (first | with_reducible assumption | (with_reducible refine RdRing.drew ?_) | (with_reducible refine RdRing.carry ?_ (by with_reducible assumption) ?_) | (with_reducible refine RdRing.alloc ?_ ?_ _) | (with_reducible refine RdRing.setCell ?_ ?_ _) | omega | (simp; done) | (simp; omega))))); intro e wA1 hq; obtain ⟨g_owA1, rfl, owA1, hbwA1⟩ := hq; obtain ⟨hcwA1, hfwA1⟩ := bcell hbwA1; have hzwA1 := hbwA1.size; (try simp only [World.size_drew] at hcwA1 hfwA1 hzwA1); (try simp only [World.size_alloc] at hcwA1 hfwA1 hzwA1); (try have qqwS1wA1 : wS1.heap.size < wA1.heap.size := by omega); (try have qqwA0wA1 : wA0.heap.size < wA1.heap.size := by omega))
            | (go_at_call 15; (with_reducible refine (C1.out (some ⟨g_owA0, 0, none⟩) a0d.length (some ⟨g_owA1, 0, none⟩) b0d.length _ ?_ ?_).mono ?_); (focus (first | exact owA0.rd | exact RdRing.drew owA0.rd | (refine RdRing.more (B := wA0.heap.size) ?_ (by first | exact Nat.le_refl _ | omega | ((try simp only [World.size_drew]); (try simp only [World.size_alloc]); (try simp only [World.size_drew]); omega)); (have h9 := owA0.rd); repeat' (first | with_reducible assumption | (with_reducible refine RdRing.drew ?_) | (with_reducible refine RdRing.carry ?_ (by with_reducible assumption) ?_) | (with_reducible refine RdRing.alloc ?_ ?_ _) | (with_reducible refine RdRing.setCell ?_ ?_ _) | omega | (simp; done) | (simp; omega))))); (focus (first | exact owA1.rd | exact RdRing.drew owA1.rd | (refine RdRing.more (B := wA1.heap.size) ?_ (by first | exact Nat.le_refl _ | omega | ((try simp only [World.size_drew]); (try simp only [World.size_alloc]); (try simp only [World.size_drew]); omega)); (have h9 := owA1.rd); repeat' (first | with_reducible assumption | (with_reducible refine RdRing.drew ?_) | (with_reducible refine RdRing.carry ?_ (by with_reducible assumption) ?_) | (with_reducible refine RdRing.alloc ?_ ?_ _) | (with_reducible refine RdRing.setCell ?_ ?_ _) | omega | (simp; done) | (simp; omega))))); intro e wR hq; obtain ⟨A9, c9, rfl, ow9, hbwR⟩ := hq; obtain ⟨hcwR, hfwR⟩ := bcell hbwR; have hzwR := hbwR.size; (try simp only [World.size_drew] at hcwR hfwR hzwR); (try simp only [World.size_alloc] at hcwR hfwR hzwR); (try have qqwS1wR : wS1.heap.size < wR.heap.size := by omega); (try have qqwA0wR : wA0.heap.size < wR.heap.size := by omega); (try have qqwA1wR : wA1.heap.size < wR.heap.size := by omega)))
        all_goals
          (try go_wp2_with fail)
          go_meet
        all_goals exact ⟨_, _, _, _, rfl, rfl, rfl, by repeat' (first | (with_reducible apply AtL.store1) | with_reducible assumption | with_reducible exact AtL.new _ _ _ | ((with_reducible refine AtL.newAt ?_); (first | rfl | (simp; done))) | (with_reducible refine AtL.drew ?_) | (with_reducible refine AtL.below ?_ (by with_reducible assumption)) | (with_reducible refine AtL.alloc ?_ _) | (with_reducible refine AtL.far ?_ ?_ _ _) | omega | (simp; done) | (simp; omega)), by (first | exact OwnRing.rd (ow9.alloc _) | exact OwnRing.rd (ow9.set_far (.inl (by first | omega | (simp; done) | (simp; omega))) _)), by first | omega | (simp; done) | (simp; omega), by clear bwS1; repeat' (first | with_reducible assumption | with_reducible exact Below.refl _ _ | (with_reducible refine Below.setCell ?_ ?_ _) | (with_reducible refine Below.alloc ?_ ?_ _) | (with_reducible refine Below.drew ?_) | (with_reducible refine below_dr ?_ _) | (with_reducible refine Below.trans ?_ (Below.mono (by with_reducible assumption) ?_)) | omega | (simp; done) | (simp; omega))⟩
      case rest =>
        clear kbx_a0 lbx_a
        clear kbx_b0 lbx_b
        obtain ⟨wC, qw, Aw, cw, rfl, rfl, rfl, at_qw, rd_qw, hq_qw, hbwC⟩ := hcut
        have zwC := hbwC.size
        (try simp only [World.size_setCell] at zwC)
        (try simp only [World.size_drew] at zwC)
        (try simp only [World.size_alloc] at zwC)
        have qwC : w.heap.size ≤ wC.heap.size := by omega
        have bx_awC : AtL (w.heap.size) [.slice a0A a0d.length a0c] wC := by repeat' (first | with_reducible assumption | with_reducible exact AtL.new _ _ _ | ((with_reducible refine AtL.newAt ?_); (first | rfl | (simp; done))) | (with_reducible refine AtL.drew ?_) | (with_reducible refine AtL.below ?_ (by with_reducible assumption)) | (with_reducible refine AtL.alloc ?_ _) | (with_reducible refine AtL.far ?_ ?_ _ _) | omega | (simp; done) | (simp; omega))
        have rd_a0wC : RdRing wC (w.heap.size) a0A a0d := by repeat' (first | with_reducible assumption | (with_reducible refine RdRing.drew ?_) | (with_reducible refine RdRing.carry ?_ (by with_reducible assumption) ?_) | (with_reducible refine RdRing.alloc ?_ ?_ _) | (with_reducible refine RdRing.setCell ?_ ?_ _) | omega | (simp; done) | (simp; omega))
        have bx_bwC : AtL (w.heap.size + 1) [.slice b0A b0d.length b0c] wC := by repeat' (first | with_reducible assumption | with_reducible exact AtL.new _ _ _ | ((with_reducible refine AtL.newAt ?_); (first | rfl | (simp; done))) | (with_reducible refine AtL.drew ?_) | (with_reducible refine AtL.below ?_ (by with_reducible assumption)) | (with_reducible refine AtL.alloc ?_ _) | (with_reducible refine AtL.far ?_ ?_ _ _) | omega | (simp; done) | (simp; omega))
        have rd_b0wC : RdRing wC (w.heap.size) b0A b0d := by repeat' (first | with_reducible assumption | (with_reducible refine RdRing.drew ?_) | (with_reducible refine RdRing.carry ?_ (by with_reducible assumption) ?_) | (with_reducible refine RdRing.alloc ?_ ?_ _) | (with_reducible refine RdRing.setCell ?_ ?_ _) | omega | (simp; done) | (simp; omega))
        have bp := bwS1.out
        have bn : Below w.heap.size w wC := by repeat' (first | with_reducible assumption | with_reducible exact Below.refl _ _ | (with_reducible refine Below.setCell ?_ ?_ _) | (with_reducible refine Below.alloc ?_ ?_ _) | (with_reducible refine Below.drew ?_) | (with_reducible refine below_dr ?_ _) | (with_reducible refine Below.trans ?_ (Below.mono (by with_reducible assumption) ?_)) | omega | (simp; done) | (simp; omega))
        have bwC := Lib.hid bn
        clear bn
        clear bp bwS1
        clear hbwC
        clear bx_awS1
        clear rd_a0wS1
        clear bx_bwS1
        clear rd_b0wS1
        have hqw := at_qw.lt
        have bx_wwC := at_qw
        have r1wC := rd_qw
        clear at_qw rd_qw
        have kbx_a0 := bx_awC.cell 0 rfl
        have lbx_a := bx_awC.lt
        go_wp2_with fail
        clear kbx_a0 lbx_a
        refine (toRegion_own a0d a0A a0c _ hl_a0 HIN_a0.out ?_).mono ?_
        · (refine RdRing.more (B := w.heap.size) ?_ (by first | omega | ((try simp only [World.size_setCell]); (try simp only [World.size_drew]); (try simp only [World.size_alloc]); omega) | (simp; done) | (simp; omega))); (repeat' (first | with_reducible assumption | (with_reducible refine RdRing.drew ?_) | (with_reducible refine RdRing.carry ?_ (by with_reducible assumption) ?_) | (with_reducible refine RdRing.alloc ?_ ?_ _) | (with_reducible refine RdRing.setCell ?_ ?_ _) | omega | (simp; done) | (simp; omega)))
        intro e wX0 hq
        obtain ⟨gX0, rfl, owX, hbwX0⟩ := hq
        have zwX0 := hbwX0.size
        (try simp only [World.size_setCell] at zwX0)
        (try simp only [World.size_drew] at zwX0)
        (try simp only [World.size_alloc] at zwX0)
        have qwX0 : w.heap.size ≤ wX0.heap.size := by omega
        have bx_awX0 : AtL (w.heap.size) [.slice a0A a0d.length a0c] wX0 := by repeat' (first | with_reducible assumption | with_reducible exact AtL.new _ _ _ | ((with_reducible refine AtL.newAt ?_); (first | rfl | (simp; done))) | (with_reducible refine AtL.drew ?_) | (with_reducible refine AtL.below ?_ (by with_reducible assumption)) | (with_reducible refine AtL.alloc ?_ _) | (with_reducible refine AtL.far ?_ ?_ _ _) | omega | (simp; done) | (simp; omega))
        have rd_a0wX0 : RdRing wX0 (w.heap.size) a0A a0d := by repeat' (first | with_reducible assumption | (with_reducible refine RdRing.drew ?_) | (with_reducible refine RdRing.carry ?_ (by with_reducible assumption) ?_) | (with_reducible refine RdRing.alloc ?_ ?_ _) | (with_reducible refine RdRing.setCell ?_ ?_ _) | omega | (simp; done) | (simp; omega))
        have bx_bwX0 : AtL (w.heap.size + 1) [.slice b0A b0d.length b0c] wX0 := by repeat' (first | with_reducible assumption | with_reducible exact AtL.new _ _ _ | ((with_reducible refine AtL.newAt ?_); (first | rfl | (simp; done))) | (with_reducible refine AtL.drew ?_) | (with_reducible refine AtL.below ?_ (by with_reducible assumption)) | (with_reducible refine AtL.alloc ?_ _) | (with_reducible refine AtL.far ?_ ?_ _ _) | omega | (simp; done) | (simp; omega))
        have rd_b0wX0 : RdRing wX0 (w.heap.size) b0A b0d := by repeat' (first | with_reducible assumption | (with_reducible refine RdRing.drew ?_) | (with_reducible refine RdRing.carry ?_ (by with_reducible assumption) ?_) | (with_reducible refine RdRing.alloc ?_ ?_ _) | (with_reducible refine RdRing.setCell ?_ ?_ _) | omega | (simp; done) | (simp; omega))
        have r1wX0 : RdRing wX0 (wC.heap.size) Aw l := by repeat' (first | with_reducible assumption | (with_reducible refine RdRing.drew ?_) | (with_reducible refine RdRing.carry ?_ (by with_reducible assumption) ?_) | (with_reducible refine RdRing.alloc ?_ ?_ _) | (with_reducible refine RdRing.setCell ?_ ?_ _) | omega | (simp; done) | (simp; omega))
        have bx_wwX0 : AtL (qw) [.slice Aw l.length cw] wX0 := by repeat' (first | with_reducible assumption | with_reducible exact AtL.new _ _ _ | ((with_reducible refine AtL.newAt ?_); (first | rfl | (simp; done))) | (with_reducible refine AtL.drew ?_) | (with_reducible refine AtL.below ?_ (by with_reducible assumption)) | (with_reducible refine AtL.alloc ?_ _) | (with_reducible refine AtL.far ?_ ?_ _ _) | omega | (simp; done) | (simp; omega))
        have bp := bwC.out
        have bn : Below w.heap.size w wX0 := by repeat' (first | with_reducible assumption | with_reducible exact Below.refl _ _ | (with_reducible refine Below.setCell ?_ ?_ _) | (with_reducible refine Below.alloc ?_ ?_ _) | (with_reducible refine Below.drew ?_) | (with_reducible refine below_dr ?_ _) | (with_reducible refine Below.trans ?_ (Below.mono (by with_reducible assumption) ?_)) | omega | (simp; done) | (simp; omega))
        have bwX0 := Lib.hid bn
        clear bn
        clear bp bwC
        clear hbwX0
        clear bx_awC
        clear rd_a0wC
        clear bx_bwC
        clear rd_b0wC
        clear r1wC
        clear bx_wwC
        have zcx0 : wC.heap.size ≤ wX0.heap.size := by omega
        have ox0wX0 := owX.wide (lo' := wC.heap.size) (hi' := wX0.heap.size) (by first | exact Nat.le_refl _ | (simp; done) | (simp; omega)) (Nat.le_refl _)
        clear owX
        have rx0wX0 : RdRing wX0 (wX0.heap.size) (some ⟨gX0, 0, none⟩) a0d := ox0wX0.rd
        have kbx_b0 := bx_bwX0.cell 0 rfl
        have lbx_b := bx_bwX0.lt
        go_wp2_with fail
        clear kbx_b0 lbx_b
        refine (toRegion_own b0d b0A b0c _ hl_b0 HIN_b0.out ?_).mono ?_
        · (refine RdRing.more (B := w.heap.size) ?_ (by first | omega | ((try simp only [World.size_setCell]); (try simp only [World.size_drew]); (try simp only [World.size_alloc]); omega) | (simp; done) | (simp; omega))); (repeat' (first | with_reducible assumption | (with_reducible refine RdRing.drew ?_) | (with_reducible refine RdRing.carry ?_ (by with_reducible assumption) ?_) | (with_reducible refine RdRing.alloc ?_ ?_ _) | (with_reducible refine RdRing.setCell ?_ ?_ _) | omega | (simp; done) | (simp; omega)))
        intro e wX1 hq
        obtain ⟨gX1, rfl, owX, hbwX1⟩ := hq
        have zwX1 := hbwX1.size
        (try simp only [World.size_setCell] at zwX1)
        (try simp only [World.size_drew] at zwX1)
        (try simp only [World.size_alloc] at zwX1)
        have qwX1 : w.heap.size ≤ wX1.heap.size := by omega
        have bx_awX1 : AtL (w.heap.size) [.slice a0A a0d.length a0c] wX1 := by repeat' (first | with_reducible assumption | with_reducible exact AtL.new _ _ _ | ((with_reducible refine AtL.newAt ?_); (first | rfl | (simp; done))) | (with_reducible refine AtL.drew ?_) | (with_reducible refine AtL.below ?_ (by with_reducible assumption)) | (with_reducible refine AtL.alloc ?_ _) | (with_reducible refine AtL.far ?_ ?_ _ _) | omega | (simp; done) | (simp; omega))
        have rd_a0wX1 : RdRing wX1 (w.heap.size) a0A a0d := by repeat' (first | with_reducible assumption | (with_reducible refine RdRing.drew ?_) | (with_reducible refine RdRing.carry ?_ (by with_reducible assumption) ?_) | (with_reducible refine RdRing.alloc ?_ ?_ _) | (with_reducible refine RdRing.setCell ?_ ?_ _) | omega | (simp; done) | (simp; omega))
        have bx_bwX1 : AtL (w.heap.size + 1) [.slice b0A b0d.length b0c] wX1 := by repeat' (first | with_reducible assumption | with_reducible exact AtL.new _ _ _ | ((with_reducible refine AtL.newAt ?_); (first | rfl | (simp; done))) | (with_reducible refine AtL.drew ?_) | (with_reducible refine AtL.below ?_ (by with_reducible assumption)) | (with_reducible refine AtL.alloc ?_ _) | (with_reducible refine AtL.far ?_ ?_ _ _) | omega | (simp; done) | (simp; omega))
        have rd_b0wX1 : RdRing wX1 (w.heap.size) b0A b0d := by repeat' (first | with_reducible assumption | (with_reducible refine RdRing.drew ?_) | (with_reducible refine RdRing.carry ?_ (by with_reducible assumption) ?_) | (with_reducible refine RdRing.alloc ?_ ?_ _) | (with_reducible refine RdRing.setCell ?_ ?_ _) | omega | (simp; done) | (simp; omega))
        have r1wX1 : RdRing wX1 (wC.heap.size) Aw l := by repeat' (first | with_reducible assumption | (with_reducible refine RdRing.drew ?_) | (with_reducible refine RdRing.carry ?_ (by with_reducible assumption) ?_) | (with_reducible refine RdRing.alloc ?_ ?_ _) | (with_reducible refine RdRing.setCell ?_ ?_ _) | omega | (simp; done) | (simp; omega))
        have bx_wwX1 : AtL (qw) [.slice Aw l.length cw] wX1 := by repeat' (first | with_reducible assumption | with_reducible exact AtL.new _ _ _ | ((with_reducible refine AtL.newAt ?_); (first | rfl | (simp; done))) | (with_reducible refine AtL.drew ?_) | (with_reducible refine AtL.below ?_ (by with_reducible assumption)) | (with_reducible refine AtL.alloc ?_ _) | (with_reducible refine AtL.far ?_ ?_ _ _) | omega | (simp; done) | (simp; omega))
        have rx0wX1 : RdRing wX1 (wX0.heap.size) (some ⟨gX0, 0, none⟩) a0d := by repeat' (first | with_reducible assumption | (with_reducible refine RdRing.drew ?_) | (with_reducible refine RdRing.carry ?_ (by with_reducible assumption) ?_) | (with_reducible refine RdRing.alloc ?_ ?_ _) | (with_reducible refine RdRing.setCell ?_ ?_ _) | omega | (simp; done) | (simp; omega))
        have ox0wX1 : OwnRing wX1 (wC.heap.size) (wX0.heap.size) (some ⟨gX0, 0, none⟩) a0d.length (a0d) := by repeat' (first | with_reducible assumption | (with_reducible refine OwnRing.drew ?_) | (with_reducible refine OwnRing.carry ?_ (by with_reducible assumption)) | (with_reducible refine OwnRing.alloc ?_ _) | (with_reducible refine OwnRing.set_far ?_ ?_ _) | omega | (simp; done) | (simp; omega))
        have at_x0wX1 : AtL (wX0.heap.size) [.slice (some ⟨gX0, 0, none⟩) a0d.length a0d.length] wX1 := by repeat' (first | with_reducible assumption | with_reducible exact AtL.new _ _ _ | ((with_reducible refine AtL.newAt ?_); (first | rfl | (simp; done))) | (with_reducible refine AtL.drew ?_) | (with_reducible refine AtL.below ?_ (by with_reducible assumption)) | (with_reducible refine AtL.alloc ?_ _) | (with_reducible refine AtL.far ?_ ?_ _ _) | omega | (simp; done) | (simp; omega))
        have bp := bwX0.out
        have bn : Below w.heap.size w wX1 := by repeat' (first | with_reducible assumption | with_reducible exact Below.refl _ _ | (with_reducible refine Below.setCell ?_ ?_ _) | (with_reducible refine Below.alloc ?_ ?_ _) | (with_reducible refine Below.drew ?_) | (with_reducible refine below_dr ?_ _) | (with_reducible refine Below.trans ?_ (Below.mono (by with_reducible assumption) ?_)) | omega | (simp; done) | (simp; omega))
        have bwX1 := Lib.hid bn
        clear bn
        clear bp bwX0
        clear hbwX1
        clear bx_awX0
        clear rd_a0wX0
        clear bx_bwX0
        clear rd_b0wX0
        clear r1wX0
        clear bx_wwX0
        clear rx0wX0
        clear ox0wX0
        have zcx1 : wX0.heap.size ≤ wX1.heap.size := by omega
        have ox1wX1 := owX.wide (lo' := wX0.heap.size + 1) (hi' := wX1.heap.size) (by first | exact Nat.le_refl _ | (simp; done) | (simp; omega)) (Nat.le_refl _)
        clear owX
        have rx1wX1 : RdRing wX1 (wX1.heap.size) (some ⟨gX1, 0, none⟩) b0d := ox1wX1.rd
        have kat_x00 := at_x0wX1.cell 0 rfl
        have lat_x0 := at_x0wX1.lt
        go_wp2_with fail
        clear kat_x00 lat_x0
        refine (C2.out (some ⟨gX0, 0, none⟩) a0d.length (some ⟨gX1, 0, none⟩) b0d.length _ ?_ ?_).mono ?_
        · (refine RdRing.more (B := wX0.heap.size) ?_ (by first | omega | ((try simp only [World.size_setCell]); (try simp only [World.size_drew]); (try simp only [World.size_alloc]); omega) | (simp; done) | (simp; omega))); (repeat' (first | with_reducible assumption | (with_reducible refine RdRing.drew ?_) | (with_reducible refine RdRing.carry ?_ (by with_reducible assumption) ?_) | (with_reducible refine RdRing.alloc ?_ ?_ _) | (with_reducible refine RdRing.setCell ?_ ?_ _) | omega | (simp; done) | (simp; omega)))
        · (refine RdRing.more (B := wX1.heap.size) ?_ (by first | omega | ((try simp only [World.size_setCell]); (try simp only [World.size_drew]); (try simp only [World.size_alloc]); omega) | (simp; done) | (simp; omega))); (repeat' (first | with_reducible assumption | (with_reducible refine RdRing.drew ?_) | (with_reducible refine RdRing.carry ?_ (by with_reducible assumption) ?_) | (with_reducible refine RdRing.alloc ?_ ?_ _) | (with_reducible refine RdRing.setCell ?_ ?_ _) | omega | (simp; done) | (simp; omega)))
        intro e wD hq
        obtain ⟨Ag, cg, rfl, owg, hbwD⟩ := hq
        have zwD := hbwD.size
        (try simp only [World.size_setCell] at zwD)
        (try simp only [World.size_drew] at zwD)
        (try simp only [World.size_alloc] at zwD)
        have qwD : w.heap.size ≤ wD.heap.size := by omega
        have bx_awD : AtL (w.heap.size) [.slice a0A a0d.length a0c] wD := by repeat' (first | with_reducible assumption | with_reducible exact AtL.new _ _ _ | ((with_reducible refine AtL.newAt ?_); (first | rfl | (simp; done))) | (with_reducible refine AtL.drew ?_) | (with_reducible refine AtL.below ?_ (by with_reducible assumption)) | (with_reducible refine AtL.alloc ?_ _) | (with_reducible refine AtL.far ?_ ?_ _ _) | omega | (simp; done) | (simp; omega))
        have rd_a0wD : RdRing wD (w.heap.size) a0A a0d := by repeat' (first | with_reducible assumption | (with_reducible refine RdRing.drew ?_) | (with_reducible refine RdRing.carry ?_ (by with_reducible assumption) ?_) | (with_reducible refine RdRing.alloc ?_ ?_ _) | (with_reducible refine RdRing.setCell ?_ ?_ _) | omega | (simp; done) | (simp; omega))
        have bx_bwD : AtL (w.heap.size + 1) [.slice b0A b0d.length b0c] wD := by repeat' (first | with_reducible assumption | with_reducible exact AtL.new _ _ _ | ((with_reducible refine AtL.newAt ?_); (first | rfl | (simp; done))) | (with_reducible refine AtL.drew ?_) | (with_reducible refine AtL.below ?_ (by with_reducible assumption)) | (with_reducible refine AtL.alloc ?_ _) | (with_reducible refine AtL.far ?_ ?_ _ _) | omega | (simp; done) | (simp; omega))
        have rd_b0wD : RdRing wD (w.heap.size) b0A b0d := by repeat' (first | with_reducible assumption | (with_reducible refine RdRing.drew ?_) | (with_reducible refine RdRing.carry ?_ (by with_reducible assumption) ?_) | (with_reducible refine RdRing.alloc ?_ ?_ _) | (with_reducible refine RdRing.setCell ?_ ?_ _) | omega | (simp; done) | (simp; omega))
        have r1wD : RdRing wD (wC.heap.size) Aw l := by repeat' (first | with_reducible assumption | (with_reducible refine RdRing.drew ?_) | (with_reducible refine RdRing.carry ?_ (by with_reducible assumption) ?_) | (with_reducible refine RdRing.alloc ?_ ?_ _) | (with_reducible refine RdRing.setCell ?_ ?_ _) | omega | (simp; done) | (simp; omega))
        have bx_wwD : AtL (qw) [.slice Aw l.length cw] wD := by repeat' (first | with_reducible assumption | with_reducible exact AtL.new _ _ _ | ((with_reducible refine AtL.newAt ?_); (first | rfl | (simp; done))) | (with_reducible refine AtL.drew ?_) | (with_reducible refine AtL.below ?_ (by with_reducible assumption)) | (with_reducible refine AtL.alloc ?_ _) | (with_reducible refine AtL.far ?_ ?_ _ _) | omega | (simp; done) | (simp; omega))
        have rx0wD : RdRing wD (wX0.heap.size) (some ⟨gX0, 0, none⟩) a0d := by repeat' (first | with_reducible assumption | (with_reducible refine RdRing.drew ?_) | (with_reducible refine RdRing.carry ?_ (by with_reducible assumption) ?_) | (with_reducible refine RdRing.alloc ?_ ?_ _) | (with_reducible refine RdRing.setCell ?_ ?_ _) | omega | (simp; done) | (simp; omega))
        have ox0wD : OwnRing wD (wC.heap.size) (wX0.heap.size) (some ⟨gX0, 0, none⟩) a0d.length (a0d) := by repeat' (first | with_reducible assumption | (with_reducible refine OwnRing.drew ?_) | (with_reducible refine OwnRing.carry ?_ (by with_reducible assumption)) | (with_reducible refine OwnRing.alloc ?_ _) | (with_reducible refine OwnRing.set_far ?_ ?_ _) | omega | (simp; done) | (simp; omega))
        have at_x0wD : AtL (wX0.heap.size) [.slice (some ⟨gX0, 0, none⟩) a0d.length a0d.length] wD := by repeat' (first | with_reducible assumption | with_reducible exact AtL.new _ _ _ | ((with_reducible refine AtL.newAt ?_); (first | rfl | (simp; done))) | (with_reducible refine AtL.drew ?_) | (with_reducible refine AtL.below ?_ (by with_reducible assumption)) | (with_reducible refine AtL.alloc ?_ _) | (with_reducible refine AtL.far ?_ ?_ _ _) | omega | (simp; done) | (simp; omega))
        have rx1wD : RdRing wD (wX1.heap.size) (some ⟨gX1, 0, none⟩) b0d := by repeat' (first | with_reducible assumption | (with_reducible refine RdRing.drew ?_) | (with_reducible refine RdRing.carry ?_ (by with_reducible assumption) ?_) | (with_reducible refine RdRing.alloc ?_ ?_ _) | (with_reducible refine RdRing.setCell ?_ ?_ _) | omega | (simp; done) | (simp; omega))
        have ox1wD : OwnRing wD (wX0.heap.size + 1) (wX1.heap.size) (some ⟨gX1, 0, none⟩) b0d.length (b0d) := by repeat' (first | with_reducible assumption | (with_reducible refine OwnRing.drew ?_) | (with_reducible refine OwnRing.carry ?_ (by with_reducible assumption)) | (with_reducible refine OwnRing.alloc ?_ _) | (with_reducible refine OwnRing.set_far ?_ ?_ _) | omega | (simp; done) | (simp; omega))
        have at_x1wD : AtL (wX1.heap.size) [.slice (some ⟨gX1, 0, none⟩) b0d.length b0d.length] wD := by repeat' (first | with_reducible assumption | with_reducible exact AtL.new _ _ _ | ((with_reducible refine AtL.newAt ?_); (first | rfl | (simp; done))) | (with_reducible refine AtL.drew ?_) | (with_reducible refine AtL.below ?_ (by with_reducible assumption)) | (with_reducible refine AtL.alloc ?_ _) | (with_reducible refine AtL.far ?_ ?_ _ _) | omega | (simp; done) | (simp; omega))
        have bp := bwX1.out
        have bn : Below w.heap.size w wD := by repeat' (first | with_reducible assumption | with_reducible exact Below.refl _ _ | (with_reducible refine Below.setCell ?_ ?_ _) | (with_reducible refine Below.alloc ?_ ?_ _) | (with_reducible refine Below.drew ?_) | (with_reducible refine below_dr ?_ _) | (with_reducible refine Below.trans ?_ (Below.mono (by with_reducible assumption) ?_)) | omega | (simp; done) | (simp; omega))
        have bwD := Lib.hid bn
        clear bn
        clear bp bwX1
        clear hbwD
        clear bx_awX1
        clear rd_a0wX1
        clear bx_bwX1
        clear rd_b0wX1
        clear r1wX1
        clear bx_wwX1
        clear rx0wX1
        clear ox0wX1
        clear at_x0wX1
        clear rx1wX1
        clear ox1wX1
        have zxd : wX1.heap.size < wD.heap.size := at_x1wD.lt
        have ogwD := owg.wide (lo' := wX1.heap.size + 1) (hi' := wD.heap.size) (by first | exact Nat.le_refl _ | (simp; done) | (simp; omega)) (Nat.le_refl _)
        clear owg
        have kbx_w0 := bx_wwD.cell 0 rfl
        have lbx_w := bx_wwD.lt
        go_wp2_with fail
        clear kbx_w0 lbx_w
        refine (eqRegion_same Ag cg l Aw cw _ (by omega) (fun i d h => Nat.le_trans (HIN_r.out i d h) (by omega)) ?_ ?_).mono ?_
        · exact OwnRing.rd (lo := wX1.heap.size + 1) (hi := wD.heap.size) (c := cg) (by repeat' (first | with_reducible assumption | (with_reducible refine OwnRing.drew ?_) | (with_reducible refine OwnRing.carry ?_ (by with_reducible assumption)) | (with_reducible refine OwnRing.alloc ?_ _) | (with_reducible refine OwnRing.set_far ?_ ?_ _) | omega | (simp; done) | (simp; omega)))
        · refine RdRing.more (B := wC.heap.size) ?_ (by (try simp only [World.size_drew]); (try simp only [World.size_alloc]); omega)
          repeat' (first | with_reducible assumption | (with_reducible refine RdRing.drew ?_) | (with_reducible refine RdRing.carry ?_ (by with_reducible assumption) ?_) | (with_reducible refine RdRing.alloc ?_ ?_ _) | (with_reducible refine RdRing.setCell ?_ ?_ _) | omega | (simp; done) | (simp; omega))
        rintro e wE ⟨rfl, hbwE⟩
        have zwE := hbwE.size
        (try simp only [World.size_setCell] at zwE)
        (try simp only [World.size_drew] at zwE)
        (try simp only [World.size_alloc] at zwE)
        have qwE : w.heap.size ≤ wE.heap.size := by omega
        have bx_awE : AtL (w.heap.size) [.slice a0A a0d.length a0c] wE := by repeat' (first | with_reducible assumption | with_reducible exact AtL.new _ _ _ | ((with_reducible refine AtL.newAt ?_); (first | rfl | (simp; done))) | (with_reducible refine AtL.drew ?_) | (with_reducible refine AtL.below ?_ (by with_reducible assumption)) | (with_reducible refine AtL.alloc ?_ _) | (with_reducible refine AtL.far ?_ ?_ _ _) | omega | (simp; done) | (simp; omega))
        have rd_a0wE : RdRing wE (w.heap.size) a0A a0d := by repeat' (first | with_reducible assumption | (with_reducible refine RdRing.drew ?_) | (with_reducible refine RdRing.carry ?_ (by with_reducible assumption) ?_) | (with_reducible refine RdRing.alloc ?_ ?_ _) | (with_reducible refine RdRing.setCell ?_ ?_ _) | omega | (simp; done) | (simp; omega))
        have bx_bwE : AtL (w.heap.size + 1) [.slice b0A b0d.length b0c] wE := by repeat' (first | with_reducible assumption | with_reducible exact AtL.new _ _ _ | ((with_reducible refine AtL.newAt ?_); (first | rfl | (simp; done))) | (with_reducible refine AtL.drew ?_) | (with_reducible refine AtL.below ?_ (by with_reducible assumption)) | (with_reducible refine AtL.alloc ?_ _) | (with_reducible refine AtL.far ?_ ?_ _ _) | omega | (simp; done) | (simp; omega))
        have rd_b0wE : RdRing wE (w.heap.size) b0A b0d := by repeat' (first | with_reducible assumption | (with_reducible refine RdRing.drew ?_) | (with_reducible refine RdRing.carry ?_ (by with_reducible assumption) ?_) | (with_reducible refine RdRing.alloc ?_ ?_ _) | (with_reducible refine RdRing.setCell ?_ ?_ _) | omega | (simp; done) | (simp; omega))
        have r1wE : RdRing wE (wC.heap.size) Aw l := by repeat' (first | with_reducible assumption | (with_reducible refine RdRing.drew ?_) | (with_reducible refine RdRing.carry ?_ (by with_reducible assumption) ?_) | (with_reducible refine RdRing.alloc ?_ ?_ _) | (with_reducible refine RdRing.setCell ?_ ?_ _) | omega | (simp; done) | (simp; omega))
        have bx_wwE : AtL (qw) [.slice Aw l.length cw] wE := by repeat' (first | with_reducible assumption | with_reducible exact AtL.new _ _ _ | ((with_reducible refine AtL.newAt ?_); (first | rfl | (simp; done))) | (with_reducible refine AtL.drew ?_) | (with_reducible refine AtL.below ?_ (by with_reducible assumption)) | (with_reducible refine AtL.alloc ?_ _) | (with_reducible refine AtL.far ?_ ?_ _ _) | omega | (simp; done) | (simp; omega))
        have rx0wE : RdRing wE (wX0.heap.size) (some ⟨gX0, 0, none⟩) a0d := by repeat' (first | with_reducible assumption | (with_reducible refine RdRing.drew ?_) | (with_reducible refine RdRing.carry ?_ (by with_reducible assumption) ?_) | (with_reducible refine RdRing.alloc ?_ ?_ _) | (with_reducible refine RdRing.setCell ?_ ?_ _) | omega | (simp; done) | (simp; omega))
        have ox0wE : OwnRing wE (wC.heap.size) (wX0.heap.size) (some ⟨gX0, 0, none⟩) a0d.length (a0d) := by repeat' (first | with_reducible assumption | (with_reducible refine OwnRing.drew ?_) | (with_reducible refine OwnRing.carry ?_ (by with_reducible assumption)) | (with_reducible refine OwnRing.alloc ?_ _) | (with_reducible refine OwnRing.set_far ?_ ?_ _) | omega | (simp; done) | (simp; omega))
        have at_x0wE : AtL (wX0.heap.size) [.slice (some ⟨gX0, 0, none⟩) a0d.length a0d.length] wE := by repeat' (first | with_reducible assumption | with_reducible exact AtL.new _ _ _ | ((with_reducible refine AtL.newAt ?_); (first | rfl | (simp; done))) | (with_reducible refine AtL.drew ?_) | (with_reducible refine AtL.below ?_ (by with_reducible assumption)) | (with_reducible refine AtL.alloc ?_ _) | (with_reducible refine AtL.far ?_ ?_ _ _) | omega | (simp; done) | (simp; omega))
        have rx1wE : RdRing wE (wX1.heap.size) (some ⟨gX1, 0, none⟩) b0d := by repeat' (first | with_reducible assumption | (with_reducible refine RdRing.drew ?_) | (with_reducible refine RdRing.carry ?_ (by with_reducible assumption) ?_) | (with_reducible refine RdRing.alloc ?_ ?_ _) | (with_reducible refine RdRing.setCell ?_ ?_ _) | omega | (simp; done) | (simp; omega))
        have ox1wE : OwnRing wE (wX0.heap.size + 1) (wX1.heap.size) (some ⟨gX1, 0, none⟩) b0d.length (b0d) := by repeat' (first | with_reducible assumption | (with_reducible refine OwnRing.drew ?_) | (with_reducible refine OwnRing.carry ?_ (by with_reducible assumption)) | (with_reducible refine OwnRing.alloc ?_ _) | (with_reducible refine OwnRing.set_far ?_ ?_ _) | omega | (simp; done) | (simp; omega))
        have at_x1wE : AtL (wX1.heap.size) [.slice (some ⟨gX1, 0, none⟩) b0d.length b0d.length] wE := by repeat' (first | with_reducible assumption | with_reducible exact AtL.new _ _ _ | ((with_reducible refine AtL.newAt ?_); (first | rfl | (simp; done))) | (with_reducible refine AtL.drew ?_) | (with_reducible refine AtL.below ?_ (by with_reducible assumption)) | (with_reducible refine AtL.alloc ?_ _) | (with_reducible refine AtL.far ?_ ?_ _ _) | omega | (simp; done) | (simp; omega))
        have ogwE : OwnRing wE (wX1.heap.size + 1) (wD.heap.size) Ag cg (l) := by repeat' (first | with_reducible assumption | (with_reducible refine OwnRing.drew ?_) | (with_reducible refine OwnRing.carry ?_ (by with_reducible assumption)) | (with_reducible refine OwnRing.alloc ?_ _) | (with_reducible refine OwnRing.set_far ?_ ?_ _) | omega | (simp; done) | (simp; omega))
        have bx_gwE : AtL (wD.heap.size) [.slice Ag l.length cg] wE := by repeat' (first | with_reducible assumption | with_reducible exact AtL.new _ _ _ | ((with_reducible refine AtL.newAt ?_); (first | rfl | (simp; done))) | (with_reducible refine AtL.drew ?_) | (with_reducible refine AtL.below ?_ (by with_reducible assumption)) | (with_reducible refine AtL.alloc ?_ _) | (with_reducible refine AtL.far ?_ ?_ _ _) | omega | (simp; done) | (simp; omega))
        have bp := bwD.out
        have bn : Below w.heap.size w wE := by repeat' (first | with_reducible assumption | with_reducible exact Below.refl _ _ | (with_reducible refine Below.setCell ?_ ?_ _) | (with_reducible refine Below.alloc ?_ ?_ _) | (with_reducible refine Below.drew ?_) | (with_reducible refine below_dr ?_ _) | (with_reducible refine Below.trans ?_ (Below.mono (by with_reducible assumption) ?_)) | omega | (simp; done) | (simp; omega))
        have bwE := Lib.hid bn
        clear bn
        clear bp bwD
        clear hbwE
        clear bx_awD
        clear rd_a0wD
        clear bx_bwD
        clear rd_b0wD
        clear r1wD
        clear bx_wwD
        clear rx0wD
        clear ox0wD
        clear at_x0wD
        clear rx1wD
        clear ox1wD
        clear at_x1wD
        clear ogwD
        have zde : wD.heap.size < wE.heap.size := bx_gwE.lt
        have kat_x00 := at_x0wE.cell 0 rfl
        have lat_x0 := at_x0wE.lt
        have kbx_a0 := bx_awE.cell 0 rfl
        have lbx_a := bx_awE.lt
        go_wp2_with fail
        go_region_held3 (fun w' => (∀ b o, b < wE.heap.size → w'.cell? ⟨b, o, none⟩ = wE.cell? ⟨b, o, none⟩) ∧ wE.heap.size ≤ w'.heap.size)
          (first | ((try dsimp only); exact ⟨fun b o h => (by (repeat (first | with_reducible exact rfl | (with_reducible refine (cell_drew_at _ _).trans ?_) | (with_reducible refine (cell_set_at _ _ (by first | omega | (simp; done) | (simp; omega))).trans ?_) | (with_reducible refine (cell_alloc_at _ _ (by first | omega | (simp; done) | (simp; omega))).trans ?_) | (with_reducible refine (hcwT0 b o (by first | omega | (simp; done) | (simp; omega))).trans ?_) | (with_reducible refine (hcwG0 b o (by first | omega | (simp; done) | (simp; omega))).trans ?_)))), (by first | omega | (simp; done) | (simp; omega))⟩) | fail)
          (first
            | (go_at_call 16; (with_reducible refine (toRegion_any a0A a0c a0d _ hl_a0 HIN_a0.out ?_).mono ?_); (focus ((refine RdRing.more (B := w.heap.size) ?_ (by first | omega | ((try simp only [World.size_setCell]); (try simp only [World.size_drew]); (try simp only [World.size_alloc]); omega) | (simp; done) | (simp; omega))); (repeat' (first | with_reducible assumption | (with_reducible refine RdRing.drew ?_) | (with_reducible refine RdRing.carry ?_ (by with_reducible assumption) ?_) | (with_reducible refine RdRing.alloc ?_ ?_ _) | (with_reducible refine RdRing.setCell ?_ ?_ _) | omega | (simp; done) | (simp; omega))))); intro e wT0 hq; obtain ⟨g_owE0_a0, rfl, owE0_a0, hbwT0⟩ := hq; obtain ⟨hcwT0, hfwT0⟩ := bcell hbwT0; have hzwT0 := hbwT0.size; (try simp only [World.size_drew] at hcwT0 hfwT0 hzwT0); (try simp only [World.size_alloc] at hcwT0 hfwT0 hzwT0))
            | (go_at_call 18; (with_reducible refine (eqRegion_same (some ⟨gX0, 0, none⟩) a0d.length a0d (some ⟨g_owE0_a0, 0, none⟩) a0d.length _ (by omega) (fun i d h => Nat.le_trans (HIN_a0.out i d h) (by omega)) ?_ ?_).mono ?_); (focus ((refine RdRing.more (B := wX0.heap.size) ?_ (by first | omega | ((try simp only [World.size_setCell]); (try simp only [World.size_drew]); (try simp only [World.size_alloc]); omega) | (simp; done) | (simp; omega))); (repeat' (first | with_reducible assumption | (with_reducible refine RdRing.drew ?_) | (with_reducible refine RdRing.carry ?_ (by with_reducible assumption) ?_) | (with_reducible refine RdRing.alloc ?_ ?_ _) | (with_reducible refine RdRing.setCell ?_ ?_ _) | omega | (simp; done) | (simp; omega))))); (focus ((first | exact owE0_a0.here | exact RdRing.drew owE0_a0.here))); rintro e wG0 ⟨rfl, hbwG0⟩; obtain ⟨hcwG0, hfwG0⟩ := bcell hbwG0; have hzwG0 := hbwG0.size; (try simp only [World.size_drew] at hcwG0 hfwG0 hzwG0); (try simp only [World.size_alloc] at hcwG0 hfwG0 hzwG0)))
        clear kat_x00 lat_x0
        clear kbx_a0 lbx_a
        all_goals
          have zwG0 := hbwG0.size
          (try simp only [World.size_setCell] at zwG0)
          (try simp only [World.size_drew] at zwG0)
          (try simp only [World.size_alloc] at zwG0)
          have qwG0 : w.heap.size ≤ wG0.heap.size := by omega
          have bx_awG0 : AtL (w.heap.size) [.slice a0A a0d.length a0c] wG0 := by repeat' (first | with_reducible assumption | with_reducible exact AtL.new _ _ _ | ((with_reducible refine AtL.newAt ?_); (first | rfl | (simp; done))) | (with_reducible refine AtL.drew ?_) | (with_reducible refine AtL.below ?_ (by with_reducible assumption)) | (with_reducible refine AtL.alloc ?_ _) | (with_reducible refine AtL.far ?_ ?_ _ _) | omega | (simp; done) | (simp; omega))
          have rd_a0wG0 : RdRing wG0 (w.heap.size) a0A a0d := by repeat' (first | with_reducible assumption | (with_reducible refine RdRing.drew ?_) | (with_reducible refine RdRing.carry ?_ (by with_reducible assumption) ?_) | (with_reducible refine RdRing.alloc ?_ ?_ _) | (with_reducible refine RdRing.setCell ?_ ?_ _) | omega | (simp; done) | (simp; omega))
          have bx_bwG0 : AtL (w.heap.size + 1) [.slice b0A b0d.length b0c] wG0 := by repeat' (first | with_reducible assumption | with_reducible exact AtL.new _ _ _ | ((with_reducible refine AtL.newAt ?_); (first | rfl | (simp; done))) | (with_reducible refine AtL.drew ?_) | (with_reducible refine AtL.below ?_ (by with_reducible assumption)) | (with_reducible refine AtL.alloc ?_ _) | (with_reducible refine AtL.far ?_ ?_ _ _) | omega | (simp; done) | (simp; omega))
          have rd_b0wG0 : RdRing wG0 (w.heap.size) b0A b0d := by repeat' (first | with_reducible assumption | (with_reducible refine RdRing.drew ?_) | (with_reducible refine RdRing.carry ?_ (by with_reducible assumption) ?_) | (with_reducible refine RdRing.alloc ?_ ?_ _) | (with_reducible refine RdRing.setCell ?_ ?_ _) | omega | (simp; done) | (simp; omega))
          have r1wG0 : RdRing wG0 (wC.heap.size) Aw l := by repeat' (first | with_reducible assumption | (with_reducible refine RdRing.drew ?_) | (with_reducible refine RdRing.carry ?_ (by with_reducible assumption) ?_) | (with_reducible refine RdRing.alloc ?_ ?_ _) | (with_reducible refine RdRing.setCell ?_ ?_ _) | omega | (simp; done) | (simp; omega))
          have bx_wwG0 : AtL (qw) [.slice Aw l.length cw] wG0 := by repeat' (first | with_reducible assumption | with_reducible exact AtL.new _ _ _ | ((with_reducible refine AtL.newAt ?_); (first | rfl | (simp; done))) | (with_reducible refine AtL.drew ?_) | (with_reducible refine AtL.below ?_ (by with_reducible assumption)) | (with_reducible refine AtL.alloc ?_ _) | (with_reducible refine AtL.far ?_ ?_ _ _) | omega | (simp; done) | (simp; omega))
          have rx0wG0 : RdRing wG0 (wX0.heap.size) (some ⟨gX0, 0, none⟩) a0d := by repeat' (first | with_reducible assumption | (with_reducible refine RdRing.drew ?_) | (with_reducible refine RdRing.carry ?_ (by with_reducible assumption) ?_) | (with_reducible refine RdRing.alloc ?_ ?_ _) | (with_reducible refine RdRing.setCell ?_ ?_ _) | omega | (simp; done) | (simp; omega))
          have ox0wG0 : OwnRing wG0 (wC.heap.size) (wX0.heap.size) (some ⟨gX0, 0, none⟩) a0d.length (a0d) := by repeat' (first | with_reducible assumption | (with_reducible refine OwnRing.drew ?_) | (with_reducible refine OwnRing.carry ?_ (by with_reducible assumption)) | (with_reducible refine OwnRing.alloc ?_ _) | (with_reducible refine OwnRing.set_far ?_ ?_ _) | omega | (simp; done) | (simp; omega))
          have at_x0wG0 : AtL (wX0.heap.size) [.slice (some ⟨gX0, 0, none⟩) a0d.length a0d.length] wG0 := by repeat' (first | with_reducible assumption | with_reducible exact AtL.new _ _ _ | ((with_reducible refine AtL.newAt ?_); (first | rfl | (simp; done))) | (with_reducible refine AtL.drew ?_) | (with_reducible refine AtL.below ?_ (by with_reducible assumption)) | (with_reducible refine AtL.alloc ?_ _) | (with_reducible refine AtL.far ?_ ?_ _ _) | omega | (simp; done) | (simp; omega))
          have rx1wG0 : RdRing wG0 (wX1.heap.size) (some ⟨gX1, 0, none⟩) b0d := by repeat' (first | with_reducible assumption | (with_reducible refine RdRing.drew ?_) | (with_reducible refine RdRing.carry ?_ (by with_reducible assumption) ?_) | (with_reducible refine RdRing.alloc ?_ ?_ _) | (with_reducible refine RdRing.setCell ?_ ?_ _) | omega | (simp; done) | (simp; omega))
          have ox1wG0 : OwnRing wG0 (wX0.heap.size + 1) (wX1.heap.size) (some ⟨gX1, 0, none⟩) b0d.length (b0d) := by repeat' (first | with_reducible assumption | (with_reducible refine OwnRing.drew ?_) | (with_reducible refine OwnRing.carry ?_ (by with_reducible assumption)) | (with_reducible refine OwnRing.alloc ?_ _) | (with_reducible refine OwnRing.set_far ?_ ?_ _) | omega | (simp; done) | (simp; omega))
          have at_x1wG0 : AtL (wX1.heap.size) [.slice (some ⟨gX1, 0, none⟩) b0d.length b0d.length] wG0 := by repeat' (first | with_reducible assumption | with_reducible exact AtL.new _ _ _ | ((with_reducible refine AtL.newAt ?_); (first | rfl | (simp; done))) | (with_reducible refine AtL.drew ?_) | (with_reducible refine AtL.below ?_ (by with_reducible assumption)) | (with_reducible refine AtL.alloc ?_ _) | (with_reducible refine AtL.far ?_ ?_ _ _) | omega | (simp; done) | (simp; omega))
          have ogwG0 : OwnRing wG0 (wX1.heap.size + 1) (wD.heap.size) Ag cg (l) := by repeat' (first | with_reducible assumption | (with_reducible refine OwnRing.drew ?_) | (with_reducible refine OwnRing.carry ?_ (by with_reducible assumption)) | (with_reducible refine OwnRing.alloc ?_ _) | (with_reducible refine OwnRing.set_far ?_ ?_ _) | omega | (simp; done) | (simp; omega))
          have bx_gwG0 : AtL (wD.heap.size) [.slice Ag l.length cg] wG0 := by repeat' (first | with_reducible assumption | with_reducible exact AtL.new _ _ _ | ((with_reducible refine AtL.newAt ?_); (first | rfl | (simp; done))) | (with_reducible refine AtL.drew ?_) | (with_reducible refine AtL.below ?_ (by with_reducible assumption)) | (with_reducible refine AtL.alloc ?_ _) | (with_reducible refine AtL.far ?_ ?_ _ _) | omega | (simp; done) | (simp; omega))
          have bp := bwE.out
          have bn : Below w.heap.size w wG0 := by repeat' (first | with_reducible assumption | with_reducible exact Below.refl _ _ | (with_reducible refine Below.setCell ?_ ?_ _) | (with_reducible refine Below.alloc ?_ ?_ _) | (with_reducible refine Below.drew ?_) | (with_reducible refine below_dr ?_ _) | (with_reducible refine Below.trans ?_ (Below.mono (by with_reducible assumption) ?_)) | omega | (simp; done) | (simp; omega))
          have bwG0 := Lib.hid bn
          clear bn
          clear bp bwE
          clear hbwG0
          clear bx_awE
          clear rd_a0wE
          clear bx_bwE
          clear rd_b0wE
          clear r1wE
          clear bx_wwE
          clear rx0wE
          clear ox0wE
          clear at_x0wE
          clear rx1wE
          clear ox1wE
          clear at_x1wE
          clear ogwE
          clear bx_gwE
          clear hbwT0 hcwT0 hfwT0 hcwG0 hfwG0
          have kat_x10 := at_x1wG0.cell 0 rfl
          have lat_x1 := at_x1wG0.lt
          have kbx_b0 := bx_bwG0.cell 0 rfl
          have lbx_b := bx_bwG0.lt
          go_wp2_with fail
          go_region_held3 (fun w' => (∀ b o, b < wG0.heap.size → w'.cell? ⟨b, o, none⟩ = wG0.cell? ⟨b, o, none⟩) ∧ wG0.heap.size ≤ w'.heap.size)
            (first | ((try dsimp only); exact ⟨fun b o h => (by (repeat (first | with_reducible exact rfl | (with_reducible refine (cell_drew_at _ _).trans ?_) | (with_reducible refine (cell_set_at _ _ (by first | omega | (simp; done) | (simp; omega))).trans ?_) | (with_reducible refine (cell_alloc_at _ _ (by first | omega | (simp; done) | (simp; omega))).trans ?_) | (with_reducible refine (hcwT1 b o (by first | omega | (simp; done) | (simp; omega))).trans ?_) | (with_reducible refine (hcwG1 b o (by first | omega | (simp; done) | (simp; omega))).trans ?_)))), (by first | omega | (simp; done) | (simp; omega))⟩) | fail)
            (first
              | (go_at_call 16; (with_reducible refine (toRegion_any b0A b0c b0d _ hl_b0 HIN_b0.out ?_).mono ?_); (focus ((refine RdRing.more (B := w.heap.size) ?_ (by first | omega | ((try simp only [World.size_setCell]); (try simp only [World.size_drew]); (try simp only [World.size_alloc]); omega) | (simp; done) | (simp; omega))); (repeat' (first | with_reducible assumption | (with_reducible refine RdRing.drew ?_) | (with_reducible refine RdRing.carry ?_ (by with_reducible assumption) ?_) | (with_reducible refine RdRing.alloc ?_ ?_ _) | (with_reducible refine RdRing.setCell ?_ ?_ _) | omega | (simp; done) | (simp; omega))))); intro e wT1 hq; obtain ⟨g_owE1_b0, rfl, owE1_b0, hbwT1⟩ := hq; obtain ⟨hcwT1, hfwT1⟩ := bcell hbwT1; have hzwT1 := hbwT1.size; (try simp only [World.size_drew] at hcwT1 hfwT1 hzwT1); (try simp only [World.size_alloc] at hcwT1 hfwT1 hzwT1))
              | (go_at_call 18; (with_reducible refine (eqRegion_same (some ⟨gX1, 0, none⟩) b0d.length b0d (some ⟨g_owE1_b0, 0, none⟩) b0d.length _ (by omega) (fun i d h => Nat.le_trans (HIN_b0.out i d h) (by omega)) ?_ ?_).mono ?_); (focus ((refine RdRing.more (B := wX1.heap.size) ?_ (by first | omega | ((try simp only [World.size_setCell]); (try simp only [World.size_drew]); (try simp only [World.size_alloc]); omega) | (simp; done) | (simp; omega))); (repeat' (first | with_reducible assumption | (with_reducible refine RdRing.drew ?_) | (with_reducible refine RdRing.carry ?_ (by with_reducible assumption) ?_) | (with_reducible refine RdRing.alloc ?_ ?_ _) | (with_reducible refine RdRing.setCell ?_ ?_ _) | omega | (simp; done) | (simp; omega))))); (focus ((first | exact owE1_b0.here | exact RdRing.drew owE1_b0.here))); rintro e wG1 ⟨rfl, hbwG1⟩; obtain ⟨hcwG1, hfwG1⟩ := bcell hbwG1; have hzwG1 := hbwG1.size; (try simp only [World.size_drew] at hcwG1 hfwG1 hzwG1); (try simp only [World.size_alloc] at hcwG1 hfwG1 hzwG1)))
          clear kat_x10 lat_x1
          clear kbx_b0 lbx_b
          all_goals
            have zwG1 := hbwG1.size
            (try simp only [World.size_setCell] at zwG1)
            (try simp only [World.size_drew] at zwG1)
            (try simp only [World.size_alloc] at zwG1)
            have qwG1 : w.heap.size ≤ wG1.heap.size := by omega
            have bx_awG1 : AtL (w.heap.size) [.slice a0A a0d.length a0c] wG1 := by repeat' (first | with_reducible assumption | with_reducible exact AtL.new _ _ _ | ((with_reducible refine AtL.newAt ?_); (first | rfl | (simp; done))) | (with_reducible refine AtL.drew ?_) | (with_reducible refine AtL.below ?_ (by with_reducible assumption)) | (with_reducible refine AtL.alloc ?_ _) | (with_reducible refine AtL.far ?_ ?_ _ _) | omega | (simp; done) | (simp; omega))
            have rd_a0wG1 : RdRing wG1 (w.heap.size) a0A a0d := by repeat' (first | with_reducible assumption | (with_reducible refine RdRing.drew ?_) | (with_reducible refine RdRing.carry ?_ (by with_reducible assumption) ?_) | (with_reducible refine RdRing.alloc ?_ ?_ _) | (with_reducible refine RdRing.setCell ?_ ?_ _) | omega | (simp; done) | (simp; omega))
            have bx_bwG1 : AtL (w.heap.size + 1) [.slice b0A b0d.length b0c] wG1 := by repeat' (first | with_reducible assumption | with_reducible exact AtL.new _ _ _ | ((with_reducible refine AtL.newAt ?_); (first | rfl | (simp; done))) | (with_reducible refine AtL.drew ?_) | (with_reducible refine AtL.below ?_ (by with_reducible assumption)) | (with_reducible refine AtL.alloc ?_ _) | (with_reducible refine AtL.far ?_ ?_ _ _) | omega | (simp; done) | (simp; omega))
            have rd_b0wG1 : RdRing wG1 (w.heap.size) b0A b0d := by repeat' (first | with_reducible assumption | (with_reducible refine RdRing.drew ?_) | (with_reducible refine RdRing.carry ?_ (by with_reducible assumption) ?_) | (with_reducible refine RdRing.alloc ?_ ?_ _) | (with_reducible refine RdRing.setCell ?_ ?_ _) | omega | (simp; done) | (simp; omega))
            have r1wG1 : RdRing wG1 (wC.heap.size) Aw l := by repeat' (first | with_reducible assumption | (with_reducible refine RdRing.drew ?_) | (with_reducible refine RdRing.carry ?_ (by with_reducible assumption) ?_) | (with_reducible refine RdRing.alloc ?_ ?_ _) | (with_reducible refine RdRing.setCell ?_ ?_ _) | omega | (simp; done) | (simp; omega))
            have bx_wwG1 : AtL (qw) [.slice Aw l.length cw] wG1 := by repeat' (first | with_reducible assumption | with_reducible exact AtL.new _ _ _ | ((with_reducible refine AtL.newAt ?_); (first | rfl | (simp; done))) | (with_reducible refine AtL.drew ?_) | (with_reducible refine AtL.below ?_ (by with_reducible assumption)) | (with_reducible refine AtL.alloc ?_ _) | (with_reducible refine AtL.far ?_ ?_ _ _) | omega | (simp; done) | (simp; omega))
            have rx0wG1 : RdRing wG1 (wX0.heap.size) (some ⟨gX0, 0, none⟩) a0d := by repeat' (first | with_reducible assumption | (with_reducible refine RdRing.drew ?_) | (with_reducible refine RdRing.carry ?_ (by with_reducible assumption) ?_) | (with_reducible refine RdRing.alloc ?_ ?_ _) | (with_reducible refine RdRing.setCell ?_ ?_ _) | omega | (simp; done) | (simp; omega))
            have ox0wG1 : OwnRing wG1 (wC.heap.size) (wX0.heap.size) (some ⟨gX0, 0, none⟩) a0d.length (a0d) := by repeat' (first | with_reducible assumption | (with_reducible refine OwnRing.drew ?_) | (with_reducible refine OwnRing.carry ?_ (by with_reducible assumption)) | (with_reducible refine OwnRing.alloc ?_ _) | (with_reducible refine OwnRing.set_far ?_ ?_ _) | omega | (simp; done) | (simp; omega))
            have at_x0wG1 : AtL (wX0.heap.size) [.slice (some ⟨gX0, 0, none⟩) a0d.length a0d.length] wG1 := by repeat' (first | with_reducible assumption | with_reducible exact AtL.new _ _ _ | ((with_reducible refine AtL.newAt ?_); (first | rfl | (simp; done))) | (with_reducible refine AtL.drew ?_) | (with_reducible refine AtL.below ?_ (by with_reducible assumption)) | (with_reducible refine AtL.alloc ?_ _) | (with_reducible refine AtL.far ?_ ?_ _ _) | omega | (simp; done) | (simp; omega))
            have rx1wG1 : RdRing wG1 (wX1.heap.size) (some ⟨gX1, 0, none⟩) b0d := by repeat' (first | with_reducible assumption | (with_reducible refine RdRing.drew ?_) | (with_reducible refine RdRing.carry ?_ (by with_reducible assumption) ?_) | (with_reducible refine RdRing.alloc ?_ ?_ _) | (with_reducible refine RdRing.setCell ?_ ?_ _) | omega | (simp; done) | (simp; omega))
            have ox1wG1 : OwnRing wG1 (wX0.heap.size + 1) (wX1.heap.size) (some ⟨gX1, 0, none⟩) b0d.length (b0d) := by repeat' (first | with_reducible assumption | (with_reducible refine OwnRing.drew ?_) | (with_reducible refine OwnRing.carry ?_ (by with_reducible assumption)) | (with_reducible refine OwnRing.alloc ?_ _) | (with_reducible refine OwnRing.set_far ?_ ?_ _) | omega | (simp; done) | (simp; omega))
            have at_x1wG1 : AtL (wX1.heap.size) [.slice (some ⟨gX1, 0, none⟩) b0d.length b0d.length] wG1 := by repeat' (first | with_reducible assumption | with_reducible exact AtL.new _ _ _ | ((with_reducible refine AtL.newAt ?_); (first | rfl | (simp; done))) | (with_reducible refine AtL.drew ?_) | (with_reducible refine AtL.below ?_ (by with_reducible assumption)) | (with_reducible refine AtL.alloc ?_ _) | (with_reducible refine AtL.far ?_ ?_ _ _) | omega | (simp; done) | (simp; omega))
            have ogwG1 : OwnRing wG1 (wX1.heap.size + 1) (wD.heap.size) Ag cg (l) := by repeat' (first | with_reducible assumption | (with_reducible refine OwnRing.drew ?_) | (with_reducible refine OwnRing.carry ?_ (by with_reducible assumption)) | (with_reducible refine OwnRing.alloc ?_ _) | (with_reducible refine OwnRing.set_far ?_ ?_ _) | omega | (simp; done) | (simp; omega))
            have bx_gwG1 : AtL (wD.heap.size) [.slice Ag l.length cg] wG1 := by repeat' (first | with_reducible assumption | with_reducible exact AtL.new _ _ _ | ((with_reducible refine AtL.newAt ?_); (first | rfl | (simp; done))) | (with_reducible refine AtL.drew ?_) | (with_reducible refine AtL.below ?_ (by with_reducible assumption)) | (with_reducible refine AtL.alloc ?_ _) | (with_reducible refine AtL.far ?_ ?_ _ _) | omega | (simp; done) | (simp; omega))
            have bp := bwG0.out
            have bn : Below w.heap.size w wG1 := by repeat' (first | with_reducible assumption | with_reducible exact Below.refl _ _ | (with_reducible refine Below.setCell ?_ ?_ _) | (with_reducible refine Below.alloc ?_ ?_ _) | (with_reducible refine Below.drew ?_) | (with_reducible refine below_dr ?_ _) | (with_reducible refine Below.trans ?_ (Below.mono (by with_reducible assumption) ?_)) | omega | (simp; done) | (simp; omega))
            have bwG1 := Lib.hid bn
            clear bn
            clear bp bwG0
            clear hbwG1
            clear bx_awG0
            clear rd_a0wG0
            clear bx_bwG0
            clear rd_b0wG0
            clear r1wG0
            clear bx_wwG0
            clear rx0wG0
            clear ox0wG0
            clear at_x0wG0
            clear rx1wG0
            clear ox1wG0
            clear at_x1wG0
            clear ogwG0
            clear bx_gwG0
            clear hbwT1 hcwT1 hfwT1 hcwG1 hfwG1
            have kat_x00 := at_x0wG1.cell 0 rfl
            have lat_x0 := at_x0wG1.lt
            go_wp2_with fail
            clear kat_x00 lat_x0
            refine (markRegion_any 1 a0d (some ⟨gX0, 0, none⟩) a0d.length (wC.heap.size) (wX0.heap.size) _ (Nat.le_refl _) (HK10.out) (by omega) (by repeat' (first | with_reducible assumption | (with_reducible refine OwnRing.drew ?_) | (with_reducible refine OwnRing.carry ?_ (by with_reducible assumption)) | (with_reducible refine OwnRing.alloc ?_ _) | (with_reducible refine OwnRing.set_far ?_ ?_ _) | omega | (simp; done) | (simp; omega)))).mono ?_
            rw [← HM10.out]
            rintro e wH0 ⟨rfl, omwH0, hg⟩
            have zwH0 := hg.size
            (try simp only [World.size_drew] at zwH0)
            (try simp only [World.size_alloc] at zwH0)
            have qwH0 : w.heap.size ≤ wH0.heap.size := by omega
            have bp := bwG1.out
            have bn : Below w.heap.size w wH0 := by exact Below.mid (w := _) (by repeat' (first | with_reducible assumption | with_reducible exact Below.refl _ _ | (with_reducible refine Below.setCell ?_ ?_ _) | (with_reducible refine Below.alloc ?_ ?_ _) | (with_reducible refine Below.drew ?_) | (with_reducible refine below_dr ?_ _) | (with_reducible refine Below.trans ?_ (Below.mono (by with_reducible assumption) ?_)) | omega | (simp; done) | (simp; omega))) hg (by omega) (by (try simp only [World.size_drew]); (try simp only [World.size_alloc]); omega)
            have bwH0 := Lib.hid bn
            clear bn
            clear bp bwG1
            have bx_awH0 : AtL (w.heap.size) [.slice a0A a0d.length a0c] wH0 := AtL.mid (w := _) (by repeat' (first | with_reducible assumption | with_reducible exact AtL.new _ _ _ | ((with_reducible refine AtL.newAt ?_); (first | rfl | (simp; done))) | (with_reducible refine AtL.drew ?_) | (with_reducible refine AtL.below ?_ (by with_reducible assumption)) | (with_reducible refine AtL.alloc ?_ _) | (with_reducible refine AtL.far ?_ ?_ _ _) | omega | (simp; done) | (simp; omega))) hg (by omega)
            have rd_a0wH0 : RdRing wH0 (w.heap.size) a0A a0d := RdRing.mid (w := _) (by repeat' (first | with_reducible assumption | (with_reducible refine RdRing.drew ?_) | (with_reducible refine RdRing.carry ?_ (by with_reducible assumption) ?_) | (with_reducible refine RdRing.alloc ?_ ?_ _) | (with_reducible refine RdRing.setCell ?_ ?_ _) | omega | (simp; done) | (simp; omega))) hg (by omega) (by (try simp only [World.size_drew]); (try simp only [World.size_alloc]); omega)
            have bx_bwH0 : AtL (w.heap.size + 1) [.slice b0A b0d.length b0c] wH0 := AtL.mid (w := _) (by repeat' (first | with_reducible assumption | with_reducible exact AtL.new _ _ _ | ((with_reducible refine AtL.newAt ?_); (first | rfl | (simp; done))) | (with_reducible refine AtL.drew ?_) | (with_reducible refine AtL.below ?_ (by with_reducible assumption)) | (with_reducible refine AtL.alloc ?_ _) | (with_reducible refine AtL.far ?_ ?_ _ _) | omega | (simp; done) | (simp; omega))) hg (by omega)
            have rd_b0wH0 : RdRing wH0 (w.heap.size) b0A b0d := RdRing.mid (w := _) (by repeat' (first | with_reducible assumption | (with_reducible refine RdRing.drew ?_) | (with_reducible refine RdRing.carry ?_ (by with_reducible assumption) ?_) | (with_reducible refine RdRing.alloc ?_ ?_ _) | (with_reducible refine RdRing.setCell ?_ ?_ _) | omega | (simp; done) | (simp; omega))) hg (by omega) (by (try simp only [World.size_drew]); (try simp only [World.size_alloc]); omega)
            have r1wH0 : RdRing wH0 (wC.heap.size) Aw l := RdRing.mid (w := _) (by repeat' (first | with_reducible assumption | (with_reducible refine RdRing.drew ?_) | (with_reducible refine RdRing.carry ?_ (by with_reducible assumption) ?_) | (with_reducible refine RdRing.alloc ?_ ?_ _) | (with_reducible refine RdRing.setCell ?_ ?_ _) | omega | (simp; done) | (simp; omega))) hg (by omega) (by (try simp only [World.size_drew]); (try simp only [World.size_alloc]); omega)
            have bx_wwH0 : AtL (qw) [.slice Aw l.length cw] wH0 := AtL.mid (w := _) (by repeat' (first | with_reducible assumption | with_reducible exact AtL.new _ _ _ | ((with_reducible refine AtL.newAt ?_); (first | rfl | (simp; done))) | (with_reducible refine AtL.drew ?_) | (with_reducible refine AtL.below ?_ (by with_reducible assumption)) | (with_reducible refine AtL.alloc ?_ _) | (with_reducible refine AtL.far ?_ ?_ _ _) | omega | (simp; done) | (simp; omega))) hg (by omega)
            have at_x0wH0 : AtL (wX0.heap.size) [.slice (some ⟨gX0, 0, none⟩) a0d.length a0d.length] wH0 := AtL.mid (w := _) (by repeat' (first | with_reducible assumption | with_reducible exact AtL.new _ _ _ | ((with_reducible refine AtL.newAt ?_); (first | rfl | (simp; done))) | (with_reducible refine AtL.drew ?_) | (with_reducible refine AtL.below ?_ (by with_reducible assumption)) | (with_reducible refine AtL.alloc ?_ _) | (with_reducible refine AtL.far ?_ ?_ _ _) | omega | (simp; done) | (simp; omega))) hg (by omega)
            have ox1wH0 : OwnRing wH0 (wX0.heap.size + 1) (wX1.heap.size) (some ⟨gX1, 0, none⟩) b0d.length (b0d) := OwnRing.mid (w := _) (by repeat' (first | with_reducible assumption | (with_reducible refine OwnRing.drew ?_) | (with_reducible refine OwnRing.carry ?_ (by with_reducible assumption)) | (with_reducible refine OwnRing.alloc ?_ _) | (with_reducible refine OwnRing.set_far ?_ ?_ _) | omega | (simp; done) | (simp; omega))) hg (by omega)
            have at_x1wH0 : AtL (wX1.heap.size) [.slice (some ⟨gX1, 0, none⟩) b0d.length b0d.length] wH0 := AtL.mid (w := _) (by repeat' (first | with_reducible assumption | with_reducible exact AtL.new _ _ _ | ((with_reducible refine AtL.newAt ?_); (first | rfl | (simp; done))) | (with_reducible refine AtL.drew ?_) | (with_reducible refine AtL.below ?_ (by with_reducible assumption)) | (with_reducible refine AtL.alloc ?_ _) | (with_reducible refine AtL.far ?_ ?_ _ _) | omega | (simp; done) | (simp; omega))) hg (by omega)
            have ogwH0 : OwnRing wH0 (wX1.heap.size + 1) (wD.heap.size) Ag cg (l) := OwnRing.mid (w := _) (by repeat' (first | with_reducible assumption | (with_reducible refine OwnRing.drew ?_) | (with_reducible refine OwnRing.carry ?_ (by with_reducible assumption)) | (with_reducible refine OwnRing.alloc ?_ _) | (with_reducible refine OwnRing.set_far ?_ ?_ _) | omega | (simp; done) | (simp; omega))) hg (by omega)
            have bx_gwH0 : AtL (wD.heap.size) [.slice Ag l.length cg] wH0 := AtL.mid (w := _) (by repeat' (first | with_reducible assumption | with_reducible exact AtL.new _ _ _ | ((with_reducible refine AtL.newAt ?_); (first | rfl | (simp; done))) | (with_reducible refine AtL.drew ?_) | (with_reducible refine AtL.below ?_ (by with_reducible assumption)) | (with_reducible refine AtL.alloc ?_ _) | (with_reducible refine AtL.far ?_ ?_ _ _) | omega | (simp; done) | (simp; omega))) hg (by omega)
            clear hg bx_awG1 rd_a0wG1 bx_bwG1 rd_b0wG1 r1wG1 bx_wwG1 rx0wG1 ox0wG1 at_x0wG1 rx1wG1 ox1wG1 at_x1wG1 ogwG1 bx_gwG1
            clear omwH0
            have kat_x10 := at_x1wH0.cell 0 rfl
            have lat_x1 := at_x1wH0.lt
            go_wp2_with fail
            clear kat_x10 lat_x1
            refine (markRegion_any K1 b0d (some ⟨gX1, 0, none⟩) b0d.length (wX0.heap.size + 1) (wX1.heap.size) _ (hK10) (HK11.out) (by omega) (by repeat' (first | with_reducible assumption | (with_reducible refine OwnRing.drew ?_) | (with_reducible refine OwnRing.carry ?_ (by with_reducible assumption)) | (with_reducible refine OwnRing.alloc ?_ _) | (with_reducible refine OwnRing.set_far ?_ ?_ _) | omega | (simp; done) | (simp; omega)))).mono ?_
            rw [← HM11.out]
            rintro e wH1 ⟨rfl, omwH1, hg⟩
            have zwH1 := hg.size
            (try simp only [World.size_drew] at zwH1)
            (try simp only [World.size_alloc] at zwH1)
            have qwH1 : w.heap.size ≤ wH1.heap.size := by omega
            have bp := bwH0.out
            have bn : Below w.heap.size w wH1 := by exact Below.mid (w := _) (by repeat' (first | with_reducible assumption | with_reducible exact Below.refl _ _ | (with_reducible refine Below.setCell ?_ ?_ _) | (with_reducible refine Below.alloc ?_ ?_ _) | (with_reducible refine Below.drew ?_) | (with_reducible refine below_dr ?_ _) | (with_reducible refine Below.trans ?_ (Below.mono (by with_reducible assumption) ?_)) | omega | (simp; done) | (simp; omega))) hg (by omega) (by (try simp only [World.size_drew]); (try simp only [World.size_alloc]); omega)
            have bwH1 := Lib.hid bn
            clear bn
            clear bp bwH0
            have bx_awH1 : AtL (w.heap.size) [.slice a0A a0d.length a0c] wH1 := AtL.mid (w := _) (by repeat' (first | with_reducible assumption | with_reducible exact AtL.new _ _ _ | ((with_reducible refine AtL.newAt ?_); (first | rfl | (simp; done))) | (with_reducible refine AtL.drew ?_) | (with_reducible refine AtL.below ?_ (by with_reducible assumption)) | (with_reducible refine AtL.alloc ?_ _) | (with_reducible refine AtL.far ?_ ?_ _ _) | omega | (simp; done) | (simp; omega))) hg (by omega)
            have rd_a0wH1 : RdRing wH1 (w.heap.size) a0A a0d := RdRing.mid (w := _) (by repeat' (first | with_reducible assumption | (with_reducible refine RdRing.drew ?_) | (with_reducible refine RdRing.carry ?_ (by with_reducible assumption) ?_) | (with_reducible refine RdRing.alloc ?_ ?_ _) | (with_reducible refine RdRing.setCell ?_ ?_ _) | omega | (simp; done) | (simp; omega))) hg (by omega) (by (try simp only [World.size_drew]); (try simp only [World.size_alloc]); omega)
            have bx_bwH1 : AtL (w.heap.size + 1) [.slice b0A b0d.length b0c] wH1 := AtL.mid (w := _) (by repeat' (first | with_reducible assumption | with_reducible exact AtL.new _ _ _ | ((with_reducible refine AtL.newAt ?_); (first | rfl | (simp; done))) | (with_reducible refine AtL.drew ?_) | (with_reducible refine AtL.below ?_ (by with_reducible assumption)) | (with_reducible refine AtL.alloc ?_ _) | (with_reducible refine AtL.far ?_ ?_ _ _) | omega | (simp; done) | (simp; omega))) hg (by omega)
            have rd_b0wH1 : RdRing wH1 (w.heap.size) b0A b0d := RdRing.mid (w := _) (by repeat' (first | with_reducible assumption | (with_reducible refine RdRing.drew ?_) | (with_reducible refine RdRing.carry ?_ (by with_reducible assumption) ?_) | (with_reducible refine RdRing.alloc ?_ ?_ _) | (with_reducible refine RdRing.setCell ?_ ?_ _) | omega | (simp; done) | (simp; omega))) hg (by omega) (by (try simp only [World.size_drew]); (try simp only [World.size_alloc]); omega)
            have r1wH1 : RdRing wH1 (wC.heap.size) Aw l := RdRing.mid (w := _) (by repeat' (first | with_reducible assumption | (with_reducible refine RdRing.drew ?_) | (with_reducible refine RdRing.carry ?_ (by with_reducible assumption) ?_) | (with_reducible refine RdRing.alloc ?_ ?_ _) | (with_reducible refine RdRing.setCell ?_ ?_ _) | omega | (simp; done) | (simp; omega))) hg (by omega) (by (try simp only [World.size_drew]); (try simp only [World.size_alloc]); omega)
            have bx_wwH1 : AtL (qw) [.slice Aw l.length cw] wH1 := AtL.mid (w := _) (by repeat' (first | with_reducible assumption | with_reducible exact AtL.new _ _ _ | ((with_reducible refine AtL.newAt ?_); (first | rfl | (simp; done))) | (with_reducible refine AtL.drew ?_) | (with_reducible refine AtL.below ?_ (by with_reducible assumption)) | (with_reducible refine AtL.alloc ?_ _) | (with_reducible refine AtL.far ?_ ?_ _ _) | omega | (simp; done) | (simp; omega))) hg (by omega)
            have at_x0wH1 : AtL (wX0.heap.size) [.slice (some ⟨gX0, 0, none⟩) a0d.length a0d.length] wH1 := AtL.mid (w := _) (by repeat' (first | with_reducible assumption | with_reducible exact AtL.new _ _ _ | ((with_reducible refine AtL.newAt ?_); (first | rfl | (simp; done))) | (with_reducible refine AtL.drew ?_) | (with_reducible refine AtL.below ?_ (by with_reducible assumption)) | (with_reducible refine AtL.alloc ?_ _) | (with_reducible refine AtL.far ?_ ?_ _ _) | omega | (simp; done) | (simp; omega))) hg (by omega)
            have at_x1wH1 : AtL (wX1.heap.size) [.slice (some ⟨gX1, 0, none⟩) b0d.length b0d.length] wH1 := AtL.mid (w := _) (by repeat' (first | with_reducible assumption | with_reducible exact AtL.new _ _ _ | ((with_reducible refine AtL.newAt ?_); (first | rfl | (simp; done))) | (with_reducible refine AtL.drew ?_) | (with_reducible refine AtL.below ?_ (by with_reducible assumption)) | (with_reducible refine AtL.alloc ?_ _) | (with_reducible refine AtL.far ?_ ?_ _ _) | omega | (simp; done) | (simp; omega))) hg (by omega)
            have ogwH1 : OwnRing wH1 (wX1.heap.size + 1) (wD.heap.size) Ag cg (l) := OwnRing.mid (w := _) (by repeat' (first | with_reducible assumption | (with_reducible refine OwnRing.drew ?_) | (with_reducible refine OwnRing.carry ?_ (by with_reducible assumption)) | (with_reducible refine OwnRing.alloc ?_ _) | (with_reducible refine OwnRing.set_far ?_ ?_ _) | omega | (simp; done) | (simp; omega))) hg (by omega)
            have bx_gwH1 : AtL (wD.heap.size) [.slice Ag l.length cg] wH1 := AtL.mid (w := _) (by repeat' (first | with_reducible assumption | with_reducible exact AtL.new _ _ _ | ((with_reducible refine AtL.newAt ?_); (first | rfl | (simp; done))) | (with_reducible refine AtL.drew ?_) | (with_reducible refine AtL.below ?_ (by with_reducible assumption)) | (with_reducible refine AtL.alloc ?_ _) | (with_reducible refine AtL.far ?_ ?_ _ _) | omega | (simp; done) | (simp; omega))) hg (by omega)
            clear hg bx_awH0 rd_a0wH0 bx_bwH0 rd_b0wH0 r1wH0 bx_wwH0 at_x0wH0 ox1wH0 at_x1wH0 ogwH0 bx_gwH0
            clear omwH1
            clear at_x0wH1
            clear at_x1wH1
            have kbx_g0 := bx_gwH1.cell 0 rfl
            have lbx_g := bx_gwH1.lt
            have kbx_w0 := bx_wwH1.cell 0 rfl
            have lbx_w := bx_wwH1.lt
            go_wp2_with fail
            clear kbx_g0 lbx_g
            clear kbx_w0 lbx_w
            refine (eqRegion_same Ag cg l Aw cw _ (by omega) (fun i d h => Nat.le_trans (HIN_r.out i d h) (by omega)) ?_ ?_).mono ?_
            · exact OwnRing.rd (lo := wX1.heap.size + 1) (hi := wD.heap.size) (c := cg) (by repeat' (first | with_reducible assumption | (with_reducible refine OwnRing.drew ?_) | (with_reducible refine OwnRing.carry ?_ (by with_reducible assumption)) | (with_reducible refine OwnRing.alloc ?_ _) | (with_reducible refine OwnRing.set_far ?_ ?_ _) | omega | (simp; done) | (simp; omega)))
            · refine RdRing.more (B := wC.heap.size) ?_ (by (try simp only [World.size_drew]); (try simp only [World.size_alloc]); omega)
              repeat' (first | with_reducible assumption | (with_reducible refine RdRing.drew ?_) | (with_reducible refine RdRing.carry ?_ (by with_reducible assumption) ?_) | (with_reducible refine RdRing.alloc ?_ ?_ _) | (with_reducible refine RdRing.setCell ?_ ?_ _) | omega | (simp; done) | (simp; omega))
            rintro e wJ ⟨rfl, hbwJ⟩
            have zwJ := hbwJ.size
            (try simp only [World.size_setCell] at zwJ)
            (try simp only [World.size_drew] at zwJ)
            (try simp only [World.size_alloc] at zwJ)
            have qwJ : w.heap.size ≤ wJ.heap.size := by omega
            have bx_awJ : AtL (w.heap.size) [.slice a0A a0d.length a0c] wJ := by repeat' (first | with_reducible assumption | with_reducible exact AtL.new _ _ _ | ((with_reducible refine AtL.newAt ?_); (first | rfl | (simp; done))) | (with_reducible refine AtL.drew ?_) | (with_reducible refine AtL.below ?_ (by with_reducible assumption)) | (with_reducible refine AtL.alloc ?_ _) | (with_reducible refine AtL.far ?_ ?_ _ _) | omega | (simp; done) | (simp; omega))
            have rd_a0wJ : RdRing wJ (w.heap.size) a0A a0d := by repeat' (first | with_reducible assumption | (with_reducible refine RdRing.drew ?_) | (with_reducible refine RdRing.carry ?_ (by with_reducible assumption) ?_) | (with_reducible refine RdRing.alloc ?_ ?_ _) | (with_reducible refine RdRing.setCell ?_ ?_ _) | omega | (simp; done) | (simp; omega))
            have bx_bwJ : AtL (w.heap.size + 1) [.slice b0A b0d.length b0c] wJ := by repeat' (first | with_reducible assumption | with_reducible exact AtL.new _ _ _ | ((with_reducible refine AtL.newAt ?_); (first | rfl | (simp; done))) | (with_reducible refine AtL.drew ?_) | (with_reducible refine AtL.below ?_ (by with_reducible assumption)) | (with_reducible refine AtL.alloc ?_ _) | (with_reducible refine AtL.far ?_ ?_ _ _) | omega | (simp; done) | (simp; omega))
            have rd_b0wJ : RdRing wJ (w.heap.size) b0A b0d := by repeat' (first | with_reducible assumption | (with_reducible refine RdRing.drew ?_) | (with_reducible refine RdRing.carry ?_ (by with_reducible assumption) ?_) | (with_reducible refine RdRing.alloc ?_ ?_ _) | (with_reducible refine RdRing.setCell ?_ ?_ _) | omega | (simp; done) | (simp; omega))
            have r1wJ : RdRing wJ (wC.heap.size) Aw l := by repeat' (first | with_reducible assumption | (with_reducible refine RdRing.drew ?_) | (with_reducible refine RdRing.carry ?_ (by with_reducible assumption) ?_) | (with_reducible refine RdRing.alloc ?_ ?_ _) | (with_reducible refine RdRing.setCell ?_ ?_ _) | omega | (simp; done) | (simp; omega))
            have bx_wwJ : AtL (qw) [.slice Aw l.length cw] wJ := by repeat' (first | with_reducible assumption | with_reducible exact AtL.new _ _ _ | ((with_reducible refine AtL.newAt ?_); (first | rfl | (simp; done))) | (with_reducible refine AtL.drew ?_) | (with_reducible refine AtL.below ?_ (by with_reducible assumption)) | (with_reducible refine AtL.alloc ?_ _) | (with_reducible refine AtL.far ?_ ?_ _ _) | omega | (simp; done) | (simp; omega))
            have ogwJ : OwnRing wJ (wX1.heap.size + 1) (wD.heap.size) Ag cg (l) := by repeat' (first | with_reducible assumption | (with_reducible refine OwnRing.drew ?_) | (with_reducible refine OwnRing.carry ?_ (by with_reducible assumption)) | (with_reducible refine OwnRing.alloc ?_ _) | (with_reducible refine OwnRing.set_far ?_ ?_ _) | omega | (simp; done) | (simp; omega))
            have bx_gwJ : AtL (wD.heap.size) [.slice Ag l.length cg] wJ := by repeat' (first | with_reducible assumption | with_reducible exact AtL.new _ _ _ | ((with_reducible refine AtL.newAt ?_); (first | rfl | (simp; done))) | (with_reducible refine AtL.drew ?_) | (with_reducible refine AtL.below ?_ (by with_reducible assumption)) | (with_reducible refine AtL.alloc ?_ _) | (with_reducible refine AtL.far ?_ ?_ _ _) | omega | (simp; done) | (simp; omega))
            have bp := bwH1.out
            have bn : Below w.heap.size w wJ := by repeat' (first | with_reducible assumption | with_reducible exact Below.refl _ _ | (with_reducible refine Below.setCell ?_ ?_ _) | (with_reducible refine Below.alloc ?_ ?_ _) | (with_reducible refine Below.drew ?_) | (with_reducible refine below_dr ?_ _) | (with_reducible refine Below.trans ?_ (Below.mono (by with_reducible assumption) ?_)) | omega | (simp; done) | (simp; omega))
            have bwJ := Lib.hid bn
            clear bn
            clear bp bwH1
            clear hbwJ
            clear bx_awH1
            clear rd_a0wH1
            clear bx_bwH1
            clear rd_b0wH1
            clear r1wH1
            clear bx_wwH1
            clear ogwH1
            clear bx_gwH1
            have kbx_g0 := bx_gwJ.cell 0 rfl
            have lbx_g := bx_gwJ.lt
            go_wp2_with fail
            clear kbx_g0 lbx_g
            refine (markRegion_any 1 l Ag cg (wX1.heap.size + 1) (wD.heap.size) _ (Nat.le_refl _) (HMK_r.out) (by omega) (by repeat' (first | with_reducible assumption | (with_reducible refine OwnRing.drew ?_) | (with_reducible refine OwnRing.carry ?_ (by with_reducible assumption)) | (with_reducible refine OwnRing.alloc ?_ _) | (with_reducible refine OwnRing.set_far ?_ ?_ _) | omega | (simp; done) | (simp; omega)))).mono ?_
            rw [← HM.out]
            rintro e wK ⟨rfl, omwK, hg⟩
            have zwK := hg.size
            (try simp only [World.size_drew] at zwK)
            (try simp only [World.size_alloc] at zwK)
            have qwK : w.heap.size ≤ wK.heap.size := by omega
            have bp := bwJ.out
            have bn : Below w.heap.size w wK := by exact Below.mid (w := _) (by repeat' (first | with_reducible assumption | with_reducible exact Below.refl _ _ | (with_reducible refine Below.setCell ?_ ?_ _) | (with_reducible refine Below.alloc ?_ ?_ _) | (with_reducible refine Below.drew ?_) | (with_reducible refine below_dr ?_ _) | (with_reducible refine Below.trans ?_ (Below.mono (by with_reducible assumption) ?_)) | omega | (simp; done) | (simp; omega))) hg (by omega) (by (try simp only [World.size_drew]); (try simp only [World.size_alloc]); omega)
            have bwK := Lib.hid bn
            clear bn
            clear bp bwJ
            have bx_awK : AtL (w.heap.size) [.slice a0A a0d.length a0c] wK := AtL.mid (w := _) (by repeat' (first | with_reducible assumption | with_reducible exact AtL.new _ _ _ | ((with_reducible refine AtL.newAt ?_); (first | rfl | (simp; done))) | (with_reducible refine AtL.drew ?_) | (with_reducible refine AtL.below ?_ (by with_reducible assumption)) | (with_reducible refine AtL.alloc ?_ _) | (with_reducible refine AtL.far ?_ ?_ _ _) | omega | (simp; done) | (simp; omega))) hg (by omega)
            have rd_a0wK : RdRing wK (w.heap.size) a0A a0d := RdRing.mid (w := _) (by repeat' (first | with_reducible assumption | (with_reducible refine RdRing.drew ?_) | (with_reducible refine RdRing.carry ?_ (by with_reducible assumption) ?_) | (with_reducible refine RdRing.alloc ?_ ?_ _) | (with_reducible refine RdRing.setCell ?_ ?_ _) | omega | (simp; done) | (simp; omega))) hg (by omega) (by (try simp only [World.size_drew]); (try simp only [World.size_alloc]); omega)
            have bx_bwK : AtL (w.heap.size + 1) [.slice b0A b0d.length b0c] wK := AtL.mid (w := _) (by repeat' (first | with_reducible assumption | with_reducible exact AtL.new _ _ _ | ((with_reducible refine AtL.newAt ?_); (first | rfl | (simp; done))) | (with_reducible refine AtL.drew ?_) | (with_reducible refine AtL.below ?_ (by with_reducible assumption)) | (with_reducible refine AtL.alloc ?_ _) | (with_reducible refine AtL.far ?_ ?_ _ _) | omega | (simp; done) | (simp; omega))) hg (by omega)
            have rd_b0wK : RdRing wK (w.heap.size) b0A b0d := RdRing.mid (w := _) (by repeat' (first | with_reducible assumption | (with_reducible refine RdRing.drew ?_) | (with_reducible refine RdRing.carry ?_ (by with_reducible assumption) ?_) | (with_reducible refine RdRing.alloc ?_ ?_ _) | (with_reducible refine RdRing.setCell ?_ ?_ _) | omega | (simp; done) | (simp; omega))) hg (by omega) (by (try simp only [World.size_drew]); (try simp only [World.size_alloc]); omega)
            have r1wK : RdRing wK (wC.heap.size) Aw l := RdRing.mid (w := _) (by repeat' (first | with_reducible assumption | (with_reducible refine RdRing.drew ?_) | (with_reducible refine RdRing.carry ?_ (by with_reducible assumption) ?_) | (with_reducible refine RdRing.alloc ?_ ?_ _) | (with_reducible refine RdRing.setCell ?_ ?_ _) | omega | (simp; done) | (simp; omega))) hg (by omega) (by (try simp only [World.size_drew]); (try simp only [World.size_alloc]); omega)
            have bx_wwK : AtL (qw) [.slice Aw l.length cw] wK := AtL.mid (w := _) (by repeat' (first | with_reducible assumption | with_reducible exact AtL.new _ _ _ | ((with_reducible refine AtL.newAt ?_); (first | rfl | (simp; done))) | (with_reducible refine AtL.drew ?_) | (with_reducible refine AtL.below ?_ (by with_reducible assumption)) | (with_reducible refine AtL.alloc ?_ _) | (with_reducible refine AtL.far ?_ ?_ _ _) | omega | (simp; done) | (simp; omega))) hg (by omega)
            have bx_gwK : AtL (wD.heap.size) [.slice Ag l.length cg] wK := AtL.mid (w := _) (by repeat' (first | with_reducible assumption | with_reducible exact AtL.new _ _ _ | ((with_reducible refine AtL.newAt ?_); (first | rfl | (simp; done))) | (with_reducible refine AtL.drew ?_) | (with_reducible refine AtL.below ?_ (by with_reducible assumption)) | (with_reducible refine AtL.alloc ?_ _) | (with_reducible refine AtL.far ?_ ?_ _ _) | omega | (simp; done) | (simp; omega))) hg (by omega)
            clear hg bx_awJ rd_a0wJ bx_bwJ rd_b0wJ r1wJ bx_wwJ ogwJ bx_gwJ
            have kbx_g0 := bx_gwK.cell 0 rfl
            have lbx_g := bx_gwK.lt
            go_wp2_with fail
            clear kbx_g0 lbx_g
            refine (heldRegion_any 1 l Ag cg _ (Nat.le_refl _) HMK_r.out (by omega) ?_).mono ?_
            · exact OwnRing.rd (lo := wX1.heap.size + 1) (hi := wD.heap.size) (c := cg) (by repeat' (first | with_reducible assumption | (with_reducible refine OwnRing.drew ?_) | (with_reducible refine OwnRing.carry ?_ (by with_reducible assumption)) | (with_reducible refine OwnRing.alloc ?_ _) | (with_reducible refine OwnRing.set_far ?_ ?_ _) | omega | (simp; done) | (simp; omega)))
            rw [← HM.out]
            rintro e wL ⟨rfl, hbwL⟩
            have zwL := hbwL.size
            (try simp only [World.size_setCell] at zwL)
            (try simp only [World.size_drew] at zwL)
            (try simp only [World.size_alloc] at zwL)
            have qwL : w.heap.size ≤ wL.heap.size := by omega
            have bx_awL : AtL (w.heap.size) [.slice a0A a0d.length a0c] wL := by repeat' (first | with_reducible assumption | with_reducible exact AtL.new _ _ _ | ((with_reducible refine AtL.newAt ?_); (first | rfl | (simp; done))) | (with_reducible refine AtL.drew ?_) | (with_reducible refine AtL.below ?_ (by with_reducible assumption)) | (with_reducible refine AtL.alloc ?_ _) | (with_reducible refine AtL.far ?_ ?_ _ _) | omega | (simp; done) | (simp; omega))
            have rd_a0wL : RdRing wL (w.heap.size) a0A a0d := by repeat' (first | with_reducible assumption | (with_reducible refine RdRing.drew ?_) | (with_reducible refine RdRing.carry ?_ (by with_reducible assumption) ?_) | (with_reducible refine RdRing.alloc ?_ ?_ _) | (with_reducible refine RdRing.setCell ?_ ?_ _) | omega | (simp; done) | (simp; omega))
            have bx_bwL : AtL (w.heap.size + 1) [.slice b0A b0d.length b0c] wL := by repeat' (first | with_reducible assumption | with_reducible exact AtL.new _ _ _ | ((with_reducible refine AtL.newAt ?_); (first | rfl | (simp; done))) | (with_reducible refine AtL.drew ?_) | (with_reducible refine AtL.below ?_ (by with_reducible assumption)) | (with_reducible refine AtL.alloc ?_ _) | (with_reducible refine AtL.far ?_ ?_ _ _) | omega | (simp; done) | (simp; omega))
            have rd_b0wL : RdRing wL (w.heap.size) b0A b0d := by repeat' (first | with_reducible assumption | (with_reducible refine RdRing.drew ?_) | (with_reducible refine RdRing.carry ?_ (by with_reducible assumption) ?_) | (with_reducible refine RdRing.alloc ?_ ?_ _) | (with_reducible refine RdRing.setCell ?_ ?_ _) | omega | (simp; done) | (simp; omega))
            have r1wL : RdRing wL (wC.heap.size) Aw l := by repeat' (first | with_reducible assumption | (with_reducible refine RdRing.drew ?_) | (with_reducible refine RdRing.carry ?_ (by with_reducible assumption) ?_) | (with_reducible refine RdRing.alloc ?_ ?_ _) | (with_reducible refine RdRing.setCell ?_ ?_ _) | omega | (simp; done) | (simp; omega))
            have bx_wwL : AtL (qw) [.slice Aw l.length cw] wL := by repeat' (first | with_reducible assumption | with_reducible exact AtL.new _ _ _ | ((with_reducible refine AtL.newAt ?_); (first | rfl | (simp; done))) | (with_reducible refine AtL.drew ?_) | (with_reducible refine AtL.below ?_ (by with_reducible assumption)) | (with_reducible refine AtL.alloc ?_ _) | (with_reducible refine AtL.far ?_ ?_ _ _) | omega | (simp; done) | (simp; omega))
            have bx_gwL : AtL (wD.heap.size) [.slice Ag l.length cg] wL := by repeat' (first | with_reducible assumption | with_reducible exact AtL.new _ _ _ | ((with_reducible refine AtL.newAt ?_); (first | rfl | (simp; done))) | (with_reducible refine AtL.drew ?_) | (with_reducible refine AtL.below ?_ (by with_reducible assumption)) | (with_reducible refine AtL.alloc ?_ _) | (with_reducible refine AtL.far ?_ ?_ _ _) | omega | (simp; done) | (simp; omega))
            have omwL : OwnRing wL (wX1.heap.size + 1) (wD.heap.size) Ag cg (mds 1 l) := by repeat' (first | with_reducible assumption | (with_reducible refine OwnRing.drew ?_) | (with_reducible refine OwnRing.carry ?_ (by with_reducible assumption)) | (with_reducible refine OwnRing.alloc ?_ _) | (with_reducible refine OwnRing.set_far ?_ ?_ _) | omega | (simp; done) | (simp; omega))
            have bp := bwK.out
            have bn : Below w.heap.size w wL := by repeat' (first | with_reducible assumption | with_reducible exact Below.refl _ _ | (with_reducible refine Below.setCell ?_ ?_ _) | (with_reducible refine Below.alloc ?_ ?_ _) | (with_reducible refine Below.drew ?_) | (with_reducible refine below_dr ?_ _) | (with_reducible refine Below.trans ?_ (Below.mono (by with_reducible assumption) ?_)) | omega | (simp; done) | (simp; omega))
            have bwL := Lib.hid bn
            clear bn
            clear bp bwK
            clear hbwL
            clear bx_awK
            clear rd_a0wK
            clear bx_bwK
            clear rd_b0wK
            clear r1wK
            clear bx_wwK
            clear bx_gwK
            clear omwK
            have kbx_a0 := bx_awL.cell 0 rfl
            have lbx_a := bx_awL.lt
            have kbx_b0 := bx_bwL.cell 0 rfl
            have lbx_b := bx_bwL.lt
            go_upto_region 31 with fail
            go_cut [15, 16] (fun sA sB wx => ∃ (wQ : World) (qh : Nat) (Ah : Option Addr) (ch : Nat), wQ = wx ∧ sA = .pointer (some ⟨qh, 0, none⟩) ∧ sB = .int .i64 code ∧ AtL qh [.slice Ah l.length ch] wQ ∧ RdRing wQ (wQ.heap.size) Ah l ∧ wL.heap.size ≤ qh ∧ Below wL.heap.size wL wQ)
            case first =>
              go_region_held3 (fun w' => (∀ b o, b < wL.heap.size → w'.cell? ⟨b, o, none⟩ = wL.cell? ⟨b, o, none⟩) ∧ wL.heap.size ≤ w'.heap.size)
                (first | ((try dsimp only); exact ⟨fun b o h => (by (repeat (first | with_reducible exact rfl | (with_reducible refine (cell_drew_at _ _).trans ?_) | (with_reducible refine (cell_set_at _ _ (by first | omega | (simp; done) | (simp; omega))).trans ?_) | (with_reducible refine (cell_alloc_at _ _ (by first | omega | (simp; done) | (simp; omega))).trans ?_) | (with_reducible refine (hcwP0 b o (by first | omega | (simp; done) | (simp; omega))).trans ?_) | (with_reducible refine (hcwP1 b o (by first | omega | (simp; done) | (simp; omega))).trans ?_) | (with_reducible refine (hcwR b o (by first | omega | (simp; done) | (simp; omega))).trans ?_)))), (by first | omega | (simp; done) | (simp; omega))⟩) | fail)
                (first
                  | (go_at_call 16; (with_reducible refine (toRegion_own a0d a0A a0c _ hl_a0 HIN_a0.out ?_).mono ?_); (focus ((refine RdRing.more (B := w.heap.size) ?_ (by first | omega | ((try simp only [World.size_setCell]); (try simp only [World.size_drew]); (try simp only [World.size_alloc]); omega) | (simp; done) | (simp; omega))); (repeat' (first | with_reducible assumption | (with_reducible refine RdRing.drew ?_) | (with_reducible refine RdRing.carry ?_ (by with_reducible assumption) ?_) | (with_reducible refine RdRing.alloc ?_ ?_ _) | (with_reducible refine RdRing.setCell ?_ ?_ _) | omega | (simp; done) | (simp; omega))))); intro e wP0 hq; obtain ⟨g_owP0, rfl, owP0, hbwP0⟩ := hq; obtain ⟨hcwP0, hfwP0⟩ := bcell hbwP0; have hzwP0 := hbwP0.size; (try simp only [World.size_drew] at hcwP0 hfwP0 hzwP0); (try simp only [World.size_alloc] at hcwP0 hfwP0 hzwP0); (try have qqwLwP0 : wL.heap.size < wP0.heap.size := by omega); (try have qqwP1wP0 : wP1.heap.size < wP0.heap.size := by omega))
                  | (go_at_call 16; (with_reducible refine (toRegion_own b0d b0A b0c _ hl_b0 HIN_b0.out ?_).mono ?_); (focus ((refine RdRing.more (B := w.heap.size) ?_ (by first | omega | ((try simp only [World.size_setCell]); (try simp only [World.size_drew]); (try simp only [World.size_alloc]); omega) | (simp; done) | (simp; omega))); (repeat' (first | with_reducible assumption | (with_reducible refine RdRing.drew ?_) | (with_reducible refine RdRing.carry ?_ (by with_reducible assumption) ?_) | (with_reducible refine RdRing.alloc ?_ ?_ _) | (with_reducible refine RdRing.setCell ?_ ?_ _) | omega | (simp; done) | (simp; omega))))); intro e wP1 hq; obtain ⟨g_owP1, rfl, owP1, hbwP1⟩ := hq; obtain ⟨hcwP1, hfwP1⟩ := bcell hbwP1; have hzwP1 := hbwP1.size; (try simp only [World.size_drew] at hcwP1 hfwP1 hzwP1); (try simp only [World.size_alloc] at hcwP1 hfwP1 hzwP1); (try have qqwLwP1 : wL.heap.size < wP1.heap.size := by omega); (try have qqwP0wP1 : wP0.heap.size < wP1.heap.size := by omega))
                  | (go_at_call 17; (with_reducible refine (C2.out (some ⟨g_owP0, 0, none⟩) a0d.length (some ⟨g_owP1, 0, none⟩) b0d.length _ ?_ ?_).mono ?_); (focus (first | exact owP0.rd | exact RdRing.drew owP0.rd | (refine RdRing.more (B := wP0.heap.size) ?_ (by first | exact Nat.le_refl _ | omega | ((try simp only [World.size_drew]); (try simp only [World.size_alloc]); (try simp only [World.size_drew]); omega)); (have h9 := owP0.rd); repeat' (first | with_reducible assumption | (with_reducible refine RdRing.drew ?_) | (with_reducible refine RdRing.carry ?_ (by with_reducible assumption) ?_) | (with_reducible refine RdRing.alloc ?_ ?_ _) | (with_reducible refine RdRing.setCell ?_ ?_ _) | omega | (simp; done) | (simp; omega))))); (focus (first | exact owP1.rd | exact RdRing.drew owP1.rd | (refine RdRing.more (B := wP1.heap.size) ?_ (by first | exact Nat.le_refl _ | omega | ((try simp only [World.size_drew]); (try simp only [World.size_alloc]); (try simp only [World.size_drew]); omega)); (have h9 := owP1.rd); repeat' (first | with_reducible assumption | (with_reducible refine RdRing.drew ?_) | (with_reducible refine RdRing.carry ?_ (by with_reducible assumption) ?_) | (with_reducible refine RdRing.alloc ?_ ?_ _) | (with_reducible refine RdRing.setCell ?_ ?_ _) | omega | (simp; done) | (simp; omega))))); intro e wR hq; obtain ⟨A9, c9, rfl, ow9, hbwR⟩ := hq; obtain ⟨hcwR, hfwR⟩ := bcell hbwR; have hzwR := hbwR.size; (try simp only [World.size_drew] at hcwR hfwR hzwR); (try simp only [World.size_alloc] at hcwR hfwR hzwR); (try have qqwLwR : wL.heap.size < wR.heap.size := by omega); (try have qqwP0wR : wP0.heap.size < wR.heap.size := by omega); (try have qqwP1wR : wP1.heap.size < wR.heap.size := by omega)))
              all_goals
                (try go_wp2_with fail)
                go_meet
              all_goals exact ⟨_, _, _, _, rfl, rfl, rfl, by repeat' (first | (with_reducible apply AtL.store1) | with_reducible assumption | with_reducible exact AtL.new _ _ _ | ((with_reducible refine AtL.newAt ?_); (first | rfl | (simp; done))) | (with_reducible refine AtL.drew ?_) | (with_reducible refine AtL.below ?_ (by with_reducible assumption)) | (with_reducible refine AtL.alloc ?_ _) | (with_reducible refine AtL.far ?_ ?_ _ _) | omega | (simp; done) | (simp; omega)), by (first | exact OwnRing.rd (ow9.alloc _) | exact OwnRing.rd (ow9.set_far (.inl (by first | omega | (simp; done) | (simp; omega))) _)), by first | omega | (simp; done) | (simp; omega), by clear bwL; repeat' (first | with_reducible assumption | with_reducible exact Below.refl _ _ | (with_reducible refine Below.setCell ?_ ?_ _) | (with_reducible refine Below.alloc ?_ ?_ _) | (with_reducible refine Below.drew ?_) | (with_reducible refine below_dr ?_ _) | (with_reducible refine Below.trans ?_ (Below.mono (by with_reducible assumption) ?_)) | omega | (simp; done) | (simp; omega))⟩
            case rest =>
              clear kbx_a0 lbx_a
              clear kbx_b0 lbx_b
              obtain ⟨wQ, qh, Ah, ch, rfl, rfl, rfl, at_qh, rd_qh, hq_qh, hbwQ⟩ := hcut
              have zwQ := hbwQ.size
              (try simp only [World.size_setCell] at zwQ)
              (try simp only [World.size_drew] at zwQ)
              (try simp only [World.size_alloc] at zwQ)
              have qwQ : w.heap.size ≤ wQ.heap.size := by omega
              have bx_awQ : AtL (w.heap.size) [.slice a0A a0d.length a0c] wQ := by repeat' (first | with_reducible assumption | with_reducible exact AtL.new _ _ _ | ((with_reducible refine AtL.newAt ?_); (first | rfl | (simp; done))) | (with_reducible refine AtL.drew ?_) | (with_reducible refine AtL.below ?_ (by with_reducible assumption)) | (with_reducible refine AtL.alloc ?_ _) | (with_reducible refine AtL.far ?_ ?_ _ _) | omega | (simp; done) | (simp; omega))
              have rd_a0wQ : RdRing wQ (w.heap.size) a0A a0d := by repeat' (first | with_reducible assumption | (with_reducible refine RdRing.drew ?_) | (with_reducible refine RdRing.carry ?_ (by with_reducible assumption) ?_) | (with_reducible refine RdRing.alloc ?_ ?_ _) | (with_reducible refine RdRing.setCell ?_ ?_ _) | omega | (simp; done) | (simp; omega))
              have bx_bwQ : AtL (w.heap.size + 1) [.slice b0A b0d.length b0c] wQ := by repeat' (first | with_reducible assumption | with_reducible exact AtL.new _ _ _ | ((with_reducible refine AtL.newAt ?_); (first | rfl | (simp; done))) | (with_reducible refine AtL.drew ?_) | (with_reducible refine AtL.below ?_ (by with_reducible assumption)) | (with_reducible refine AtL.alloc ?_ _) | (with_reducible refine AtL.far ?_ ?_ _ _) | omega | (simp; done) | (simp; omega))
              have rd_b0wQ : RdRing wQ (w.heap.size) b0A b0d := by repeat' (first | with_reducible assumption | (with_reducible refine RdRing.drew ?_) | (with_reducible refine RdRing.carry ?_ (by with_reducible assumption) ?_) | (with_reducible refine RdRing.alloc ?_ ?_ _) | (with_reducible refine RdRing.setCell ?_ ?_ _) | omega | (simp; done) | (simp; omega))
              have r1wQ : RdRing wQ (wC.heap.size) Aw l := by repeat' (first | with_reducible assumption | (with_reducible refine RdRing.drew ?_) | (with_reducible refine RdRing.carry ?_ (by with_reducible assumption) ?_) | (with_reducible refine RdRing.alloc ?_ ?_ _) | (with_reducible refine RdRing.setCell ?_ ?_ _) | omega | (simp; done) | (simp; omega))
              have bx_wwQ : AtL (qw) [.slice Aw l.length cw] wQ := by repeat' (first | with_reducible assumption | with_reducible exact AtL.new _ _ _ | ((with_reducible refine AtL.newAt ?_); (first | rfl | (simp; done))) | (with_reducible refine AtL.drew ?_) | (with_reducible refine AtL.below ?_ (by with_reducible assumption)) | (with_reducible refine AtL.alloc ?_ _) | (with_reducible refine AtL.far ?_ ?_ _ _) | omega | (simp; done) | (simp; omega))
              have bx_gwQ : AtL (wD.heap.size) [.slice Ag l.length cg] wQ := by repeat' (first | with_reducible assumption | with_reducible exact AtL.new _ _ _ | ((with_reducible refine AtL.newAt ?_); (first | rfl | (simp; done))) | (with_reducible refine AtL.drew ?_) | (with_reducible refine AtL.below ?_ (by with_reducible assumption)) | (with_reducible refine AtL.alloc ?_ _) | (with_reducible refine AtL.far ?_ ?_ _ _) | omega | (simp; done) | (simp; omega))
              have omwQ : OwnRing wQ (wX1.heap.size + 1) (wD.heap.size) Ag cg (mds 1 l) := by repeat' (first | with_reducible assumption | (with_reducible refine OwnRing.drew ?_) | (with_reducible refine OwnRing.carry ?_ (by with_reducible assumption)) | (with_reducible refine OwnRing.alloc ?_ _) | (with_reducible refine OwnRing.set_far ?_ ?_ _) | omega | (simp; done) | (simp; omega))
              have bp := bwL.out
              have bn : Below w.heap.size w wQ := by repeat' (first | with_reducible assumption | with_reducible exact Below.refl _ _ | (with_reducible refine Below.setCell ?_ ?_ _) | (with_reducible refine Below.alloc ?_ ?_ _) | (with_reducible refine Below.drew ?_) | (with_reducible refine below_dr ?_ _) | (with_reducible refine Below.trans ?_ (Below.mono (by with_reducible assumption) ?_)) | omega | (simp; done) | (simp; omega))
              have bwQ := Lib.hid bn
              clear bn
              clear bp bwL
              clear hbwQ
              clear bx_awL
              clear rd_a0wL
              clear bx_bwL
              clear rd_b0wL
              clear r1wL
              clear bx_wwL
              clear bx_gwL
              clear omwL
              have bx_hwQ := at_qh
              have rhwQ := rd_qh
              clear at_qh rd_qh
              have kbx_w0 := bx_wwQ.cell 0 rfl
              have lbx_w := bx_wwQ.lt
              have kbx_h0 := bx_hwQ.cell 0 rfl
              have lbx_h := bx_hwQ.lt
              go_wp2_with fail
              clear kbx_w0 lbx_w
              clear kbx_h0 lbx_h
              refine (eqRegion_same Ah ch l Aw cw _ (by omega) (fun i d h => Nat.le_trans (HIN_r.out i d h) (by omega)) ?_ ?_).mono ?_
              · refine RdRing.more (B := wQ.heap.size) ?_ (by (try simp only [World.size_drew]); (try simp only [World.size_alloc]); omega)
                repeat' (first | with_reducible assumption | (with_reducible refine RdRing.drew ?_) | (with_reducible refine RdRing.carry ?_ (by with_reducible assumption) ?_) | (with_reducible refine RdRing.alloc ?_ ?_ _) | (with_reducible refine RdRing.setCell ?_ ?_ _) | omega | (simp; done) | (simp; omega))
              · refine RdRing.more (B := wC.heap.size) ?_ (by (try simp only [World.size_drew]); (try simp only [World.size_alloc]); omega)
                repeat' (first | with_reducible assumption | (with_reducible refine RdRing.drew ?_) | (with_reducible refine RdRing.carry ?_ (by with_reducible assumption) ?_) | (with_reducible refine RdRing.alloc ?_ ?_ _) | (with_reducible refine RdRing.setCell ?_ ?_ _) | omega | (simp; done) | (simp; omega))
              rintro e wR ⟨rfl, hbwR⟩
              have zwR := hbwR.size
              (try simp only [World.size_setCell] at zwR)
              (try simp only [World.size_drew] at zwR)
              (try simp only [World.size_alloc] at zwR)
              have qwR : w.heap.size ≤ wR.heap.size := by omega
              have bx_awR : AtL (w.heap.size) [.slice a0A a0d.length a0c] wR := by repeat' (first | with_reducible assumption | with_reducible exact AtL.new _ _ _ | ((with_reducible refine AtL.newAt ?_); (first | rfl | (simp; done))) | (with_reducible refine AtL.drew ?_) | (with_reducible refine AtL.below ?_ (by with_reducible assumption)) | (with_reducible refine AtL.alloc ?_ _) | (with_reducible refine AtL.far ?_ ?_ _ _) | omega | (simp; done) | (simp; omega))
              have rd_a0wR : RdRing wR (w.heap.size) a0A a0d := by repeat' (first | with_reducible assumption | (with_reducible refine RdRing.drew ?_) | (with_reducible refine RdRing.carry ?_ (by with_reducible assumption) ?_) | (with_reducible refine RdRing.alloc ?_ ?_ _) | (with_reducible refine RdRing.setCell ?_ ?_ _) | omega | (simp; done) | (simp; omega))
              have bx_bwR : AtL (w.heap.size + 1) [.slice b0A b0d.length b0c] wR := by repeat' (first | with_reducible assumption | with_reducible exact AtL.new _ _ _ | ((with_reducible refine AtL.newAt ?_); (first | rfl | (simp; done))) | (with_reducible refine AtL.drew ?_) | (with_reducible refine AtL.below ?_ (by with_reducible assumption)) | (with_reducible refine AtL.alloc ?_ _) | (with_reducible refine AtL.far ?_ ?_ _ _) | omega | (simp; done) | (simp; omega))
              have rd_b0wR : RdRing wR (w.heap.size) b0A b0d := by repeat' (first | with_reducible assumption | (with_reducible refine RdRing.drew ?_) | (with_reducible refine RdRing.carry ?_ (by with_reducible assumption) ?_) | (with_reducible refine RdRing.alloc ?_ ?_ _) | (with_reducible refine RdRing.setCell ?_ ?_ _) | omega | (simp; done) | (simp; omega))
              have r1wR : RdRing wR (wC.heap.size) Aw l := by repeat' (first | with_reducible assumption | (with_reducible refine RdRing.drew ?_) | (with_reducible refine RdRing.carry ?_ (by with_reducible assumption) ?_) | (with_reducible refine RdRing.alloc ?_ ?_ _) | (with_reducible refine RdRing.setCell ?_ ?_ _) | omega | (simp; done) | (simp; omega))
              have bx_wwR : AtL (qw) [.slice Aw l.length cw] wR := by repeat' (first | with_reducible assumption | with_reducible exact AtL.new _ _ _ | ((with_reducible refine AtL.newAt ?_); (first | rfl | (simp; done))) | (with_reducible refine AtL.drew ?_) | (with_reducible refine AtL.below ?_ (by with_reducible assumption)) | (with_reducible refine AtL.alloc ?_ _) | (with_reducible refine AtL.far ?_ ?_ _ _) | omega | (simp; done) | (simp; omega))
              have bx_gwR : AtL (wD.heap.size) [.slice Ag l.length cg] wR := by repeat' (first | with_reducible assumption | with_reducible exact AtL.new _ _ _ | ((with_reducible refine AtL.newAt ?_); (first | rfl | (simp; done))) | (with_reducible refine AtL.drew ?_) | (with_reducible refine AtL.below ?_ (by with_reducible assumption)) | (with_reducible refine AtL.alloc ?_ _) | (with_reducible refine AtL.far ?_ ?_ _ _) | omega | (simp; done) | (simp; omega))
              have omwR : OwnRing wR (wX1.heap.size + 1) (wD.heap.size) Ag cg (mds 1 l) := by repeat' (first | with_reducible assumption | (with_reducible refine OwnRing.drew ?_) | (with_reducible refine OwnRing.carry ?_ (by with_reducible assumption)) | (with_reducible refine OwnRing.alloc ?_ _) | (with_reducible refine OwnRing.set_far ?_ ?_ _) | omega | (simp; done) | (simp; omega))
              have rhwR : RdRing wR (wQ.heap.size) Ah l := by repeat' (first | with_reducible assumption | (with_reducible refine RdRing.drew ?_) | (with_reducible refine RdRing.carry ?_ (by with_reducible assumption) ?_) | (with_reducible refine RdRing.alloc ?_ ?_ _) | (with_reducible refine RdRing.setCell ?_ ?_ _) | omega | (simp; done) | (simp; omega))
              have bx_hwR : AtL (qh) [.slice Ah l.length ch] wR := by repeat' (first | with_reducible assumption | with_reducible exact AtL.new _ _ _ | ((with_reducible refine AtL.newAt ?_); (first | rfl | (simp; done))) | (with_reducible refine AtL.drew ?_) | (with_reducible refine AtL.below ?_ (by with_reducible assumption)) | (with_reducible refine AtL.alloc ?_ _) | (with_reducible refine AtL.far ?_ ?_ _ _) | omega | (simp; done) | (simp; omega))
              have bp := bwQ.out
              have bn : Below w.heap.size w wR := by repeat' (first | with_reducible assumption | with_reducible exact Below.refl _ _ | (with_reducible refine Below.setCell ?_ ?_ _) | (with_reducible refine Below.alloc ?_ ?_ _) | (with_reducible refine Below.drew ?_) | (with_reducible refine below_dr ?_ _) | (with_reducible refine Below.trans ?_ (Below.mono (by with_reducible assumption) ?_)) | omega | (simp; done) | (simp; omega))
              have bwR := Lib.hid bn
              clear bn
              clear bp bwQ
              clear hbwR
              clear bx_awQ
              clear rd_a0wQ
              clear bx_bwQ
              clear rd_b0wQ
              clear r1wQ
              clear bx_wwQ
              clear bx_gwQ
              clear omwQ
              clear rhwQ
              clear bx_hwQ
              have kbx_g0 := bx_gwR.cell 0 rfl
              have lbx_g := bx_gwR.lt
              go_wp2_with fail
              clear kbx_g0 lbx_g
              refine (heldRegion_any 1 l Ag cg _ (Nat.le_refl _) HMK_r.out (by omega) ?_).mono ?_
              · exact OwnRing.rd (lo := wX1.heap.size + 1) (hi := wD.heap.size) (c := cg) (by repeat' (first | with_reducible assumption | (with_reducible refine OwnRing.drew ?_) | (with_reducible refine OwnRing.carry ?_ (by with_reducible assumption)) | (with_reducible refine OwnRing.alloc ?_ _) | (with_reducible refine OwnRing.set_far ?_ ?_ _) | omega | (simp; done) | (simp; omega)))
              rw [← HM.out]
              rintro e wV ⟨rfl, hbwV⟩
              have zwV := hbwV.size
              (try simp only [World.size_setCell] at zwV)
              (try simp only [World.size_drew] at zwV)
              (try simp only [World.size_alloc] at zwV)
              have qwV : w.heap.size ≤ wV.heap.size := by omega
              have bx_awV : AtL (w.heap.size) [.slice a0A a0d.length a0c] wV := by repeat' (first | with_reducible assumption | with_reducible exact AtL.new _ _ _ | ((with_reducible refine AtL.newAt ?_); (first | rfl | (simp; done))) | (with_reducible refine AtL.drew ?_) | (with_reducible refine AtL.below ?_ (by with_reducible assumption)) | (with_reducible refine AtL.alloc ?_ _) | (with_reducible refine AtL.far ?_ ?_ _ _) | omega | (simp; done) | (simp; omega))
              have rd_a0wV : RdRing wV (w.heap.size) a0A a0d := by repeat' (first | with_reducible assumption | (with_reducible refine RdRing.drew ?_) | (with_reducible refine RdRing.carry ?_ (by with_reducible assumption) ?_) | (with_reducible refine RdRing.alloc ?_ ?_ _) | (with_reducible refine RdRing.setCell ?_ ?_ _) | omega | (simp; done) | (simp; omega))
              have bx_bwV : AtL (w.heap.size + 1) [.slice b0A b0d.length b0c] wV := by repeat' (first | with_reducible assumption | with_reducible exact AtL.new _ _ _ | ((with_reducible refine AtL.newAt ?_); (first | rfl | (simp; done))) | (with_reducible refine AtL.drew ?_) | (with_reducible refine AtL.below ?_ (by with_reducible assumption)) | (with_reducible refine AtL.alloc ?_ _) | (with_reducible refine AtL.far ?_ ?_ _ _) | omega | (simp; done) | (simp; omega))
              have rd_b0wV : RdRing wV (w.heap.size) b0A b0d := by repeat' (first | with_reducible assumption | (with_reducible refine RdRing.drew ?_) | (with_reducible refine RdRing.carry ?_ (by with_reducible assumption) ?_) | (with_reducible refine RdRing.alloc ?_ ?_ _) | (with_reducible refine RdRing.setCell ?_ ?_ _) | omega | (simp; done) | (simp; omega))
              have r1wV : RdRing wV (wC.heap.size) Aw l := by repeat' (first | with_reducible assumption | (with_reducible refine RdRing.drew ?_) | (with_reducible refine RdRing.carry ?_ (by with_reducible assumption) ?_) | (with_reducible refine RdRing.alloc ?_ ?_ _) | (with_reducible refine RdRing.setCell ?_ ?_ _) | omega | (simp; done) | (simp; omega))
              have bx_wwV : AtL (qw) [.slice Aw l.length cw] wV := by repeat' (first | with_reducible assumption | with_reducible exact AtL.new _ _ _ | ((with_reducible refine AtL.newAt ?_); (first | rfl | (simp; done))) | (with_reducible refine AtL.drew ?_) | (with_reducible refine AtL.below ?_ (by with_reducible assumption)) | (with_reducible refine AtL.alloc ?_ _) | (with_reducible refine AtL.far ?_ ?_ _ _) | omega | (simp; done) | (simp; omega))
              have bx_gwV : AtL (wD.heap.size) [.slice Ag l.length cg] wV := by repeat' (first | with_reducible assumption | with_reducible exact AtL.new _ _ _ | ((with_reducible refine AtL.newAt ?_); (first | rfl | (simp; done))) | (with_reducible refine AtL.drew ?_) | (with_reducible refine AtL.below ?_ (by with_reducible assumption)) | (with_reducible refine AtL.alloc ?_ _) | (with_reducible refine AtL.far ?_ ?_ _ _) | omega | (simp; done) | (simp; omega))
              have omwV : OwnRing wV (wX1.heap.size + 1) (wD.heap.size) Ag cg (mds 1 l) := by repeat' (first | with_reducible assumption | (with_reducible refine OwnRing.drew ?_) | (with_reducible refine OwnRing.carry ?_ (by with_reducible assumption)) | (with_reducible refine OwnRing.alloc ?_ _) | (with_reducible refine OwnRing.set_far ?_ ?_ _) | omega | (simp; done) | (simp; omega))
              have rhwV : RdRing wV (wQ.heap.size) Ah l := by repeat' (first | with_reducible assumption | (with_reducible refine RdRing.drew ?_) | (with_reducible refine RdRing.carry ?_ (by with_reducible assumption) ?_) | (with_reducible refine RdRing.alloc ?_ ?_ _) | (with_reducible refine RdRing.setCell ?_ ?_ _) | omega | (simp; done) | (simp; omega))
              have bx_hwV : AtL (qh) [.slice Ah l.length ch] wV := by repeat' (first | with_reducible assumption | with_reducible exact AtL.new _ _ _ | ((with_reducible refine AtL.newAt ?_); (first | rfl | (simp; done))) | (with_reducible refine AtL.drew ?_) | (with_reducible refine AtL.below ?_ (by with_reducible assumption)) | (with_reducible refine AtL.alloc ?_ _) | (with_reducible refine AtL.far ?_ ?_ _ _) | omega | (simp; done) | (simp; omega))
              have bp := bwR.out
              have bn : Below w.heap.size w wV := by repeat' (first | with_reducible assumption | with_reducible exact Below.refl _ _ | (with_reducible refine Below.setCell ?_ ?_ _) | (with_reducible refine Below.alloc ?_ ?_ _) | (with_reducible refine Below.drew ?_) | (with_reducible refine below_dr ?_ _) | (with_reducible refine Below.trans ?_ (Below.mono (by with_reducible assumption) ?_)) | omega | (simp; done) | (simp; omega))
              have bwV := Lib.hid bn
              clear bn
              clear bp bwR
              clear hbwV
              clear bx_awR
              clear rd_a0wR
              clear bx_bwR
              clear rd_b0wR
              clear r1wR
              clear bx_wwR
              clear bx_gwR
              clear omwR
              clear rhwR
              clear bx_hwR
              go_wp2_with fail
              go_ret
              have bp := bwV.out
              exact ⟨rfl, by repeat' (first | with_reducible assumption | with_reducible exact Below.refl _ _ | (with_reducible refine Below.setCell ?_ ?_ _) | (with_reducible refine Below.alloc ?_ ?_ _) | (with_reducible refine Below.drew ?_) | (with_reducible refine below_dr ?_ _) | (with_reducible refine Below.trans ?_ (Below.mono (by with_reducible assumption) ?_)) | omega | (simp; done) | (simp; omega))⟩
end Go.Proofs.Ytdeemhfhmgnbgaa
