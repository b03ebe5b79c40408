/- Walks: a ring without the points at which it does not turn, the program's side. -/
import Derived.Test.YtdeemhfhmgnbgaaDoorSmf
import Derived.Deep.RegionHeld3
namespace Go.Proofs.YtdeemhfhmgnbgaaDoor
open Go.RowKit
set_option linter.unusedVariables false
theorem rd_blk {w : World} {g : Nat} {t : TypeId} {l : List APt} {m : Nat} {cur : Array Value} (hb : Blk w g 52 cur) (htk : cur.toList.take (m * 2) = cellsF cPt l) {k : Nat} {u v : Int} (ha : l[k]? = some (u, v)) :
    w.cell? ⟨g, k * 2, none⟩ = some (.int .i64 u) ∧ w.cell? ⟨g, k * 2 + 1, none⟩ = some (.int .i64 v) := by
  have h0 := cellsF_at (fun a => cPt_len a) l k _ ha 0 (by omega)
  have h1 := cellsF_at (fun a => cPt_len a) l k _ ha 1 (by omega)
  exact ⟨cells_at hb htk (by rw [Nat.add_zero] at h0; rw [h0]; rfl), cells_at hb htk (by rw [h1]; rfl)⟩
def StRet (f : Nat) (l : List APt) (g c : Nat) (w : World) (e : Ending) (w' : World) : Prop :=
  ∃ (m' : Nat) (cur' : Array Value), m' = (smp f l).length ∧ e = .returned (.slice (some ⟨g, 0, none⟩) m' c) ∧ Blk w' g 52 cur' ∧ cur'.size = c * 2 ∧ cur'.toList.take (m' * 2) = cellsF cPt (smp f l) ∧ Below g w w'
set_option maxRecDepth 100000 in
set_option maxHeartbeats 12800000 in
theorem straights_any : ∀ (f : Nat) (l : List APt) (g c m : Nat) (cur : Array Value) (w : World), m = l.length → m ≤ f → m ≤ 400 → m ≤ c → c ≤ 9223372036854775807 → Blk w g 52 cur → cur.size = c * 2 → cur.toList.take (m * 2) = cellsF cPt l → ptsUp l l.length = true →
    Calls Tryd.prog 26 #[.slice (some ⟨g, 0, none⟩) m c] w (StRet f l g c w)
  | 0, l, g, c, m, cur, w, hm, h0, h4, hcap, hc63, hb, hsz, htk, hp => by
    obtain rfl : m = 0 := by omega
    have HL := Lib.hid hm
    unfold StRet smp
    clear hm h0 h4
    have g0 := hb.lt
    go_enter Tryd.func26, Tryd.ntmps26
    go_wp2_with fail
    go_loopw [10] (fun i wr => i = .int .i64 0 ∧ wr = w) (fun _ _ => 0)
    case atStart => exact ⟨rfl, rfl⟩
    case round =>
      obtain ⟨rfl, rfl⟩ := hrel
      go_wp2_with fail
      go_ret
      exact ⟨0, cur, HL.out, rfl, hb, hsz, htk, by repeat' (first | with_reducible assumption | with_reducible exact Below.refl _ _ | (with_reducible refine Below.setCell ?_ ?_ _) | (with_reducible refine Below.alloc ?_ ?_ _) | (with_reducible refine Below.drew ?_) | (with_reducible refine below_dr ?_ _) | (with_reducible refine Below.trans ?_ (Below.mono (by with_reducible assumption) ?_)) | omega | (simp; done) | (simp; omega))⟩
  | f + 1, l, g, c, m, cur, w, hm, h0, h4, hcap, hc63, hb, hsz, htk, hp => by
    have HP := Lib.hid hp
    have HM := Lib.hid hm
    have HTK := Lib.hid htk
    have HSZ := Lib.hid hsz
    have CD := Lib.hid (fun k w hk hb => delete_any l g c m k cur w hm hk hcap hc63 (by omega) hb hsz htk)
    have IH := Lib.hid (fun l m cur w a1 a2 a3 a4 a5 a6 a7 a8 => straights_any f l g c m cur w a1 a2 a3 a4 hc63 a5 a6 a7 a8)
    clear hm hp htk hsz
    have hgl := hb.lt
    have H0 := Lib.hid h0
    clear h0
    unfold StRet
    unfold StRet at IH
    go_enter Tryd.func26, Tryd.ntmps26
    go_wp2_with fail
    go_loopw [10] (fun i wr => ∃ k : Nat, k ≤ m ∧ i = .int .i64 (k : Int) ∧ (∀ j, j < k → idleB l j = false) ∧ Below w.heap.size w wr) (fun i _ => m - (intOf i).toNat)
    case atStart => exact ⟨0, Nat.zero_le _, rfl, fun j h => absurd h (Nat.not_lt_zero _), by repeat' (first | with_reducible assumption | with_reducible exact Below.refl _ _ | (with_reducible refine Below.setCell ?_ ?_ _) | (with_reducible refine Below.alloc ?_ ?_ _) | (with_reducible refine Below.drew ?_) | (with_reducible refine below_dr ?_ _) | (with_reducible refine Below.trans ?_ (Below.mono (by with_reducible assumption) ?_)) | omega | (simp; done) | (simp; omega))⟩
    case round =>
      obtain ⟨k, hk, rfl, hno, hbl⟩ := hrel
      have zr := hbl.size
      have HNO := Lib.hid hno
      clear hno
      have bb := hb.carry hbl
      by_cases hlt : k < m
      case pos =>
        obtain ⟨j, hj⟩ : ∃ j, (k + 1) % l.length = j := ⟨_, rfl⟩
        obtain ⟨i, hi⟩ : ∃ i, (k + l.length - 1) % l.length = i := ⟨_, rfl⟩
        have hjn : j < m := by rw [← hj, ← HM.out]; exact Nat.mod_lt _ (by omega)
        have hin : i < m := by rw [← hi, ← HM.out]; exact Nat.mod_lt _ (by omega)
        obtain ⟨⟨b0, b1⟩, hb'⟩ : ∃ a, l[k]? = some a := ⟨l[k]'(by have := HM.out; omega), List.getElem?_eq_getElem (by have := HM.out; omega)⟩
        obtain ⟨⟨c0, c1⟩, hc⟩ : ∃ a, l[j]? = some a := ⟨l[j]'(by have := HM.out; omega), List.getElem?_eq_getElem (by have := HM.out; omega)⟩
        obtain ⟨⟨a0, a1⟩, ha⟩ : ∃ a, l[i]? = some a := ⟨l[i]'(by have := HM.out; omega), List.getElem?_eq_getElem (by have := HM.out; omega)⟩
        have ok1 := pts_all HP.out ha
        have ok2 := pts_all HP.out hb'
        have ok3 := pts_all HP.out hc
        have HB := Lib.hid (idleB_is hi ha hb' hj hc)
        have CT := Lib.hid (fun w => implTurn_any a0 a1 b0 b1 c0 c1 w)
        rw [← turnV_is ok1 ok2 ok3] at CT
        obtain ⟨p2, p3⟩ := rd_blk (t := 52) bb HTK.out hb'
        have HPA := Lib.hid (fun (wx : World) (h : Blk wx g 52 cur) => rd_blk (t := 52) h HTK.out ha)
        have HPC := Lib.hid (fun (wx : World) (h : Blk wx g 52 cur) => rd_blk (t := 52) h HTK.out hc)
        have e3 : ((k : Int) + 1).tmod (m : Int) = (j : Int) := by rw [← hj, ← HM.out, show ((k : Int) + 1) = ((k + 1 : Nat) : Int) by omega]; exact (Int.ofNat_tmod _ _).symm
        have e5 : ((k : Int) + (m : Int) - 1).tmod (m : Int) = (i : Int) := by rw [← hi, ← HM.out, show ((k : Int) + (m : Int) - 1) = ((k + m - 1 : Nat) : Int) by omega]; exact (Int.ofNat_tmod _ _).symm
        clear hi hj ha hb' hc ok1 ok2 ok3
        generalize turnI a0 a1 b0 b1 c0 c1 = tn at *
        have hki : (k : Int) < (m : Int) := by omega
        have hji : (j : Int) < (m : Int) := by omega
        have hii : (i : Int) < (m : Int) := by omega
        have hj0 : (0 : Int) ≤ (j : Int) := by omega
        have hi0 : (0 : Int) ≤ (i : Int) := by omega
        have e1 : ((m : Int) == 0) = false := by simp; omega
        have e2 : ¬ (m : Int) = 0 := by omega
        have e4 : ¬ m = 0 := by omega
        have b1' : IntKind.i64.wrap ((k : Int) + 1) = (k : Int) + 1 := IntWalk.i64_in _ (by omega)
        have b2' : IntKind.i64.wrap (j : Int) = (j : Int) := IntWalk.i64_in _ (by omega)
        have b3' : IntKind.i64.wrap ((k : Int) + (m : Int)) = (k : Int) + (m : Int) := IntWalk.i64_in _ (by omega)
        have b4' : IntKind.i64.wrap ((k : Int) + (m : Int) - 1) = (k : Int) + (m : Int) - 1 := IntWalk.i64_in _ (by omega)
        have b5' : IntKind.i64.wrap (i : Int) = (i : Int) := IntWalk.i64_in _ (by omega)
        have hgw : g < wr.heap.size := by omega
        go_upto_region 5 with fail
        generalize hW : wr.alloc (.cells #[.int .i64 b0, .int .i64 b1] 52) = W1
        obtain ⟨P, hP⟩ : ∃ P, P = wr.heap.size := ⟨_, rfl⟩
        have b4 : Blk W1 P 52 #[.int .i64 b0, .int .i64 b1] := by rw [← hW, hP]; exact Blk.new _ _ _
        have bb1 : Blk W1 g 52 cur := by rw [← hW]; exact bb.alloc _
        have g2 : Below w.heap.size w W1 := by rw [← hW]; exact hbl.alloc (by omega) _
        rw [← hP]
        clear hW hP hbl p2 p3 bb zr hgw
        obtain ⟨p0, p1⟩ := HPA.out _ bb1
        obtain ⟨p4, p5⟩ := HPC.out _ bb1
        have hgw := bb1.lt
        have y0 : W1.cell? ⟨P, 0, none⟩ = some (.int .i64 b0) := b4.cell 0 rfl
        have y1 : W1.cell? ⟨P, 1, none⟩ = some (.int .i64 b1) := b4.cell 1 rfl
        have ly := b4.lt
        go_region_held3 (fun w' => (∀ b o, b < W1.heap.size → w'.cell? ⟨b, o, none⟩ = W1.cell? ⟨b, o, none⟩) ∧ W1.heap.size ≤ w'.heap.size)
          (first | ((try dsimp only); exact ⟨fun b o h => (by (repeat (first | with_reducible exact rfl | (with_reducible refine (cell_drew_at _ _).trans ?_) | (with_reducible refine (cell_set_at _ _ (by first | omega | (simp; done) | (simp; omega))).trans ?_) | (with_reducible refine (cell_alloc_at _ _ (by first | omega | (simp; done) | (simp; omega))).trans ?_) | (with_reducible refine (hcwT1 b o (by first | omega | (simp; done) | (simp; omega))).trans ?_)))), (by first | omega | (simp; done) | (simp; omega))⟩) | fail)
          ((go_at_call 34; (with_reducible refine (CT.out _).mono ?_); rintro e wT1 ⟨rfl, hbwT1⟩; obtain ⟨hcwT1, hfwT1⟩ := bcell hbwT1; have hzwT1 := hbwT1.size; (try simp only [World.size_drew] at hcwT1 hfwT1 hzwT1); (try simp only [World.size_alloc] at hcwT1 hfwT1 hzwT1)))
        all_goals
          have g3 : Below W1.heap.size W1 wT1 := by clear g2; repeat' (first | with_reducible assumption | with_reducible exact Below.refl _ _ | (with_reducible refine Below.setCell ?_ ?_ _) | (with_reducible refine Below.alloc ?_ ?_ _) | (with_reducible refine Below.drew ?_) | (with_reducible refine below_dr ?_ _) | (with_reducible refine Below.trans ?_ (Below.mono (by with_reducible assumption) ?_)) | omega | (simp; done) | (simp; omega))
          have zT := g3.size
          have zz := g2.size
          have g4 : Below w.heap.size w wT1 := g2.trans (g3.mono zz)
          have bT : Blk wT1 g 52 cur := bb1.carry g3
          clear hbwT1 hfwT1 hcwT1 CT p0 p1 p4 p5 y0 y1 b4 bb1 g2 g3
          by_cases ht : tn = 0
          case pos =>
            subst ht
            have hkl : k < l.length := by rw [← HM.out]; exact hlt
            have hN : idlN l = k := idlN_at hkl (by rw [HB.out]; exact decide_eq_true rfl) HNO.out
            have HST := Lib.hid (smp_step (f := f) hkl hN)
            have HPE := Lib.hid (pts_erase HP.out k)
            have HEL := Lib.hid (show m - 1 = (l.eraseIdx k).length by rw [erase_len hkl, ← HM.out])
            clear HB hN hkl
            have hm1 : 1 ≤ m := by omega
            go_wp2_with fail
            refine (CD.out k _ hlt bT).mono ?_
            rintro e w5 ⟨rfl, cur2, bk2, hs2, ht2, hb5⟩
            have g5 : Below g w w5 := (g4.mono (by omega)).trans hb5
            clear hb5 bT g4
            go_wp2_with fail
            refine (IH.out (l.eraseIdx k) (m - 1) cur2 _ HEL.out (by have := H0.out; omega) (by omega) (by omega) bk2 hs2 ht2 HPE.out).mono ?_
            intro e w6 hq
            obtain ⟨m', cur', hm', rfl, bk', hs', ht', hb6⟩ := hq
            have g6 : Below g w w6 := g5.trans hb6
            clear hb6 g5 bk2 hs2 ht2
            rw [← HST.out] at hm' ht'
            have HMM := Lib.hid hm'
            clear hm'
            go_wp2_with fail
            go_ret
            exact ⟨m', cur', HMM.out, rfl, bk', hs', ht', g6⟩
          case neg =>
            have ed : decide (tn = 0) = false := decide_eq_false ht
            have HK := Lib.hid (no_succ HNO.out (by rw [HB.out]; exact ed))
            clear HB
            go_wp2_with fail
            go_roundw
            case rel => exact ⟨k + 1, by omega, by go_num, HK.out, g4⟩
            case measure => simp [intOf]; omega
      case neg =>
        obtain rfl : k = m := by omega
        have HSS := Lib.hid (show smp (f + 1) l = l from smp_stop (idlN_none (by rw [← HM.out]; exact HNO.out)))
        have hq : k = (smp (f + 1) l).length := by rw [HSS.out]; exact HM.out
        have HQ := Lib.hid hq
        clear hq
        go_wp2_with fail
        go_ret
        exact ⟨k, cur, HQ.out, rfl, bb, HSZ.out, by rw [HSS.out]; exact HTK.out, hbl.mono (by omega)⟩
end Go.Proofs.YtdeemhfhmgnbgaaDoor
