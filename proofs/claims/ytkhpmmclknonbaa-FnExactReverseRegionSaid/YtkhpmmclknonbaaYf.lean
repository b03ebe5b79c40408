/- Walks: a region turned round, the reference's side, the good case. -/
import Derived.Test.YtkhpmmclknonbaaYe
import Derived.Test.YtkhpmmclknonbaaXa
namespace Go.Proofs.Ytkhpmmclknonbaa
open Go.RowKit
set_option linter.unusedVariables false
set_option maxRecDepth 100000 in
set_option maxHeartbeats 12800000 in
theorem specReverseRegion_ok (ds : List DRing) (A : Option Addr) (c : Nat) (w : World) (hv : vRn ds = true) (r : RdRing w w.heap.size A ds) :
    Calls Try.prog 26 #[.agg #[.slice A ds.length c]] w (OutRet 0 (ds.map List.reverse) w) := by
  obtain ⟨hl40, hup, h400⟩ := vRn_parts hv
  have HIN := Lib.hid (rUp_in hup)
  have HE := Lib.hid (vRn_each hv)
  have CV := Lib.hid (fun A c b w hb c0 r => l13Ok_any ds A c b w hb c0 (by omega) (fun i d h => by have := rUp_in hup i d h; omega) r)
  simp only [hv] at CV
  clear hup hv h400
  obtain ⟨i0, hi0, hz0', hz1', hz2'⟩ := info_parts infoRing
  have HI0 := Lib.hid hi0
  have HZ00 := Lib.hid hz0'
  have HZ10 := Lib.hid hz1'
  have HZ20 := Lib.hid hz2'
  clear hi0 hz0' hz1' hz2'
  obtain ⟨i1, hi0, hz0', hz1', hz2'⟩ := info_parts infoPt
  have HI1 := Lib.hid hi0
  have HZ01 := Lib.hid hz0'
  have HZ11 := Lib.hid hz1'
  have HZ21 := Lib.hid hz2'
  clear hi0 hz0' hz1' hz2'
  unfold OutRet
  rw [List.length_map]
  obtain ⟨n, hn⟩ : ∃ n, n = ds.length := ⟨_, rfl⟩
  rw [← hn] at hl40 CV ⊢
  have HN := Lib.hid hn
  clear hn
  go_enter Try.func26, Try.ntmps26
  go_wp2_with fail
  refine (CV.out A c _ _ (by simp; omega) (by simp [go_sem]) (((r.alloc (Nat.le_refl _) _).alloc (by simp) _).more (by simp; omega))).mono ?_
  rintro e w1 ⟨rfl, hb⟩
  have bk1 : Blk w1 w.heap.size 38 #[.slice A n c] := ((Blk.new _ _ _).alloc _).carry hb
  have bk2 : Blk w1 (w.heap.size + 1) 38 #[.slice none 0 0] := (Blk.newAt _ _ _ (by simp)).carry hb
  have z1 := bk2.lt
  have g0 : Below w.heap.size w w1 := by repeat' (first | with_reducible assumption | with_reducible exact Below.refl _ _ | (with_reducible refine Below.setCell ?_ ?_ _) | (with_reducible refine Below.alloc ?_ ?_ _) | (with_reducible refine Below.drew ?_) | (with_reducible refine below_dr ?_ _) | (with_reducible refine Below.trans ?_ (Below.mono (by with_reducible assumption) ?_)) | omega | (simp; done) | (simp; omega))
  clear hb
  go_wp2_with fail
  generalize hW : w1.alloc (.cells #[.slice none 0 0] 38) = W0
  obtain ⟨P, hP⟩ : ∃ P, P = w1.heap.size := ⟨_, rfl⟩
  have bo0 : Blk W0 P 38 #[.slice none 0 0] := by rw [← hW, hP]; exact Blk.new _ _ _
  have ak1 : Blk W0 w.heap.size 38 #[.slice A n c] := by rw [← hW]; exact bk1.alloc _
  have ak2 : Blk W0 (w.heap.size + 1) 38 #[.slice none 0 0] := by rw [← hW]; exact bk2.alloc _
  have g2 : Below w.heap.size w W0 := by rw [← hW]; exact g0.alloc (by omega) _
  have hPP : w.heap.size + 2 ≤ P := by omega
  rw [← hP]
  clear hW bk1 bk2 g0 z1 hP
  go_loopw [5] (fun i wr => ∃ (k : Nat) (A' : Option Addr) (c' : Nat), k ≤ n ∧ i = .int .i64 (k : Int) ∧ Blk wr w.heap.size 38 #[.slice A n c] ∧ Blk wr (w.heap.size + 1) 38 #[.slice none 0 0] ∧ Blk wr P 38 #[.slice A' k c'] ∧ OwnRing wr (P + 1) wr.heap.size A' c' ((ds.take k).map List.reverse) ∧ Below w.heap.size w wr) (fun i _ => n - (intOf i).toNat)
  case atStart => exact ⟨0, none, 0, Nat.zero_le _, rfl, ak1, ak2, bo0, OwnRing.nil _ _ _, g2⟩
  case round =>
    clear ak1 ak2 bo0 g2
    obtain ⟨k, A', c', hk, rfl, bk1, bk2, bo1, ow1, g1⟩ := hrel
    have r1 := r.carry g1 (Nat.le_refl _)
    have zg := g1.size
    have zo := bo1.lt
    have b0 : wr.cell? ⟨w.heap.size, 0, none⟩ = some (.slice A n c) := bk1.cell 0 rfl
    by_cases hlt : k < n
    case pos =>
      obtain ⟨wo, hwo⟩ : ∃ W : World, W = wr := ⟨_, rfl⟩
      subst hwo
      have hki : (k : Int) < (n : Int) := by omega
      obtain ⟨dl, ha⟩ : ∃ a, ds[k]? = some a := ⟨ds[k]'(by have := HN.out; omega), List.getElem?_eq_getElem (by have := HN.out; omega)⟩
      have hdl := HIN.out k _ ha
      have hd1 := (vRg_parts (HE.out dl (List.mem_of_getElem? ha))).1
      obtain ⟨g, o, A1, c1, rfl, hg, hc, hrd⟩ := r1.elem ha
      have p0 : wo.cell? ⟨g, o + k, none⟩ = some (.slice A1 dl.length c1) := by have h := hc 0 _ rfl; rw [Nat.mul_one] at h; exact h
      have hgr : g < wo.heap.size := by omega
      have HTK := Lib.hid (revs_take ha)
      clear hc ha
      obtain ⟨g1a, o1a, had⟩ : ∃ g1a o1a, A1 = some ⟨g1a, o1a, none⟩ := by
        obtain ⟨a0, ha0⟩ : ∃ a, dl[0]? = some a := ⟨dl[0]'(by omega), List.getElem?_eq_getElem (by omega)⟩
        obtain ⟨g2, o2, h2, _, _⟩ := hrd.elem ha0
        exact ⟨_, _, h2⟩
      subst had
      obtain ⟨m, hm⟩ : ∃ m, m = dl.length := ⟨_, rfl⟩
      have HM := Lib.hid hm
      rw [← hm] at p0 hdl hd1
      clear hm
      have em0 : IntKind.i64.wrap ((m : Int) - 1) = (m : Int) - 1 := IntWalk.i64_in _ (by omega)
      have hkl : ((ds.take k).map List.reverse).length = k := by have := HN.out; simp; omega
      obtain ⟨rows, hrows, h2, h3, h4, h5⟩ := ow1
      rw [hkl] at h2 h3 h4
      have hgx : g1a < wo.heap.size := by (obtain ⟨a0, ha0⟩ : ∃ a, dl[0]? = some a := ⟨dl[0]'(by have := HM.out; omega), List.getElem?_eq_getElem (by have := HM.out; omega)⟩); (obtain ⟨g2, o2, e2, q2, _⟩ := hrd.elem ha0); injection e2 with e2; injection e2 with e2 e3; omega
      have p0g : ∀ o1, (wo.alloc o1).cell? ⟨g, o + k, none⟩ = some (.slice (some ⟨g1a, o1a, none⟩) m c1) := fun o1 => (cell_alloc_at _ _ hgr).trans p0
      have b0g : ∀ o1, (wo.alloc o1).cell? ⟨w.heap.size, 0, none⟩ = some (.slice (some ⟨g, o, none⟩) n c) := fun o1 => (cell_alloc_at _ _ (by omega)).trans b0
      go_wp2_with fail
      generalize hW : wo.alloc (.cells #[.slice none 0 0] 91) = W0
      obtain ⟨G, hG⟩ : ∃ G, G = wo.heap.size := ⟨_, rfl⟩
      have bg0 : Blk W0 G 91 #[.slice none 0 0] := by rw [← hW, hG]; exact Blk.new _ _ _
      have g0 : Below G wo W0 := by rw [← hW, hG]; exact (Below.refl _ _).alloc (Nat.le_refl _) _
      clear p0g b0g
      rw [← hG] at hgr hgx zo zg ⊢
      have HG := Lib.hid hG
      clear hW hG
      have HKEEP := Lib.hid (show ∀ wx : World, Below G wo wx → wx.cell? ⟨g, o + k, none⟩ = some (.slice (some ⟨g1a, o1a, none⟩) m c1) ∧ wx.cell? ⟨w.heap.size, 0, none⟩ = some (.slice (some ⟨g, o, none⟩) n c) from fun wx hb => ⟨(hb.cell (p := ⟨g, o + k, none⟩) hgr).trans p0, (hb.cell (p := ⟨w.heap.size, 0, none⟩) (by simp only; omega)).trans b0⟩)
      have HRDK := Lib.hid (show ∀ wx : World, Below G wo wx → Rd cPt 2 wx G (some ⟨g1a, o1a, none⟩) dl from fun wx hb => by rw [HG.out] at hb ⊢; exact (hrd.more (by have := HG.out; omega)).below hb)
      clear p0 b0 hrd r1
      go_loopw [7] (fun i wx => ∃ (p q : Nat) (A2 : Option Addr) (c2 : Nat), p + q = m ∧ i = .int .i64 ((q : Int) - 1) ∧ (∀ b, (Value.slice A2 p c2).ownBlock = some b → ¬ b = G) ∧ Blk wx G 91 #[.slice A2 p c2] ∧ wx.ownsRow (G + 1) 25 2 (.slice A2 p c2) p (cellsF cPt (dl.reverse.take p)) ∧ Below G wo wx) (fun i _ => ((intOf i) + 1).toNat)
      case atStart => exact ⟨0, m, none, 0, by omega, rfl, fun b hb => (by cases hb), bg0, World.ownsRow_nil _ _ _ _, g0⟩
      case round =>
        clear bg0 g0
        obtain ⟨p, q, A2, c2, hpq, rfl, hap, bg1, ow, gx⟩ := hrel
        obtain ⟨kp, kb⟩ := HKEEP.out _ gx
        have HAP := Lib.hid hap
        have HOB := Lib.hid (fun b (hb : (Value.slice A2 p c2).ownBlock = some b) => own_block ow hb)
        clear hap
        have zx := gx.size
        have lg := bg1.lt
        have y0 := bg1.cell 0 rfl
        have u0 := bg1.frozen 0
        by_cases hq : 1 ≤ q
        case pos =>
          obtain ⟨q, rfl⟩ : ∃ q', q = q' + 1 := ⟨q - 1, by omega⟩
          obtain ⟨⟨x0, x1⟩, hx⟩ : ∃ a, dl[q]? = some a := ⟨dl[q]'(by have := HM.out; omega), List.getElem?_eq_getElem (by have := HM.out; omega)⟩
          have HCS := Lib.hid (show cellsF cPt (dl.reverse.take p) ++ [.int .i64 x0, .int .i64 x1] = cellsF cPt (dl.reverse.take (p + 1)) by rw [← rev_take (by have := HM.out; omega) hx]; exact cellsF_snoc (f := cPt) (dl.reverse.take p) (x0, x1))
          obtain ⟨g', o', hA', hg', hc⟩ := (HRDK.out _ gx).elem hx
          obtain ⟨rfl, rfl⟩ : g1a = g' ∧ o1a = o' := by injection hA' with h; injection h with h1 h2; exact ⟨h1, h2⟩
          have q0 : wr.cell? ⟨g1a, o1a + q * 2, none⟩ = some (.int .i64 x0) := hc 0 _ rfl
          have q1 : wr.cell? ⟨g1a, o1a + q * 2 + 1, none⟩ = some (.int .i64 x1) := hc 1 _ rfl
          clear hc hx hA'
          have eq1 : ((q + 1 : Nat) : Int) - 1 = (q : Int) := by omega
          rw [eq1]
          have hqm : (q : Int) < (m : Int) := by omega
          have hq0 : (0 : Int) ≤ (q : Int) := by omega
          have em : IntKind.i64.wrap ((q : Int) - 1) = (q : Int) - 1 := IntWalk.i64_in _ (by omega)
          have hrd : Reads (wr.drew.alloc (.cells #[.int .i64 x0, .int .i64 x1] 25)) (wr.heap.size + 1) 2 (some ⟨wr.heap.size, 0, none⟩) 1 [.int .i64 x0, .int .i64 x1] := by
            have := Reads.of_own (own_one (w := wr.drew) (base := 0) (e := 25) (cs := #[.int .i64 x0, .int .i64 x1]) (s := 2) (Nat.zero_le _) rfl)
            simpa using this
          have HRD := Lib.hid hrd
          have H1C := Lib.hid (show ∀ u ∈ ([.int .i64 x0, .int .i64 x1] : List Value), u.oneCell' = true by intro v hv; simp at hv; rcases hv with rfl | rfl <;> rfl)
          have HMX := Lib.hid (show p + 1 ≤ maxLen by unfold maxLen; omega)
          have HBY := Lib.hid (show (p + 1) * 16 ≤ 140737488355328 by omega)
          have HBS := Lib.hid (show G + 1 ≤ (wr.drew.alloc (.cells #[.int .i64 x0, .int .i64 x1] 25)).heap.size by simp; omega)
          have HO := Lib.hid (World.ownsRow.alloc (own_drew ow) (.cells #[.int .i64 x0, .int .i64 x1] 25))
          clear hrd
          have hwx : w.heap.size < wr.heap.size := by omega
          have hgx2 : g < wr.heap.size := by omega
          have hgx3 : g1a < wr.heap.size := by omega
          go_wp2_with fail
          go_region_law (go_loud (refine step_append_any _ rfl (.tmp 33) (.tmp 43) _ rfl (G + 1) 25 i1 _ 2 16 Try.underlying89 HI1.out HZ01.out HZ11.out HZ21.out rfl (by omega) _ p (cellsF cPt (dl.reverse.take p)) rfl HO.out (wr.heap.size + 1) (some ⟨wr.heap.size, 0, none⟩) 1 1 [.int .i64 x0, .int .i64 x1] rfl HRD.out H1C.out HMX.out HBY.out HBS.out ?_); intro v' w9 hown9 hg9' hat9; obtain ⟨g9, cap9, rfl, _, _⟩ := hown9.form (by omega); have hg9 : (wr.drew.alloc (.cells #[.int .i64 x0, .int .i64 x1] 25)).grownBy w9 (Value.slice A2 p c2).ownBlock := hg9'; clear hg9'; have pw9 := Blk.grown (bg1.drew.alloc _) hg9 (fun q hq => HAP.out q hq); have yy0 : w9.cell? ⟨G, 0, none⟩ = some (.slice A2 p c2) := pw9.cell 0 rfl; have yy1 := pw9.frozen 0; have HOWN9 := Lib.hid hown9; have HG9 := Lib.hid hg9; have HAT9 := Lib.hid hat9; clear hown9 hg9 hat9)
          all_goals
            have hg9 := HG9.out
            have hown9 := HOWN9.out
            have hz9 := hg9.size
            (try simp only [World.size_alloc] at hz9)
            (try simp only [World.size_drew] at hz9)
            rw [HCS.out] at hown9
            have hap9 : ∀ q, (Value.slice (some ⟨g9, 0, none⟩) (p + 1) cap9).ownBlock = some q → ¬ q = G := by
              intro q hq
              rcases HAT9.out with h | h
              · exact HAP.out q (h.symm.trans hq)
              · have h2 := Option.some.inj (h.symm.trans hq)
                simp only [World.size_alloc, World.size_drew] at h2
                omega
            have HAP9 := Lib.hid hap9
            clear hap9
            go_wp2_with fail
            go_roundw
            case rel =>
              refine ⟨p + 1, q, some ⟨g9, 0, none⟩, cap9, by omega, by first | rfl | (congr 1; omega), HAP9.out, pw9.set_ 0 _, own_keep hown9 (fun q hq h8 => HAP9.out q hq h8.symm) _, ?_⟩
              exact (below_of_grown ((Below.drew gx).alloc (by simp only [World.size_drew]; omega) _) hg9 (by simp; omega) (fun q hq => by have := HOB.out q hq; omega)).setCell (by simp only; omega) _
            case measure => first | (simp [intOf]; done) | (simp [intOf]; omega)
        case neg =>
          obtain rfl : q = 0 := by omega
          obtain rfl : p = m := by omega
          have e9 : ((0 : Nat) : Int) - 1 = -1 := rfl
          rw [e9]
          rw [List.take_of_length_le (by rw [List.length_reverse]; have := HM.out; omega)] at ow
          have hgx0 : Below wo.heap.size wo wr := by rw [← HG.out]; exact gx
          have hml : p = dl.reverse.length := by rw [List.length_reverse]; exact HM.out
          have bo2 := bo1.carry hgx0
          have yo := bo2.cell 0 rfl
          have uo := bo2.frozen 0
          have lo := bo2.lt
          have own2 : wr.ownsRow wo.heap.size 25 2 (.slice A2 dl.reverse.length c2) dl.reverse.length (cellsF cPt dl.reverse) := by rw [← hml]; exact own_base ow (by have := HG.out; omega)
          have HOM := Lib.hid (World.ownsRow.alloc (own_stays h2 hgx0) (.cells #[.slice A2 p c2] 91))
          have HRB := Lib.hid (fun b (hb : (Value.slice A' k c').ownBlock = some b) => own_block h2 hb)
          have HMX := Lib.hid (show k + 1 ≤ maxLen by unfold maxLen; omega)
          have HBY := Lib.hid (show (k + 1) * 24 ≤ 140737488355328 by omega)
          have HBS := Lib.hid (show P + 1 ≤ (wr.alloc (.cells #[.slice A2 p c2] 91)).heap.size by simp; omega)
          have HRD := Lib.hid (show Reads (wr.alloc (.cells #[.slice A2 p c2] 91)) (wr.heap.size + 1) 1 (some ⟨wr.heap.size, 0, none⟩) 1 [.slice A2 p c2] by have := Reads.of_own (own_one (w := wr) (base := 0) (e := 91) (cs := #[.slice A2 p c2]) (s := 1) (Nat.zero_le _) rfl); simpa using this)
          have HF := Lib.hid (fun (w9 : World) (g9 cap9 : Nat) hown9 hg9 hat => ring_put (b := w.heap.size) (w := w) (wM := wr) (w9 := w9) (A2 := A2) (c2 := c2) (g9 := g9) (cap9 := cap9) (TC := 91) hkl bo1 (by omega) g1 (by have := HG.out; omega) own2 hgx0 hrows h2 h3 h4 h5 hown9 hg9 hat)
          rw [← hml] at HF
          have HBK1 := Lib.hid bk1
          have HBK2 := Lib.hid bk2
          clear own2 hml h2 h3 h4 h5 hrows bk1 bk2 bo1 ow gx hkl hgx0
          have lx : w.heap.size < wr.heap.size := by omega
          go_wp2_with (at_builtin; refine wpList_append_any _ rfl (.tmp 47) (.tmp 49) _ rfl (P + 1) 91 i0 _ 1 24 Try.underlying36 HI0.out HZ00.out HZ10.out HZ20.out rfl (by omega) (.slice A' k c') k _ rfl HOM.out (wr.heap.size + 1) (some ⟨wr.heap.size, 0, none⟩) 1 1 [.slice A2 p c2] rfl HRD.out (by intro v hv; simp at hv; subst hv; rfl) HMX.out HBY.out HBS.out ?_; intro v' w9 hown9 hg9 hat9; obtain ⟨g9, cap9, rfl, _, _⟩ := hown9.form (by omega); have hh9 := HF.out w9 g9 cap9 hown9 hg9 hat9; have HF9 := Lib.hid hh9; have pw9 := Blk.grown (bo2.alloc (.cells #[.slice A2 p c2] 91)) hg9 (fun q hq => by have := HRB.out q hq; omega); have yy0 := pw9.cell 0 rfl; have yy1 := pw9.frozen 0; clear hown9 hg9 hat9 hh9 pw9)
          go_roundw
          case rel =>
            obtain ⟨f1, f2, f3, f4⟩ := HF9.out
            rw [HTK.out] at f3
            exact ⟨k + 1, some ⟨g9, 0, none⟩, cap9, by omega, by go_num, f1 _ _ _ (by omega) HBK1.out, f1 _ _ _ (by omega) HBK2.out, f2, f3, f4⟩
          case measure => first | (simp [intOf]; done) | (simp [intOf]; omega)
    case neg =>
      obtain rfl : n = k := by omega
      rw [List.take_of_length_le (by have := HN.out; omega)] at ow1
      have v0 : wr.cell? ⟨w.heap.size + 1, 0, none⟩ = some (.slice none 0 0) := bk2.cell 0 rfl
      have u0 := bk2.frozen 0
      have y0 : wr.cell? ⟨P, 0, none⟩ = some (.slice A' n c') := bo1.cell 0 rfl
      go_wp2_with fail
      refine bodyPost_ret (v := .tuple #[.agg #[.slice A' n c'], .int .i64 0]) (by simp [results, Try.results26, go_sem, *]) rfl ⟨A', c', rfl, ?_, ?_⟩
      · refine (ow1.mid (Mid.of_set _ (w.heap.size + 1) 0 _) (.inr (by omega))).wide (by omega) (by simp)
      · repeat' (first | with_reducible assumption | with_reducible exact Below.refl _ _ | (with_reducible refine Below.setCell ?_ ?_ _) | (with_reducible refine Below.alloc ?_ ?_ _) | (with_reducible refine Below.drew ?_) | (with_reducible refine below_dr ?_ _) | (with_reducible refine Below.trans ?_ (Below.mono (by with_reducible assumption) ?_)) | omega | (simp; done) | (simp; omega))
end Go.Proofs.Ytkhpmmclknonbaa
