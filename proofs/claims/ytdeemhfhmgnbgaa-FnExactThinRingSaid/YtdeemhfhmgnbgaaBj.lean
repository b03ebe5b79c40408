/- Walks: a ring of its own, the rings of two regions, the reference's side. -/
import Derived.Test.YtdeemhfhmgnbgaaYe
import Derived.Test.YtdeemhfhmgnbgaaXa
import Derived.Deep.RegionHeld3
namespace Go.Proofs.Ytdeemhfhmgnbgaa
open Go.RowKit
set_option linter.unusedVariables false
theorem take_next {ds : List DRing} {k : Nat} {d : DRing} (h : ds[k]? = some d) : ds.take k ++ [d] = ds.take (k + 1) := by
  rw [List.take_add_one, h]; rfl
theorem own_nil_new {t : TypeId} {s : Nat} (w : World) (base : Nat) (hb : base ≤ w.heap.size) : (w.alloc (.cells #[] t)).ownsRow base t s (.slice (some ⟨w.heap.size, 0, none⟩) 0 0) 0 [] :=
  ⟨by simp, .inr ⟨w.heap.size, 0, #[], rfl, hb, Blk.new w t #[], by omega, by unfold maxLen; omega, by simp, by simp⟩⟩
theorem below_undrew {B : Nat} {w w' : World} (h : Below B w.drew w') : Below B w w' := (Below.drew (Below.refl _ _)).trans h
theorem pts_cells_one (es : List APt) : ∀ z ∈ cellsF cPt es, z.oneCell' = true := cellsF_one (fun a => cPt_one a) es
set_option maxRecDepth 100000 in
set_option maxHeartbeats 3200000 in
theorem l13Own_any (l : List APt) (A : Option Addr) (c b p : Nat) (w : World) (h1 : 1 ≤ l.length) (h2 : l.length ≤ 1000) (hb : b < w.heap.size) (c0 : w.cell? ⟨b, p, none⟩ = some (.slice A l.length c)) (r : Rd cPt 2 w w.heap.size A l) :
    Calls Try.prog 75 #[.pointer (some ⟨b, p, none⟩)] w fun e w' => ∃ (A' : Option Addr) (c' : Nat), e = .returned (.agg #[.slice A' l.length c']) ∧ w'.ownsRow w.heap.size 26 2 (.slice A' l.length c') l.length (cellsF cPt l) ∧ Below w.heap.size w w' := by
  obtain ⟨i1, hi0, hz0', hz1', hz2'⟩ := info_parts infoPt
  have HI1 := Lib.hid hi0
  have HZ01 := Lib.hid hz0'
  have HZ11 := Lib.hid hz1'
  have HZ21 := Lib.hid hz2'
  clear hi0 hz0' hz1' hz2'
  have HRD := Lib.hid (fun o1 o2 => reads_pts h1 (((r.alloc (Nat.le_refl _) o1).alloc (by simp) o2).more (by simp; omega)))
  have HC := Lib.hid (pts_cells_one l)
  clear r
  obtain ⟨n, hn⟩ : ∃ n, n = l.length := ⟨_, rfl⟩
  rw [← hn] at h1 h2 c0 HRD ⊢
  have HN := Lib.hid hn
  clear hn
  have q0 : ∀ o1 o2, ((w.alloc o1).alloc o2).cell? ⟨b, p, none⟩ = some (.slice A n c) := fun o1 o2 => (Below.cell (B := w.heap.size) (w := w) (by repeat' (first | with_reducible assumption | with_reducible exact Below.refl _ _ | (with_reducible refine Below.setCell ?_ ?_ _) | (with_reducible refine Below.alloc ?_ ?_ _) | (with_reducible refine Below.drew ?_) | (with_reducible refine below_dr ?_ _) | (with_reducible refine Below.trans ?_ (Below.mono (by with_reducible assumption) ?_)) | omega | (simp; done) | (simp; omega))) (p := ⟨b, p, none⟩) hb).trans c0
  have HMX := Lib.hid (show 0 + n ≤ maxLen by unfold maxLen; omega)
  have HBY := Lib.hid (show (0 + n) * 16 ≤ 140737488355328 by omega)
  have hb1 : b < w.heap.size + 1 := by omega
  have hb2 : b < w.heap.size + 1 + 1 := by omega
  have HOW := Lib.hid (show ((w.alloc (.cells #[.slice none 0 0] 55)).alloc (.cells #[] 26)).ownsRow (w.heap.size + 1) 26 2 (.slice (some ⟨w.heap.size + 1, 0, none⟩) 0 0) 0 [] by have h9 := own_nil_new (t := 26) (s := 2) (w.alloc (.cells #[.slice none 0 0] 55)) (w.heap.size + 1) (by simp); simpa using h9)
  have HBX := Lib.hid (show Blk ((w.alloc (.cells #[.slice none 0 0] 55)).alloc (.cells #[] 26)) w.heap.size 55 #[.slice none 0 0] from (Blk.new w _ _).alloc _)
  have HBL := Lib.hid (show Below w.heap.size w ((w.alloc (.cells #[.slice none 0 0] 55)).alloc (.cells #[] 26)) by repeat' (first | with_reducible assumption | with_reducible exact Below.refl _ _ | (with_reducible refine Below.setCell ?_ ?_ _) | (with_reducible refine Below.alloc ?_ ?_ _) | (with_reducible refine Below.drew ?_) | (with_reducible refine below_dr ?_ _) | (with_reducible refine Below.trans ?_ (Below.mono (by with_reducible assumption) ?_)) | omega | (simp; done) | (simp; omega)))
  have HBS := Lib.hid (show w.heap.size ≤ ((w.alloc (.cells #[.slice none 0 0] 55)).alloc (.cells #[] 26)).heap.size by simp; omega)
  have HBS2 := Lib.hid (show w.heap.size + 1 ≤ ((w.alloc (.cells #[.slice none 0 0] 55)).alloc (.cells #[] 26)).heap.size by first | (simp; done) | (simp; omega))
  have HRD2 := Lib.hid (HRD.out (.cells #[.slice none 0 0] 55) (.cells #[] 26))
  clear HRD
  go_enter Try.func75, Try.ntmps75
  go_wp2_with (at_builtin; refine wpList_append_any _ rfl (.tmp 3) (.tmp 7) _ rfl (w.heap.size + 1) 26 i1 _ 2 16 Try.underlying53 HI1.out HZ01.out HZ11.out HZ21.out rfl (by omega) (.slice (some ⟨w.heap.size + 1, 0, none⟩) 0 0) 0 _ rfl HOW.out _ A n c (cellsF cPt l) rfl HRD2.out HC.out HMX.out HBY.out HBS2.out ?_; intro v9 w9 hown9 hg9 hat9; obtain ⟨g9, cap9, rfl, _, _⟩ := hown9.form (by omega); have hg9' := hg9; have pw9 := Blk.grown HBX.out hg9 (fun q hq => by simp [Value.ownBlock] at hq; omega); have yy0 := pw9.cell 0 rfl; have yy1 := pw9.frozen 0; have HOWN9 := Lib.hid hown9; have HG9 := Lib.hid hg9; clear hown9 hg9 hg9' hat9)
  have e9 : 0 + n = n := Nat.zero_add n
  have hown9 := HOWN9.out
  rw [e9] at hown9
  have hg9b := own_block hown9 (q := g9) rfl
  have gw9 : Below w.heap.size w w9 := below_of_grown HBL.out HG9.out HBS.out (fun q hq => by simp [Value.ownBlock] at hq; omega)
  refine bodyPost_ret (v := .agg #[.slice (some ⟨g9, 0, none⟩) n cap9]) (by simp [results, Try.results75, go_sem, *]) rfl ⟨_, _, rfl, ?_, ?_⟩
  · exact own_keep (own_base hown9 (by omega)) (fun q hq h8 => by simp [Value.ownBlock] at hq; simp only at h8; omega) _
  · exact gw9.setCell (by simp only; omega) _
set_option maxRecDepth 100000 in
set_option maxHeartbeats 12800000 in
theorem l13Join_any (ds1 ds2 : List DRing) (A1 A2 : Option Addr) (c1 c2 b1 b2 : Nat) (w : World) (hv1 : vRn ds1 = true) (hv2 : vRn ds2 = true) (hb1 : b1 < w.heap.size) (hb2 : b2 < w.heap.size) (k1 : w.cell? ⟨b1, 0, none⟩ = some (.slice A1 ds1.length c1)) (k2 : w.cell? ⟨b2, 0, none⟩ = some (.slice A2 ds2.length c2)) (r1 : RdRing w w.heap.size A1 ds1) (r2 : RdRing w w.heap.size A2 ds2) :
    Calls Try.prog 44 #[.pointer (some ⟨b1, 0, none⟩), .pointer (some ⟨b2, 0, none⟩)] w fun e w' => ∃ (A : Option Addr) (c : Nat), e = .returned (.agg #[.slice A (ds1 ++ ds2).length c]) ∧ OwnRing w' w.heap.size w'.heap.size A c (ds1 ++ ds2) ∧ Below w.heap.size w w' := by
  have HE1 := Lib.hid (vRn_each hv1)
  have HE2 := Lib.hid (vRn_each hv2)
  have hl1 := (vRn_parts hv1).1
  have hl2 := (vRn_parts hv2).1
  clear hv1 hv2
  obtain ⟨i0, hi0, hz0', hz1', hz2'⟩ := info_parts infoRing
  have HI0 := Lib.hid hi0
  have HZ00 := Lib.hid hz0'
  have HZ10 := Lib.hid hz1'
  have HZ20 := Lib.hid hz2'
  clear hi0 hz0' hz1' hz2'
  have HK := Lib.hid (fun (wr : World) (hb : Below w.heap.size w wr) => (⟨(hb.cell (p := ⟨b1, 0, none⟩) hb1).trans k1, (hb.cell (p := ⟨b2, 0, none⟩) hb2).trans k2⟩ : wr.cell? ⟨b1, 0, none⟩ = some (.slice A1 ds1.length c1) ∧ wr.cell? ⟨b2, 0, none⟩ = some (.slice A2 ds2.length c2)))
  have R1 := Lib.hid (fun (wr : World) (hb : Below w.heap.size w wr) => r1.carry hb (Nat.le_refl _))
  have R2 := Lib.hid (fun (wr : World) (hb : Below w.heap.size w wr) => r2.carry hb (Nat.le_refl _))
  clear k1 k2 r1 r2
  obtain ⟨ds, hds⟩ : ∃ ds, ds = ds1 ++ ds2 := ⟨_, rfl⟩
  rw [← hds]
  obtain ⟨n1, hn1⟩ : ∃ n, n = ds1.length := ⟨_, rfl⟩
  obtain ⟨n2, hn2⟩ : ∃ n, n = ds2.length := ⟨_, rfl⟩
  have HDL := Lib.hid (show ds.length = n1 + n2 by rw [hds, hn1, hn2, List.length_append])
  have HD1 := Lib.hid (show ∀ k d, ds1[k]? = some d → ds[k]? = some d from fun k d h => by rw [hds, List.getElem?_append_left (by rcases Nat.lt_or_ge k ds1.length with q | q; exact q; rw [List.getElem?_eq_none q] at h; cases h)]; exact h)
  have HD2 := Lib.hid (show ∀ k d, ds2[k]? = some d → ds[n1 + k]? = some d from fun k d h => by rw [hds, hn1, List.getElem?_append_right (by omega)]; rw [show ds1.length + k - ds1.length = k by omega]; exact h)
  rw [HDL.out]
  rw [← hn1, ← hn2] at HK
  rw [← hn1] at hl1
  rw [← hn2] at hl2
  have HN1 := Lib.hid hn1
  have HN2 := Lib.hid hn2
  clear hn1 hn2 hds
  go_enter Try.func44, Try.ntmps44
  go_wp2_with fail
  generalize hW : (w.alloc (.cells #[.slice none 0 0] 40)).alloc (.cells #[.slice none 0 0] 40) = W0
  have a0 : Blk W0 w.heap.size 40 #[.slice none 0 0] := by rw [← hW]; exact (Blk.new w _ _).alloc _
  have a1 : Blk W0 (w.heap.size + 1) 40 #[.slice none 0 0] := by rw [← hW]; exact Blk.newAt _ _ _ (by simp)
  have g0 : Below w.heap.size w W0 := by rw [← hW]; repeat' (first | with_reducible assumption | with_reducible exact Below.refl _ _ | (with_reducible refine Below.setCell ?_ ?_ _) | (with_reducible refine Below.alloc ?_ ?_ _) | (with_reducible refine Below.drew ?_) | (with_reducible refine below_dr ?_ _) | (with_reducible refine Below.trans ?_ (Below.mono (by with_reducible assumption) ?_)) | omega | (simp; done) | (simp; omega))
  clear hW
  go_loopw [6] (fun i wr => ∃ (k : Nat) (A' : Option Addr) (c' : Nat), k ≤ n1 ∧ i = .int .i64 (k : Int) ∧ Blk wr w.heap.size 40 #[.slice none 0 0] ∧ Blk wr (w.heap.size + 1) 40 #[.slice A' (k) c'] ∧ OwnRing wr ((w.heap.size + 1) + 1) wr.heap.size A' c' (ds.take (k)) ∧ Below w.heap.size w wr) (fun i _ => n1 - (intOf i).toNat)
  case atStart => exact ⟨0, none, 0, Nat.zero_le _, rfl, a0, a1, OwnRing.nil _ _ _, g0⟩
  case round =>
    clear a0 a1 g0
    obtain ⟨k, A', c', hk, rfl, bo0, bo1, ow1, g1⟩ := hrel
    have zg := g1.size
    obtain ⟨k1, k2⟩ := HK.out wr g1
    have lb1 : b1 < wr.heap.size := by omega
    have lb2 : b2 < wr.heap.size := by omega
    by_cases hlt : k < n1
    case pos =>
      have hki : (k : Int) < (n1 : Int) := by omega
      obtain ⟨dl, ha⟩ : ∃ a, ds1[k]? = some a := ⟨ds1[k]'(by have := HN1.out; omega), List.getElem?_eq_getElem (by have := HN1.out; omega)⟩
      obtain ⟨hd1, hd4, -⟩ := vRg_parts (HE1.out dl (List.mem_of_getElem? ha))
      have hda := HD1.out k dl ha
      have HTK := Lib.hid (take_next hda)
      obtain ⟨g, o, Ae, ce, hAe, hg, hc, hrd⟩ := (R1.out wr g1).elem ha
      subst hAe
      have p0 : wr.cell? ⟨g, o + k, none⟩ = some (.slice Ae dl.length ce) := by have h := hc 0 _ rfl; rw [Nat.mul_one] at h; exact h
      have hgr : g < wr.heap.size := by omega
      clear hc ha
      have hkl : (ds.take k).length = k := by have := HDL.out; rw [List.length_take]; omega
      obtain ⟨rows, hrows, h2, h3, h4, h5⟩ := ow1
      rw [hkl] at h2 h3 h4
      have CO := Lib.hid (l13Own_any dl Ae ce g (o + k) wr.drew hd1 (by omega) hgr p0 (show Rd cPt 2 wr.drew wr.drew.heap.size Ae dl from (show Rd cPt 2 wr wr.heap.size Ae dl from hrd.more (by omega)).drew))
      obtain ⟨m, hm⟩ : ∃ m, m = dl.length := ⟨_, rfl⟩
      have HM := Lib.hid hm
      rw [← hm] at CO
      clear hm p0 hrd hd1 hd4 hda
      have y0 : wr.cell? ⟨(w.heap.size + 1), 0, none⟩ = some (.slice A' k c') := bo1.cell 0 rfl
      have y0d : wr.drew.cell? ⟨(w.heap.size + 1), 0, none⟩ = some (.slice A' k c') := y0
      have HRB := Lib.hid (fun b (hb : (Value.slice A' k c').ownBlock = some b) => own_block h2 hb)
      have HMX := Lib.hid (show k + 1 ≤ maxLen by unfold maxLen; omega)
      have HBY := Lib.hid (show (k + 1) * 24 ≤ 140737488355328 by omega)
      have HBK2 := Lib.hid bo0
      have lP : (w.heap.size + 1) < wr.heap.size := bo1.lt
      go_wp2_with fail
      go_region_law (first | ((refine step_append_any _ rfl (.tmp 19) (.tmp 27) _ rfl ((w.heap.size + 1) + 1) 55 i0 _ 1 24 Try.underlying38 HI0.out HZ00.out HZ10.out HZ20.out rfl (by omega) (.slice A' k c') k _ rfl HOM.out (w2.heap.size + 1) (some ⟨w2.heap.size, 0, none⟩) 1 1 [.slice A3 m c3] rfl HRD.out (by intro v hv; simp at hv; subst hv; rfl) HMX.out HBY.out HBS.out ?_); intro v' w9 hown9 hg9 hat9; obtain ⟨g9, cap9, rfl, _, _⟩ := hown9.form (by omega); have hh9 := HF.out w9 g9 cap9 hown9 hg9 hat9; have HF9 := Lib.hid hh9; have pw9 := Blk.grown HBO2.out hg9 (fun q hq => by have := HRB.out q hq; omega); have yy0 : w9.cell? ⟨(w.heap.size + 1), 0, none⟩ = some (.slice A' k c') := pw9.cell 0 rfl; have yy1 := pw9.frozen 0; clear hown9 hg9 hat9 hh9 pw9) | (go_simp; go_at_call 75; (with_reducible refine CO.out.mono ?_); intro e w2 hq2; obtain ⟨A3, c3, rfl, own2, hb2⟩ := hq2; have hgx0 : Below wr.heap.size wr w2 := below_undrew hb2; have z2 := hgx0.size; have bo2 := bo1.carry hgx0; have y2 : w2.cell? ⟨(w.heap.size + 1), 0, none⟩ = some (.slice A' k c') := bo2.cell 0 rfl; have y3 : ∀ o1, (w2.alloc o1).cell? ⟨(w.heap.size + 1), 0, none⟩ = some (.slice A' k c') := fun o1 => (bo2.alloc o1).cell 0 rfl; have own3 : w2.ownsRow wr.heap.size 26 2 (.slice A3 dl.length c3) dl.length (cellsF cPt dl) := (by rw [← HM.out]; exact own2); have HOM := Lib.hid (World.ownsRow.alloc (own_stays h2 hgx0) (.cells #[.slice A3 m c3] 55)); have HBS := Lib.hid (show (w.heap.size + 1) + 1 ≤ (w2.alloc (.cells #[.slice A3 m c3] 55)).heap.size by rw [World.size_alloc]; omega); have HRD := Lib.hid (show Reads (w2.alloc (.cells #[.slice A3 m c3] 55)) (w2.heap.size + 1) 1 (some ⟨w2.heap.size, 0, none⟩) 1 [.slice A3 m c3] by have := Reads.of_own (own_one (w := w2) (base := 0) (e := 55) (cs := #[.slice A3 m c3]) (s := 1) (Nat.zero_le _) rfl); simpa using this); have HF0 := fun (w9 : World) (g9 cap9 : Nat) hown9 hg9 hat => ring_put (b := w.heap.size) (w := w) (wM := w2) (w9 := w9) (A2 := A3) (c2 := c3) (g9 := g9) (cap9 := cap9) (TC := 55) hkl bo1 (by omega) g1 (by omega) own3 hgx0 hrows h2 h3 h4 h5 hown9 hg9 hat; rw [← HM.out] at HF0; have HF := Lib.hid HF0; have HBO2 := Lib.hid (bo2.alloc (.cells #[.slice A3 m c3] 55)); clear own2 own3 HF0 hb2 hgx0 bo2))
      all_goals
        go_wp2_with fail
        go_roundw
        case rel =>
          obtain ⟨f1, f2, f3, f4⟩ := HF9.out
          rw [HTK.out] at f3
          exact ⟨k + 1, some ⟨g9, 0, none⟩, cap9, by omega, by go_num, f1 _ _ _ (by omega) HBK2.out, f2, f3, f4⟩
        case measure => first | (simp [intOf]; done) | (simp [intOf]; omega)
    case neg =>
      obtain rfl : n1 = k := by omega
      clear hlt hk
      go_wp2_with fail
      obtain ⟨w5, hw5⟩ : ∃ w5, w5 = wr := ⟨_, rfl⟩
      subst hw5
      go_loopw [7] (fun i wr => ∃ (k : Nat) (A' : Option Addr) (c' : Nat), k ≤ n2 ∧ i = .int .i64 (k : Int) ∧ Blk wr w.heap.size 40 #[.slice none 0 0] ∧ Blk wr (w.heap.size + 1) 40 #[.slice A' (n1 + k) c'] ∧ OwnRing wr ((w.heap.size + 1) + 1) wr.heap.size A' c' (ds.take (n1 + k)) ∧ Below w.heap.size w wr) (fun i _ => n2 - (intOf i).toNat)
      case atStart => exact ⟨0, A', c', Nat.zero_le _, rfl, bo0, bo1, ow1, g1⟩
      case round =>
        clear bo0 bo1 ow1 g1 zg k1 k2 lb1 lb2
        obtain ⟨k, A', c', hk, rfl, bo0, bo1, ow1, g1⟩ := hrel
        have zg := g1.size
        obtain ⟨k1, k2⟩ := HK.out wr g1
        have lb1 : b1 < wr.heap.size := by omega
        have lb2 : b2 < wr.heap.size := by omega
        by_cases hlt : k < n2
        case pos =>
          have hki : (k : Int) < (n2 : Int) := by omega
          obtain ⟨dl, ha⟩ : ∃ a, ds2[k]? = some a := ⟨ds2[k]'(by have := HN2.out; omega), List.getElem?_eq_getElem (by have := HN2.out; omega)⟩
          obtain ⟨hd1, hd4, -⟩ := vRg_parts (HE2.out dl (List.mem_of_getElem? ha))
          have hda := HD2.out k dl ha
          have HTK := Lib.hid (take_next hda)
          obtain ⟨g, o, Ae, ce, hAe, hg, hc, hrd⟩ := (R2.out wr g1).elem ha
          subst hAe
          have p0 : wr.cell? ⟨g, o + k, none⟩ = some (.slice Ae dl.length ce) := by have h := hc 0 _ rfl; rw [Nat.mul_one] at h; exact h
          have hgr : g < wr.heap.size := by omega
          clear hc ha
          have hkl : (ds.take (n1 + k)).length = (n1 + k) := by have := HDL.out; rw [List.length_take]; omega
          obtain ⟨rows, hrows, h2, h3, h4, h5⟩ := ow1
          rw [hkl] at h2 h3 h4
          have CO := Lib.hid (l13Own_any dl Ae ce g (o + k) wr.drew hd1 (by omega) hgr p0 (show Rd cPt 2 wr.drew wr.drew.heap.size Ae dl from (show Rd cPt 2 wr wr.heap.size Ae dl from hrd.more (by omega)).drew))
          obtain ⟨m, hm⟩ : ∃ m, m = dl.length := ⟨_, rfl⟩
          have HM := Lib.hid hm
          rw [← hm] at CO
          clear hm p0 hrd hd1 hd4 hda
          have y0 : wr.cell? ⟨(w.heap.size + 1), 0, none⟩ = some (.slice A' (n1 + k) c') := bo1.cell 0 rfl
          have y0d : wr.drew.cell? ⟨(w.heap.size + 1), 0, none⟩ = some (.slice A' (n1 + k) c') := y0
          have HRB := Lib.hid (fun b (hb : (Value.slice A' (n1 + k) c').ownBlock = some b) => own_block h2 hb)
          have HMX := Lib.hid (show (n1 + k) + 1 ≤ maxLen by unfold maxLen; omega)
          have HBY := Lib.hid (show ((n1 + k) + 1) * 24 ≤ 140737488355328 by omega)
          have HBK2 := Lib.hid bo0
          have lP : (w.heap.size + 1) < wr.heap.size := bo1.lt
          go_wp2_with fail
          go_region_law (first | ((refine step_append_any _ rfl (.tmp 40) (.tmp 48) _ rfl ((w.heap.size + 1) + 1) 55 i0 _ 1 24 Try.underlying38 HI0.out HZ00.out HZ10.out HZ20.out rfl (by omega) (.slice A' (n1 + k) c') (n1 + k) _ rfl HOM.out (w2.heap.size + 1) (some ⟨w2.heap.size, 0, none⟩) 1 1 [.slice A3 m c3] rfl HRD.out (by intro v hv; simp at hv; subst hv; rfl) HMX.out HBY.out HBS.out ?_); intro v' w9 hown9 hg9 hat9; obtain ⟨g9, cap9, rfl, _, _⟩ := hown9.form (by omega); have hh9 := HF.out w9 g9 cap9 hown9 hg9 hat9; have HF9 := Lib.hid hh9; have pw9 := Blk.grown HBO2.out hg9 (fun q hq => by have := HRB.out q hq; omega); have yy0 : w9.cell? ⟨(w.heap.size + 1), 0, none⟩ = some (.slice A' (n1 + k) c') := pw9.cell 0 rfl; have yy1 := pw9.frozen 0; clear hown9 hg9 hat9 hh9 pw9) | (go_simp; go_at_call 75; (with_reducible refine CO.out.mono ?_); intro e w2 hq2; obtain ⟨A3, c3, rfl, own2, hb2⟩ := hq2; have hgx0 : Below wr.heap.size wr w2 := below_undrew hb2; have z2 := hgx0.size; have bo2 := bo1.carry hgx0; have y2 : w2.cell? ⟨(w.heap.size + 1), 0, none⟩ = some (.slice A' (n1 + k) c') := bo2.cell 0 rfl; have y3 : ∀ o1, (w2.alloc o1).cell? ⟨(w.heap.size + 1), 0, none⟩ = some (.slice A' (n1 + k) c') := fun o1 => (bo2.alloc o1).cell 0 rfl; have own3 : w2.ownsRow wr.heap.size 26 2 (.slice A3 dl.length c3) dl.length (cellsF cPt dl) := (by rw [← HM.out]; exact own2); have HOM := Lib.hid (World.ownsRow.alloc (own_stays h2 hgx0) (.cells #[.slice A3 m c3] 55)); have HBS := Lib.hid (show (w.heap.size + 1) + 1 ≤ (w2.alloc (.cells #[.slice A3 m c3] 55)).heap.size by rw [World.size_alloc]; omega); have HRD := Lib.hid (show Reads (w2.alloc (.cells #[.slice A3 m c3] 55)) (w2.heap.size + 1) 1 (some ⟨w2.heap.size, 0, none⟩) 1 [.slice A3 m c3] by have := Reads.of_own (own_one (w := w2) (base := 0) (e := 55) (cs := #[.slice A3 m c3]) (s := 1) (Nat.zero_le _) rfl); simpa using this); have HF0 := fun (w9 : World) (g9 cap9 : Nat) hown9 hg9 hat => ring_put (b := w.heap.size) (w := w) (wM := w2) (w9 := w9) (A2 := A3) (c2 := c3) (g9 := g9) (cap9 := cap9) (TC := 55) hkl bo1 (by omega) g1 (by omega) own3 hgx0 hrows h2 h3 h4 h5 hown9 hg9 hat; rw [← HM.out] at HF0; have HF := Lib.hid HF0; have HBO2 := Lib.hid (bo2.alloc (.cells #[.slice A3 m c3] 55)); clear own2 own3 HF0 hb2 hgx0 bo2))
          all_goals
            go_wp2_with fail
            go_roundw
            case rel =>
              obtain ⟨f1, f2, f3, f4⟩ := HF9.out
              rw [HTK.out] at f3
              exact ⟨k + 1, some ⟨g9, 0, none⟩, cap9, by omega, by go_num, f1 _ _ _ (by omega) HBK2.out, f2, f3, f4⟩
            case measure => first | (simp [intOf]; done) | (simp [intOf]; omega)
        case neg =>
          obtain rfl : n2 = k := by omega
          rw [List.take_of_length_le (by have := HDL.out; omega)] at ow1
          have v0 : wr.cell? ⟨w.heap.size, 0, none⟩ = some (.slice none 0 0) := bo0.cell 0 rfl
          have u0 := bo0.frozen 0
          have y0 : wr.cell? ⟨(w.heap.size + 1), 0, none⟩ = some (.slice A' (n1 + n2) c') := bo1.cell 0 rfl
          have l0 := bo0.lt
          go_wp2_with fail
          refine bodyPost_ret (v := .agg #[.slice A' (n1 + n2) c']) (by simp [results, Try.results44, go_sem, *]) rfl ⟨A', c', rfl, ?_, ?_⟩
          · exact (ow1.mid (Mid.of_set _ w.heap.size 0 _) (.inr (by omega))).wide (by omega) (by simp)
          · exact g1.setCell (by simp only; omega) _
end Go.Proofs.Ytdeemhfhmgnbgaa
