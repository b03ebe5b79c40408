/- Walks: a region turned round, the program's side. -/
import Derived.Test.YtkhpmmclknonbaaYf
namespace Go.Proofs.Ytkhpmmclknonbaa
open Go.RowKit
set_option linter.unusedVariables false
set_option maxHeartbeats 1600000 in
theorem implReverseRegion_bad (ds : List DRing) (A : Option Addr) (c : Nat) (w : World) (hv : vRn ds = false) (hl : ds.length ≤ 1048576) (hin : ∀ (i : Nat) (d : DRing), ds[i]? = some d → d.length ≤ 1048576) (r : RdRing w w.heap.size A ds) :
    Calls Try.prog 27 #[.agg #[.slice A ds.length c]] w (OutRet 1 [] w) := by
  have HIN := Lib.hid hin
  have CV := Lib.hid (fun A c w r => implValidRegion_any ds A c w hl hin r)
  simp only [hv] at CV
  clear hin hv
  unfold OutRet
  go_enter Try.func27, Try.ntmps27
  go_wp2_with fail
  refine (CV.out A c _ (((r.alloc (Nat.le_refl _) _).alloc (by simp) _).more (by simp; omega))).mono ?_
  rintro e w1 ⟨rfl, hb⟩
  have bk2 : Blk w1 (w.heap.size + 1) 38 #[.slice none 0 0] := (Blk.newAt _ _ _ (by simp)).carry hb
  have v0 := bk2.cell 0 rfl
  have u0 := bk2.frozen 0
  have z0 := bk2.lt
  go_wp2_with fail
  refine bodyPost_ret (v := .tuple #[.agg #[.slice none 0 0], .int .i64 1]) (by simp [results, Try.results27, go_sem, *]) rfl ⟨none, 0, rfl, OwnRing.nil _ _ _, by repeat' (first | with_reducible assumption | with_reducible exact Below.refl _ _ | (with_reducible refine Below.setCell ?_ ?_ _) | (with_reducible refine Below.alloc ?_ ?_ _) | (with_reducible refine Below.drew ?_) | (with_reducible refine below_dr ?_ _) | (with_reducible refine Below.trans ?_ (Below.mono (by with_reducible assumption) ?_)) | omega | (simp; done) | (simp; omega))⟩
set_option maxRecDepth 100000 in
set_option maxHeartbeats 12800000 in
theorem implReverseRegion_ok (ds : List DRing) (A : Option Addr) (c : Nat) (w : World) (hv : vRn ds = true) (r : RdRing w w.heap.size A ds) :
    Calls Try.prog 27 #[.agg #[.slice A ds.length c]] w (OutRet 0 (ds.map List.reverse) w) := by
  obtain ⟨hl40, hup, h400⟩ := vRn_parts hv
  have HIN := Lib.hid (rUp_in hup)
  have HE := Lib.hid (vRn_each hv)
  have CV := Lib.hid (fun A c w r => implValidRegion_any ds A c w (by omega) (fun i d h => by have := rUp_in hup i d h; omega) r)
  simp only [hv] at CV
  clear hup hv h400
  obtain ⟨i0, hi0, hz0', hz1', hz2'⟩ := info_parts infoRing
  have HI0 := Lib.hid hi0
  have HZ00 := Lib.hid hz0'
  have HZ10 := Lib.hid hz1'
  have HZ20 := Lib.hid hz2'
  clear hi0 hz0' hz1' hz2'
  unfold OutRet
  rw [List.length_map]
  obtain ⟨n, hn⟩ : ∃ n, n = ds.length := ⟨_, rfl⟩
  rw [← hn] at hl40 CV ⊢
  have HN := Lib.hid hn
  clear hn
  go_enter Try.func27, Try.ntmps27
  go_wp2_with fail
  refine (CV.out A c _ (((r.alloc (Nat.le_refl _) _).alloc (by simp) _).more (by simp; omega))).mono ?_
  rintro e w1 ⟨rfl, hb⟩
  have bk1 : Blk w1 w.heap.size 38 #[.slice A n c] := ((Blk.new _ _ _).alloc _).carry hb
  have bk2 : Blk w1 (w.heap.size + 1) 38 #[.slice none 0 0] := (Blk.newAt _ _ _ (by simp)).carry hb
  have z1 := bk2.lt
  have k1 := bk1.cell 0 rfl
  have l1 := bk1.lt
  have k1g : ∀ o1, (w1.alloc o1).cell? ⟨w.heap.size, 0, none⟩ = some (.slice A n c) := fun o1 => (cell_alloc_at _ _ l1).trans k1
  have g0 : Below w.heap.size w w1 := by repeat' (first | with_reducible assumption | with_reducible exact Below.refl _ _ | (with_reducible refine Below.setCell ?_ ?_ _) | (with_reducible refine Below.alloc ?_ ?_ _) | (with_reducible refine Below.drew ?_) | (with_reducible refine below_dr ?_ _) | (with_reducible refine Below.trans ?_ (Below.mono (by with_reducible assumption) ?_)) | omega | (simp; done) | (simp; omega))
  clear hb
  go_wp2_with fail
  clear k1g k1
  generalize hW : w1.alloc (.cells #[.slice none 0 0] 38) = W0
  obtain ⟨P, hP⟩ : ∃ P, P = w1.heap.size := ⟨_, rfl⟩
  have bo0 : Blk W0 P 38 #[.slice none 0 0] := by rw [← hW, hP]; exact Blk.new _ _ _
  have ak2 : Blk W0 (w.heap.size + 1) 38 #[.slice none 0 0] := by rw [← hW]; exact bk2.alloc _
  have g2 : Below w.heap.size w W0 := by rw [← hW]; exact g0.alloc (by omega) _
  have hPP : w.heap.size + 2 ≤ P := by omega
  rw [← hP]
  clear hW bk1 bk2 g0 z1 hP l1
  go_loopw [15] (fun i wr => ∃ (k : Nat) (A' : Option Addr) (c' : Nat), k ≤ n ∧ i = .int .i64 (k : Int) ∧ Blk wr (w.heap.size + 1) 38 #[.slice none 0 0] ∧ Blk wr P 38 #[.slice A' k c'] ∧ OwnRing wr (P + 1) wr.heap.size A' c' ((ds.take k).map List.reverse) ∧ Below w.heap.size w wr) (fun i _ => n - (intOf i).toNat)
  case atStart => exact ⟨0, none, 0, Nat.zero_le _, rfl, ak2, bo0, OwnRing.nil _ _ _, g2⟩
  case round =>
    clear ak2 bo0 g2
    obtain ⟨k, A', c', hk, rfl, bk2, bo1, ow1, g1⟩ := hrel
    have r1 := r.carry g1 (Nat.le_refl _)
    have zg := g1.size
    have zo := bo1.lt
    by_cases hlt : k < n
    case pos =>
      have hki : (k : Int) < (n : Int) := by omega
      obtain ⟨dl, ha⟩ : ∃ a, ds[k]? = some a := ⟨ds[k]'(by have := HN.out; omega), List.getElem?_eq_getElem (by have := HN.out; omega)⟩
      have hdl := HIN.out k _ ha
      have hd1 := (vRg_parts (HE.out dl (List.mem_of_getElem? ha))).1
      obtain ⟨g, o, A1, c1, rfl, hg, hc, hrd⟩ := r1.elem ha
      have p0 : wr.cell? ⟨g, o + k, none⟩ = some (.slice A1 dl.length c1) := by have h := hc 0 _ rfl; rw [Nat.mul_one] at h; exact h
      have hgr : g < wr.heap.size := by omega
      have HTK := Lib.hid (revs_take ha)
      clear hc ha
      obtain ⟨m, hm⟩ : ∃ m, m = dl.length := ⟨_, rfl⟩
      have HM := Lib.hid hm
      have CC := Lib.hid (fun w1 r1 => clone_any dl A1 c1 w1 hd1 hdl r1)
      have CR := Lib.hid (fun A2 c2 b w1 h1 => reverse_own dl A2 c2 b w1 hd1 hdl h1)
      rw [← hm] at p0 hdl hd1 CC CR
      clear hm
      have hkl : ((ds.take k).map List.reverse).length = k := by have := HN.out; simp; omega
      obtain ⟨rows, hrows, h2, h3, h4, h5⟩ := ow1
      rw [hkl] at h2 h3 h4
      go_wp2_with fail
      refine (CC.out _ ((hrd.alloc (by omega) _).more (by simp; omega))).mono ?_
      rintro e w2 ⟨A2, c2, rfl, own2, hb2⟩
      have own3 := own_base (base := wr.heap.size) own2 (by simp)
      have hb3 : Below wr.heap.size wr w2 := by repeat' (first | with_reducible assumption | with_reducible exact Below.refl _ _ | (with_reducible refine Below.setCell ?_ ?_ _) | (with_reducible refine Below.alloc ?_ ?_ _) | (with_reducible refine Below.drew ?_) | (with_reducible refine below_dr ?_ _) | (with_reducible refine Below.trans ?_ (Below.mono (by with_reducible assumption) ?_)) | omega | (simp; done) | (simp; omega))
      clear own2 hb2
      go_wp2_with fail
      refine (CR.out A2 c2 _ _ own3).mono ?_
      rintro e w3 ⟨rfl, own4, hb4, -⟩
      have hgx0 : Below wr.heap.size wr w3 := hb3.trans hb4
      have hml : m = dl.reverse.length := by rw [List.length_reverse]; exact HM.out
      clear hb3 hb4 own3 CC CR
      have bo2 := bo1.carry hgx0
      have yo := bo2.cell 0 rfl
      have uo := bo2.frozen 0
      have lo := bo2.lt
      have own2 : w3.ownsRow wr.heap.size 25 2 (.slice A2 dl.reverse.length c2) dl.reverse.length (cellsF cPt dl.reverse) := by rw [← hml]; exact own4
      have HOM := Lib.hid (World.ownsRow.alloc (own_stays h2 hgx0) (.cells #[.slice A2 m c2] 91))
      have HRB := Lib.hid (fun b (hb : (Value.slice A' k c').ownBlock = some b) => own_block h2 hb)
      have HMX := Lib.hid (show k + 1 ≤ maxLen by unfold maxLen; omega)
      have HBY := Lib.hid (show (k + 1) * 24 ≤ 140737488355328 by omega)
      have HBS := Lib.hid (show P + 1 ≤ (w3.alloc (.cells #[.slice A2 m c2] 91)).heap.size by simp; omega)
      have HRD := Lib.hid (show Reads (w3.alloc (.cells #[.slice A2 m c2] 91)) (w3.heap.size + 1) 1 (some ⟨w3.heap.size, 0, none⟩) 1 [.slice A2 m c2] by have := Reads.of_own (own_one (w := w3) (base := 0) (e := 91) (cs := #[.slice A2 m c2]) (s := 1) (Nat.zero_le _) rfl); simpa using this)
      have HF := Lib.hid (fun (w9 : World) (g9 cap9 : Nat) hown9 hg9 hat => ring_put (b := w.heap.size) (w := w) (wM := w3) (w9 := w9) (A2 := A2) (c2 := c2) (g9 := g9) (cap9 := cap9) (TC := 91) hkl bo1 (by omega) g1 (by omega) own2 hgx0 hrows h2 h3 h4 h5 hown9 hg9 hat)
      rw [← hml] at HF
      have HBK2 := Lib.hid bk2
      clear own2 own4 hml h2 h3 h4 h5 hrows bk2 bo1 hkl hgx0 p0 hrd r1
      go_wp2_with (at_builtin; refine wpList_append_any _ rfl (.tmp 25) (.tmp 28) _ rfl (P + 1) 91 i0 _ 1 24 Try.underlying36 HI0.out HZ00.out HZ10.out HZ20.out rfl (by omega) (.slice A' k c') k _ rfl HOM.out (w3.heap.size + 1) (some ⟨w3.heap.size, 0, none⟩) 1 1 [.slice A2 m c2] rfl HRD.out (by intro v hv; simp at hv; subst hv; rfl) HMX.out HBY.out HBS.out ?_; intro v' w9 hown9 hg9 hat9; obtain ⟨g9, cap9, rfl, _, _⟩ := hown9.form (by omega); have hh9 := HF.out w9 g9 cap9 hown9 hg9 hat9; have HF9 := Lib.hid hh9; have pw9 := Blk.grown (bo2.alloc (.cells #[.slice A2 m c2] 91)) hg9 (fun q hq => by have := HRB.out q hq; omega); have yy0 := pw9.cell 0 rfl; have yy1 := pw9.frozen 0; clear hown9 hg9 hat9 hh9 pw9)
      go_roundw
      case rel =>
        obtain ⟨f1, f2, f3, f4⟩ := HF9.out
        rw [HTK.out] at f3
        exact ⟨k + 1, some ⟨g9, 0, none⟩, cap9, by omega, by go_num, f1 _ _ _ (by omega) HBK2.out, f2, f3, f4⟩
      case measure => first | (simp [intOf]; done) | (simp [intOf]; omega)
    case neg =>
      obtain rfl : n = k := by omega
      rw [List.take_of_length_le (by have := HN.out; omega)] at ow1
      have v0 : wr.cell? ⟨w.heap.size + 1, 0, none⟩ = some (.slice none 0 0) := bk2.cell 0 rfl
      have u0 := bk2.frozen 0
      have y0 : wr.cell? ⟨P, 0, none⟩ = some (.slice A' n c') := bo1.cell 0 rfl
      go_wp2_with fail
      refine bodyPost_ret (v := .tuple #[.agg #[.slice A' n c'], .int .i64 0]) (by simp [results, Try.results27, go_sem, *]) rfl ⟨A', c', rfl, ?_, ?_⟩
      · refine (ow1.mid (Mid.of_set _ (w.heap.size + 1) 0 _) (.inr (by omega))).wide (by omega) (by simp)
      · repeat' (first | with_reducible assumption | with_reducible exact Below.refl _ _ | (with_reducible refine Below.setCell ?_ ?_ _) | (with_reducible refine Below.alloc ?_ ?_ _) | (with_reducible refine Below.drew ?_) | (with_reducible refine below_dr ?_ _) | (with_reducible refine Below.trans ?_ (Below.mono (by with_reducible assumption) ?_)) | omega | (simp; done) | (simp; omega))
end Go.Proofs.Ytkhpmmclknonbaa
