/- Walks: an outline turned round, the program's side: valid ones. -/
import Derived.Test.YtaikdjonecmlgaaLxa
namespace Go.Proofs.Ytaikdjonecmlgaa
open Go.RowKit
set_option linter.unusedVariables false
set_option maxRecDepth 100000 in
set_option maxHeartbeats 12800000 in
theorem implReverseOutline_ok (ds : List DLoop) (A : Option Addr) (c : Nat) (w : World) (hv : vOl ds = true) (r : RdLoop w w.heap.size A ds) :
    Calls Try.prog 16 #[.agg #[.slice A ds.length c]] w (OutRet 0 (ds.map revK) w) := by
  obtain ⟨hl12, hin60⟩ := vOl_parts hv
  have HIN := Lib.hid hin60
  have CV := Lib.hid (fun A c w r => implValidOutline_any ds A c w (by omega) (fun i d h => by have := HIN.out i d h; omega) r)
  simp only [hv] at CV
  clear hin60 hv
  unfold OutRet
  rw [List.length_map]
  obtain ⟨n, hn⟩ : ∃ n, n = ds.length := ⟨_, rfl⟩
  rw [← hn] at hl12 CV ⊢
  have HN := Lib.hid hn
  clear hn
  have hmk := mkLoops n hl12
  go_enter Try.func16, Try.ntmps16
  go_wp2_with fail
  refine (CV.out A c _ (((r.alloc (Nat.le_refl _) _).alloc (by simp) _).more (by simp; omega))).mono ?_
  rintro e w1 ⟨rfl, hb⟩
  have bk1 : Blk w1 w.heap.size 28 #[.slice A n c] := ((Blk.new _ _ _).alloc _).carry hb
  have bk2 : Blk w1 (w.heap.size + 1) 28 #[.slice none 0 0] := (Blk.newAt _ _ _ (by simp)).carry hb
  have z1 := bk2.lt
  have z2 := bk1.lt
  have b0 := bk1.cell 0 rfl
  have g0 : Below w.heap.size w w1 := by repeat' (first | with_reducible assumption | with_reducible exact Below.refl _ _ | (with_reducible refine Below.setCell ?_ ?_ _) | (with_reducible refine Below.alloc ?_ ?_ _) | (with_reducible refine Below.drew ?_) | (with_reducible refine below_dr ?_ _) | (with_reducible refine Below.trans ?_ (Below.mono (by with_reducible assumption) ?_)) | omega | (simp; done) | (simp; omega))
  clear hb
  go_wp2_with fail
  generalize hW : (w1.alloc (.cells (Array.replicate n (.slice none 0 0)) 62)).alloc (.cells #[.slice (some ⟨w1.heap.size, 0, none⟩) n n] 28) = W0
  obtain ⟨G, hG⟩ : ∃ G, G = w1.heap.size := ⟨_, rfl⟩
  have bo0 : Blk W0 (G + 1) 28 #[.slice (some ⟨G, 0, none⟩) n n] := by rw [← hW, hG]; exact Blk.newAt _ _ _ (by simp)
  have ak1 : Blk W0 w.heap.size 28 #[.slice A n c] := by rw [← hW]; exact (bk1.alloc _).alloc _
  have ak2 : Blk W0 (w.heap.size + 1) 28 #[.slice none 0 0] := by rw [← hW]; exact (bk2.alloc _).alloc _
  have g2 : Below w.heap.size w W0 := by rw [← hW]; exact (g0.alloc (by omega) _).alloc (by simp; omega) _
  have hGG : w.heap.size + 2 ≤ G := by omega
  have ow0 : OwnLoop W0 G W0.heap.size (some ⟨G, 0, none⟩) n ((ds.take 0).map revK ++ List.replicate (n - 0) []) := by
    refine OwnLoop.made ?_ (by rw [← hW, hG]; simp; omega)
    rw [← hW, hG]
    refine World.ownsRow.alloc ?_ _
    exact ⟨by simp, .inr ⟨w1.heap.size, n, _, rfl, Nat.le_refl _, heap_alloc_new w1 _, Nat.le_refl _, by unfold maxLen; omega, by simp, by simp⟩⟩
  rw [← hG]
  clear hW bk1 bk2 g0 z1 z2 b0 hG hmk
  have a0 : W0.cell? ⟨w.heap.size, 0, none⟩ = some (.slice A n c) := ak1.cell 0 rfl
  go_wp2_with fail
  clear a0
  go_loopw [20] (fun i wr => ∃ k : Nat, k ≤ n ∧ i = .int .i64 (k : Int) ∧ Blk wr w.heap.size 28 #[.slice A n c] ∧ Blk wr (w.heap.size + 1) 28 #[.slice none 0 0] ∧ Blk wr (G + 1) 28 #[.slice (some ⟨G, 0, none⟩) n n] ∧ OwnLoop wr G wr.heap.size (some ⟨G, 0, none⟩) n ((ds.take k).map revK ++ List.replicate (n - k) []) ∧ Below w.heap.size w wr) (fun i _ => n - (intOf i).toNat)
  case atStart => exact ⟨0, Nat.zero_le _, rfl, ak1, ak2, bo0, ow0, g2⟩
  case round =>
    clear ak1 ak2 bo0 g2 ow0
    obtain ⟨k, hk, rfl, bk1, bk2, bo1, ow1, g1⟩ := hrel
    have r1 := r.carry g1 (Nat.le_refl _)
    have zg := g1.size
    have zo := bo1.lt
    have y0 : wr.cell? ⟨G + 1, 0, none⟩ = some (.slice (some ⟨G, 0, none⟩) n n) := bo1.cell 0 rfl
    by_cases hlt : k < n
    case pos =>
      have hki : (k : Int) < (n : Int) := by omega
      obtain ⟨dl, ha⟩ : ∃ a, ds[k]? = some a := ⟨ds[k]'(by have := HN.out; omega), List.getElem?_eq_getElem (by have := HN.out; omega)⟩
      have hdl := HIN.out k _ ha
      obtain ⟨g, o, A1, c1, rfl, hg, hc, hrd⟩ := r1.elem ha
      have p0 : wr.cell? ⟨g, o + k, none⟩ = some (.slice A1 dl.length c1) := by have h := hc 0 _ rfl; rw [Nat.mul_one] at h; exact h
      have hgr : g < wr.heap.size := by omega
      clear hc
      obtain ⟨m, hm⟩ : ∃ m, m = dl.length := ⟨_, rfl⟩
      rw [← hm] at hdl p0
      obtain ⟨hm1, hm60⟩ := hdl
      obtain ⟨Z, hZ, hmk⟩ := mkKnots m hm60
      have HA := Lib.hid ha
      obtain ⟨g1a, o1a, had⟩ : ∃ g1a o1a, A1 = some ⟨g1a, o1a, none⟩ := by
        obtain ⟨a0, ha0⟩ : ∃ a, dl[0]? = some a := ⟨dl[0]'(by omega), List.getElem?_eq_getElem (by omega)⟩
        obtain ⟨g2, o2, h2, _, _⟩ := hrd.elem ha0
        exact ⟨_, _, h2⟩
      subst had
      generalize hW3 : (wr.alloc (.cells #[.slice (some ⟨g1a, o1a, none⟩) m c1] 62)).alloc (.cells Z 69) = W3
      have bW : Below wr.heap.size wr W3 := by rw [← hW3]; exact ((Below.refl _ _).alloc (Nat.le_refl _) _).alloc (by simp) _
      have z3 : W3.heap.size = wr.heap.size + 1 + 1 := by rw [← hW3]; simp
      have own3 : W3.ownsRow wr.heap.size 69 3 (.slice (some ⟨wr.heap.size + 1, 0, none⟩) m m) m Z.toList := by
        rw [← hW3]
        exact ⟨by rw [Array.length_toList, hZ], .inr ⟨wr.heap.size + 1, m, Z, rfl, by omega, (by have h := heap_alloc_new (wr.alloc (.cells #[.slice (some ⟨g1a, o1a, none⟩) m c1] 62)) (.cells Z 69); simpa using h), Nat.le_refl _, by unfold maxLen; omega, hZ, by rw [List.take_of_length_le]; rw [Array.length_toList, hZ]; omega⟩⟩
      have hrd3 := (hrd.more (show w.heap.size ≤ wr.heap.size by omega)).carry bW (Nat.le_refl _)
      obtain ⟨W4, hrun, own4, gr4⟩ := run_copy_full (P := Try.prog) (w := W3) 60 60 3 69 Try.underlying60 3 (by kernel_rfl) (wr.heap.size + 1) m m c1 ⟨g1a, o1a, none⟩ wr.heap.size _ own3 (cellsF cKnot dl) (by rw [cellsF_len (fun a => cKnot_len a), hm]) (rd_add hrd3) (cellsF_one (fun a => cKnot_one a) dl)
      have b4 : Below wr.heap.size wr W4 := below_of_grown bW gr4 (by omega) (fun q hq => by have : wr.heap.size + 1 = q := Option.some.inj hq; omega)
      have hm1i : (1 : Int) ≤ (m : Int) := by omega
      have HM := Lib.hid hm
      have HRUN := Lib.hid hrun
      have HW3 := Lib.hid hW3
      clear hm hrun hW3 own3 hZ gr4
      go_wp2_with fail
      rw [HW3.out]
      rw [HRUN.out]
      by_cases hm11 : m = 1
      · subst hm11
        go_wp2_with fail
        refine (rev_none (wr.heap.size + 1) 0 0 W4).mono ?_
        rintro e W5 ⟨rfl, hb50⟩
        have hrl : revK dl = dl := by
          have h := HM.out
          match dl, h with
          | [a], _ => rfl
        have hb5 : Below wr.heap.size W4 W5 := hb50.mono b4.size
        have own5 : W5.ownsRow wr.heap.size 69 3 (.slice (some ⟨wr.heap.size + 1, 0, none⟩) 1 1) 1 (cellsF cKnot (revK dl)) := by rw [hrl]; exact own_stays own4 hb50
        have b5 : Below wr.heap.size wr W5 := b4.trans hb5
        have ow5 := ow1.carry b5
        have hlen5 : k < ((ds.take k).map revK ++ List.replicate (n - k) []).length := by have := HN.out; simp; omega
        obtain ⟨v5, cv5, fv5, q1, q2, q3⟩ := ow5.at hlen5
        have y5 : W5.cell? ⟨G + 1, 0, none⟩ = some (.slice (some ⟨G, 0, none⟩) n n) := (bo1.carry b5).cell 0 rfl
        have z5 := b5.size
        have hrm : (revK dl).length = 1 := by rw [revK_len, HM.out]
        have HRM := Lib.hid hrm
        have HOW := Lib.hid own5
        have HB5 := Lib.hid b5
        clear hrm own5 own4 b4 bW hb5 hrd hrd3 ow1 r1 p0 hmk hlen5
        go_wp2_with fail
        go_roundw
        case rel =>
          refine ⟨k + 1, by omega, by go_num, Blk.far (bk1.carry HB5.out) (by simp only; omega) _, Blk.far (bk2.carry HB5.out) (by simp only; omega) _, Blk.far (bo1.carry HB5.out) (by simp only; omega) _, ?_, (g1.trans (HB5.out.mono (by omega))).setCell (by simp only; omega) _⟩
          have h := ow5.set (k := k) (l := revK dl) (A2 := some ⟨wr.heap.size + 1, 0, none⟩) (c2 := 1) (by rw [HRM.out]; exact HOW.out) (by omega) (by omega)
          rw [HRM.out, rep_set HN.out hlt HA.out] at h
          exact h.wide (Nat.le_refl _) (by simp)
        case measure => first | (simp [intOf]; done) | (simp [intOf]; omega)
      · go_wp2_with fail
        refine (revTail_own2 dl m (wr.heap.size + 1) wr.heap.size W4 HM.out hm1 hm60 own4).mono ?_
        rintro e W5 ⟨rfl, own5, hb5, -⟩
        have b5 : Below wr.heap.size wr W5 := b4.trans hb5
        have ow5 := ow1.carry b5
        have hlen5 : k < ((ds.take k).map revK ++ List.replicate (n - k) []).length := by have := HN.out; simp; omega
        obtain ⟨v5, cv5, fv5, q1, q2, q3⟩ := ow5.at hlen5
        have y5 : W5.cell? ⟨G + 1, 0, none⟩ = some (.slice (some ⟨G, 0, none⟩) n n) := (bo1.carry b5).cell 0 rfl
        have z5 := b5.size
        have hrm : (revK dl).length = m := by rw [revK_len, HM.out]
        have HRM := Lib.hid hrm
        have HOW := Lib.hid own5
        have HB5 := Lib.hid b5
        clear hrm own5 own4 b4 bW hb5 hrd hrd3 ow1 r1 p0 hmk hlen5
        go_wp2_with fail
        go_roundw
        case rel =>
          refine ⟨k + 1, by omega, by go_num, Blk.far (bk1.carry HB5.out) (by simp only; omega) _, Blk.far (bk2.carry HB5.out) (by simp only; omega) _, Blk.far (bo1.carry HB5.out) (by simp only; omega) _, ?_, (g1.trans (HB5.out.mono (by omega))).setCell (by simp only; omega) _⟩
          have h := ow5.set (k := k) (l := revK dl) (A2 := some ⟨wr.heap.size + 1, 0, none⟩) (c2 := m) (by rw [HRM.out]; exact HOW.out) (by omega) (by omega)
          rw [HRM.out, rep_set HN.out hlt HA.out] at h
          exact h.wide (Nat.le_refl _) (by simp)
        case measure => first | (simp [intOf]; done) | (simp [intOf]; omega)
    case neg =>
      obtain rfl : n = k := by omega
      rw [List.take_of_length_le (by have := HN.out; omega), Nat.sub_self, List.replicate_zero, List.append_nil] at ow1
      have v0 : wr.cell? ⟨w.heap.size + 1, 0, none⟩ = some (.slice none 0 0) := bk2.cell 0 rfl
      have u0 := bk2.frozen 0
      go_wp2_with fail
      refine bodyPost_ret (v := .tuple #[.agg #[.slice (some ⟨G, 0, none⟩) n n], .int .i64 0]) (by simp [results, Try.results16, go_sem, *]) rfl ⟨some ⟨G, 0, none⟩, n, rfl, ?_, ?_⟩
      · refine (ow1.mid (Mid.of_set _ (w.heap.size + 1) 0 _) (.inr (by omega))).wide (by omega) (by simp)
      · repeat' (first | with_reducible assumption | with_reducible exact Below.refl _ _ | (with_reducible refine Below.setCell ?_ ?_ _) | (with_reducible refine Below.alloc ?_ ?_ _) | (with_reducible refine Below.drew ?_) | (with_reducible refine below_dr ?_ _) | (with_reducible refine Below.trans ?_ (Below.mono (by with_reducible assumption) ?_)) | omega | (simp; done) | (simp; omega))
end Go.Proofs.Ytaikdjonecmlgaa
