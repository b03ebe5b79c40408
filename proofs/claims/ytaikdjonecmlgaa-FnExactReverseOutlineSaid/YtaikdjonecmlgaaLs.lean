/- Walks: an outline turned round, the reference's side, the good case. -/
import Derived.Test.YtaikdjonecmlgaaLr
namespace Go.Proofs.Ytaikdjonecmlgaa
open Go.RowKit
set_option linter.unusedVariables false
set_option maxRecDepth 100000 in
set_option maxHeartbeats 12800000 in
theorem specReverseOutline_ok (ds : List DLoop) (A : Option Addr) (c : Nat) (w : World) (hv : vOl ds = true) (r : RdLoop w w.heap.size A ds) :
    Calls Try.prog 14 #[.agg #[.slice A ds.length c]] w (OutRet 0 (ds.map revK) w) := by
  obtain ⟨hl12, hin60⟩ := vOl_parts hv
  have HIN := Lib.hid hin60
  have CV := Lib.hid (fun A c b w hb c0 r => l10Ok_any ds A c b w hb c0 (by omega) (fun i d h => by have := HIN.out i d h; omega) r)
  simp only [hv] at CV
  clear hin60 hv
  obtain ⟨i0, hi0, hz0', hz1', hz2'⟩ := info_parts infoLoop
  have HI0 := Lib.hid hi0
  have HZ0 := Lib.hid hz0'
  have HZ1 := Lib.hid hz1'
  have HZ2 := Lib.hid hz2'
  clear hi0 hz0' hz1' hz2'
  unfold OutRet
  rw [List.length_map]
  obtain ⟨n, hn⟩ : ∃ n, n = ds.length := ⟨_, rfl⟩
  rw [← hn] at hl12 CV ⊢
  have HN := Lib.hid hn
  clear hn
  go_enter Try.func14, Try.ntmps14
  go_wp2_with fail
  refine (CV.out A c _ _ (by simp; omega) (by simp [go_sem]) (((r.alloc (Nat.le_refl _) _).alloc (by simp) _).more (by simp; omega))).mono ?_
  rintro e w1 ⟨rfl, hb⟩
  have bk1 : Blk w1 w.heap.size 28 #[.slice A n c] := ((Blk.new _ _ _).alloc _).carry hb
  have bk2 : Blk w1 (w.heap.size + 1) 28 #[.slice none 0 0] := (Blk.newAt _ _ _ (by simp)).carry hb
  have z1 := bk2.lt
  have g0 : Below w.heap.size w w1 := by repeat' (first | with_reducible assumption | with_reducible exact Below.refl _ _ | (with_reducible refine Below.setCell ?_ ?_ _) | (with_reducible refine Below.alloc ?_ ?_ _) | (with_reducible refine Below.drew ?_) | (with_reducible refine below_dr ?_ _) | (with_reducible refine Below.trans ?_ (Below.mono (by with_reducible assumption) ?_)) | omega | (simp; done) | (simp; omega))
  clear hb
  go_wp2_with fail
  generalize hW : w1.alloc (.cells #[.slice none 0 0] 28) = W0
  obtain ⟨P, hP⟩ : ∃ P, P = w1.heap.size := ⟨_, rfl⟩
  have bo0 : Blk W0 P 28 #[.slice none 0 0] := by rw [← hW, hP]; exact Blk.new _ _ _
  have ak1 : Blk W0 w.heap.size 28 #[.slice A n c] := by rw [← hW]; exact bk1.alloc _
  have ak2 : Blk W0 (w.heap.size + 1) 28 #[.slice none 0 0] := by rw [← hW]; exact bk2.alloc _
  have g2 : Below w.heap.size w W0 := by rw [← hW]; exact g0.alloc (by omega) _
  have hPP : w.heap.size + 2 ≤ P := by omega
  rw [← hP]
  clear hW bk1 bk2 g0 z1 hP
  go_loopw [5] (fun i wr => ∃ (k : Nat) (A' : Option Addr) (c' : Nat), k ≤ n ∧ i = .int .i64 (k : Int) ∧ Blk wr w.heap.size 28 #[.slice A n c] ∧ Blk wr (w.heap.size + 1) 28 #[.slice none 0 0] ∧ Blk wr P 28 #[.slice A' k c'] ∧ OwnLoop wr (P + 1) wr.heap.size A' c' ((ds.take k).map revK) ∧ Below w.heap.size w wr) (fun i _ => n - (intOf i).toNat)
  case atStart => exact ⟨0, none, 0, Nat.zero_le _, rfl, ak1, ak2, bo0, OwnLoop.nil _ _ _, g2⟩
  case round =>
    clear ak1 ak2 bo0 g2
    obtain ⟨k, A', c', hk, rfl, bk1, bk2, bo1, ow1, g1⟩ := hrel
    have r1 := r.carry g1 (Nat.le_refl _)
    have zg := g1.size
    have zo := bo1.lt
    have b0 : wr.cell? ⟨w.heap.size, 0, none⟩ = some (.slice A n c) := bk1.cell 0 rfl
    have y0 : wr.cell? ⟨P, 0, none⟩ = some (.slice A' k c') := bo1.cell 0 rfl
    by_cases hlt : k < n
    case pos =>
      have hki : (k : Int) < (n : Int) := by omega
      obtain ⟨dl, ha⟩ : ∃ a, ds[k]? = some a := ⟨ds[k]'(by have := HN.out; omega), List.getElem?_eq_getElem (by have := HN.out; omega)⟩
      have hdl := HIN.out k _ ha
      obtain ⟨g, o, A1, c1, rfl, hg, hc, hrd⟩ := r1.elem ha
      have p0 : wr.cell? ⟨g, o + k, none⟩ = some (.slice A1 dl.length c1) := by have h := hc 0 _ rfl; rw [Nat.mul_one] at h; exact h
      have hgr : g < wr.heap.size := by omega
      clear hc
      have CC := Lib.hid (l10Reverse_any dl A1 c1 g (o + k) wr.drew hgr p0 hdl.1 hdl.2 ((Rd.drew hrd).more (by simp only [World.size_drew]; omega)))
      have ow3 := ow1
      obtain ⟨rows, hrows, h2, h3, h4, h5⟩ := ow3
      have hLk : ((ds.take k).map revK).length = k := by have := HN.out; simp; omega
      rw [hLk] at h2 h3 h4
      have HH := Lib.hid (fun (wM : World) (A2 : Option Addr) (c2 : Nat) ow2 hb2 (w9 : World) (g9 cap9 : Nat) hown9 hg9 hat => ro_round (wM := wM) (w9 := w9) (A2 := A2) (c2 := c2) (g9 := g9) (cap9 := cap9) HN.out hlt ha bk1 bk2 bo1 hPP ow1 g1 ow2 hb2 hrows h2 h3 h4 h5 hown9 hg9 hat)
      have H2 := Lib.hid h2
      have HBO := Lib.hid bo1
      have HOB := Lib.hid (fun q (hq : (Value.slice A' k c').ownBlock = some q) => own_block h2 hq)
      have HMX := Lib.hid (show k + 1 ≤ maxLen by unfold maxLen; omega)
      have HBY := Lib.hid (show (k + 1) * 24 ≤ 140737488355328 by omega)
      have u0 := bo1.frozen 0
      clear ow1 h2 h3 h4 h5 hrows bk1 bk2 hLk ha hrd hg r1
      go_wp2_with fail
      go_region_law (first | (refine step_append_any _ rfl (.tmp 18) (.tmp 24) _ rfl (P + 1) 62 i0 _ 1 24 Try.underlying26 HI0.out HZ0.out HZ1.out HZ2.out rfl (by omega) _ k _ rfl HOM.out (wM.heap.size + 1) (some ⟨wM.heap.size, 0, none⟩) 1 1 [.slice A2 (revK dl).length c2] rfl (by have := Reads.of_own (own_one (w := wM) (base := 0) (e := 62) (cs := #[.slice A2 (revK dl).length c2]) (s := 1) (Nat.zero_le _) rfl); simpa using this) (by intro v hv; simp at hv; subst hv; rfl) HMX.out HBY.out (by rw [World.size_alloc]; omega) ?_; intro v' w9 hown9 hg9' hat9; obtain ⟨g9, cap9, rfl, _, _⟩ := hown9.form (by omega); have hg9 : (wM.alloc (.cells #[.slice A2 (revK dl).length c2] 62)).grownBy w9 (Value.slice A' k c').ownBlock := hg9'; clear hg9'; have pw9 := Blk.grown HPM.out hg9 (fun q hq => by have := HOB.out q hq; omega); have yy0 : w9.cell? ⟨P, 0, none⟩ = some (.slice A' k c') := pw9.cell 0 rfl; have yy1 := pw9.frozen 0; have HF9 := Lib.hid (HH.out wM A2 c2 HO2.out HB2.out w9 g9 cap9 hown9 hg9 hat9); clear hown9 hg9 hat9 pw9) | (go_simp; go_at_call 46; (with_reducible refine CC.out.mono ?_); rintro e wM ⟨A2, c2, rfl, ow2, hb2⟩; have HO2 := Lib.hid ow2; have HB2 := Lib.hid hb2; have pM := (HBO.out.drew).carry hb2; have y0M : wM.cell? ⟨P, 0, none⟩ = some (.slice A' k c') := pM.cell 0 rfl; have u0M := pM.frozen 0; have b0M : wM.cell? ⟨w.heap.size, 0, none⟩ = some (.slice (some ⟨g, o, none⟩) n c) := (hb2.cell (p := ⟨w.heap.size, 0, none⟩) (by simp only [World.size_drew]; omega)).trans b0; have zM : wr.heap.size ≤ wM.heap.size := hb2.size; have qM : P < wM.heap.size := (by omega); have qM2 : w.heap.size < wM.heap.size := (by omega); have HOM := Lib.hid (World.ownsRow.alloc (own_stays (own_drew H2.out) hb2) (.cells #[.slice A2 (revK dl).length c2] 62)); have HPM := Lib.hid (pM.alloc (.cells #[.slice A2 (revK dl).length c2] 62)); clear ow2 hb2 pM))
      all_goals
        go_wp2_with fail
        go_roundw
        case rel => exact ⟨k + 1, some ⟨g9, 0, none⟩, cap9, by omega, by go_num, HF9.out⟩
        case measure => first | (simp [intOf]; done) | (simp [intOf]; omega)
    case neg =>
      obtain rfl : n = k := by omega
      rw [List.take_of_length_le (by have := HN.out; omega)] at ow1
      have v0 : wr.cell? ⟨w.heap.size + 1, 0, none⟩ = some (.slice none 0 0) := bk2.cell 0 rfl
      have u0 := bk2.frozen 0
      go_wp2_with fail
      refine bodyPost_ret (v := .tuple #[.agg #[.slice A' n c'], .int .i64 0]) (by simp [results, Try.results14, go_sem, *]) rfl ⟨A', c', rfl, ?_, ?_⟩
      · refine (ow1.mid (Mid.of_set _ (w.heap.size + 1) 0 _) (.inr (by omega))).wide (by omega) (by simp)
      · repeat' (first | with_reducible assumption | with_reducible exact Below.refl _ _ | (with_reducible refine Below.setCell ?_ ?_ _) | (with_reducible refine Below.alloc ?_ ?_ _) | (with_reducible refine Below.drew ?_) | (with_reducible refine below_dr ?_ _) | (with_reducible refine Below.trans ?_ (Below.mono (by with_reducible assumption) ?_)) | omega | (simp; done) | (simp; omega))
end Go.Proofs.Ytaikdjonecmlgaa
