/- Walks: regions are taken over into memory of the call's own: each ring its own block; the law on ReverseRegion: it returns true. -/
import Derived.Test.YtdeemhfhmgnbgaaYg
import Derived.Laws.MakeOwn
namespace Go.Proofs.Ytdeemhfhmgnbgaa
open Go.RowKit
set_option linter.unusedVariables false
theorem OwnRing.at {w : World} {lo hi g c k : Nat} {ds : List DRing} (h : OwnRing w lo hi (some ⟨g, 0, none⟩) c ds) (hk : k < ds.length) : ∃ v, w.cell? ⟨g, k, none⟩ = some v ∧ w.frozen? ⟨g, k, none⟩ = false ∧ g < hi ∧ lo ≤ g ∧ g < w.heap.size := by
  obtain ⟨rows, h1, h2, h3, h4, h5⟩ := h
  have hg := own_block h2 (q := g) rfl
  obtain ⟨hl, h | ⟨g', cap, cur, hv, hb, hh, hnc, hcm, hcs, htk⟩⟩ := h2
  · exact absurd h.1 (by simp)
  · obtain ⟨rfl, rfl⟩ : g = g' ∧ c = cap := by injection hv with a b c; injection a with a; injection a with a; exact ⟨a, c⟩
    have hblk : Blk w g 55 cur := hh
    exact ⟨cur[k]'(by omega), hblk.cell k (Array.getElem?_eq_getElem (by omega)), hblk.frozen k, h3 g rfl, hg.1, hg.2⟩

set_option maxRecDepth 100000 in
theorem mkRingsB (n : Nat) (h : n ≤ 1048576) : ∀ w : World, (Instr.makeSlice 38 (.int .i64 (n : Int)) (.int .i64 (n : Int))).run Try.prog w = .ok (.slice (some ⟨w.heap.size, 0, none⟩) n n) (w.alloc (.cells (Array.replicate n (.slice none 0 0)) 55)) := by
  intro w
  obtain ⟨i0, hi0, hz0, hz1, hz2⟩ := info_parts infoRing
  have hr := run_makeSlice (P := Try.prog) w 38 55 i0 _ Try.underlying38 hi0 hz0 .i64 .i64 n n (by omega) (Int.le_refl _) (by rw [hz1]; simp; omega) (by rw [hz2]; omega) (by omega)
  rw [hr, hz1]
  simp only [Int.toNat_natCast, Nat.mul_one]
  congr 3
  apply Array.ext
  · simp [madeCells]
  · intro k h1 h2
    simp [madeCells, Value.cells, Nat.mod_one]
theorem rep_put {ds : List DRing} {k n : Nat} {dl : DRing} (hn : n = ds.length) (hk : k < n) (ha : ds[k]? = some dl) : (ds.take k ++ List.replicate (n - k) []).set k dl = ds.take (k + 1) ++ List.replicate (n - (k + 1)) [] := by
  have hl : (ds.take k).length = k := by simp; omega
  rw [List.set_append_right _ _ (by omega), hl, Nat.sub_self, show n - k = (n - (k + 1)) + 1 by omega, List.replicate_succ, List.set_cons_zero, List.take_add_one, ha]
  simp
/-- A list of loops of the call's own is handed back. -/
def RetRingO (ds : List DRing) (w : World) (e : Ending) (w' : World) : Prop := ∃ g, e = .returned (.slice (some ⟨g, 0, none⟩) ds.length ds.length) ∧ OwnRing w' w.heap.size w'.heap.size (some ⟨g, 0, none⟩) ds.length ds ∧ Below w.heap.size w w'
set_option maxHeartbeats 3200000 in
theorem toRingS_own (ds : List DRing) (A : Option Addr) (c : Nat) (w : World) (hl : ds.length ≤ 1048576) (hin : ∀ (i : Nat) (d : DRing), ds[i]? = some d → d.length ≤ 1048576) (hr : RdRing w w.heap.size A ds) :
    Calls Try.prog 45 #[.slice A ds.length c] w (RetRingO ds w) := by
  have HIN := Lib.hid hin
  clear hin
  unfold RetRingO
  obtain ⟨n, hn⟩ : ∃ n, n = ds.length := ⟨_, rfl⟩
  rw [← hn] at hl ⊢
  have hmk := mkRingsB n hl
  have HN := Lib.hid hn
  clear hn
  go_enter Try.func45, Try.ntmps45
  go_wp2_with fail
  clear hmk
  generalize hW : w.alloc (.cells (Array.replicate n (.slice none 0 0)) 55) = W0
  have ow0 : OwnRing W0 w.heap.size W0.heap.size (some ⟨w.heap.size, 0, none⟩) n (ds.take 0 ++ List.replicate (n - 0) []) := by
    refine OwnRing.made ?_ (by rw [← hW]; simp)
    rw [← hW]
    exact ⟨by simp, .inr ⟨w.heap.size, n, _, rfl, Nat.le_refl _, heap_alloc_new w _, Nat.le_refl _, by unfold maxLen; omega, by simp, by simp⟩⟩
  have g0 : Below w.heap.size w W0 := by rw [← hW]; repeat' (first | with_reducible assumption | with_reducible exact Below.refl _ _ | (with_reducible refine Below.setCell ?_ ?_ _) | (with_reducible refine Below.alloc ?_ ?_ _) | (with_reducible refine Below.drew ?_) | (with_reducible refine below_dr ?_ _) | (with_reducible refine Below.trans ?_ (Below.mono (by with_reducible assumption) ?_)) | omega | (simp; done) | (simp; omega))
  clear hW
  go_loopw [4] (fun i wr => ∃ k : Nat, k ≤ n ∧ i = .int .i64 (k : Int) ∧ OwnRing wr w.heap.size wr.heap.size (some ⟨w.heap.size, 0, none⟩) n (ds.take k ++ List.replicate (n - k) []) ∧ Below w.heap.size w wr) (fun i _ => n - (intOf i).toNat)
  case atStart => exact ⟨0, Nat.zero_le _, rfl, ow0, g0⟩
  case round =>
    clear ow0 g0
    obtain ⟨k, hk, rfl, ow1, g1⟩ := hrel
    by_cases hlt : k < n
    case pos =>
      have hki : (k : Int) < (n : Int) := by omega
      obtain ⟨dl, ha⟩ : ∃ a, ds[k]? = some a := ⟨ds[k]'(by have := HN.out; omega), List.getElem?_eq_getElem (by have := HN.out; omega)⟩
      have hdl := HIN.out k _ ha
      have hlen1 : k < (ds.take k ++ List.replicate (n - k) ([] : DRing)).length := by have := HN.out; simp; omega
      obtain ⟨_, _, _, _, _, zl⟩ := ow1.at hlen1
      have zg := g1.size
      obtain ⟨g, o, A1, c1, rfl, hg, hc, hrd⟩ := (hr.carry g1 (Nat.le_refl _)).elem ha
      have p0 : wr.cell? ⟨g, o + k, none⟩ = some (.slice A1 dl.length c1) := by have h := hc 0 _ rfl; rw [Nat.mul_one] at h; exact h
      have HA := Lib.hid ha
      clear hc ha
      go_wp2_with fail
      refine (toRing_any A1 c1 dl _ hdl (hrd.more (by omega))).mono ?_
      intro e w2 hq
      obtain ⟨gx, rfl, own2, hb2⟩ := hq
      have ow2 := ow1.carry hb2
      obtain ⟨v2, cv2, fv2, q1, q2, q3⟩ := ow2.at hlen1
      have HOW := Lib.hid own2
      have HB2 := Lib.hid hb2
      have z2 := hb2.size
      clear own2 hb2 ow1 hrd hlen1 p0
      go_wp2_with fail
      go_roundw
      case rel =>
        refine ⟨k + 1, by omega, by go_num, ?_, (g1.trans (HB2.out.mono (by omega))).setCell (by simp only; omega) _⟩
        have h := ow2.set (k := k) (l := dl) (A2 := some ⟨gx, 0, none⟩) (c2 := dl.length) HOW.out (by omega) (by omega)
        rw [rep_put HN.out hlt HA.out] at h
        exact h.wide (Nat.le_refl _) (by simp)
      case measure => first | (simp [intOf]; done) | (simp [intOf]; omega)
    case neg =>
      obtain rfl : n = k := by omega
      rw [List.take_of_length_le (by have := HN.out; omega), Nat.sub_self, List.replicate_zero, List.append_nil] at ow1
      go_wp2_with fail
      go_ret
      exact ⟨w.heap.size, rfl, ow1, g1⟩
/-- An outline of the call's own is handed back. -/
def ToRegionO (ds : List DRing) (w : World) (e : Ending) (w' : World) : Prop := ∃ g, e = .returned (.agg #[.slice (some ⟨g, 0, none⟩) ds.length ds.length]) ∧ OwnRing w' w.heap.size w'.heap.size (some ⟨g, 0, none⟩) ds.length ds ∧ Below w.heap.size w w'
set_option maxHeartbeats 3200000 in
theorem toRegion_own (ds : List DRing) (A : Option Addr) (c : Nat) (w : World) (hl : ds.length ≤ 1048576) (hin : ∀ (i : Nat) (d : DRing), ds[i]? = some d → d.length ≤ 1048576) (hr : RdRing w w.heap.size A ds) :
    Calls Try.prog 16 #[.agg #[.slice A ds.length c]] w (ToRegionO ds w) := by
  have C := fun w r => toRingS_own ds A c w hl hin r
  unfold RetRingO at C
  replace C := Lib.hid C
  unfold ToRegionO
  generalize ds.length = n at C ⊢
  clear hl hin
  go_enter Try.func16, Try.ntmps16
  go_wp2_with fail
  refine (C.out _ ?_).mono ?_
  · exact (hr.carry (w' := _) (by repeat' (first | with_reducible assumption | with_reducible exact Below.refl _ _ | (with_reducible refine Below.setCell ?_ ?_ _) | (with_reducible refine Below.alloc ?_ ?_ _) | (with_reducible refine Below.drew ?_) | (with_reducible refine below_dr ?_ _) | (with_reducible refine Below.trans ?_ (Below.mono (by with_reducible assumption) ?_)) | omega | (simp; done) | (simp; omega))) (Nat.le_refl _)).more (by (try simp only [World.size_setCell]); (try simp only [World.size_drew]); (try simp only [World.size_alloc]); omega)
  intro e w1 hq
  obtain ⟨gx, rfl, own1, hb1⟩ := hq
  have own2 := own1.wide (lo' := w.heap.size + 1 + 1 + 1) (hi' := w1.heap.size) (by (try simp only [World.size_setCell]); (try simp only [World.size_alloc]); omega) (Nat.le_refl _)
  obtain ⟨hcw1, hfw1⟩ := bcell hb1
  have hzw1 := hb1.size
  (try simp only [World.size_setCell] at hcw1 hfw1 hzw1)
  (try simp only [World.size_drew] at hcw1 hfw1 hzw1)
  (try simp only [World.size_alloc] at hcw1 hfw1 hzw1)
  have q0 : w.heap.size < w1.heap.size := by omega
  have q1 : w.heap.size + 1 < w1.heap.size := by omega
  have q2 : w.heap.size + 1 + 1 < w1.heap.size := by omega
  have HO := Lib.hid own2
  clear own1 own2
  go_wp2_with fail
  refine bodyPost_ret (v := .agg #[.slice (some ⟨gx, 0, none⟩) n n]) (by simp [results, Try.results16, go_sem, *]) rfl ⟨_, rfl, ?_, ?_⟩
  · simp only [World.size_setCell]
    refine OwnRing.wide (lo := w.heap.size + 1 + 1 + 1) (hi := w1.heap.size) ?_ (by omega) (Nat.le_refl _)
    repeat (with_reducible refine OwnRing.mid ?_ (Mid.of_set _ _ _ _) (.inr (by omega)))
    with_reducible exact HO.out
  · repeat' (first | with_reducible assumption | with_reducible exact Below.refl _ _ | (with_reducible refine Below.setCell ?_ ?_ _) | (with_reducible refine Below.alloc ?_ ?_ _) | (with_reducible refine Below.drew ?_) | (with_reducible refine below_dr ?_ _) | (with_reducible refine Below.trans ?_ (Below.mono (by with_reducible assumption) ?_)) | omega | (simp; done) | (simp; omega))

theorem kAt_tot (k : Nat) (ds : List DRing) : kAt k ds ds.length = k + 2 * totRing ds := by
  unfold kAt totRing
  rw [List.take_length]
  rfl
end Go.Proofs.Ytdeemhfhmgnbgaa
