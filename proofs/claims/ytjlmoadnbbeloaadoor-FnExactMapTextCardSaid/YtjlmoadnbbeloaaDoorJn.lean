/- Walks: the text of a map, the program's side. -/
import Derived.Test.YtjlmoadnbbeloaaDoorJm
namespace Go.Proofs.YtjlmoadnbbeloaaDoor
open Go.RowKit
set_option linter.unusedVariables false
/-- Six texts, of which k are written. -/
def sarr (T : Nat → ByteArray) (k : Nat) : Array Value := #[.string (if 0 < k then T 0 else ⟨#[]⟩), .string (if 1 < k then T 1 else ⟨#[]⟩), .string (if 2 < k then T 2 else ⟨#[]⟩), .string (if 3 < k then T 3 else ⟨#[]⟩), .string (if 4 < k then T 4 else ⟨#[]⟩), .string (if 5 < k then T 5 else ⟨#[]⟩)]
theorem sarr_set (T : Nat → ByteArray) {k : Nat} (h : k < 6) : (sarr T k).setIfInBounds k (.string (T k)) = sarr T (k + 1) := by
  match k, h with
  | 0, _ => rfl
  | 1, _ => rfl
  | 2, _ => rfl
  | 3, _ => rfl
  | 4, _ => rfl
  | 5, _ => rfl
theorem sarr_at (T : Nat → ByteArray) {k i : Nat} (h : i < 6) : (sarr T k)[i]? = some (.string (if i < k then T i else ⟨#[]⟩)) := by
  match i, h with
  | 0, _ => rfl
  | 1, _ => rfl
  | 2, _ => rfl
  | 3, _ => rfl
  | 4, _ => rfl
  | 5, _ => rfl
theorem join6_any (T : Nat → ByteArray) (bk : Nat) (w : World) (h : Blk w bk 9 (sarr T 6)) (hm : ∀ i, i < 6 → (T i).size ≤ 43) :
    Calls Tryd.prog 35 #[.slice (some ⟨bk, 0, none⟩) 6 6, .string ⟨#[32]⟩] w fun e w' => e = .returned (.string (joinB ⟨#[32]⟩ ((List.range 6).map T))) ∧ Below w.heap.size w w' := by
  refine joinS_any ((List.range 6).map T) bk 6 43 ⟨#[32]⟩ w ?_ h.lt (by simp) ?_ ?_ (by simp)
  · intro j x hx
    rw [List.getElem?_map] at hx
    rcases Nat.lt_or_ge j 6 with hj | hj
    · rw [List.getElem?_range hj] at hx
      cases hx
      refine h.cell j ?_
      rw [sarr_at T hj, if_pos hj]
    · rw [List.getElem?_eq_none (by simpa using hj)] at hx; cases hx
  · intro y hy
    obtain ⟨i, hi, rfl⟩ := List.mem_map.1 hy
    exact hm i (List.mem_range.1 hi)
  · have : (⟨#[32]⟩ : ByteArray).size = 1 := rfl
    simp only [List.length_map, List.length_range, this]
    omega
theorem infoStr : (Tryd.prog.info? 9).map (fun i => (i.zero, i.size, i.bytes)) = some (some (.string ⟨#[]⟩), 1, 16) := by kernel_rfl
set_option maxRecDepth 100000 in
theorem mk6 : ∀ w : World, (Instr.makeSlice 82 (.int .i64 6) (.int .i64 6)).run Tryd.prog w = .ok (.slice (some ⟨w.heap.size, 0, none⟩) 6 6) (w.alloc (.cells (Array.replicate 6 (.string ⟨#[]⟩)) 9)) := by
  intro w
  obtain ⟨i0, hi0, hz0, hz1, hz2⟩ := info_parts infoStr
  have hr := run_makeSlice (P := Tryd.prog) w 82 9 i0 _ Tryd.underlying82 hi0 hz0 .i64 .i64 6 6 (by omega) (Int.le_refl _) (by rw [hz1]; simp) (by rw [hz2]; omega) (by omega)
  rw [hr, hz1]
  simp only [show (6 : Int).toNat = 6 from rfl, Nat.mul_one]
  congr 3
  apply Array.ext
  · simp [madeCells]
  · intro k h1 h2
    simp [madeCells, Value.cells, Nat.mod_one]
set_option maxRecDepth 100000 in
set_option maxHeartbeats 3200000 in
theorem implMapText_fn (N D : Nat → Int) (w : World) (hN : ∀ i, i < 6 → -9223372036854775808 ≤ N i ∧ N i ≤ 9223372036854775807) (hD : ∀ i, i < 6 → -9223372036854775808 ≤ D i ∧ D i ≤ 9223372036854775807) (ht : Lib.TabIs Tryd.prog w "internal/strconv.uint64pow10" .u64 Lib.pow10Tab) :
    Calls Tryd.prog 10 #[.agg #[.int .i64 (N 0), .int .i64 (D 0), .int .i64 (N 1), .int .i64 (D 1), .int .i64 (N 2), .int .i64 (D 2), .int .i64 (N 3), .int .i64 (D 3), .int .i64 (N 4), .int .i64 (D 4), .int .i64 (N 5), .int .i64 (D 5)]] w fun e w' => e = .returned (.string (mapT N D)) ∧ Below w.heap.size w w' := by
  have CV := Lib.hid (fun w => implValidAffine_fn N D w hN hD)
  have CT := Lib.hid (fun k (hk : k < 6) w1 (hb : Below w.heap.size w w1) => show Calls Tryd.prog 34 #[.agg #[.int .i64 (N k), .int .i64 (D k)]] w1 (fun e w' => e = .returned (.string (mTx N D k)) ∧ Below w1.heap.size w1 w') from implFracText_any (N k) (D k) w1 (hN k hk) (hD k hk) (Joins.tab_stays gPow ht hb (Nat.le_refl _)))
  have CJ := Lib.hid (fun bk w h => join6_any (mTx N D) bk w h (fun i hi => fracB_size (hN i hi) (hD i hi)))
  clear hN hD ht
  rcases hv : allV N D 6 with _ | _
  · rw [hv] at CV
    rw [mapT_f hv]
    clear hv CT CJ
    go_enter Tryd.func10, Tryd.ntmps10
    go_wp2_with fail
    refine (CV.out _).mono ?_
    rintro e w1 ⟨rfl, hb1⟩
    have at1 : AtL w.heap.size [.int .i64 (N 0), .int .i64 (D 0), .int .i64 (N 1), .int .i64 (D 1), .int .i64 (N 2), .int .i64 (D 2), .int .i64 (N 3), .int .i64 (D 3), .int .i64 (N 4), .int .i64 (D 4), .int .i64 (N 5), .int .i64 (D 5)] w1 := (AtL.new w _ _).below hb1
    have g1 : Below w.heap.size w w1 := by repeat' (first | with_reducible assumption | with_reducible exact Below.refl _ _ | (with_reducible refine Below.setCell ?_ ?_ _) | (with_reducible refine Below.alloc ?_ ?_ _) | (with_reducible refine Below.drew ?_) | (with_reducible refine below_dr ?_ _) | (with_reducible refine Below.trans ?_ (Below.mono (by with_reducible assumption) ?_)) | omega | (simp; done) | (simp; omega))
    clear hb1
    go_wp2_with fail
    go_ret
    exact ⟨rfl, g1⟩
  · rw [hv] at CV
    rw [mapT_t hv]
    clear hv
    go_enter Tryd.func10, Tryd.ntmps10
    go_wp2_with fail
    refine (CV.out _).mono ?_
    rintro e w1 ⟨rfl, hb1⟩
    have at1 : AtL w.heap.size [.int .i64 (N 0), .int .i64 (D 0), .int .i64 (N 1), .int .i64 (D 1), .int .i64 (N 2), .int .i64 (D 2), .int .i64 (N 3), .int .i64 (D 3), .int .i64 (N 4), .int .i64 (D 4), .int .i64 (N 5), .int .i64 (D 5)] w1 := (AtL.new w _ _).below hb1
    have g1 : Below w.heap.size w w1 := by repeat' (first | with_reducible assumption | with_reducible exact Below.refl _ _ | (with_reducible refine Below.setCell ?_ ?_ _) | (with_reducible refine Below.alloc ?_ ?_ _) | (with_reducible refine Below.drew ?_) | (with_reducible refine below_dr ?_ _) | (with_reducible refine Below.trans ?_ (Below.mono (by with_reducible assumption) ?_)) | omega | (simp; done) | (simp; omega))
    clear hb1
    have lw := at1.lt
    have k0 := at1.cell 0 rfl
    have k1 := at1.cell 1 rfl
    have k2 := at1.cell 2 rfl
    have k3 := at1.cell 3 rfl
    have k4 := at1.cell 4 rfl
    have k5 := at1.cell 5 rfl
    have k6 := at1.cell 6 rfl
    have k7 := at1.cell 7 rfl
    have k8 := at1.cell 8 rfl
    have k9 := at1.cell 9 rfl
    have k10 := at1.cell 10 rfl
    have k11 := at1.cell 11 rfl
    have q1 : w.heap.size ≤ w1.heap.size := by omega
    go_wp2_with fail
    refine (parts_any N D _).mono ?_
    rintro e w2 ⟨rfl, hb2⟩
    have g2 : Below w.heap.size w w2 := by repeat' (first | with_reducible assumption | with_reducible exact Below.refl _ _ | (with_reducible refine Below.setCell ?_ ?_ _) | (with_reducible refine Below.alloc ?_ ?_ _) | (with_reducible refine Below.drew ?_) | (with_reducible refine below_dr ?_ _) | (with_reducible refine Below.trans ?_ (Below.mono (by with_reducible assumption) ?_)) | omega | (simp; done) | (simp; omega))
    have z2 := hb2.size
    clear hb2 k0 k1 k2 k3 k4 k5 k6 k7 k8 k9 k10 k11
    have hmk := mk6
    go_wp2_with fail
    generalize hW : (w2.alloc (.cells #[.int .i64 (N 0), .int .i64 (D 0), .int .i64 (N 1), .int .i64 (D 1), .int .i64 (N 2), .int .i64 (D 2), .int .i64 (N 3), .int .i64 (D 3), .int .i64 (N 4), .int .i64 (D 4), .int .i64 (N 5), .int .i64 (D 5)] 80)).alloc (.cells (Array.replicate 6 (.string ⟨#[]⟩)) 9) = W0
    obtain ⟨G, hG⟩ : ∃ G, G = w2.heap.size + 1 := ⟨_, rfl⟩
    have bk0 : Blk W0 G 9 (sarr (mTx N D) 0) := by rw [← hW]; exact Blk.newAt _ _ _ (by simp [hG])
    have g3 : Below w.heap.size w W0 := by rw [← hW]; repeat' (first | with_reducible assumption | with_reducible exact Below.refl _ _ | (with_reducible refine Below.setCell ?_ ?_ _) | (with_reducible refine Below.alloc ?_ ?_ _) | (with_reducible refine Below.drew ?_) | (with_reducible refine below_dr ?_ _) | (with_reducible refine Below.trans ?_ (Below.mono (by with_reducible assumption) ?_)) | omega | (simp; done) | (simp; omega))
    have hGw : w.heap.size ≤ G := by omega
    rw [← hG]
    clear hW hG hmk at1 lw g1 g2 z2 q1
    go_loopw [14] (fun i wr => ∃ k : Nat, k ≤ 6 ∧ i = .int .i64 (k : Int) ∧ Blk wr G 9 (sarr (mTx N D) k) ∧ Below w.heap.size w wr) (fun i _ => 6 - (intOf i).toNat)
    case atStart => exact ⟨0, by omega, rfl, bk0, g3⟩
    case round =>
      clear bk0 g3
      obtain ⟨k, hk, rfl, bk, hbl⟩ := hrel
      by_cases hlt : k < 6
      · have hi := idx_any N D k hlt
        have hz := hbl.size
        have lb := bk.lt
        have hki : (k : Int) < 6 := by omega
        have HT := Lib.hid (CT.out k hlt)
        have HSET := Lib.hid (sarr_set (mTx N D) hlt)
        generalize mTx N D k = t at HT HSET
        go_wp2_with fail
        refine (HT.out _ (by repeat' (first | with_reducible assumption | with_reducible exact Below.refl _ _ | (with_reducible refine Below.setCell ?_ ?_ _) | (with_reducible refine Below.alloc ?_ ?_ _) | (with_reducible refine Below.drew ?_) | (with_reducible refine below_dr ?_ _) | (with_reducible refine Below.trans ?_ (Below.mono (by with_reducible assumption) ?_)) | omega | (simp; done) | (simp; omega)))).mono ?_
        rintro e w3 ⟨rfl, hb3⟩
        have bk3 : Blk w3 G 9 (sarr (mTx N D) k) := by repeat' (first | with_reducible assumption | (with_reducible refine Blk.carry ?_ (by with_reducible assumption)) | (with_reducible refine Blk.drew ?_) | (with_reducible refine Blk.alloc ?_ _) | ((with_reducible refine Blk.far ?_ ?_ _); (simp only; omega)))
        have y0 : w3.cell? ⟨G, k, none⟩ = some (.string (if k < k then mTx N D k else ⟨#[]⟩)) := bk3.cell k (sarr_at _ hlt)
        have u0 := bk3.frozen k
        have z3 := bk3.lt
        have g3 : Below w.heap.size w w3 := by repeat' (first | with_reducible assumption | with_reducible exact Below.refl _ _ | (with_reducible refine Below.setCell ?_ ?_ _) | (with_reducible refine Below.alloc ?_ ?_ _) | (with_reducible refine Below.drew ?_) | (with_reducible refine below_dr ?_ _) | (with_reducible refine Below.trans ?_ (Below.mono (by with_reducible assumption) ?_)) | omega | (simp; done) | (simp; omega))
        clear hb3 bk hbl
        go_wp2_with fail
        go_roundw
        case rel => exact ⟨k + 1, by omega, by go_num, by have h := bk3.set_ k (.string t); rw [HSET.out] at h; exact h, by repeat' (first | with_reducible assumption | with_reducible exact Below.refl _ _ | (with_reducible refine Below.setCell ?_ ?_ _) | (with_reducible refine Below.alloc ?_ ?_ _) | (with_reducible refine Below.drew ?_) | (with_reducible refine below_dr ?_ _) | (with_reducible refine Below.trans ?_ (Below.mono (by with_reducible assumption) ?_)) | omega | (simp; done) | (simp; omega))⟩
        case measure => first | (simp [intOf]; done) | (simp [intOf]; omega)
      · obtain rfl : k = 6 := by omega
        have hz := hbl.size
        go_wp2_with fail
        refine (CJ.out _ _ bk).mono ?_
        rintro e w3 ⟨rfl, hb3⟩
        go_wp2_with fail
        go_ret
        exact ⟨rfl, by repeat' (first | with_reducible assumption | with_reducible exact Below.refl _ _ | (with_reducible refine Below.setCell ?_ ?_ _) | (with_reducible refine Below.alloc ?_ ?_ _) | (with_reducible refine Below.drew ?_) | (with_reducible refine below_dr ?_ _) | (with_reducible refine Below.trans ?_ (Below.mono (by with_reducible assumption) ?_)) | omega | (simp; done) | (simp; omega))⟩
end Go.Proofs.YtjlmoadnbbeloaaDoor
