/- Walks: the edges of a region, on both sides. -/
import Derived.Test.YtdeemhfhmgnbgaaVn
import Derived.Test.YtdeemhfhmgnbgaaVg
namespace Go.Proofs.Ytdeemhfhmgnbgaa
open Go.RowKit
set_option linter.unusedVariables false
def allUp (ds : List DRing) (k : Nat) : List AEdge := (ds.take k).flatMap edL
/-- The edges of all rings. -/
def allE (ds : List DRing) : List AEdge := ds.flatMap edL
theorem allUp_zero (ds : List DRing) : allUp ds 0 = [] := rfl
theorem allUp_succ {ds : List DRing} {k : Nat} {d : DRing} (h : ds[k]? = some d) : allUp ds k ++ edL d = allUp ds (k + 1) := by
  unfold allUp; rw [List.take_add_one, h, List.flatMap_append]; simp
theorem allUp_all (ds : List DRing) : allUp ds ds.length = allE ds := by unfold allUp allE; rw [List.take_length]
theorem allUp_len_ {ds : List DRing} {N : Nat} (h : ∀ (i : Nat) (d : DRing), ds[i]? = some d → d.length ≤ N) (k : Nat) : (allUp ds k).length ≤ k * N := by
  induction k with
  | zero => simp [allUp]
  | succ k ih =>
    rw [Nat.succ_mul]
    rcases hd : ds[k]? with _ | d
    · have h2 : allUp ds (k + 1) = allUp ds k := by unfold allUp; rw [List.take_add_one, hd]; simp
      rw [h2]; exact Nat.le_trans ih (Nat.le_add_right _ _)
    · rw [← allUp_succ hd, List.length_append]
      exact Nat.add_le_add ih (Nat.le_trans (edL_len d) (h k d hd))
theorem allUp_len {ds : List DRing} (h : ∀ (i : Nat) (d : DRing), ds[i]? = some d → d.length ≤ 400) (k : Nat) : (allUp ds k).length ≤ k * 400 := allUp_len_ h k
theorem eslice_of {t : TypeId} {w : World} {base s n : Nat} {v : Value} {xs : List Value} (h : w.ownsRow base t s v n xs) : ∃ ao cap, v = .slice ao n cap := by
  rcases h.2 with ⟨rfl, rfl⟩ | ⟨g, cap, cur, rfl, _⟩
  · exact ⟨none, 0, rfl⟩
  · exact ⟨_, _, rfl⟩
theorem all_one (es : List AEdge) : ∀ z ∈ cellsF cE es, z.oneCell' = true := cellsF_one (fun a => cE_one a) es
set_option maxHeartbeats 6400000 in
theorem regionEdges_any (ds : List DRing) (A : Option Addr) (c : Nat) (w : World) (hds : ds.length ≤ 40) (hin : ∀ (i : Nat) (d : DRing), ds[i]? = some d → d.length ≤ 400) (r : RdRing w w.heap.size A ds) :
    Calls Try.prog 76 #[.agg #[.slice A ds.length c]] w fun e w' => ∃ (A' : Option Addr) (c' : Nat), e = .returned (.slice A' (allE ds).length c') ∧ OwE 114 w' w.heap.size A' (allE ds).length c' (allE ds) ∧ Below w.heap.size w w' := by
  obtain ⟨L, hL⟩ : ∃ L, L = allE ds := ⟨_, rfl⟩
  rw [← hL]
  have HL := Lib.hid hL
  clear hL
  have HIN := Lib.hid hin
  clear hin
  obtain ⟨n, hn⟩ : ∃ n, n = ds.length := ⟨_, rfl⟩
  rw [← hn] at hds ⊢
  have HN := Lib.hid hn
  clear hn
  obtain ⟨i0, hi0, hz0', hz1', hz2'⟩ := einfo_parts infoIE
  have HI0 := Lib.hid hi0
  have HZ0 := Lib.hid hz0'
  have HZ1 := Lib.hid hz1'
  have HZ2 := Lib.hid hz2'
  clear hi0 hz0' hz1' hz2'
  go_enter Try.func76, Try.ntmps76
  go_wp2_with fail
  go_loopw [3, 9] (fun s i wr => ∃ (k : Nat) (A' : Option Addr) (m c' : Nat), k ≤ n ∧ i = .int .i64 (k : Int) ∧ s = .slice A' m c' ∧ OwE 114 wr (w.heap.size + 1) A' m c' (allUp ds k) ∧ AtL w.heap.size [.slice A n c] wr ∧ Below w.heap.size w wr) (fun _ i _ => n - (intOf i).toNat)
  case atStart => exact ⟨0, _, 0, 0, Nat.zero_le _, rfl, rfl, OwE.nil _ _, by exact AtL.new _ _ _, by repeat' (first | with_reducible assumption | with_reducible exact Below.refl _ _ | (with_reducible refine Below.setCell ?_ ?_ _) | (with_reducible refine Below.alloc ?_ ?_ _) | (with_reducible refine Below.drew ?_) | (with_reducible refine below_dr ?_ _) | (with_reducible refine Below.trans ?_ (Below.mono (by with_reducible assumption) ?_)) | omega | (simp; done) | (simp; omega))⟩
  case round =>
    obtain ⟨k, A', m, c', hk, rfl, rfl, ow, at1, hbl⟩ := hrel
    have zr := hbl.size
    have hmk : m ≤ k * 400 := by rw [ow.1]; exact allUp_len HIN.out _
    have k0 := at1.cell 0 rfl
    have lw := at1.lt
    by_cases hlt : k < n
    case pos =>
      obtain ⟨dl, ha⟩ : ∃ a, ds[k]? = some a := ⟨ds[k]'(by have := HN.out; omega), List.getElem?_eq_getElem (by have := HN.out; omega)⟩
      obtain ⟨g, o, A2, c2, rfl, hg, hc, hrd⟩ := (r.carry hbl (Nat.le_refl _)).elem ha
      have p0 : wr.cell? ⟨g, o + k, none⟩ = some (.slice A2 dl.length c2) := by have h := hc 0 _ rfl; rw [Nat.mul_one] at h; exact h
      have hki : (k : Int) < (n : Int) := by omega
      have hdl := HIN.out k _ ha
      have hdl2 := edL_len dl
      have HS := Lib.hid (allUp_succ ha)
      have hgr : g < wr.heap.size := by omega
      clear hc ha r
      go_wp2_with fail
      refine (ringEdges_any dl A2 c2 _ (by omega) ?_).mono ?_
      · exact (hrd.alloc (by omega) _).more (by simp; omega)
      intro e w2 hq2
      obtain ⟨A3, c3, rfl, ow3, hb2⟩ := hq2
      have hz2 := hb2.size
      (try simp only [World.size_alloc] at hz2)
      have g2 : Below w.heap.size w w2 := by repeat' (first | with_reducible assumption | with_reducible exact Below.refl _ _ | (with_reducible refine Below.setCell ?_ ?_ _) | (with_reducible refine Below.alloc ?_ ?_ _) | (with_reducible refine Below.drew ?_) | (with_reducible refine below_dr ?_ _) | (with_reducible refine Below.trans ?_ (Below.mono (by with_reducible assumption) ?_)) | omega | (simp; done) | (simp; omega))
      have ow2 : OwE 114 w2 (w.heap.size + 1) A' m c' (allUp ds k) := (ow.alloc _).stays hb2
      have at2 : AtL w.heap.size [.slice (some ⟨g, o, none⟩) n c] w2 := (at1.alloc _).below hb2
      clear ow hb2 p0 k0 at1 hbl
      generalize hm2 : (edL dl).length = m2 at ow3 hdl2 ⊢
      have HOW := Lib.hid ow2.2
      have HRB := Lib.hid ow2.block
      have HRD := Lib.hid ow3.reads
      have HMX := Lib.hid (show m + m2 ≤ maxLen by unfold maxLen; omega)
      have HBY := Lib.hid (show (m + m2) * 32 ≤ 140737488355328 by omega)
      have HBS := Lib.hid (show w.heap.size + 1 ≤ w2.heap.size by omega)
      go_wp2_with (at_builtin; refine wpList_append_any _ rfl (.tmp 13) (.tmp 15) _ rfl (w.heap.size + 1) 114 i0 _ 4 32 Try.underlying107 HI0.out HZ0.out HZ1.out HZ2.out rfl (by omega) (.slice A' m c') m _ rfl HOW.out _ A3 m2 c3 (cellsF cE (edL dl)) rfl HRD.out (all_one _) HMX.out HBY.out HBS.out ?_; intro v9 w9 hown9 hg9 hat9; obtain ⟨A9, c9, rfl⟩ := eslice_of hown9; have HOWN9 := Lib.hid hown9; have HG9 := Lib.hid hg9; clear hown9 hg9 hat9)
      have g9b : Below w.heap.size w w9 := below_of_grown g2 HG9.out (by omega) (fun q hq => by have := HRB.out q hq; omega)
      have ow9 : OwE 114 w9 (w.heap.size + 1) A9 (m + m2) c9 (allUp ds k ++ edL dl) := OwE.grown (by have := ow2.1; omega) HOWN9.out
      have at9 : AtL w.heap.size [.slice (some ⟨g, o, none⟩) n c] w9 := AtL.grown at2 HG9.out (fun q hq => by have := HRB.out q hq; omega)
      go_roundw
      case rel => exact ⟨k + 1, _, _, _, by omega, by go_num, rfl, by rw [HS.out] at ow9; exact ow9, at9, g9b⟩
      case measure => first | (simp [intOf]; done) | (simp [intOf]; omega)
    case neg =>
      obtain rfl : k = n := by omega
      have H := Lib.hid (show allUp ds k = L by rw [HL.out, HN.out]; exact allUp_all ds)
      rw [H.out] at ow
      obtain rfl := ow.1
      go_wp2_with fail
      go_ret
      exact ⟨A', c', rfl, ow.base_ (by omega), hbl⟩
set_option maxHeartbeats 6400000 in
theorem l13All_any (ds : List DRing) (A : Option Addr) (c b : Nat) (w : World) (hb : b < w.heap.size) (c0 : w.cell? ⟨b, 0, none⟩ = some (.slice A ds.length c)) (hds : ds.length ≤ 40) (hin : ∀ (i : Nat) (d : DRing), ds[i]? = some d → d.length ≤ 400) (r : RdRing w w.heap.size A ds) :
    Calls Try.prog 74 #[.pointer (some ⟨b, 0, none⟩)] w fun e w' => ∃ (A' : Option Addr) (c' : Nat), e = .returned (.slice A' (allE ds).length c') ∧ OwE 129 w' w.heap.size A' (allE ds).length c' (allE ds) ∧ Below w.heap.size w w' := by
  obtain ⟨L, hL⟩ : ∃ L, L = allE ds := ⟨_, rfl⟩
  rw [← hL]
  have HL := Lib.hid hL
  clear hL
  have HIN := Lib.hid hin
  clear hin
  obtain ⟨n, hn⟩ : ∃ n, n = ds.length := ⟨_, rfl⟩
  rw [← hn] at hds c0
  have HN := Lib.hid hn
  clear hn
  obtain ⟨i0, hi0, hz0', hz1', hz2'⟩ := einfo_parts infoSE
  have HI0 := Lib.hid hi0
  have HZ0 := Lib.hid hz0'
  have HZ1 := Lib.hid hz1'
  have HZ2 := Lib.hid hz2'
  clear hi0 hz0' hz1' hz2'
  go_enter Try.func74, Try.ntmps74
  go_wp2_with fail
  go_loopw [3, 4] (fun s i wr => ∃ (k : Nat) (A' : Option Addr) (m c' : Nat), k ≤ n ∧ i = .int .i64 (k : Int) ∧ s = .slice A' m c' ∧ OwE 129 wr (w.heap.size) A' m c' (allUp ds k) ∧ Below w.heap.size w wr) (fun _ i _ => n - (intOf i).toNat)
  case atStart => exact ⟨0, _, 0, 0, Nat.zero_le _, rfl, rfl, OwE.new _ _ (Nat.le_refl _), by repeat' (first | with_reducible assumption | with_reducible exact Below.refl _ _ | (with_reducible refine Below.setCell ?_ ?_ _) | (with_reducible refine Below.alloc ?_ ?_ _) | (with_reducible refine Below.drew ?_) | (with_reducible refine below_dr ?_ _) | (with_reducible refine Below.trans ?_ (Below.mono (by with_reducible assumption) ?_)) | omega | (simp; done) | (simp; omega))⟩
  case round =>
    obtain ⟨k, A', m, c', hk, rfl, rfl, ow, hbl⟩ := hrel
    have zr := hbl.size
    have hmk : m ≤ k * 400 := by rw [ow.1]; exact allUp_len HIN.out _
    have k0 : wr.cell? ⟨b, 0, none⟩ = some (.slice A n c) := (hbl.cell (p := ⟨b, 0, none⟩) hb).trans c0
    have hbr : b < wr.heap.size := by omega
    by_cases hlt : k < n
    case pos =>
      obtain ⟨dl, ha⟩ : ∃ a, ds[k]? = some a := ⟨ds[k]'(by have := HN.out; omega), List.getElem?_eq_getElem (by have := HN.out; omega)⟩
      obtain ⟨g, o, A2, c2, rfl, hg, hc, hrd⟩ := (r.carry hbl (Nat.le_refl _)).elem ha
      have p0 : wr.cell? ⟨g, o + k, none⟩ = some (.slice A2 dl.length c2) := by have h := hc 0 _ rfl; rw [Nat.mul_one] at h; exact h
      have hki : (k : Int) < (n : Int) := by omega
      have hdl := HIN.out k _ ha
      have hdl2 := edL_len dl
      have HS := Lib.hid (allUp_succ ha)
      have hgr : g < wr.heap.size := by omega
      clear hc ha r
      clear c0
      have C := Lib.hid (fun w1 h1 h2 h3 => l13Edges_any dl A2 c2 g (o + k) w1 h1 h2 (by omega) h3)
      go_wp2_with fail
      refine (C.out _ hgr p0 (hrd.more (by omega))).mono ?_
      intro e w2 hq2
      obtain ⟨A3, c3, rfl, ow3, hb2⟩ := hq2
      have hz2 := hb2.size
      (try simp only [World.size_alloc] at hz2)
      have g2 : Below w.heap.size w w2 := by repeat' (first | with_reducible assumption | with_reducible exact Below.refl _ _ | (with_reducible refine Below.setCell ?_ ?_ _) | (with_reducible refine Below.alloc ?_ ?_ _) | (with_reducible refine Below.drew ?_) | (with_reducible refine below_dr ?_ _) | (with_reducible refine Below.trans ?_ (Below.mono (by with_reducible assumption) ?_)) | omega | (simp; done) | (simp; omega))
      have ow2 : OwE 129 w2 (w.heap.size) A' m c' (allUp ds k) := ow.stays hb2
      clear ow hb2 p0 k0 hbl
      generalize hm2 : (edL dl).length = m2 at ow3 hdl2 ⊢
      have HOW := Lib.hid ow2.2
      have HRB := Lib.hid ow2.block
      have HRD := Lib.hid ow3.reads
      have HMX := Lib.hid (show m + m2 ≤ maxLen by unfold maxLen; omega)
      have HBY := Lib.hid (show (m + m2) * 32 ≤ 140737488355328 by omega)
      have HBS := Lib.hid (show w.heap.size ≤ w2.heap.size by omega)
      go_wp2_with (at_builtin; refine wpList_append_any _ rfl (.tmp 15) (.tmp 22) _ rfl (w.heap.size) 129 i0 _ 4 32 Try.underlying104 HI0.out HZ0.out HZ1.out HZ2.out rfl (by omega) (.slice A' m c') m _ rfl HOW.out _ A3 m2 c3 (cellsF cE (edL dl)) rfl HRD.out (all_one _) HMX.out HBY.out HBS.out ?_; intro v9 w9 hown9 hg9 hat9; obtain ⟨A9, c9, rfl⟩ := eslice_of hown9; have HOWN9 := Lib.hid hown9; have HG9 := Lib.hid hg9; clear hown9 hg9 hat9)
      have g9b : Below w.heap.size w w9 := below_of_grown g2 HG9.out (by omega) (fun q hq => by have := HRB.out q hq; omega)
      have ow9 : OwE 129 w9 (w.heap.size) A9 (m + m2) c9 (allUp ds k ++ edL dl) := OwE.grown (by have := ow2.1; omega) HOWN9.out
      go_roundw
      case rel => exact ⟨k + 1, _, _, _, by omega, by go_num, rfl, by rw [HS.out] at ow9; exact ow9, g9b⟩
      case measure => first | (simp [intOf]; done) | (simp [intOf]; omega)
    case neg =>
      obtain rfl : k = n := by omega
      have H := Lib.hid (show allUp ds k = L by rw [HL.out, HN.out]; exact allUp_all ds)
      rw [H.out] at ow
      obtain rfl := ow.1
      go_wp2_with fail
      go_ret
      exact ⟨A', c', rfl, ow, hbl⟩
end Go.Proofs.Ytdeemhfhmgnbgaa
