/- Walks: which regions are valid, on both sides. -/
import Derived.Test.YtdeemhfhmgnbgaaVo
namespace Go.Proofs.Ytdeemhfhmgnbgaa
open Go.RowKit
set_option linter.unusedVariables false
def rUp (ds : List DRing) (k : Nat) : Bool := (ds.take k).all vRg
def vRn (ds : List DRing) : Bool := decide (ds.length ≤ 40) && (rUp ds ds.length && decide ((allE ds).length ≤ 400))
theorem rUp_zero (l : List DRing) : rUp l 0 = true := rfl
theorem rUp_succ {l : List DRing} {k : Nat} {a : DRing} (h : rUp l k = true) (ha : l[k]? = some a) (hv : vRg a = true) : rUp l (k + 1) = true := by
  unfold rUp at *
  rw [List.take_add_one, ha, List.all_append, h]; simp [hv]
theorem rUp_bad {l : List DRing} {k : Nat} {a : DRing} (ha : l[k]? = some a) (hv : vRg a = false) : rUp l l.length = false := by
  unfold rUp
  rw [List.take_length, List.all_eq_false]
  exact ⟨a, List.mem_of_getElem? ha, by simp [hv]⟩
theorem rUp_in {l : List DRing} (h : rUp l l.length = true) (i : Nat) (d : DRing) (hd : l[i]? = some d) : d.length ≤ 400 := by
  unfold rUp at h
  rw [List.take_length, List.all_eq_true] at h
  exact (vRg_parts (h d (List.mem_of_getElem? hd))).2.1
theorem vRn_len {l : List DRing} (h : 40 < l.length) : false = vRn l := by simp [vRn]; omega
theorem vRn_bad {l : List DRing} (h : rUp l l.length = false) : false = vRn l := by simp [vRn, h]
theorem vRn_all {l : List DRing} (h0 : l.length ≤ 40) (h : rUp l l.length = true) : decide ((allE l).length ≤ 400) = vRn l := by simp [vRn, h, h0]
theorem vRn_parts {l : List DRing} (h : vRn l = true) : l.length ≤ 40 ∧ rUp l l.length = true ∧ (allE l).length ≤ 400 := by
  simp only [vRn, Bool.and_eq_true, decide_eq_true_eq] at h
  exact ⟨h.1, h.2.1, h.2.2⟩
set_option maxHeartbeats 6400000 in
theorem l13Ok_any (ds : List DRing) (A : Option Addr) (c b : Nat) (w : World) (hb : b < w.heap.size) (c0 : w.cell? ⟨b, 0, none⟩ = some (.slice A ds.length c)) (hl : ds.length ≤ 1048576) (hin : ∀ (i : Nat) (d : DRing), ds[i]? = some d → d.length ≤ 1048576) (r : RdRing w w.heap.size A ds) :
    Calls Try.prog 42 #[.pointer (some ⟨b, 0, none⟩)] w fun e w' => e = .returned (.bool (vRn ds)) ∧ Below w.heap.size w w' := by
  have HIN := Lib.hid hin
  clear hin
  obtain ⟨n, hn⟩ : ∃ n, n = ds.length := ⟨_, rfl⟩
  by_cases hlen : 40 < ds.length
  case pos =>
    have H := Lib.hid (vRn_len hlen)
    rw [← hn] at hlen hl c0
    clear hn
    have hq : (40 : Int) < n := by omega
    go_enter Try.func42, Try.ntmps42
    go_wp2_with fail
    go_ret
    exact ⟨ret_bool H.out, by repeat' (first | with_reducible assumption | with_reducible exact Below.refl _ _ | (with_reducible refine Below.setCell ?_ ?_ _) | (with_reducible refine Below.alloc ?_ ?_ _) | (with_reducible refine Below.drew ?_) | (with_reducible refine below_dr ?_ _) | (with_reducible refine Below.trans ?_ (Below.mono (by with_reducible assumption) ?_)) | omega | (simp; done) | (simp; omega))⟩
  case neg =>
    have HY := Lib.hid (fun h => vRn_all (l := ds) (by omega) h)
    have H40 := Lib.hid (show ds.length ≤ 40 by omega)
    rw [← hn] at hlen hl c0
    have HN := Lib.hid hn
    have hq : decide ((40 : Int) < n) = false := by simp; omega
    clear hn
    go_enter Try.func42, Try.ntmps42
    go_wp2_with fail
    go_loopw [3] (fun i wr => ∃ k : Nat, k ≤ n ∧ i = .int .i64 k ∧ rUp ds k = true ∧ Below w.heap.size w wr) (fun i _ => n - (intOf i).toNat)
    case atStart => exact ⟨0, Nat.zero_le _, rfl, rUp_zero _, by repeat' (first | with_reducible assumption | with_reducible exact Below.refl _ _ | (with_reducible refine Below.setCell ?_ ?_ _) | (with_reducible refine Below.alloc ?_ ?_ _) | (with_reducible refine Below.drew ?_) | (with_reducible refine below_dr ?_ _) | (with_reducible refine Below.trans ?_ (Below.mono (by with_reducible assumption) ?_)) | omega | (simp; done) | (simp; omega))⟩
    case round =>
      obtain ⟨k, hk, rfl, hup, hbl⟩ := hrel
      have HUP := Lib.hid hup
      clear hup
      have zr := hbl.size
      have rwr := r.carry hbl (Nat.le_refl _)
      have c1 : wr.cell? ⟨b, 0, none⟩ = some (.slice A n c) := (hbl.cell (p := ⟨b, 0, none⟩) hb).trans c0
      by_cases hlt : k < n
      case pos =>
        obtain ⟨dl, ha⟩ : ∃ a, ds[k]? = some a := ⟨ds[k]'(by have := HN.out; omega), List.getElem?_eq_getElem (by have := HN.out; omega)⟩
        obtain ⟨g, o, A', c', rfl, hg, hc, hrd⟩ := rwr.elem ha
        have p0 : wr.cell? ⟨g, o + k, none⟩ = some (.slice A' dl.length c') := by have h := hc 0 _ rfl; rw [Nat.mul_one] at h; exact h
        have hki : (k : Int) < (n : Int) := by omega
        have hdl := HIN.out k _ ha
        have hgr : g < wr.heap.size := by omega
        clear hc rwr r
        rcases hv : vRg dl with _ | _
        case false =>
          have HA := Lib.hid ha
          have CV := Lib.hid (fun w1 h1 h2 h3 => l13Ring_any dl A' c' g (o + k) w1 h1 h2 hdl h3)
          simp only [hv] at CV
          have HV := Lib.hid hv
          clear hv ha
          clear c0
          have H := Lib.hid (vRn_bad (rUp_bad HA.out HV.out))
          go_wp2_with fail
          refine (CV.out _ hgr p0 (hrd.more (by omega))).mono ?_
          rintro e w2 ⟨rfl, hb2⟩
          have hz2 := hb2.size
          (try simp only [World.size_alloc] at hz2)
          go_wp2_with fail
          go_ret
          exact ⟨ret_bool H.out, by repeat' (first | with_reducible assumption | with_reducible exact Below.refl _ _ | (with_reducible refine Below.setCell ?_ ?_ _) | (with_reducible refine Below.alloc ?_ ?_ _) | (with_reducible refine Below.drew ?_) | (with_reducible refine below_dr ?_ _) | (with_reducible refine Below.trans ?_ (Below.mono (by with_reducible assumption) ?_)) | omega | (simp; done) | (simp; omega))⟩
        case true =>
          have HA := Lib.hid ha
          have CV := Lib.hid (fun w1 h1 h2 h3 => l13Ring_any dl A' c' g (o + k) w1 h1 h2 hdl h3)
          simp only [hv] at CV
          have HV := Lib.hid hv
          clear hv ha
          clear c0
          go_wp2_with fail
          refine (CV.out _ hgr p0 (hrd.more (by omega))).mono ?_
          rintro e w2 ⟨rfl, hb2⟩
          have hz2 := hb2.size
          (try simp only [World.size_alloc] at hz2)
          go_wp2_with fail
          go_roundw
          case rel => exact ⟨k + 1, by omega, by go_num, rUp_succ HUP.out HA.out HV.out, by repeat' (first | with_reducible assumption | with_reducible exact Below.refl _ _ | (with_reducible refine Below.setCell ?_ ?_ _) | (with_reducible refine Below.alloc ?_ ?_ _) | (with_reducible refine Below.drew ?_) | (with_reducible refine below_dr ?_ _) | (with_reducible refine Below.trans ?_ (Below.mono (by with_reducible assumption) ?_)) | omega | (simp; done) | (simp; omega))⟩
          case measure => simp [intOf]; omega
      case neg =>
        obtain rfl : k = n := by omega
        have HU := Lib.hid (show rUp ds ds.length = true by have h := HUP.out; rw [HN.out] at h; exact h)
        have H := Lib.hid (HY.out HU.out)
        have C := Lib.hid (fun w1 h1 h2 r1 => l13All_any ds A c b w1 h1 h2 H40.out (rUp_in HU.out) r1)
        rw [← HN.out] at C
        go_wp2_with fail
        refine (C.out _ (by omega) c1 (rwr.more (by omega))).mono ?_
        intro e w2 hq2
        obtain ⟨A3, c3, rfl, ow3, hb2⟩ := hq2
        have g2 : Below w.heap.size w w2 := by repeat' (first | with_reducible assumption | with_reducible exact Below.refl _ _ | (with_reducible refine Below.setCell ?_ ?_ _) | (with_reducible refine Below.alloc ?_ ?_ _) | (with_reducible refine Below.drew ?_) | (with_reducible refine below_dr ?_ _) | (with_reducible refine Below.trans ?_ (Below.mono (by with_reducible assumption) ?_)) | omega | (simp; done) | (simp; omega))
        generalize (allE ds).length = m2 at H ⊢
        clear ow3 hb2
        by_cases hm : m2 ≤ 400
        · have hq3 : (m2 : Int) ≤ 400 := by omega
          have H2 := Lib.hid (H.out.symm.trans (decide_eq_true hm))
          go_wp2_with fail
          go_ret
          exact ⟨ret_bool H2.out.symm, g2⟩
        · have hq3 : decide ((m2 : Int) ≤ 400) = false := by simp; omega
          have H2 := Lib.hid (H.out.symm.trans (decide_eq_false hm))
          go_wp2_with fail
          go_ret
          exact ⟨ret_bool H2.out.symm, g2⟩
set_option maxHeartbeats 6400000 in
theorem implValidRegion_any (ds : List DRing) (A : Option Addr) (c : Nat) (w : World) (hl : ds.length ≤ 1048576) (hin : ∀ (i : Nat) (d : DRing), ds[i]? = some d → d.length ≤ 1048576) (r : RdRing w w.heap.size A ds) :
    Calls Try.prog 46 #[.agg #[.slice A ds.length c]] w fun e w' => e = .returned (.bool (vRn ds)) ∧ Below w.heap.size w w' := by
  have HIN := Lib.hid hin
  clear hin
  obtain ⟨n, hn⟩ : ∃ n, n = ds.length := ⟨_, rfl⟩
  by_cases hlen : 40 < ds.length
  case pos =>
    have H := Lib.hid (vRn_len hlen)
    rw [← hn] at hlen hl ⊢
    clear hn
    have hq : (40 : Int) < n := by omega
    go_enter Try.func46, Try.ntmps46
    go_wp2_with fail
    go_ret
    exact ⟨ret_bool H.out, by repeat' (first | with_reducible assumption | with_reducible exact Below.refl _ _ | (with_reducible refine Below.setCell ?_ ?_ _) | (with_reducible refine Below.alloc ?_ ?_ _) | (with_reducible refine Below.drew ?_) | (with_reducible refine below_dr ?_ _) | (with_reducible refine Below.trans ?_ (Below.mono (by with_reducible assumption) ?_)) | omega | (simp; done) | (simp; omega))⟩
  case neg =>
    have HY := Lib.hid (fun h => vRn_all (l := ds) (by omega) h)
    have H40 := Lib.hid (show ds.length ≤ 40 by omega)
    rw [← hn] at hlen hl ⊢
    have HN := Lib.hid hn
    have hq : decide ((40 : Int) < n) = false := by simp; omega
    clear hn
    go_enter Try.func46, Try.ntmps46
    go_wp2_with fail
    go_loopw [12] (fun i wr => ∃ k : Nat, k ≤ n ∧ i = .int .i64 k ∧ rUp ds k = true ∧ AtL w.heap.size [.slice A n c] wr ∧ Below w.heap.size w wr) (fun i _ => n - (intOf i).toNat)
    case atStart => exact ⟨0, Nat.zero_le _, rfl, rUp_zero _, by exact AtL.new _ _ _, by repeat' (first | with_reducible assumption | with_reducible exact Below.refl _ _ | (with_reducible refine Below.setCell ?_ ?_ _) | (with_reducible refine Below.alloc ?_ ?_ _) | (with_reducible refine Below.drew ?_) | (with_reducible refine below_dr ?_ _) | (with_reducible refine Below.trans ?_ (Below.mono (by with_reducible assumption) ?_)) | omega | (simp; done) | (simp; omega))⟩
    case round =>
      obtain ⟨k, hk, rfl, hup, at1, hbl⟩ := hrel
      have HUP := Lib.hid hup
      clear hup
      have zr := hbl.size
      have rwr := r.carry hbl (Nat.le_refl _)
      have c1 := at1.cell 0 rfl
      have lw := at1.lt
      by_cases hlt : k < n
      case pos =>
        obtain ⟨dl, ha⟩ : ∃ a, ds[k]? = some a := ⟨ds[k]'(by have := HN.out; omega), List.getElem?_eq_getElem (by have := HN.out; omega)⟩
        obtain ⟨g, o, A', c', rfl, hg, hc, hrd⟩ := rwr.elem ha
        have p0 : wr.cell? ⟨g, o + k, none⟩ = some (.slice A' dl.length c') := by have h := hc 0 _ rfl; rw [Nat.mul_one] at h; exact h
        have hki : (k : Int) < (n : Int) := by omega
        have hdl := HIN.out k _ ha
        have hgr : g < wr.heap.size := by omega
        clear hc rwr r
        rcases hv : vRg dl with _ | _
        case false =>
          have HA := Lib.hid ha
          have CV := Lib.hid (fun w1 h3 => implValidRing_any dl A' c' w1 hdl h3)
          simp only [hv] at CV
          have HV := Lib.hid hv
          clear hv ha
          have H := Lib.hid (vRn_bad (rUp_bad HA.out HV.out))
          go_wp2_with fail
          refine (CV.out _ ?_).mono ?_
          · exact (hrd.alloc (by omega) _).more (by simp; omega)
          rintro e w2 ⟨rfl, hb2⟩
          have hz2 := hb2.size
          (try simp only [World.size_alloc] at hz2)
          have at2 : AtL w.heap.size [.slice (some ⟨g, o, none⟩) n c] w2 := (at1.alloc _).below hb2
          go_wp2_with fail
          go_ret
          exact ⟨ret_bool H.out, by repeat' (first | with_reducible assumption | with_reducible exact Below.refl _ _ | (with_reducible refine Below.setCell ?_ ?_ _) | (with_reducible refine Below.alloc ?_ ?_ _) | (with_reducible refine Below.drew ?_) | (with_reducible refine below_dr ?_ _) | (with_reducible refine Below.trans ?_ (Below.mono (by with_reducible assumption) ?_)) | omega | (simp; done) | (simp; omega))⟩
        case true =>
          have HA := Lib.hid ha
          have CV := Lib.hid (fun w1 h3 => implValidRing_any dl A' c' w1 hdl h3)
          simp only [hv] at CV
          have HV := Lib.hid hv
          clear hv ha
          go_wp2_with fail
          refine (CV.out _ ?_).mono ?_
          · exact (hrd.alloc (by omega) _).more (by simp; omega)
          rintro e w2 ⟨rfl, hb2⟩
          have hz2 := hb2.size
          (try simp only [World.size_alloc] at hz2)
          have at2 : AtL w.heap.size [.slice (some ⟨g, o, none⟩) n c] w2 := (at1.alloc _).below hb2
          go_wp2_with fail
          go_roundw
          case rel => exact ⟨k + 1, by omega, by go_num, rUp_succ HUP.out HA.out HV.out, at2, by repeat' (first | with_reducible assumption | with_reducible exact Below.refl _ _ | (with_reducible refine Below.setCell ?_ ?_ _) | (with_reducible refine Below.alloc ?_ ?_ _) | (with_reducible refine Below.drew ?_) | (with_reducible refine below_dr ?_ _) | (with_reducible refine Below.trans ?_ (Below.mono (by with_reducible assumption) ?_)) | omega | (simp; done) | (simp; omega))⟩
          case measure => simp [intOf]; omega
      case neg =>
        obtain rfl : k = n := by omega
        have HU := Lib.hid (show rUp ds ds.length = true by have h := HUP.out; rw [HN.out] at h; exact h)
        have H := Lib.hid (HY.out HU.out)
        have C := Lib.hid (fun w1  r1 => regionEdges_any ds A c w1  H40.out (rUp_in HU.out) r1)
        rw [← HN.out] at C
        go_wp2_with fail
        refine (C.out _ (rwr.more (by omega))).mono ?_
        intro e w2 hq2
        obtain ⟨A3, c3, rfl, ow3, hb2⟩ := hq2
        have g2 : Below w.heap.size w w2 := by repeat' (first | with_reducible assumption | with_reducible exact Below.refl _ _ | (with_reducible refine Below.setCell ?_ ?_ _) | (with_reducible refine Below.alloc ?_ ?_ _) | (with_reducible refine Below.drew ?_) | (with_reducible refine below_dr ?_ _) | (with_reducible refine Below.trans ?_ (Below.mono (by with_reducible assumption) ?_)) | omega | (simp; done) | (simp; omega))
        generalize (allE ds).length = m2 at H ⊢
        clear ow3 hb2
        by_cases hm : m2 ≤ 400
        · have hq3 : (m2 : Int) ≤ 400 := by omega
          have H2 := Lib.hid (H.out.symm.trans (decide_eq_true hm))
          go_wp2_with fail
          go_ret
          exact ⟨ret_bool H2.out.symm, g2⟩
        · have hq3 : decide ((m2 : Int) ≤ 400) = false := by simp; omega
          have H2 := Lib.hid (H.out.symm.trans (decide_eq_false hm))
          go_wp2_with fail
          go_ret
          exact ⟨ret_bool H2.out.symm, g2⟩
end Go.Proofs.Ytdeemhfhmgnbgaa
