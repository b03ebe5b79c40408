/- Walks: which outlines are valid, on both sides. -/
import Derived.Test.YtjlmoadnbbeloaaDoorLg
import Derived.Test.YtjlmoadnbbeloaaDoorLd
namespace Go.Proofs.YtjlmoadnbbeloaaDoor
open Go.RowKit
set_option linter.unusedVariables false
def lUp (ds : List DLoop) (k : Nat) : Bool := (ds.take k).all vLp
def vOl (ds : List DLoop) : Bool := decide (ds.length ≤ 12) && lUp ds ds.length
theorem lUp_zero (l : List DLoop) : lUp l 0 = true := rfl
theorem lUp_succ {l : List DLoop} {k : Nat} {a : DLoop} (h : lUp l k = true) (ha : l[k]? = some a) (hv : vLp a = true) : lUp l (k + 1) = true := by
  unfold lUp at *
  rw [List.take_add_one, ha, List.all_append, h]; simp [hv]
theorem lUp_bad {l : List DLoop} {k : Nat} {a : DLoop} (ha : l[k]? = some a) (hv : vLp a = false) : lUp l l.length = false := by
  unfold lUp
  rw [List.take_length, List.all_eq_false]
  exact ⟨a, List.mem_of_getElem? ha, by simp [hv]⟩
theorem vOl_len {l : List DLoop} (h : 12 < l.length) : false = vOl l := by simp [vOl]; omega
theorem vOl_bad {l : List DLoop} (h : lUp l l.length = false) : false = vOl l := by simp [vOl, h]
theorem vOl_all {l : List DLoop} (h : lUp l l.length = true) : decide (l.length ≤ 12) = vOl l := by simp [vOl, h]
set_option maxHeartbeats 6400000 in
theorem l10Ok_any (ds : List DLoop) (A : Option Addr) (c b : Nat) (w : World) (hb : b < w.heap.size) (c0 : w.cell? ⟨b, 0, none⟩ = some (.slice A ds.length c)) (hl : ds.length ≤ 1048576) (hin : ∀ (i : Nat) (d : DLoop), ds[i]? = some d → d.length ≤ 1048576) (r : RdLoop w w.heap.size A ds) :
    Calls Tryd.prog 58 #[.pointer (some ⟨b, 0, none⟩)] w fun e w' => e = .returned (.bool (vOl ds)) ∧ Below w.heap.size w w' := by
  have HIN := Lib.hid hin
  clear hin
  obtain ⟨n, hn⟩ : ∃ n, n = ds.length := ⟨_, rfl⟩
  have HY := Lib.hid (fun h => (vOl_all (l := ds) h))
  rw [← hn] at hl c0 HY
  have HN := Lib.hid hn
  clear hn
  go_enter Tryd.func58, Tryd.ntmps58
  go_wp2_with fail
  go_loopw [3] (fun i wr => ∃ k : Nat, k ≤ n ∧ i = .int .i64 k ∧ lUp ds k = true ∧ RdLoop wr w.heap.size A ds ∧ Below w.heap.size w wr) (fun i _ => n - (intOf i).toNat)
  case atStart => exact ⟨0, Nat.zero_le _, rfl, lUp_zero _, r, by repeat' (first | with_reducible assumption | with_reducible exact Below.refl _ _ | (with_reducible refine Below.setCell ?_ ?_ _) | (with_reducible refine Below.alloc ?_ ?_ _) | (with_reducible refine Below.drew ?_) | (with_reducible refine below_dr ?_ _) | (with_reducible refine Below.trans ?_ (Below.mono (by with_reducible assumption) ?_)) | omega | (simp; done) | (simp; omega))⟩
  case round =>
    obtain ⟨k, hk, rfl, hup, r1, hbl⟩ := hrel
    have HUP := Lib.hid hup
    clear hup
    have zr := hbl.size
    have c1 : wr.cell? ⟨b, 0, none⟩ = some (.slice A n c) := (hbl.cell (p := ⟨b, 0, none⟩) hb).trans c0
    by_cases hlt : k < n
    case pos =>
      obtain ⟨dl, ha⟩ : ∃ a, ds[k]? = some a := ⟨ds[k]'(by have := HN.out; omega), List.getElem?_eq_getElem (by have := HN.out; omega)⟩
      obtain ⟨g, o, A', c', rfl, hg, hc, hrd⟩ := r1.elem ha
      have p0 : wr.cell? ⟨g, o + k, none⟩ = some (.slice A' dl.length c') := by have h := hc 0 _ rfl; rw [Nat.mul_one] at h; exact h
      have hki : (k : Int) < (n : Int) := by omega
      have hdl := HIN.out k _ ha
      have hgr : g < wr.heap.size := by omega
      clear hc
      rcases hv : vLp dl with _ | _
      case false =>
        have HA := Lib.hid ha
        have CV := Lib.hid (fun w1 h1 h2 h3 => l10Loop_any dl A' c' g (o + k) w1 h1 h2 hdl h3)
        simp only [hv] at CV
        have HV := Lib.hid hv
        clear hv ha
        have H := Lib.hid (vOl_bad (lUp_bad HA.out HV.out))
        go_wp2_with fail
        refine (CV.out _ hgr p0 (hrd.more (by omega))).mono ?_
        rintro e w2 ⟨rfl, hb2⟩
        have hz2 := hb2.size
        (try simp only [World.size_alloc] at hz2)
        go_wp2_with fail
        go_ret
        exact ⟨ret_bool H.out, by repeat' (first | with_reducible assumption | with_reducible exact Below.refl _ _ | (with_reducible refine Below.setCell ?_ ?_ _) | (with_reducible refine Below.alloc ?_ ?_ _) | (with_reducible refine Below.drew ?_) | (with_reducible refine below_dr ?_ _) | (with_reducible refine Below.trans ?_ (Below.mono (by with_reducible assumption) ?_)) | omega | (simp; done) | (simp; omega))⟩
      case true =>
        have HA := Lib.hid ha
        have CV := Lib.hid (fun w1 h1 h2 h3 => l10Loop_any dl A' c' g (o + k) w1 h1 h2 hdl h3)
        simp only [hv] at CV
        have HV := Lib.hid hv
        clear hv ha
        go_wp2_with fail
        refine (CV.out _ hgr p0 (hrd.more (by omega))).mono ?_
        rintro e w2 ⟨rfl, hb2⟩
        have hz2 := hb2.size
        (try simp only [World.size_alloc] at hz2)
        go_wp2_with fail
        go_roundw
        case rel => exact ⟨k + 1, by omega, by go_num, lUp_succ HUP.out HA.out HV.out, r1.carry hb2 (by omega), by repeat' (first | with_reducible assumption | with_reducible exact Below.refl _ _ | (with_reducible refine Below.setCell ?_ ?_ _) | (with_reducible refine Below.alloc ?_ ?_ _) | (with_reducible refine Below.drew ?_) | (with_reducible refine below_dr ?_ _) | (with_reducible refine Below.trans ?_ (Below.mono (by with_reducible assumption) ?_)) | omega | (simp; done) | (simp; omega))⟩
        case measure => simp [intOf]; omega
    case neg =>
      obtain rfl : k = n := by omega
      have H := Lib.hid (HY.out (by have h := HUP.out; first | exact h | (rw [HN.out] at h; exact h)))
      by_cases h12 : k ≤ 12
      · have hq : (k : Int) ≤ 12 := by omega
        have H2 := Lib.hid (H.out.symm.trans (decide_eq_true h12))
        go_wp2_with fail
        go_ret
        exact ⟨ret_bool H2.out.symm, by repeat' (first | with_reducible assumption | with_reducible exact Below.refl _ _ | (with_reducible refine Below.setCell ?_ ?_ _) | (with_reducible refine Below.alloc ?_ ?_ _) | (with_reducible refine Below.drew ?_) | (with_reducible refine below_dr ?_ _) | (with_reducible refine Below.trans ?_ (Below.mono (by with_reducible assumption) ?_)) | omega | (simp; done) | (simp; omega))⟩
      · have hq : decide ((k : Int) ≤ 12) = false := by simp; omega
        have H2 := Lib.hid (H.out.symm.trans (decide_eq_false h12))
        go_wp2_with fail
        go_ret
        exact ⟨ret_bool H2.out.symm, by repeat' (first | with_reducible assumption | with_reducible exact Below.refl _ _ | (with_reducible refine Below.setCell ?_ ?_ _) | (with_reducible refine Below.alloc ?_ ?_ _) | (with_reducible refine Below.drew ?_) | (with_reducible refine below_dr ?_ _) | (with_reducible refine Below.trans ?_ (Below.mono (by with_reducible assumption) ?_)) | omega | (simp; done) | (simp; omega))⟩
set_option maxHeartbeats 6400000 in
theorem implValidOutline_any (ds : List DLoop) (A : Option Addr) (c : Nat) (w : World) (hl : ds.length ≤ 1048576) (hin : ∀ (i : Nat) (d : DLoop), ds[i]? = some d → d.length ≤ 1048576) (r : RdLoop w w.heap.size A ds) :
    Calls Tryd.prog 61 #[.agg #[.slice A ds.length c]] w fun e w' => e = .returned (.bool (vOl ds)) ∧ Below w.heap.size w w' := by
  have HIN := Lib.hid hin
  clear hin
  obtain ⟨n, hn⟩ : ∃ n, n = ds.length := ⟨_, rfl⟩
  by_cases hlen : 12 < ds.length
  case pos =>
    have H := Lib.hid (vOl_len hlen)
    rw [← hn] at hlen hl ⊢
    clear hn
    have hq : (12 : Int) < n := by omega
    go_enter Tryd.func61, Tryd.ntmps61
    go_wp2_with fail
    go_ret
    exact ⟨ret_bool H.out, by repeat' (first | with_reducible assumption | with_reducible exact Below.refl _ _ | (with_reducible refine Below.setCell ?_ ?_ _) | (with_reducible refine Below.alloc ?_ ?_ _) | (with_reducible refine Below.drew ?_) | (with_reducible refine below_dr ?_ _) | (with_reducible refine Below.trans ?_ (Below.mono (by with_reducible assumption) ?_)) | omega | (simp; done) | (simp; omega))⟩
  case neg =>
    have HY := Lib.hid (fun h => (vOl_all (l := ds) h).symm.trans (decide_eq_true (show ds.length ≤ 12 by omega)))
    rw [← hn] at hlen hl ⊢
    have HN := Lib.hid hn
    have hq : decide ((12 : Int) < n) = false := by simp; omega
    clear hn hlen
    go_enter Tryd.func61, Tryd.ntmps61
    go_wp2_with fail
    generalize hW : w.alloc (.cells #[.slice A n c] 71) = W0
    have r0 : RdLoop W0 w.heap.size A ds := by rw [← hW]; exact r.alloc (Nat.le_refl _) _
    have g1 : Below w.heap.size w W0 := by rw [← hW]; repeat' (first | with_reducible assumption | with_reducible exact Below.refl _ _ | (with_reducible refine Below.setCell ?_ ?_ _) | (with_reducible refine Below.alloc ?_ ?_ _) | (with_reducible refine Below.drew ?_) | (with_reducible refine below_dr ?_ _) | (with_reducible refine Below.trans ?_ (Below.mono (by with_reducible assumption) ?_)) | omega | (simp; done) | (simp; omega))
    clear hW r
    go_loopw [12] (fun i wr => ∃ k : Nat, k ≤ n ∧ i = .int .i64 k ∧ lUp ds k = true ∧ RdLoop wr w.heap.size A ds ∧ Below w.heap.size w wr) (fun i _ => n - (intOf i).toNat)
    case atStart => exact ⟨0, Nat.zero_le _, rfl, lUp_zero _, r0, g1⟩
    case round =>
      obtain ⟨k, hk, rfl, hup, r1, hbl⟩ := hrel
      have HUP := Lib.hid hup
      clear hup
      have zr := hbl.size
      by_cases hlt : k < n
      case pos =>
        obtain ⟨dl, ha⟩ : ∃ a, ds[k]? = some a := ⟨ds[k]'(by have := HN.out; omega), List.getElem?_eq_getElem (by have := HN.out; omega)⟩
        obtain ⟨g, o, A', c', rfl, hg, hc, hrd⟩ := r1.elem ha
        have p0 : wr.cell? ⟨g, o + k, none⟩ = some (.slice A' dl.length c') := by have h := hc 0 _ rfl; rw [Nat.mul_one] at h; exact h
        have hki : (k : Int) < (n : Int) := by omega
        have hdl := HIN.out k _ ha
        have hgr : g < wr.heap.size := by omega
        clear hc
        rcases hv : vLp dl with _ | _
        case false =>
          have HA := Lib.hid ha
          have CV := Lib.hid (fun w1 h3 => implValidLoop_any dl A' c' w1 hdl h3)
          simp only [hv] at CV
          have HV := Lib.hid hv
          clear hv ha
          have H := Lib.hid (vOl_bad (lUp_bad HA.out HV.out))
          go_wp2_with fail
          refine (CV.out _ ?_).mono ?_
          · exact (hrd.alloc (by omega) _).more (by simp; omega)
          rintro e w2 ⟨rfl, hb2⟩
          have hz2 := hb2.size
          (try simp only [World.size_alloc] at hz2)
          go_wp2_with fail
          go_ret
          exact ⟨ret_bool H.out, by repeat' (first | with_reducible assumption | with_reducible exact Below.refl _ _ | (with_reducible refine Below.setCell ?_ ?_ _) | (with_reducible refine Below.alloc ?_ ?_ _) | (with_reducible refine Below.drew ?_) | (with_reducible refine below_dr ?_ _) | (with_reducible refine Below.trans ?_ (Below.mono (by with_reducible assumption) ?_)) | omega | (simp; done) | (simp; omega))⟩
        case true =>
          have HA := Lib.hid ha
          have CV := Lib.hid (fun w1 h3 => implValidLoop_any dl A' c' w1 hdl h3)
          simp only [hv] at CV
          have HV := Lib.hid hv
          clear hv ha
          go_wp2_with fail
          refine (CV.out _ ?_).mono ?_
          · exact (hrd.alloc (by omega) _).more (by simp; omega)
          rintro e w2 ⟨rfl, hb2⟩
          have hz2 := hb2.size
          (try simp only [World.size_alloc] at hz2)
          go_wp2_with fail
          go_roundw
          case rel => exact ⟨k + 1, by omega, by go_num, lUp_succ HUP.out HA.out HV.out, (r1.alloc (by omega) _).carry hb2 (by simp; omega), by repeat' (first | with_reducible assumption | with_reducible exact Below.refl _ _ | (with_reducible refine Below.setCell ?_ ?_ _) | (with_reducible refine Below.alloc ?_ ?_ _) | (with_reducible refine Below.drew ?_) | (with_reducible refine below_dr ?_ _) | (with_reducible refine Below.trans ?_ (Below.mono (by with_reducible assumption) ?_)) | omega | (simp; done) | (simp; omega))⟩
          case measure => simp [intOf]; omega
      case neg =>
        obtain rfl : k = n := by omega
        have H := Lib.hid (HY.out (by have h := HUP.out; first | exact h | (rw [HN.out] at h; exact h)))
        go_wp2_with fail
        go_ret
        exact ⟨ret_bool H.out.symm, by repeat' (first | with_reducible assumption | with_reducible exact Below.refl _ _ | (with_reducible refine Below.setCell ?_ ?_ _) | (with_reducible refine Below.alloc ?_ ?_ _) | (with_reducible refine Below.drew ?_) | (with_reducible refine below_dr ?_ _) | (with_reducible refine Below.trans ?_ (Below.mono (by with_reducible assumption) ?_)) | omega | (simp; done) | (simp; omega))⟩
end Go.Proofs.YtjlmoadnbbeloaaDoor
