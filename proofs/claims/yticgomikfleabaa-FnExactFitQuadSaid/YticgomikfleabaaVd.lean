/- Walks: which rings are valid, on both sides. -/
import Derived.Test.YticgomikfleabaaVc
import Derived.Test.YticgomikfleabaaPc
namespace Go.Proofs.Yticgomikfleabaa
open Go.RowKit
set_option linter.unusedVariables false
def pOk (l : List APt) (k : Nat) : Bool := match l[k]? with | none => true | some a => okB a.1 a.2
def ptsUp (l : List APt) (k : Nat) : Bool := (List.range k).all (pOk l)
theorem pts_zero {l : List APt} : ptsUp l 0 = true := rfl
theorem pts_succ {l : List APt} {k : Nat} (h : ptsUp l k = true) (h2 : pOk l k = true) : ptsUp l (k + 1) = true := by
  unfold ptsUp at *; rw [List.range_succ, List.all_append, h]; simp [h2]
theorem pts_bad {l : List APt} {k n : Nat} (hk : k < n) (h2 : pOk l k = false) : ptsUp l n = false := by
  unfold ptsUp; rw [List.all_eq_false]; exact ⟨k, by simpa using hk, by simp [h2]⟩
theorem p_yes {l : List APt} {k : Nat} {x y : Int} (ha : l[k]? = some (x, y)) (h : okB x y = true) : pOk l k = true := by unfold pOk; rw [ha]; exact h
theorem p_no {l : List APt} {k : Nat} {x y : Int} (ha : l[k]? = some (x, y)) (h : okB x y = false) : pOk l k = false := by unfold pOk; rw [ha]; exact h
theorem pts_all {l : List APt} (h : ptsUp l l.length = true) {k : Nat} {x y : Int} (ha : l[k]? = some (x, y)) : okB x y = true := by
  have hk : k < l.length := by
    rcases Nat.lt_or_ge k l.length with q | q
    · exact q
    · rw [List.getElem?_eq_none q] at ha; cases ha
  unfold ptsUp at h
  simp only [List.all_eq_true, List.mem_range] at h
  have := h k hk
  unfold pOk at this
  rw [ha] at this
  exact this
def vRg (l : List APt) : Bool := decide (1 ≤ l.length ∧ l.length ≤ 400) && ptsUp l l.length
theorem vRg_len {l : List APt} (h : ¬ (1 ≤ l.length ∧ l.length ≤ 400)) : false = vRg l := by simp [vRg, h]
theorem vRg_is {l : List APt} (h1 : 1 ≤ l.length) (h2 : l.length ≤ 400) : ptsUp l l.length = vRg l := by simp [vRg, h1, h2]
theorem vRg_parts {l : List APt} (h : vRg l = true) : 1 ≤ l.length ∧ l.length ≤ 400 ∧ ptsUp l l.length = true := by
  simp only [vRg, Bool.and_eq_true, decide_eq_true_eq] at h
  exact ⟨h.1.1, h.1.2, h.2⟩
set_option maxHeartbeats 1600000 in
theorem validPts_rd (l : List APt) (A : Option Addr) (c : Nat) (w : World) (hl : l.length ≤ 1048576) (r : Rd cPt 2 w w.heap.size A l) :
    Calls Try.prog 65 #[.slice A l.length c] w fun e w' => e = .returned (.bool (ptsUp l l.length)) ∧ Below w.heap.size w w' := by
  obtain ⟨n, hn⟩ : ∃ n, n = l.length := ⟨_, rfl⟩
  rw [← hn] at hl ⊢
  have HN := Lib.hid hn
  clear hn
  go_enter Try.func65, Try.ntmps65
  go_wp2
  go_loopw [7] (fun i wr => ∃ k : Nat, k ≤ n ∧ i = .int .i64 k ∧ ptsUp l k = true ∧ Below w.heap.size w wr) (fun i _ => n - (intOf i).toNat)
  case atStart => exact ⟨0, Nat.zero_le _, rfl, rfl, Below.refl _ _⟩
  case round =>
    obtain ⟨k, hk, rfl, hup, hbl⟩ := hrel
    have HUP := Lib.hid hup
    clear hup
    by_cases hlt : k < n
    · obtain ⟨⟨x0, x1⟩, ha⟩ : ∃ a, l[k]? = some a := ⟨l[k]'(by have := HN.out; omega), List.getElem?_eq_getElem (by have := HN.out; omega)⟩
      obtain ⟨g, o, rfl, hg, hc⟩ := (r.below hbl).elem ha
      have c0 : wr.cell? ⟨g, o + k * 2, none⟩ = some (.int .i64 x0) := hc 0 _ rfl
      have c1 : wr.cell? ⟨g, o + k * 2 + 1, none⟩ = some (.int .i64 x1) := hc 1 _ rfl
      have HA := Lib.hid ha
      clear hc ha r
      have hz := hbl.size
      have hki : (k : Int) < (n : Int) := by omega
      rcases hv : okB x0 x1 with _ | _
      · have HV := Lib.hid hv
        clear hv
        go_wp2_with (go_at_call 83; refine (implValidPt_any _ _ _).mono ?_; rw [HV.out]; rintro e w1 ⟨rfl, hb1⟩)
        go_ret
        exact ⟨ret_bool (pts_bad hlt (p_no HA.out HV.out)).symm, (hbl.alloc hz _).trans (hb1.mono (by simp; omega))⟩
      · have HV := Lib.hid hv
        clear hv
        go_wp2_with (go_at_call 83; refine (implValidPt_any _ _ _).mono ?_; rw [HV.out]; rintro e w1 ⟨rfl, hb1⟩)
        go_roundw
        case rel => exact ⟨k + 1, by omega, by go_num, pts_succ HUP.out (p_yes HA.out HV.out), (hbl.alloc hz _).trans (hb1.mono (by simp; omega))⟩
        case measure => simp [intOf]; omega
    · obtain rfl : k = n := by omega
      go_wp2
      go_ret
      exact ⟨ret_bool HUP.out.symm, hbl⟩
set_option maxHeartbeats 1600000 in
theorem l13Points_rd (l : List APt) (A : Option Addr) (c : Nat) (w : World) (hl : l.length ≤ 1048576) (r : Rd cPt 2 w w.heap.size A l) :
    Calls Try.prog 78 #[.slice A l.length c] w fun e w' => e = .returned (.bool (ptsUp l l.length)) ∧ Below w.heap.size w w' := by
  obtain ⟨n, hn⟩ : ∃ n, n = l.length := ⟨_, rfl⟩
  rw [← hn] at hl ⊢
  have HN := Lib.hid hn
  clear hn
  go_enter Try.func78, Try.ntmps78
  go_wp2
  go_loopw [3] (fun i wr => ∃ k : Nat, k ≤ n ∧ i = .int .i64 k ∧ ptsUp l k = true ∧ Below w.heap.size w wr) (fun i _ => n - (intOf i).toNat)
  case atStart => exact ⟨0, Nat.zero_le _, rfl, rfl, Below.refl _ _⟩
  case round =>
    obtain ⟨k, hk, rfl, hup, hbl⟩ := hrel
    have HUP := Lib.hid hup
    clear hup
    by_cases hlt : k < n
    · obtain ⟨⟨x0, x1⟩, ha⟩ : ∃ a, l[k]? = some a := ⟨l[k]'(by have := HN.out; omega), List.getElem?_eq_getElem (by have := HN.out; omega)⟩
      obtain ⟨g, o, rfl, hg, hc⟩ := (r.below hbl).elem ha
      have c0 : wr.cell? ⟨g, o + k * 2, none⟩ = some (.int .i64 x0) := hc 0 _ rfl
      have c1 : wr.cell? ⟨g, o + k * 2 + 1, none⟩ = some (.int .i64 x1) := hc 1 _ rfl
      have HA := Lib.hid ha
      clear hc ha r
      have hz := hbl.size
      have hki : (k : Int) < (n : Int) := by omega
      rcases hv : okB x0 x1 with _ | _
      · have HV := Lib.hid hv
        clear hv
        go_wp2_with (go_at_call 61; refine (l03Ok_any _ _ _).mono ?_; rw [HV.out]; rintro e w1 ⟨rfl, hb1⟩)
        go_ret
        exact ⟨ret_bool (pts_bad hlt (p_no HA.out HV.out)).symm, hbl.trans (hb1.mono hz)⟩
      · have HV := Lib.hid hv
        clear hv
        go_wp2_with (go_at_call 61; refine (l03Ok_any _ _ _).mono ?_; rw [HV.out]; rintro e w1 ⟨rfl, hb1⟩)
        go_roundw
        case rel => exact ⟨k + 1, by omega, by go_num, pts_succ HUP.out (p_yes HA.out HV.out), hbl.trans (hb1.mono hz)⟩
        case measure => simp [intOf]; omega
    · obtain rfl : k = n := by omega
      go_wp2
      go_ret
      exact ⟨ret_bool HUP.out.symm, hbl⟩
set_option maxHeartbeats 3200000 in
theorem l13Ring_any (l : List APt) (A : Option Addr) (c b p : Nat) (w : World) (hb : b < w.heap.size) (c0 : w.cell? ⟨b, p, none⟩ = some (.slice A l.length c)) (hl : l.length ≤ 1048576) (r : Rd cPt 2 w w.heap.size A l) :
    Calls Try.prog 53 #[.pointer (some ⟨b, p, none⟩)] w fun e w' => e = .returned (.bool (vRg l)) ∧ Below w.heap.size w w' := by
  have C := Lib.hid (fun w r => l13Points_rd l A c w hl r)
  obtain ⟨n, hn⟩ : ∃ n, n = l.length := ⟨_, rfl⟩
  by_cases hlen : 1 ≤ l.length ∧ l.length ≤ 400
  case neg =>
    have H := Lib.hid (vRg_len hlen)
    clear C
    rw [← hn] at hlen hl c0
    clear hn
    by_cases hn1 : n < 1
    · have hq : (n : Int) < 1 := by omega
      have hq1 : ¬ (0 : Int) < n := by omega
      go_enter Try.func53, Try.ntmps53
      go_wp2_with fail
      refine (l00In_no _ _ _ _ (by omega)).mono ?_
      rintro e w1 ⟨rfl, rfl⟩
      go_wp2_with fail
      go_ret
      exact ⟨ret_bool H.out, by repeat' (first | with_reducible assumption | with_reducible exact Below.refl _ _ | (with_reducible refine Below.setCell ?_ ?_ _) | (with_reducible refine Below.alloc ?_ ?_ _) | (with_reducible refine Below.drew ?_) | (with_reducible refine below_dr ?_ _) | (with_reducible refine Below.trans ?_ (Below.mono (by with_reducible assumption) ?_)) | omega | (simp; done) | (simp; omega))⟩
    · have hq0 : (1 : Int) ≤ n := by omega
      have hq : (400 : Int) < n := by omega
      have hq1 : ¬ (n : Int) ≤ 400 := by omega
      have hq2 : (0 : Int) < n := by omega
      go_enter Try.func53, Try.ntmps53
      go_wp2_with fail
      refine (l00In_no _ _ _ _ (by omega)).mono ?_
      rintro e w1 ⟨rfl, rfl⟩
      go_wp2_with fail
      go_ret
      exact ⟨ret_bool H.out, by repeat' (first | with_reducible assumption | with_reducible exact Below.refl _ _ | (with_reducible refine Below.setCell ?_ ?_ _) | (with_reducible refine Below.alloc ?_ ?_ _) | (with_reducible refine Below.drew ?_) | (with_reducible refine below_dr ?_ _) | (with_reducible refine Below.trans ?_ (Below.mono (by with_reducible assumption) ?_)) | omega | (simp; done) | (simp; omega))⟩
  case pos =>
    obtain ⟨h1, h400⟩ := hlen
    have H := Lib.hid (vRg_is h1 h400)
    rw [← hn] at h1 h400 hl C H c0
    clear hn
    have hq1 : (n : Int) ≤ 400 := by omega
    have hq2 : (0 : Int) < n := by omega
    go_enter Try.func53, Try.ntmps53
    go_wp2_with fail
    refine (l00In_yes _ _ _ _ (by omega) (by omega)).mono ?_
    rintro e w1 ⟨rfl, rfl⟩
    go_wp2_with fail
    refine (C.out _ r).mono ?_
    rintro e w2 ⟨rfl, hb2⟩
    go_wp2_with fail
    go_ret
    exact ⟨ret_bool H.out, by repeat' (first | with_reducible assumption | with_reducible exact Below.refl _ _ | (with_reducible refine Below.setCell ?_ ?_ _) | (with_reducible refine Below.alloc ?_ ?_ _) | (with_reducible refine Below.drew ?_) | (with_reducible refine below_dr ?_ _) | (with_reducible refine Below.trans ?_ (Below.mono (by with_reducible assumption) ?_)) | omega | (simp; done) | (simp; omega))⟩
set_option maxHeartbeats 3200000 in
theorem implValidRing_any (l : List APt) (A : Option Addr) (c : Nat) (w : World) (hl : l.length ≤ 1048576) (r : Rd cPt 2 w w.heap.size A l) :
    Calls Try.prog 55 #[.agg #[.slice A l.length c]] w fun e w' => e = .returned (.bool (vRg l)) ∧ Below w.heap.size w w' := by
  have C := Lib.hid (fun w r => validPts_rd l A c w hl r)
  obtain ⟨n, hn⟩ : ∃ n, n = l.length := ⟨_, rfl⟩
  by_cases hlen : 1 ≤ l.length ∧ l.length ≤ 400
  case neg =>
    have H := Lib.hid (vRg_len hlen)
    clear C
    rw [← hn] at hlen hl ⊢
    clear hn
    by_cases hn1 : n < 1
    · have hq : (n : Int) < 1 := by omega
      have hq1 : ¬ (0 : Int) < n := by omega
      go_enter Try.func55, Try.ntmps55
      go_wp2_with fail
      go_ret
      exact ⟨ret_bool H.out, by repeat' (first | with_reducible assumption | with_reducible exact Below.refl _ _ | (with_reducible refine Below.setCell ?_ ?_ _) | (with_reducible refine Below.alloc ?_ ?_ _) | (with_reducible refine Below.drew ?_) | (with_reducible refine below_dr ?_ _) | (with_reducible refine Below.trans ?_ (Below.mono (by with_reducible assumption) ?_)) | omega | (simp; done) | (simp; omega))⟩
    · have hq0 : (1 : Int) ≤ n := by omega
      have hq : (400 : Int) < n := by omega
      have hq1 : ¬ (n : Int) ≤ 400 := by omega
      have hq2 : (0 : Int) < n := by omega
      go_enter Try.func55, Try.ntmps55
      go_wp2_with fail
      go_ret
      exact ⟨ret_bool H.out, by repeat' (first | with_reducible assumption | with_reducible exact Below.refl _ _ | (with_reducible refine Below.setCell ?_ ?_ _) | (with_reducible refine Below.alloc ?_ ?_ _) | (with_reducible refine Below.drew ?_) | (with_reducible refine below_dr ?_ _) | (with_reducible refine Below.trans ?_ (Below.mono (by with_reducible assumption) ?_)) | omega | (simp; done) | (simp; omega))⟩
  case pos =>
    obtain ⟨h1, h400⟩ := hlen
    have H := Lib.hid (vRg_is h1 h400)
    rw [← hn] at h1 h400 hl C H ⊢
    clear hn
    have hq1 : (n : Int) ≤ 400 := by omega
    have hq2 : (0 : Int) < n := by omega
    go_enter Try.func55, Try.ntmps55
    go_wp2_with fail
    refine (C.out _ ((r.alloc (Nat.le_refl _) _).more (by simp))).mono ?_
    rintro e w2 ⟨rfl, hb2⟩
    go_wp2_with fail
    go_ret
    exact ⟨ret_bool H.out, by repeat' (first | with_reducible assumption | with_reducible exact Below.refl _ _ | (with_reducible refine Below.setCell ?_ ?_ _) | (with_reducible refine Below.alloc ?_ ?_ _) | (with_reducible refine Below.drew ?_) | (with_reducible refine below_dr ?_ _) | (with_reducible refine Below.trans ?_ (Below.mono (by with_reducible assumption) ?_)) | omega | (simp; done) | (simp; omega))⟩
end Go.Proofs.Yticgomikfleabaa
