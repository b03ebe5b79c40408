/- Walks: which outlines are valid, on both sides. -/
import Derived.Test.YtelefmogmloniaaGma
import Derived.Test.YtelefmogmloniaaPc
namespace Go.Proofs.Ytelefmogmloniaa
open Go.RowKit
set_option linter.unusedVariables false
def kUp (l : List AKnot) (k : Nat) : Bool := (l.take k).all fun a => okB a.1 a.2.1
def kOn (l : List AKnot) : Bool := match l with | [] => false | a :: _ => a.2.2
def vLp (l : List AKnot) : Bool := decide (1 ≤ l.length ∧ l.length ≤ 60) && kOn l && kUp l l.length
theorem kUp_zero (l : List AKnot) : kUp l 0 = true := rfl
theorem kUp_succ {l : List AKnot} {k : Nat} {a : AKnot} (h : kUp l k = true) (ha : l[k]? = some a) (hv : okB a.1 a.2.1 = true) : kUp l (k + 1) = true := by
  unfold kUp at *
  rw [List.take_add_one, ha, List.all_append, h]; simp [hv]
theorem kUp_bad {l : List AKnot} {k : Nat} {a : AKnot} (ha : l[k]? = some a) (hv : okB a.1 a.2.1 = false) : kUp l l.length = false := by
  unfold kUp
  rw [List.take_length, List.all_eq_false]
  exact ⟨a, List.mem_of_getElem? ha, by simp [hv]⟩
theorem vLp_len {l : List AKnot} (h : ¬ (1 ≤ l.length ∧ l.length ≤ 60)) : false = vLp l := by simp [vLp, h]
theorem vLp_off {l : List AKnot} (h : kOn l = false) : false = vLp l := by simp [vLp, h]
theorem vLp_bad {l : List AKnot} (h : kUp l l.length = false) : false = vLp l := by simp [vLp, h]
theorem vLp_yes {l : List AKnot} (h1 : 1 ≤ l.length) (h2 : l.length ≤ 60) (h3 : kOn l = true) (h4 : kUp l l.length = true) : true = vLp l := by simp [vLp, h1, h2, h3, h4]
theorem kOn_at {l : List AKnot} {a : AKnot} (h : l[0]? = some a) : kOn l = a.2.2 := by
  cases l with
  | nil => simp at h
  | cons b l => simp at h; subst h; rfl
set_option maxHeartbeats 6400000 in
theorem l10Loop_any (l : List AKnot) (A : Option Addr) (c b p : Nat) (w : World) (hb : b < w.heap.size) (c0 : w.cell? ⟨b, p, none⟩ = some (.slice A l.length c)) (hl : l.length ≤ 1048576) (r : Rd cKnot 3 w w.heap.size A l) :
    Calls Try.prog 166 #[.pointer (some ⟨b, p, none⟩)] w fun e w' => e = .returned (.bool (vLp l)) ∧ Below w.heap.size w w' := by
  obtain ⟨n, hn⟩ : ∃ n, n = l.length := ⟨_, rfl⟩
  by_cases hlen : 1 ≤ l.length ∧ l.length ≤ 60
  case neg =>
    have H := Lib.hid (vLp_len hlen)
    rw [← hn] at hlen hl c0
    clear hn
    by_cases hn1 : n < 1
    · have hq : (n : Int) < 1 := by omega
      go_enter Try.func166, Try.ntmps166
      go_wp2_with fail
      refine (l00In_no _ _ _ _ (by omega)).mono ?_
      rintro e w1 ⟨rfl, rfl⟩
      go_wp2
      go_ret
      exact ⟨ret_bool H.out, by repeat' (first | with_reducible assumption | with_reducible exact Below.refl _ _ | (with_reducible refine Below.setCell ?_ ?_ _) | (with_reducible refine Below.alloc ?_ ?_ _) | (with_reducible refine Below.drew ?_) | (with_reducible refine below_dr ?_ _) | (with_reducible refine Below.trans ?_ (Below.mono (by with_reducible assumption) ?_)) | omega | (simp; done) | (simp; omega))⟩
    · have hq0 : decide ((n : Int) < 1) = false := by simp; omega
      have hq : (60 : Int) < n := by omega
      go_enter Try.func166, Try.ntmps166
      go_wp2_with fail
      refine (l00In_no _ _ _ _ (by omega)).mono ?_
      rintro e w1 ⟨rfl, rfl⟩
      go_wp2
      go_ret
      exact ⟨ret_bool H.out, by repeat' (first | with_reducible assumption | with_reducible exact Below.refl _ _ | (with_reducible refine Below.setCell ?_ ?_ _) | (with_reducible refine Below.alloc ?_ ?_ _) | (with_reducible refine Below.drew ?_) | (with_reducible refine below_dr ?_ _) | (with_reducible refine Below.trans ?_ (Below.mono (by with_reducible assumption) ?_)) | omega | (simp; done) | (simp; omega))⟩
  case pos =>
    obtain ⟨h1, h60⟩ := hlen
    obtain ⟨⟨a0, a1, a2⟩, ha0⟩ : ∃ a, l[0]? = some a := ⟨l[0]'(by omega), List.getElem?_eq_getElem (by omega)⟩
    have HON := Lib.hid (kOn_at ha0)
    obtain ⟨g0, o0, hA0, hg0, hc0⟩ := r.elem ha0
    have d2 : w.cell? ⟨g0, o0 + 2, none⟩ = some (.bool a2) := by have h := hc0 2 _ rfl; simpa using h
    clear hc0 ha0
    subst hA0
    rcases a2 with _ | _
    case false =>
      have H := Lib.hid (vLp_off HON.out)
      rw [← hn] at h1 h60 hl c0
      have hi0 : (0 : Int) < n := by omega
      go_enter Try.func166, Try.ntmps166
      go_wp2_with fail
      refine (l00In_yes _ _ _ _ (by omega) (by omega)).mono ?_
      rintro e w1 ⟨rfl, rfl⟩
      go_wp2
      go_ret
      exact ⟨ret_bool H.out, by repeat' (first | with_reducible assumption | with_reducible exact Below.refl _ _ | (with_reducible refine Below.setCell ?_ ?_ _) | (with_reducible refine Below.alloc ?_ ?_ _) | (with_reducible refine Below.drew ?_) | (with_reducible refine below_dr ?_ _) | (with_reducible refine Below.trans ?_ (Below.mono (by with_reducible assumption) ?_)) | omega | (simp; done) | (simp; omega))⟩
    case true =>
      have HY := Lib.hid (fun h => vLp_yes (l := l) h1 h60 HON.out h)
      rw [← hn] at h1 h60 hl c0
      have hi0 : (0 : Int) < n := by omega
      have HN := Lib.hid hn
      clear hn
      go_enter Try.func166, Try.ntmps166
      go_wp2_with fail
      refine (l00In_yes _ _ _ _ (by omega) (by omega)).mono ?_
      rintro e w1 ⟨rfl, rfl⟩
      go_wp2_with fail
      clear d2
      go_loopw [3] (fun i wr => ∃ k : Nat, k ≤ n ∧ i = .int .i64 k ∧ kUp l k = true ∧ Rd cKnot 3 wr w.heap.size (some ⟨g0, o0, none⟩) l ∧ Below w.heap.size w wr) (fun i _ => n - (intOf i).toNat)
      case atStart => exact ⟨0, Nat.zero_le _, rfl, kUp_zero _, r, by repeat' (first | with_reducible assumption | with_reducible exact Below.refl _ _ | (with_reducible refine Below.setCell ?_ ?_ _) | (with_reducible refine Below.alloc ?_ ?_ _) | (with_reducible refine Below.drew ?_) | (with_reducible refine below_dr ?_ _) | (with_reducible refine Below.trans ?_ (Below.mono (by with_reducible assumption) ?_)) | omega | (simp; done) | (simp; omega))⟩
      case round =>
        obtain ⟨k, hk, rfl, hup, r1, hbl⟩ := hrel
        have HUP := Lib.hid hup
        clear hup
        have zr := hbl.size
        have c1 : wr.cell? ⟨b, p, none⟩ = some (.slice (some ⟨g0, o0, none⟩) n c) := (hbl.cell (p := ⟨b, p, none⟩) hb).trans c0
        by_cases hlt : k < n
        case pos =>
          obtain ⟨⟨x0, x1, x2⟩, ha⟩ : ∃ a, l[k]? = some a := ⟨l[k]'(by have := HN.out; omega), List.getElem?_eq_getElem (by have := HN.out; omega)⟩
          obtain ⟨g, o, hA, hg, hc⟩ := r1.elem ha
          obtain ⟨rfl, rfl⟩ : g0 = g ∧ o0 = o := by injection hA with h; injection h with h1 h2; exact ⟨h1, h2⟩
          have p0 : wr.cell? ⟨g0, o0 + k * 3, none⟩ = some (.int .i64 x0) := hc 0 _ rfl
          have p1 : wr.cell? ⟨g0, o0 + k * 3 + 1, none⟩ = some (.int .i64 x1) := hc 1 _ rfl
          have p2 : wr.cell? ⟨g0, o0 + k * 3 + 2, none⟩ = some (.bool x2) := hc 2 _ rfl
          have hki : (k : Int) < (n : Int) := by omega
          clear hc hA
          rcases hv : okB x0 x1 with _ | _
          case false =>
            have HA := Lib.hid ha
            have CV := Lib.hid (fun w => l03Ok_any x0 x1 w)
            rw [hv] at CV
            have HV := Lib.hid hv
            clear hv ha
            have H := Lib.hid (vLp_bad (kUp_bad HA.out HV.out))
            go_wp2_with (go_at_call 116; refine (CV.out _).mono ?_; rintro e w2 ⟨rfl, hb2⟩)
            go_ret
            exact ⟨ret_bool H.out, by repeat' (first | with_reducible assumption | with_reducible exact Below.refl _ _ | (with_reducible refine Below.setCell ?_ ?_ _) | (with_reducible refine Below.alloc ?_ ?_ _) | (with_reducible refine Below.drew ?_) | (with_reducible refine below_dr ?_ _) | (with_reducible refine Below.trans ?_ (Below.mono (by with_reducible assumption) ?_)) | omega | (simp; done) | (simp; omega))⟩
          case true =>
            have HA := Lib.hid ha
            have CV := Lib.hid (fun w => l03Ok_any x0 x1 w)
            rw [hv] at CV
            have HV := Lib.hid hv
            clear hv ha
            go_wp2_with (go_at_call 116; refine (CV.out _).mono ?_; rintro e w2 ⟨rfl, hb2⟩)
            have hz2 := hb2.size
            (try simp only [World.size_alloc] at hz2)
            go_roundw
            case rel => exact ⟨k + 1, by omega, by go_num, kUp_succ HUP.out HA.out HV.out, r1.carry hb2 (by omega), by repeat' (first | with_reducible assumption | with_reducible exact Below.refl _ _ | (with_reducible refine Below.setCell ?_ ?_ _) | (with_reducible refine Below.alloc ?_ ?_ _) | (with_reducible refine Below.drew ?_) | (with_reducible refine below_dr ?_ _) | (with_reducible refine Below.trans ?_ (Below.mono (by with_reducible assumption) ?_)) | omega | (simp; done) | (simp; omega))⟩
            case measure => simp [intOf]; omega
        case neg =>
          obtain rfl : k = n := by omega
          have H := Lib.hid (HY.out (by have h := HUP.out; rw [HN.out] at h; exact h))
          go_wp2_with fail
          go_ret
          exact ⟨ret_bool H.out, by repeat' (first | with_reducible assumption | with_reducible exact Below.refl _ _ | (with_reducible refine Below.setCell ?_ ?_ _) | (with_reducible refine Below.alloc ?_ ?_ _) | (with_reducible refine Below.drew ?_) | (with_reducible refine below_dr ?_ _) | (with_reducible refine Below.trans ?_ (Below.mono (by with_reducible assumption) ?_)) | omega | (simp; done) | (simp; omega))⟩
set_option maxHeartbeats 6400000 in
theorem implValidLoop_any (l : List AKnot) (A : Option Addr) (c : Nat) (w : World) (hl : l.length ≤ 1048576) (r : Rd cKnot 3 w w.heap.size A l) :
    Calls Try.prog 122 #[.agg #[.slice A l.length c]] w fun e w' => e = .returned (.bool (vLp l)) ∧ Below w.heap.size w w' := by
  obtain ⟨n, hn⟩ : ∃ n, n = l.length := ⟨_, rfl⟩
  by_cases hlen : 1 ≤ l.length ∧ l.length ≤ 60
  case neg =>
    have H := Lib.hid (vLp_len hlen)
    rw [← hn] at hlen hl ⊢
    clear hn
    by_cases hn1 : n < 1
    · have hq : (n : Int) < 1 := by omega
      go_enter Try.func122, Try.ntmps122
      go_wp2_with fail
      go_ret
      exact ⟨ret_bool H.out, by repeat' (first | with_reducible assumption | with_reducible exact Below.refl _ _ | (with_reducible refine Below.setCell ?_ ?_ _) | (with_reducible refine Below.alloc ?_ ?_ _) | (with_reducible refine Below.drew ?_) | (with_reducible refine below_dr ?_ _) | (with_reducible refine Below.trans ?_ (Below.mono (by with_reducible assumption) ?_)) | omega | (simp; done) | (simp; omega))⟩
    · have hq0 : decide ((n : Int) < 1) = false := by simp; omega
      have hq : (60 : Int) < n := by omega
      go_enter Try.func122, Try.ntmps122
      go_wp2_with fail
      go_ret
      exact ⟨ret_bool H.out, by repeat' (first | with_reducible assumption | with_reducible exact Below.refl _ _ | (with_reducible refine Below.setCell ?_ ?_ _) | (with_reducible refine Below.alloc ?_ ?_ _) | (with_reducible refine Below.drew ?_) | (with_reducible refine below_dr ?_ _) | (with_reducible refine Below.trans ?_ (Below.mono (by with_reducible assumption) ?_)) | omega | (simp; done) | (simp; omega))⟩
  case pos =>
    obtain ⟨h1, h60⟩ := hlen
    obtain ⟨⟨a0, a1, a2⟩, ha0⟩ : ∃ a, l[0]? = some a := ⟨l[0]'(by omega), List.getElem?_eq_getElem (by omega)⟩
    have HON := Lib.hid (kOn_at ha0)
    obtain ⟨g0, o0, hA0, hg0, hc0⟩ := r.elem ha0
    have d2 : w.cell? ⟨g0, o0 + 2, none⟩ = some (.bool a2) := by have h := hc0 2 _ rfl; simpa using h
    clear hc0 ha0
    subst hA0
    rcases a2 with _ | _
    case false =>
      have H := Lib.hid (vLp_off HON.out)
      rw [← hn] at h1 h60 hl ⊢
      have hi0 : (0 : Int) < n := by omega
      have hq0 : decide ((n : Int) < 1) = false := by simp; omega
      have hq1 : decide ((60 : Int) < n) = false := by simp; omega
      go_enter Try.func122, Try.ntmps122
      go_wp2_with fail
      go_ret
      exact ⟨ret_bool H.out, by repeat' (first | with_reducible assumption | with_reducible exact Below.refl _ _ | (with_reducible refine Below.setCell ?_ ?_ _) | (with_reducible refine Below.alloc ?_ ?_ _) | (with_reducible refine Below.drew ?_) | (with_reducible refine below_dr ?_ _) | (with_reducible refine Below.trans ?_ (Below.mono (by with_reducible assumption) ?_)) | omega | (simp; done) | (simp; omega))⟩
    case true =>
      have HY := Lib.hid (fun h => vLp_yes (l := l) h1 h60 HON.out h)
      rw [← hn] at h1 h60 hl ⊢
      have hi0 : (0 : Int) < n := by omega
      have HN := Lib.hid hn
      clear hn
      have hq0 : decide ((n : Int) < 1) = false := by simp; omega
      have hq1 : decide ((60 : Int) < n) = false := by simp; omega
      go_enter Try.func122, Try.ntmps122
      go_wp2_with fail
      generalize hW : w.alloc (.cells #[.slice (some ⟨g0, o0, none⟩) n c] 157) = W0
      have r0 : Rd cKnot 3 W0 w.heap.size (some ⟨g0, o0, none⟩) l := by rw [← hW]; exact r.alloc (Nat.le_refl _) _
      have g1 : Below w.heap.size w W0 := by rw [← hW]; repeat' (first | with_reducible assumption | with_reducible exact Below.refl _ _ | (with_reducible refine Below.setCell ?_ ?_ _) | (with_reducible refine Below.alloc ?_ ?_ _) | (with_reducible refine Below.drew ?_) | (with_reducible refine below_dr ?_ _) | (with_reducible refine Below.trans ?_ (Below.mono (by with_reducible assumption) ?_)) | omega | (simp; done) | (simp; omega))
      clear hW d2 r
      go_loopw [26] (fun i wr => ∃ k : Nat, k ≤ n ∧ i = .int .i64 k ∧ kUp l k = true ∧ Rd cKnot 3 wr w.heap.size (some ⟨g0, o0, none⟩) l ∧ Below w.heap.size w wr) (fun i _ => n - (intOf i).toNat)
      case atStart => exact ⟨0, Nat.zero_le _, rfl, kUp_zero _, r0, g1⟩
      case round =>
        obtain ⟨k, hk, rfl, hup, r1, hbl⟩ := hrel
        have HUP := Lib.hid hup
        clear hup
        have zr := hbl.size
        by_cases hlt : k < n
        case pos =>
          obtain ⟨⟨x0, x1, x2⟩, ha⟩ : ∃ a, l[k]? = some a := ⟨l[k]'(by have := HN.out; omega), List.getElem?_eq_getElem (by have := HN.out; omega)⟩
          obtain ⟨g, o, hA, hg, hc⟩ := r1.elem ha
          obtain ⟨rfl, rfl⟩ : g0 = g ∧ o0 = o := by injection hA with h; injection h with h1 h2; exact ⟨h1, h2⟩
          have p0 : wr.cell? ⟨g0, o0 + k * 3, none⟩ = some (.int .i64 x0) := hc 0 _ rfl
          have p1 : wr.cell? ⟨g0, o0 + k * 3 + 1, none⟩ = some (.int .i64 x1) := hc 1 _ rfl
          have p2 : wr.cell? ⟨g0, o0 + k * 3 + 2, none⟩ = some (.bool x2) := hc 2 _ rfl
          have hki : (k : Int) < (n : Int) := by omega
          clear hc hA
          rcases hv : okB x0 x1 with _ | _
          case false =>
            have HA := Lib.hid ha
            have CV := Lib.hid (fun w => implValidPt_any x0 x1 w)
            rw [hv] at CV
            have HV := Lib.hid hv
            clear hv ha
            have H := Lib.hid (vLp_bad (kUp_bad HA.out HV.out))
            go_wp2_with (go_at_call 124; refine (CV.out _).mono ?_; rintro e w2 ⟨rfl, hb2⟩)
            go_ret
            exact ⟨ret_bool H.out, by repeat' (first | with_reducible assumption | with_reducible exact Below.refl _ _ | (with_reducible refine Below.setCell ?_ ?_ _) | (with_reducible refine Below.alloc ?_ ?_ _) | (with_reducible refine Below.drew ?_) | (with_reducible refine below_dr ?_ _) | (with_reducible refine Below.trans ?_ (Below.mono (by with_reducible assumption) ?_)) | omega | (simp; done) | (simp; omega))⟩
          case true =>
            have HA := Lib.hid ha
            have CV := Lib.hid (fun w => implValidPt_any x0 x1 w)
            rw [hv] at CV
            have HV := Lib.hid hv
            clear hv ha
            go_wp2_with (go_at_call 124; refine (CV.out _).mono ?_; rintro e w2 ⟨rfl, hb2⟩)
            have hz2 := hb2.size
            (try simp only [World.size_alloc] at hz2)
            go_roundw
            case rel => exact ⟨k + 1, by omega, by go_num, kUp_succ HUP.out HA.out HV.out, (r1.alloc (by omega) _).carry hb2 (by simp; omega), by repeat' (first | with_reducible assumption | with_reducible exact Below.refl _ _ | (with_reducible refine Below.setCell ?_ ?_ _) | (with_reducible refine Below.alloc ?_ ?_ _) | (with_reducible refine Below.drew ?_) | (with_reducible refine below_dr ?_ _) | (with_reducible refine Below.trans ?_ (Below.mono (by with_reducible assumption) ?_)) | omega | (simp; done) | (simp; omega))⟩
            case measure => simp [intOf]; omega
        case neg =>
          obtain rfl : k = n := by omega
          have H := Lib.hid (HY.out (by have h := HUP.out; rw [HN.out] at h; exact h))
          go_wp2_with fail
          go_ret
          exact ⟨ret_bool H.out, by repeat' (first | with_reducible assumption | with_reducible exact Below.refl _ _ | (with_reducible refine Below.setCell ?_ ?_ _) | (with_reducible refine Below.alloc ?_ ?_ _) | (with_reducible refine Below.drew ?_) | (with_reducible refine below_dr ?_ _) | (with_reducible refine Below.trans ?_ (Below.mono (by with_reducible assumption) ?_)) | omega | (simp; done) | (simp; omega))⟩
def lUp (ds : List DLoop) (k : Nat) : Bool := (ds.take k).all vLp
def vOl (ds : List DLoop) : Bool := decide (ds.length ≤ 12) && lUp ds ds.length
theorem lUp_zero (l : List DLoop) : lUp l 0 = true := rfl
theorem lUp_succ {l : List DLoop} {k : Nat} {a : DLoop} (h : lUp l k = true) (ha : l[k]? = some a) (hv : vLp a = true) : lUp l (k + 1) = true := by
  unfold lUp at *
  rw [List.take_add_one, ha, List.all_append, h]; simp [hv]
theorem lUp_bad {l : List DLoop} {k : Nat} {a : DLoop} (ha : l[k]? = some a) (hv : vLp a = false) : lUp l l.length = false := by
  unfold lUp
  rw [List.take_length, List.all_eq_false]
  exact ⟨a, List.mem_of_getElem? ha, by simp [hv]⟩
theorem vOl_len {l : List DLoop} (h : 12 < l.length) : false = vOl l := by simp [vOl]; omega
theorem vOl_bad {l : List DLoop} (h : lUp l l.length = false) : false = vOl l := by simp [vOl, h]
theorem vOl_all {l : List DLoop} (h : lUp l l.length = true) : decide (l.length ≤ 12) = vOl l := by simp [vOl, h]
set_option maxHeartbeats 6400000 in
theorem l10Ok_any (ds : List DLoop) (A : Option Addr) (c b p : Nat) (w : World) (hb : b < w.heap.size) (c0 : w.cell? ⟨b, p, none⟩ = some (.slice A ds.length c)) (hl : ds.length ≤ 1048576) (hin : ∀ (i : Nat) (d : DLoop), ds[i]? = some d → d.length ≤ 1048576) (r : RdLoop w w.heap.size A ds) :
    Calls Try.prog 115 #[.pointer (some ⟨b, p, none⟩)] w fun e w' => e = .returned (.bool (vOl ds)) ∧ Below w.heap.size w w' := by
  have HIN := Lib.hid hin
  clear hin
  obtain ⟨n, hn⟩ : ∃ n, n = ds.length := ⟨_, rfl⟩
  have HY := Lib.hid (fun h => (vOl_all (l := ds) h))
  rw [← hn] at hl c0 HY
  have HN := Lib.hid hn
  clear hn
  go_enter Try.func115, Try.ntmps115
  go_wp2_with fail
  go_loopw [3] (fun i wr => ∃ k : Nat, k ≤ n ∧ i = .int .i64 k ∧ lUp ds k = true ∧ RdLoop wr w.heap.size A ds ∧ Below w.heap.size w wr) (fun i _ => n - (intOf i).toNat)
  case atStart => exact ⟨0, Nat.zero_le _, rfl, lUp_zero _, r, by repeat' (first | with_reducible assumption | with_reducible exact Below.refl _ _ | (with_reducible refine Below.setCell ?_ ?_ _) | (with_reducible refine Below.alloc ?_ ?_ _) | (with_reducible refine Below.drew ?_) | (with_reducible refine below_dr ?_ _) | (with_reducible refine Below.trans ?_ (Below.mono (by with_reducible assumption) ?_)) | omega | (simp; done) | (simp; omega))⟩
  case round =>
    obtain ⟨k, hk, rfl, hup, r1, hbl⟩ := hrel
    have HUP := Lib.hid hup
    clear hup
    have zr := hbl.size
    have c1 : wr.cell? ⟨b, p, none⟩ = some (.slice A n c) := (hbl.cell (p := ⟨b, p, none⟩) hb).trans c0
    by_cases hlt : k < n
    case pos =>
      obtain ⟨dl, ha⟩ : ∃ a, ds[k]? = some a := ⟨ds[k]'(by have := HN.out; omega), List.getElem?_eq_getElem (by have := HN.out; omega)⟩
      obtain ⟨g, o, A', c', rfl, hg, hc, hrd⟩ := r1.elem ha
      have p0 : wr.cell? ⟨g, o + k, none⟩ = some (.slice A' dl.length c') := by have h := hc 0 _ rfl; rw [Nat.mul_one] at h; exact h
      have hki : (k : Int) < (n : Int) := by omega
      have hdl := HIN.out k _ ha
      have hgr : g < wr.heap.size := by omega
      clear hc
      rcases hv : vLp dl with _ | _
      case false =>
        have HA := Lib.hid ha
        have CV := Lib.hid (fun w1 h1 h2 h3 => l10Loop_any dl A' c' g (o + k) w1 h1 h2 hdl h3)
        simp only [hv] at CV
        have HV := Lib.hid hv
        clear hv ha
        have H := Lib.hid (vOl_bad (lUp_bad HA.out HV.out))
        go_wp2_with fail
        refine (CV.out _ hgr p0 (hrd.more (by omega))).mono ?_
        rintro e w2 ⟨rfl, hb2⟩
        have hz2 := hb2.size
        (try simp only [World.size_alloc] at hz2)
        go_wp2_with fail
        go_ret
        exact ⟨ret_bool H.out, by repeat' (first | with_reducible assumption | with_reducible exact Below.refl _ _ | (with_reducible refine Below.setCell ?_ ?_ _) | (with_reducible refine Below.alloc ?_ ?_ _) | (with_reducible refine Below.drew ?_) | (with_reducible refine below_dr ?_ _) | (with_reducible refine Below.trans ?_ (Below.mono (by with_reducible assumption) ?_)) | omega | (simp; done) | (simp; omega))⟩
      case true =>
        have HA := Lib.hid ha
        have CV := Lib.hid (fun w1 h1 h2 h3 => l10Loop_any dl A' c' g (o + k) w1 h1 h2 hdl h3)
        simp only [hv] at CV
        have HV := Lib.hid hv
        clear hv ha
        go_wp2_with fail
        refine (CV.out _ hgr p0 (hrd.more (by omega))).mono ?_
        rintro e w2 ⟨rfl, hb2⟩
        have hz2 := hb2.size
        (try simp only [World.size_alloc] at hz2)
        go_wp2_with fail
        go_roundw
        case rel => exact ⟨k + 1, by omega, by go_num, lUp_succ HUP.out HA.out HV.out, r1.carry hb2 (by omega), by repeat' (first | with_reducible assumption | with_reducible exact Below.refl _ _ | (with_reducible refine Below.setCell ?_ ?_ _) | (with_reducible refine Below.alloc ?_ ?_ _) | (with_reducible refine Below.drew ?_) | (with_reducible refine below_dr ?_ _) | (with_reducible refine Below.trans ?_ (Below.mono (by with_reducible assumption) ?_)) | omega | (simp; done) | (simp; omega))⟩
        case measure => simp [intOf]; omega
    case neg =>
      obtain rfl : k = n := by omega
      have H := Lib.hid (HY.out (by have h := HUP.out; first | exact h | (rw [HN.out] at h; exact h)))
      by_cases h12 : k ≤ 12
      · have hq : (k : Int) ≤ 12 := by omega
        have H2 := Lib.hid (H.out.symm.trans (decide_eq_true h12))
        go_wp2_with fail
        go_ret
        exact ⟨ret_bool H2.out.symm, by repeat' (first | with_reducible assumption | with_reducible exact Below.refl _ _ | (with_reducible refine Below.setCell ?_ ?_ _) | (with_reducible refine Below.alloc ?_ ?_ _) | (with_reducible refine Below.drew ?_) | (with_reducible refine below_dr ?_ _) | (with_reducible refine Below.trans ?_ (Below.mono (by with_reducible assumption) ?_)) | omega | (simp; done) | (simp; omega))⟩
      · have hq : decide ((k : Int) ≤ 12) = false := by simp; omega
        have H2 := Lib.hid (H.out.symm.trans (decide_eq_false h12))
        go_wp2_with fail
        go_ret
        exact ⟨ret_bool H2.out.symm, by repeat' (first | with_reducible assumption | with_reducible exact Below.refl _ _ | (with_reducible refine Below.setCell ?_ ?_ _) | (with_reducible refine Below.alloc ?_ ?_ _) | (with_reducible refine Below.drew ?_) | (with_reducible refine below_dr ?_ _) | (with_reducible refine Below.trans ?_ (Below.mono (by with_reducible assumption) ?_)) | omega | (simp; done) | (simp; omega))⟩
set_option maxHeartbeats 6400000 in
theorem implValidOutline_any (ds : List DLoop) (A : Option Addr) (c : Nat) (w : World) (hl : ds.length ≤ 1048576) (hin : ∀ (i : Nat) (d : DLoop), ds[i]? = some d → d.length ≤ 1048576) (r : RdLoop w w.heap.size A ds) :
    Calls Try.prog 54 #[.agg #[.slice A ds.length c]] w fun e w' => e = .returned (.bool (vOl ds)) ∧ Below w.heap.size w w' := by
  have HIN := Lib.hid hin
  clear hin
  obtain ⟨n, hn⟩ : ∃ n, n = ds.length := ⟨_, rfl⟩
  by_cases hlen : 12 < ds.length
  case pos =>
    have H := Lib.hid (vOl_len hlen)
    rw [← hn] at hlen hl ⊢
    clear hn
    have hq : (12 : Int) < n := by omega
    go_enter Try.func54, Try.ntmps54
    go_wp2_with fail
    go_ret
    exact ⟨ret_bool H.out, by repeat' (first | with_reducible assumption | with_reducible exact Below.refl _ _ | (with_reducible refine Below.setCell ?_ ?_ _) | (with_reducible refine Below.alloc ?_ ?_ _) | (with_reducible refine Below.drew ?_) | (with_reducible refine below_dr ?_ _) | (with_reducible refine Below.trans ?_ (Below.mono (by with_reducible assumption) ?_)) | omega | (simp; done) | (simp; omega))⟩
  case neg =>
    have HY := Lib.hid (fun h => (vOl_all (l := ds) h).symm.trans (decide_eq_true (show ds.length ≤ 12 by omega)))
    rw [← hn] at hlen hl ⊢
    have HN := Lib.hid hn
    have hq : decide ((12 : Int) < n) = false := by simp; omega
    clear hn hlen
    go_enter Try.func54, Try.ntmps54
    go_wp2_with fail
    generalize hW : w.alloc (.cells #[.slice A n c] 33) = W0
    have r0 : RdLoop W0 w.heap.size A ds := by rw [← hW]; exact r.alloc (Nat.le_refl _) _
    have g1 : Below w.heap.size w W0 := by rw [← hW]; repeat' (first | with_reducible assumption | with_reducible exact Below.refl _ _ | (with_reducible refine Below.setCell ?_ ?_ _) | (with_reducible refine Below.alloc ?_ ?_ _) | (with_reducible refine Below.drew ?_) | (with_reducible refine below_dr ?_ _) | (with_reducible refine Below.trans ?_ (Below.mono (by with_reducible assumption) ?_)) | omega | (simp; done) | (simp; omega))
    clear hW r
    go_loopw [12] (fun i wr => ∃ k : Nat, k ≤ n ∧ i = .int .i64 k ∧ lUp ds k = true ∧ RdLoop wr w.heap.size A ds ∧ Below w.heap.size w wr) (fun i _ => n - (intOf i).toNat)
    case atStart => exact ⟨0, Nat.zero_le _, rfl, lUp_zero _, r0, g1⟩
    case round =>
      obtain ⟨k, hk, rfl, hup, r1, hbl⟩ := hrel
      have HUP := Lib.hid hup
      clear hup
      have zr := hbl.size
      by_cases hlt : k < n
      case pos =>
        obtain ⟨dl, ha⟩ : ∃ a, ds[k]? = some a := ⟨ds[k]'(by have := HN.out; omega), List.getElem?_eq_getElem (by have := HN.out; omega)⟩
        obtain ⟨g, o, A', c', rfl, hg, hc, hrd⟩ := r1.elem ha
        have p0 : wr.cell? ⟨g, o + k, none⟩ = some (.slice A' dl.length c') := by have h := hc 0 _ rfl; rw [Nat.mul_one] at h; exact h
        have hki : (k : Int) < (n : Int) := by omega
        have hdl := HIN.out k _ ha
        have hgr : g < wr.heap.size := by omega
        clear hc
        rcases hv : vLp dl with _ | _
        case false =>
          have HA := Lib.hid ha
          have CV := Lib.hid (fun w1 h3 => implValidLoop_any dl A' c' w1 hdl h3)
          simp only [hv] at CV
          have HV := Lib.hid hv
          clear hv ha
          have H := Lib.hid (vOl_bad (lUp_bad HA.out HV.out))
          go_wp2_with fail
          refine (CV.out _ ?_).mono ?_
          · exact (hrd.alloc (by omega) _).more (by simp; omega)
          rintro e w2 ⟨rfl, hb2⟩
          have hz2 := hb2.size
          (try simp only [World.size_alloc] at hz2)
          go_wp2_with fail
          go_ret
          exact ⟨ret_bool H.out, by repeat' (first | with_reducible assumption | with_reducible exact Below.refl _ _ | (with_reducible refine Below.setCell ?_ ?_ _) | (with_reducible refine Below.alloc ?_ ?_ _) | (with_reducible refine Below.drew ?_) | (with_reducible refine below_dr ?_ _) | (with_reducible refine Below.trans ?_ (Below.mono (by with_reducible assumption) ?_)) | omega | (simp; done) | (simp; omega))⟩
        case true =>
          have HA := Lib.hid ha
          have CV := Lib.hid (fun w1 h3 => implValidLoop_any dl A' c' w1 hdl h3)
          simp only [hv] at CV
          have HV := Lib.hid hv
          clear hv ha
          go_wp2_with fail
          refine (CV.out _ ?_).mono ?_
          · exact (hrd.alloc (by omega) _).more (by simp; omega)
          rintro e w2 ⟨rfl, hb2⟩
          have hz2 := hb2.size
          (try simp only [World.size_alloc] at hz2)
          go_wp2_with fail
          go_roundw
          case rel => exact ⟨k + 1, by omega, by go_num, lUp_succ HUP.out HA.out HV.out, (r1.alloc (by omega) _).carry hb2 (by simp; omega), by repeat' (first | with_reducible assumption | with_reducible exact Below.refl _ _ | (with_reducible refine Below.setCell ?_ ?_ _) | (with_reducible refine Below.alloc ?_ ?_ _) | (with_reducible refine Below.drew ?_) | (with_reducible refine below_dr ?_ _) | (with_reducible refine Below.trans ?_ (Below.mono (by with_reducible assumption) ?_)) | omega | (simp; done) | (simp; omega))⟩
          case measure => simp [intOf]; omega
      case neg =>
        obtain rfl : k = n := by omega
        have H := Lib.hid (HY.out (by have h := HUP.out; first | exact h | (rw [HN.out] at h; exact h)))
        go_wp2_with fail
        go_ret
        exact ⟨ret_bool H.out.symm, by repeat' (first | with_reducible assumption | with_reducible exact Below.refl _ _ | (with_reducible refine Below.setCell ?_ ?_ _) | (with_reducible refine Below.alloc ?_ ?_ _) | (with_reducible refine Below.drew ?_) | (with_reducible refine below_dr ?_ _) | (with_reducible refine Below.trans ?_ (Below.mono (by with_reducible assumption) ?_)) | omega | (simp; done) | (simp; omega))⟩
end Go.Proofs.Ytelefmogmloniaa
