/- Walks: whether instructions are nested, the reference's side. -/
import Derived.Test.YtdikenapnncmfaaDoorPhc
import Derived.Test.YtdikenapnncmfaaDoorOwi
namespace Go.Proofs.YtdikenapnncmfaaDoor
open Go.RowKit
set_option linter.unusedVariables false
section
variable {l : List AHint} {k : Nat} {st : St} {x : AHint}
def cds (st : St) : List Int := (st.map (·.2)).reverse
theorem cds_len : (cds st).length = st.length := by simp [cds]
theorem cds_push {c : Int} {i : Nat} : cds ((i, c) :: st) = cds st ++ [c] := by simp [cds]
theorem cds_top {p : Nat × Int} : (cds (p :: st))[st.length]? = some p.2 := by
  obtain ⟨a, b⟩ := p
  rw [cds_push, List.getElem?_append_right (by rw [cds_len]; exact Nat.le_refl _), cds_len, Nat.sub_self]; rfl
theorem cds_set {p : Nat × Int} {i : Nat} {c : Int} : (cds (p :: st)).set st.length c = cds ((i, c) :: st) := by
  obtain ⟨a, b⟩ := p
  rw [cds_push, cds_push, List.set_append_right _ _ (by rw [cds_len]; exact Nat.le_refl _), cds_len, Nat.sub_self]; rfl
theorem cds_pop {p : Nat × Int} : (cds (p :: st)).take st.length = cds st := by
  obtain ⟨a, b⟩ := p
  rw [cds_push, List.take_append_of_le_length (by rw [cds_len]; exact Nat.le_refl _), ← cds_len (st := st), List.take_length]
theorem nt_none (h : rn l (k + 1) = none) (hk : k < l.length) : false = ntB l := by
  symm; unfold ntB; rw [rn_none h l.length (by omega)]; rfl
theorem nt_end (h : rn l l.length = some st) : decide (st.length = 0) = ntB l := by
  unfold ntB; rw [h]
  cases st with
  | nil => rfl
  | cons p r => simp
theorem rn_push (hr : rn l k = some st) (hx : l[k]? = some x) (hc : x.1 = 35 ∨ x.1 = 44) : rn l (k + 1) = if st.length + 1 ≤ 6 then some ((k, x.1) :: st) else none := by
  rw [rn_succ hr hx]; unfold stp; rw [if_pos hc]; rfl
theorem rn_bad (hr : rn l k = some st) (hx : l[k]? = some x) (h : stp x.1 k st = none) : rn l (k + 1) = none := by
  rw [rn_succ hr hx, h]; rfl
theorem rn_good {s : St} (hr : rn l k = some st) (hx : l[k]? = some x) (h : stp x.1 k st = some s) (h6 : s.length ≤ 6) : rn l (k + 1) = some s := by
  rw [rn_succ hr hx, h]; unfold chk; simp only; rw [if_pos h6]
end
set_option maxRecDepth 100000 in
set_option maxHeartbeats 12800000 in
theorem l19Nested_any (l : List AHint) (A : Option Addr) (c : Nat) (w : World) (hl : l.length ≤ 1048576) (r : Rd cHint 2 w w.heap.size A l) :
    Calls Tryd.prog 39 #[.slice A l.length c] w fun e w' => e = .returned (.bool (ntB l)) ∧ Below w.heap.size w w' := by
  have HR := Lib.hid r
  clear r
  obtain ⟨n, hn⟩ : ∃ n, n = l.length := ⟨_, rfl⟩
  rw [← hn] at hl ⊢
  have HN := Lib.hid hn
  clear hn
  obtain ⟨i0, hi0, hz0', hz1', hz2'⟩ := oinfo_parts infoI64
  have HI0 := Lib.hid hi0
  have HZ00 := Lib.hid hz0'
  have HZ10 := Lib.hid hz1'
  have HZ20 := Lib.hid hz2'
  clear hi0 hz0' hz1' hz2'
  go_enter Tryd.func39, Tryd.ntmps39
  go_wp2_with fail
  generalize hW : w.alloc (.cells #[] 2) = W0
  have ow0 : OwI 2 W0 w.heap.size (some ⟨w.heap.size, 0, none⟩) 0 0 (cds []) := by rw [← hW]; exact OwI.new w _ (Nat.le_refl _)
  have hb0 : Below w.heap.size w W0 := by rw [← hW]; repeat' (first | with_reducible assumption | with_reducible exact Below.refl _ _ | (with_reducible refine Below.setCell ?_ ?_ _) | (with_reducible refine Below.alloc ?_ ?_ _) | (with_reducible refine Below.drew ?_) | (with_reducible refine below_dr ?_ _) | (with_reducible refine Below.trans ?_ (Below.mono (by with_reducible assumption) ?_)) | omega | (simp; done) | (simp; omega))
  clear hW
  go_loopw [3, 4] (fun s i wr => ∃ (k N : Nat) (A' : Option Addr) (c' : Nat) (st : St), k ≤ n ∧ i = .int .i64 (k : Int) ∧ N = st.length ∧ s = .slice A' N c' ∧ rn l k = some st ∧ OwI 2 wr w.heap.size A' N c' (cds st) ∧ Below w.heap.size w wr) (fun _ i _ => n - (intOf i).toNat)
  case atStart => exact ⟨0, 0, _, _, [], Nat.zero_le _, rfl, rfl, rfl, rfl, ow0, hb0⟩
  case round =>
    clear ow0 hb0
    obtain ⟨k, N, A', c', st, hk, rfl, hN, rfl, hrn, ow, hbl⟩ := hrel
    have hN6 : N ≤ 6 := by rw [hN]; exact (rn_inv hrn).1
    have HNN := Lib.hid hN
    have HRN := Lib.hid hrn
    clear hrn hN
    have HOW := Lib.hid ow
    clear ow
    have zr := hbl.size
    by_cases hlt : k < n
    case neg =>
      obtain rfl : k = n := by omega
      have HE := Lib.hid (nt_end (HN.out ▸ HRN.out))
      rw [← HNN.out] at HE
      by_cases hz : N = 0
      case pos =>
        have hq : decide (N = 0) = true := decide_eq_true hz
        rw [hq] at HE
        subst hz
        clear hq
        go_wp2_with fail
        go_ret
        exact ⟨ret_bool HE.out, by repeat' (first | with_reducible assumption | with_reducible exact Below.refl _ _ | (with_reducible refine Below.setCell ?_ ?_ _) | (with_reducible refine Below.alloc ?_ ?_ _) | (with_reducible refine Below.drew ?_) | (with_reducible refine below_dr ?_ _) | (with_reducible refine Below.trans ?_ (Below.mono (by with_reducible assumption) ?_)) | omega | (simp; done) | (simp; omega))⟩
      case neg =>
        rw [decide_eq_false hz] at HE
        have hq : ((N : Int) == 0) = false := beq_eq_false_iff_ne.2 (by omega)
        go_wp2_with fail
        go_ret
        exact ⟨ret_bool HE.out, by repeat' (first | with_reducible assumption | with_reducible exact Below.refl _ _ | (with_reducible refine Below.setCell ?_ ?_ _) | (with_reducible refine Below.alloc ?_ ?_ _) | (with_reducible refine Below.drew ?_) | (with_reducible refine below_dr ?_ _) | (with_reducible refine Below.trans ?_ (Below.mono (by with_reducible assumption) ?_)) | omega | (simp; done) | (simp; omega))⟩
    case pos =>
      obtain ⟨⟨x0, x1⟩, hx⟩ : ∃ x, l[k]? = some x := ⟨l[k]'(by have := HN.out; omega), List.getElem?_eq_getElem (by have := HN.out; omega)⟩
      obtain ⟨g, o, rfl, hg, hc⟩ := (HR.out.below hbl).elem hx
      have y0 : wr.cell? ⟨g, o + k * 2, none⟩ = some (.int .i64 x0) := hc 0 _ rfl
      clear hc
      have HX := Lib.hid hx
      clear hx
      have hki : (k : Int) < (n : Int) := by omega
      have hgw : g < wr.heap.size := by omega
      by_cases e35 : x0 = 35
      case pos =>
        have HP := Lib.hid (rn_push HRN.out HX.out (by simp only; omega))
        rw [← HNN.out] at HP
        simp only at HP
        have HCP := Lib.hid (cds_push (st := st) (c := x0) (i := k))
        subst e35
        by_cases h6 : N + 1 ≤ 6
        case pos =>
          rw [if_pos h6] at HP
          have h6i : ((N : Int) + 1) ≤ 6 := by omega
          have HMX := Lib.hid (show N + 1 ≤ maxLen by unfold maxLen; omega)
          have HBY := Lib.hid (show (N + 1) * 8 ≤ 140737488355328 by omega)
          have HRD := Lib.hid (ireads_new wr (35 : Int) 2)
          have HOW9 := Lib.hid (show (wr.alloc (.cells #[.int .i64 (35 : Int)] 2)).ownsRow w.heap.size 2 1 (.slice A' N c') N _ from (HOW.out.alloc _).2)
          have HRB := Lib.hid HOW.out.block
          have HBS := Lib.hid (show w.heap.size ≤ (wr.alloc (.cells #[.int .i64 (35 : Int)] 2)).heap.size by simp; omega)
          have HGA := Lib.hid (show Below w.heap.size w (wr.alloc (.cells #[.int .i64 (35 : Int)] 2)) by repeat' (first | with_reducible assumption | with_reducible exact Below.refl _ _ | (with_reducible refine Below.setCell ?_ ?_ _) | (with_reducible refine Below.alloc ?_ ?_ _) | (with_reducible refine Below.drew ?_) | (with_reducible refine below_dr ?_ _) | (with_reducible refine Below.trans ?_ (Below.mono (by with_reducible assumption) ?_)) | omega | (simp; done) | (simp; omega)))
          go_wp2_with (at_builtin; refine wpList_append_any _ rfl (.tmp 23) (.tmp 29) _ rfl w.heap.size 2 i0 _ 1 8 Tryd.underlying46 HI0.out HZ00.out HZ10.out HZ20.out rfl (by omega) (.slice A' N c') N _ rfl HOW9.out _ (some ⟨wr.heap.size, 0, none⟩) 1 1 [.int .i64 (35 : Int)] rfl HRD.out (cInt_one (35 : Int)) HMX.out HBY.out HBS.out ?_; intro v9 w9 hown9 hg9 hat9; obtain ⟨g9, cap9, rfl, _, _⟩ := hown9.form (by omega); have HOWN9 := Lib.hid hown9; have HG9 := Lib.hid hg9; clear hown9 hg9 hat9)
          have g9b : Below w.heap.size w w9 := below_of_grown HGA.out HG9.out (by have := HBS.out; omega) (fun q hq => by have := HRB.out q hq; omega)
          have ow9 : OwI 2 w9 w.heap.size (some ⟨g9, 0, none⟩) (N + 1) cap9 (cds st ++ [(35 : Int)]) := OwI.grown (by have := HOW.out.1; simp only [List.length_cons, List.length_nil]; omega) HOWN9.out
          go_wp2_with fail
          go_roundw
          case rel => exact ⟨k + 1, N + 1, _, _, (k, 35) :: st, by omega, by go_num, by simp [HNN.out], rfl, HP.out, by rw [HCP.out]; exact ow9, g9b⟩
          case measure => simp [intOf]; omega
        case neg =>
          rw [if_neg h6] at HP
          have h6i : 6 < ((N : Int) + 1) := by omega
          have HB := Lib.hid HP.out
          have HMX := Lib.hid (show N + 1 ≤ maxLen by unfold maxLen; omega)
          have HBY := Lib.hid (show (N + 1) * 8 ≤ 140737488355328 by omega)
          have HRD := Lib.hid (ireads_new wr (35 : Int) 2)
          have HOW9 := Lib.hid (show (wr.alloc (.cells #[.int .i64 (35 : Int)] 2)).ownsRow w.heap.size 2 1 (.slice A' N c') N _ from (HOW.out.alloc _).2)
          have HRB := Lib.hid HOW.out.block
          have HBS := Lib.hid (show w.heap.size ≤ (wr.alloc (.cells #[.int .i64 (35 : Int)] 2)).heap.size by simp; omega)
          have HGA := Lib.hid (show Below w.heap.size w (wr.alloc (.cells #[.int .i64 (35 : Int)] 2)) by repeat' (first | with_reducible assumption | with_reducible exact Below.refl _ _ | (with_reducible refine Below.setCell ?_ ?_ _) | (with_reducible refine Below.alloc ?_ ?_ _) | (with_reducible refine Below.drew ?_) | (with_reducible refine below_dr ?_ _) | (with_reducible refine Below.trans ?_ (Below.mono (by with_reducible assumption) ?_)) | omega | (simp; done) | (simp; omega)))
          go_wp2_with (at_builtin; refine wpList_append_any _ rfl (.tmp 23) (.tmp 29) _ rfl w.heap.size 2 i0 _ 1 8 Tryd.underlying46 HI0.out HZ00.out HZ10.out HZ20.out rfl (by omega) (.slice A' N c') N _ rfl HOW9.out _ (some ⟨wr.heap.size, 0, none⟩) 1 1 [.int .i64 (35 : Int)] rfl HRD.out (cInt_one (35 : Int)) HMX.out HBY.out HBS.out ?_; intro v9 w9 hown9 hg9 hat9; obtain ⟨g9, cap9, rfl, _, _⟩ := hown9.form (by omega); have HOWN9 := Lib.hid hown9; have HG9 := Lib.hid hg9; clear hown9 hg9 hat9)
          have g9b : Below w.heap.size w w9 := below_of_grown HGA.out HG9.out (by have := HBS.out; omega) (fun q hq => by have := HRB.out q hq; omega)
          have ow9 : OwI 2 w9 w.heap.size (some ⟨g9, 0, none⟩) (N + 1) cap9 (cds st ++ [(35 : Int)]) := OwI.grown (by have := HOW.out.1; simp only [List.length_cons, List.length_nil]; omega) HOWN9.out
          go_wp2_with fail
          go_ret
          exact ⟨ret_bool (nt_none HB.out (by have := HN.out; omega)), by repeat' (first | with_reducible assumption | with_reducible exact Below.refl _ _ | (with_reducible refine Below.setCell ?_ ?_ _) | (with_reducible refine Below.alloc ?_ ?_ _) | (with_reducible refine Below.drew ?_) | (with_reducible refine below_dr ?_ _) | (with_reducible refine Below.trans ?_ (Below.mono (by with_reducible assumption) ?_)) | omega | (simp; done) | (simp; omega))⟩
      case neg =>
        have d35 : (x0 == 35) = false := beq_eq_false_iff_ne.2 e35
        by_cases e44 : x0 = 44
        case pos =>
          have HP := Lib.hid (rn_push HRN.out HX.out (by simp only; omega))
          rw [← HNN.out] at HP
          simp only at HP
          have HCP := Lib.hid (cds_push (st := st) (c := x0) (i := k))
          subst e44
          by_cases h6 : N + 1 ≤ 6
          case pos =>
            rw [if_pos h6] at HP
            have h6i : ((N : Int) + 1) ≤ 6 := by omega
            have HMX := Lib.hid (show N + 1 ≤ maxLen by unfold maxLen; omega)
            have HBY := Lib.hid (show (N + 1) * 8 ≤ 140737488355328 by omega)
            have HRD := Lib.hid (ireads_new wr (44 : Int) 2)
            have HOW9 := Lib.hid (show (wr.alloc (.cells #[.int .i64 (44 : Int)] 2)).ownsRow w.heap.size 2 1 (.slice A' N c') N _ from (HOW.out.alloc _).2)
            have HRB := Lib.hid HOW.out.block
            have HBS := Lib.hid (show w.heap.size ≤ (wr.alloc (.cells #[.int .i64 (44 : Int)] 2)).heap.size by simp; omega)
            have HGA := Lib.hid (show Below w.heap.size w (wr.alloc (.cells #[.int .i64 (44 : Int)] 2)) by repeat' (first | with_reducible assumption | with_reducible exact Below.refl _ _ | (with_reducible refine Below.setCell ?_ ?_ _) | (with_reducible refine Below.alloc ?_ ?_ _) | (with_reducible refine Below.drew ?_) | (with_reducible refine below_dr ?_ _) | (with_reducible refine Below.trans ?_ (Below.mono (by with_reducible assumption) ?_)) | omega | (simp; done) | (simp; omega)))
            go_wp2_with (at_builtin; refine wpList_append_any _ rfl (.tmp 23) (.tmp 29) _ rfl w.heap.size 2 i0 _ 1 8 Tryd.underlying46 HI0.out HZ00.out HZ10.out HZ20.out rfl (by omega) (.slice A' N c') N _ rfl HOW9.out _ (some ⟨wr.heap.size, 0, none⟩) 1 1 [.int .i64 (44 : Int)] rfl HRD.out (cInt_one (44 : Int)) HMX.out HBY.out HBS.out ?_; intro v9 w9 hown9 hg9 hat9; obtain ⟨g9, cap9, rfl, _, _⟩ := hown9.form (by omega); have HOWN9 := Lib.hid hown9; have HG9 := Lib.hid hg9; clear hown9 hg9 hat9)
            have g9b : Below w.heap.size w w9 := below_of_grown HGA.out HG9.out (by have := HBS.out; omega) (fun q hq => by have := HRB.out q hq; omega)
            have ow9 : OwI 2 w9 w.heap.size (some ⟨g9, 0, none⟩) (N + 1) cap9 (cds st ++ [(44 : Int)]) := OwI.grown (by have := HOW.out.1; simp only [List.length_cons, List.length_nil]; omega) HOWN9.out
            go_wp2_with fail
            go_roundw
            case rel => exact ⟨k + 1, N + 1, _, _, (k, 44) :: st, by omega, by go_num, by simp [HNN.out], rfl, HP.out, by rw [HCP.out]; exact ow9, g9b⟩
            case measure => simp [intOf]; omega
          case neg =>
            rw [if_neg h6] at HP
            have h6i : 6 < ((N : Int) + 1) := by omega
            have HB := Lib.hid HP.out
            have HMX := Lib.hid (show N + 1 ≤ maxLen by unfold maxLen; omega)
            have HBY := Lib.hid (show (N + 1) * 8 ≤ 140737488355328 by omega)
            have HRD := Lib.hid (ireads_new wr (44 : Int) 2)
            have HOW9 := Lib.hid (show (wr.alloc (.cells #[.int .i64 (44 : Int)] 2)).ownsRow w.heap.size 2 1 (.slice A' N c') N _ from (HOW.out.alloc _).2)
            have HRB := Lib.hid HOW.out.block
            have HBS := Lib.hid (show w.heap.size ≤ (wr.alloc (.cells #[.int .i64 (44 : Int)] 2)).heap.size by simp; omega)
            have HGA := Lib.hid (show Below w.heap.size w (wr.alloc (.cells #[.int .i64 (44 : Int)] 2)) by repeat' (first | with_reducible assumption | with_reducible exact Below.refl _ _ | (with_reducible refine Below.setCell ?_ ?_ _) | (with_reducible refine Below.alloc ?_ ?_ _) | (with_reducible refine Below.drew ?_) | (with_reducible refine below_dr ?_ _) | (with_reducible refine Below.trans ?_ (Below.mono (by with_reducible assumption) ?_)) | omega | (simp; done) | (simp; omega)))
            go_wp2_with (at_builtin; refine wpList_append_any _ rfl (.tmp 23) (.tmp 29) _ rfl w.heap.size 2 i0 _ 1 8 Tryd.underlying46 HI0.out HZ00.out HZ10.out HZ20.out rfl (by omega) (.slice A' N c') N _ rfl HOW9.out _ (some ⟨wr.heap.size, 0, none⟩) 1 1 [.int .i64 (44 : Int)] rfl HRD.out (cInt_one (44 : Int)) HMX.out HBY.out HBS.out ?_; intro v9 w9 hown9 hg9 hat9; obtain ⟨g9, cap9, rfl, _, _⟩ := hown9.form (by omega); have HOWN9 := Lib.hid hown9; have HG9 := Lib.hid hg9; clear hown9 hg9 hat9)
            have g9b : Below w.heap.size w w9 := below_of_grown HGA.out HG9.out (by have := HBS.out; omega) (fun q hq => by have := HRB.out q hq; omega)
            have ow9 : OwI 2 w9 w.heap.size (some ⟨g9, 0, none⟩) (N + 1) cap9 (cds st ++ [(44 : Int)]) := OwI.grown (by have := HOW.out.1; simp only [List.length_cons, List.length_nil]; omega) HOWN9.out
            go_wp2_with fail
            go_ret
            exact ⟨ret_bool (nt_none HB.out (by have := HN.out; omega)), by repeat' (first | with_reducible assumption | with_reducible exact Below.refl _ _ | (with_reducible refine Below.setCell ?_ ?_ _) | (with_reducible refine Below.alloc ?_ ?_ _) | (with_reducible refine Below.drew ?_) | (with_reducible refine below_dr ?_ _) | (with_reducible refine Below.trans ?_ (Below.mono (by with_reducible assumption) ?_)) | omega | (simp; done) | (simp; omega))⟩
        case neg =>
          have d44 : (x0 == 44) = false := beq_eq_false_iff_ne.2 e44
          by_cases e36 : x0 = 36
          case pos =>
            cases st with
            | nil =>
              have HB := Lib.hid (rn_bad HRN.out HX.out (by unfold stp; rw [if_neg (by simp only; omega), if_pos (by simp only; exact e36)]))
              obtain rfl : N = 0 := by rw [HNN.out]; rfl
              subst e36
              go_wp2_with fail
              go_ret
              exact ⟨ret_bool (nt_none HB.out (by have := HN.out; omega)), by repeat' (first | with_reducible assumption | with_reducible exact Below.refl _ _ | (with_reducible refine Below.setCell ?_ ?_ _) | (with_reducible refine Below.alloc ?_ ?_ _) | (with_reducible refine Below.drew ?_) | (with_reducible refine below_dr ?_ _) | (with_reducible refine Below.trans ?_ (Below.mono (by with_reducible assumption) ?_)) | omega | (simp; done) | (simp; omega))⟩
            | cons p r =>
              obtain ⟨m, hm⟩ : ∃ m, m = r.length := ⟨_, rfl⟩
              obtain rfl : N = m + 1 := by rw [HNN.out, hm]; rfl
              have HMM := Lib.hid hm
              obtain ⟨go, rfl, hgb, hgo, hcc, hcm⟩ := HOW.out.form (by omega)
              have yt : wr.cell? ⟨go, m, none⟩ = some (.int .i64 p.2) := HOW.out.at_ (by rw [hm]; exact cds_top)
              clear hm
              have hw1 : IntKind.i64.wrap ((m : Int) + 1 - 1) = (m : Int) := by rw [show (m : Int) + 1 - 1 = (m : Int) by omega]; exact IntWalk.i64_in _ (by omega)
              have hw2 : IntKind.i64.wrap (((m + 1 : Nat) : Int) - 1) = (m : Int) := by rw [show ((m + 1 : Nat) : Int) - 1 = (m : Int) by omega]; exact IntWalk.i64_in _ (by omega)
              have hw3 : IntKind.i64.wrap (m : Int) = (m : Int) := IntWalk.i64_in _ (by omega)
              have hmi : (m : Int) < (m : Int) + 1 := by omega
              have hmz : (((m + 1 : Nat) : Int) == 0) = false := beq_eq_false_iff_ne.2 (by omega)
              have hmz2 : (((m : Int) + 1) == 0) = false := beq_eq_false_iff_ne.2 (by omega)
              have yf := HOW.out.frozen m
              obtain ⟨pi, pc⟩ := p
              simp only at yt
              by_cases hp : pc = 35
              case pos =>
                have HS := Lib.hid (rn_good (s := (k, 36) :: r) HRN.out HX.out (by unfold stp; rw [if_neg (by simp only; omega), if_pos (by simp only; exact e36)]; simp only; rw [if_pos hp]) (by have := (rn_inv HRN.out).1; simp only [List.length_cons] at *; omega))
                subst hp
                subst e36
                have h6i : (m : Int) + 1 ≤ 6 := by omega
                have h6j : (m : Int) ≤ 6 := by omega
                have ow9 := HOW.out.set_ m 36
                have HC9 := Lib.hid (show (cds ((pi, (35 : Int)) :: r)).set m 36 = cds ((k, 36) :: r) by rw [HMM.out]; exact cds_set)
                rw [HC9.out] at ow9
                have HOW9 := Lib.hid ow9
                clear ow9
                have hb9 : Below w.heap.size w (wr.setCell ⟨go, m, none⟩ (.int .i64 36)) := hbl.setCell (p := ⟨go, m, none⟩) hgb _
                go_wp2_with fail
                go_roundw
                case rel => exact ⟨k + 1, m + 1, _, _, (k, 36) :: r, by omega, by go_num, by simp [HMM.out], rfl, HS.out, HOW9.out, hb9⟩
                case measure => simp [intOf]; omega
              case neg =>
                have HB := Lib.hid (rn_bad HRN.out HX.out (by unfold stp; rw [if_neg (by simp only; omega), if_pos (by simp only; exact e36)]; simp only; rw [if_neg hp]))
                have dp : (pc == 35) = false := beq_eq_false_iff_ne.2 hp
                subst e36
                go_wp2_with fail
                go_ret
                exact ⟨ret_bool (nt_none HB.out (by have := HN.out; omega)), by repeat' (first | with_reducible assumption | with_reducible exact Below.refl _ _ | (with_reducible refine Below.setCell ?_ ?_ _) | (with_reducible refine Below.alloc ?_ ?_ _) | (with_reducible refine Below.drew ?_) | (with_reducible refine below_dr ?_ _) | (with_reducible refine Below.trans ?_ (Below.mono (by with_reducible assumption) ?_)) | omega | (simp; done) | (simp; omega))⟩
          case neg =>
            have d36 : (x0 == 36) = false := beq_eq_false_iff_ne.2 e36
            by_cases e37 : x0 = 37
            case pos =>
              cases st with
              | nil =>
                have HB := Lib.hid (rn_bad HRN.out HX.out (by unfold stp; rw [if_neg (by simp only; omega), if_neg (by simp only; omega), if_pos (by simp only; exact e37)]))
                obtain rfl : N = 0 := by rw [HNN.out]; rfl
                subst e37
                go_wp2_with fail
                go_ret
                exact ⟨ret_bool (nt_none HB.out (by have := HN.out; omega)), by repeat' (first | with_reducible assumption | with_reducible exact Below.refl _ _ | (with_reducible refine Below.setCell ?_ ?_ _) | (with_reducible refine Below.alloc ?_ ?_ _) | (with_reducible refine Below.drew ?_) | (with_reducible refine below_dr ?_ _) | (with_reducible refine Below.trans ?_ (Below.mono (by with_reducible assumption) ?_)) | omega | (simp; done) | (simp; omega))⟩
              | cons p r =>
                obtain ⟨m, hm⟩ : ∃ m, m = r.length := ⟨_, rfl⟩
                obtain rfl : N = m + 1 := by rw [HNN.out, hm]; rfl
                have HMM := Lib.hid hm
                obtain ⟨go, rfl, hgb, hgo, hcc, hcm⟩ := HOW.out.form (by omega)
                have yt : wr.cell? ⟨go, m, none⟩ = some (.int .i64 p.2) := HOW.out.at_ (by rw [hm]; exact cds_top)
                clear hm
                have hw1 : IntKind.i64.wrap ((m : Int) + 1 - 1) = (m : Int) := by rw [show (m : Int) + 1 - 1 = (m : Int) by omega]; exact IntWalk.i64_in _ (by omega)
                have hw2 : IntKind.i64.wrap (((m + 1 : Nat) : Int) - 1) = (m : Int) := by rw [show ((m + 1 : Nat) : Int) - 1 = (m : Int) by omega]; exact IntWalk.i64_in _ (by omega)
                have hw3 : IntKind.i64.wrap (m : Int) = (m : Int) := IntWalk.i64_in _ (by omega)
                have hmi : (m : Int) < (m : Int) + 1 := by omega
                have hmz : (((m + 1 : Nat) : Int) == 0) = false := beq_eq_false_iff_ne.2 (by omega)
                have hmz2 : (((m : Int) + 1) == 0) = false := beq_eq_false_iff_ne.2 (by omega)
                have yf := HOW.out.frozen m
                obtain ⟨pi, pc⟩ := p
                simp only at yt
                by_cases hp : pc = 44
                case pos =>
                  have HB := Lib.hid (rn_bad HRN.out HX.out (by unfold stp; rw [if_neg (by simp only; omega), if_neg (by simp only; omega), if_pos (by simp only; exact e37)]; simp only; rw [if_pos hp]))
                  subst hp
                  subst e37
                  go_wp2_with fail
                  go_ret
                  exact ⟨ret_bool (nt_none HB.out (by have := HN.out; omega)), by repeat' (first | with_reducible assumption | with_reducible exact Below.refl _ _ | (with_reducible refine Below.setCell ?_ ?_ _) | (with_reducible refine Below.alloc ?_ ?_ _) | (with_reducible refine Below.drew ?_) | (with_reducible refine below_dr ?_ _) | (with_reducible refine Below.trans ?_ (Below.mono (by with_reducible assumption) ?_)) | omega | (simp; done) | (simp; omega))⟩
                case neg =>
                  have HS := Lib.hid (rn_good (s := r) HRN.out HX.out (by unfold stp; rw [if_neg (by simp only; omega), if_neg (by simp only; omega), if_pos (by simp only; exact e37)]; simp only; rw [if_neg hp]) (by have := (rn_inv HRN.out).1; simp only [List.length_cons] at *; omega))
                  have dp : (pc == 44) = false := beq_eq_false_iff_ne.2 hp
                  subst e37
                  have h6i : (m : Int) + 1 ≤ 6 := by omega
                  have h6j : (m : Int) ≤ 6 := by omega
                  have ow9 := HOW.out.pop
                  have HC9 := Lib.hid (show (cds ((pi, pc) :: r)).take m = cds r by rw [HMM.out]; exact cds_pop)
                  rw [HC9.out] at ow9
                  have HOW9 := Lib.hid ow9
                  clear ow9
                  have hmc : (m : Int) ≤ (c' : Int) := by omega
                  go_wp2_with fail
                  go_roundw
                  case rel => exact ⟨k + 1, m, _, _, r, by omega, by go_num, HMM.out, rfl, HS.out, HOW9.out, by repeat' (first | with_reducible assumption | with_reducible exact Below.refl _ _ | (with_reducible refine Below.setCell ?_ ?_ _) | (with_reducible refine Below.alloc ?_ ?_ _) | (with_reducible refine Below.drew ?_) | (with_reducible refine below_dr ?_ _) | (with_reducible refine Below.trans ?_ (Below.mono (by with_reducible assumption) ?_)) | omega | (simp; done) | (simp; omega))⟩
                  case measure => simp [intOf]; omega
            case neg =>
              have d37 : (x0 == 37) = false := beq_eq_false_iff_ne.2 e37
              by_cases e38 : x0 = 38
              case pos =>
                cases st with
                | nil =>
                  have HB := Lib.hid (rn_bad HRN.out HX.out (by unfold stp; rw [if_neg (by simp only; omega), if_neg (by simp only; omega), if_neg (by simp only; omega), if_pos (by simp only; exact e38)]))
                  obtain rfl : N = 0 := by rw [HNN.out]; rfl
                  subst e38
                  go_wp2_with fail
                  go_ret
                  exact ⟨ret_bool (nt_none HB.out (by have := HN.out; omega)), by repeat' (first | with_reducible assumption | with_reducible exact Below.refl _ _ | (with_reducible refine Below.setCell ?_ ?_ _) | (with_reducible refine Below.alloc ?_ ?_ _) | (with_reducible refine Below.drew ?_) | (with_reducible refine below_dr ?_ _) | (with_reducible refine Below.trans ?_ (Below.mono (by with_reducible assumption) ?_)) | omega | (simp; done) | (simp; omega))⟩
                | cons p r =>
                  obtain ⟨m, hm⟩ : ∃ m, m = r.length := ⟨_, rfl⟩
                  obtain rfl : N = m + 1 := by rw [HNN.out, hm]; rfl
                  have HMM := Lib.hid hm
                  obtain ⟨go, rfl, hgb, hgo, hcc, hcm⟩ := HOW.out.form (by omega)
                  have yt : wr.cell? ⟨go, m, none⟩ = some (.int .i64 p.2) := HOW.out.at_ (by rw [hm]; exact cds_top)
                  clear hm
                  have hw1 : IntKind.i64.wrap ((m : Int) + 1 - 1) = (m : Int) := by rw [show (m : Int) + 1 - 1 = (m : Int) by omega]; exact IntWalk.i64_in _ (by omega)
                  have hw2 : IntKind.i64.wrap (((m + 1 : Nat) : Int) - 1) = (m : Int) := by rw [show ((m + 1 : Nat) : Int) - 1 = (m : Int) by omega]; exact IntWalk.i64_in _ (by omega)
                  have hw3 : IntKind.i64.wrap (m : Int) = (m : Int) := IntWalk.i64_in _ (by omega)
                  have hmi : (m : Int) < (m : Int) + 1 := by omega
                  have hmz : (((m + 1 : Nat) : Int) == 0) = false := beq_eq_false_iff_ne.2 (by omega)
                  have hmz2 : (((m : Int) + 1) == 0) = false := beq_eq_false_iff_ne.2 (by omega)
                  have yf := HOW.out.frozen m
                  obtain ⟨pi, pc⟩ := p
                  simp only at yt
                  by_cases hp : pc = 44
                  case pos =>
                    have HS := Lib.hid (rn_good (s := r) HRN.out HX.out (by unfold stp; rw [if_neg (by simp only; omega), if_neg (by simp only; omega), if_neg (by simp only; omega), if_pos (by simp only; exact e38)]; simp only; rw [if_pos hp]) (by have := (rn_inv HRN.out).1; simp only [List.length_cons] at *; omega))
                    subst hp
                    subst e38
                    have h6i : (m : Int) + 1 ≤ 6 := by omega
                    have h6j : (m : Int) ≤ 6 := by omega
                    have ow9 := HOW.out.pop
                    have HC9 := Lib.hid (show (cds ((pi, (44 : Int)) :: r)).take m = cds r by rw [HMM.out]; exact cds_pop)
                    rw [HC9.out] at ow9
                    have HOW9 := Lib.hid ow9
                    clear ow9
                    have hmc : (m : Int) ≤ (c' : Int) := by omega
                    go_wp2_with fail
                    go_roundw
                    case rel => exact ⟨k + 1, m, _, _, r, by omega, by go_num, HMM.out, rfl, HS.out, HOW9.out, by repeat' (first | with_reducible assumption | with_reducible exact Below.refl _ _ | (with_reducible refine Below.setCell ?_ ?_ _) | (with_reducible refine Below.alloc ?_ ?_ _) | (with_reducible refine Below.drew ?_) | (with_reducible refine below_dr ?_ _) | (with_reducible refine Below.trans ?_ (Below.mono (by with_reducible assumption) ?_)) | omega | (simp; done) | (simp; omega))⟩
                    case measure => simp [intOf]; omega
                  case neg =>
                    have HB := Lib.hid (rn_bad HRN.out HX.out (by unfold stp; rw [if_neg (by simp only; omega), if_neg (by simp only; omega), if_neg (by simp only; omega), if_pos (by simp only; exact e38)]; simp only; rw [if_neg hp]))
                    have dp : (pc == 44) = false := beq_eq_false_iff_ne.2 hp
                    subst e38
                    go_wp2_with fail
                    go_ret
                    exact ⟨ret_bool (nt_none HB.out (by have := HN.out; omega)), by repeat' (first | with_reducible assumption | with_reducible exact Below.refl _ _ | (with_reducible refine Below.setCell ?_ ?_ _) | (with_reducible refine Below.alloc ?_ ?_ _) | (with_reducible refine Below.drew ?_) | (with_reducible refine below_dr ?_ _) | (with_reducible refine Below.trans ?_ (Below.mono (by with_reducible assumption) ?_)) | omega | (simp; done) | (simp; omega))⟩
              case neg =>
                have d38 : (x0 == 38) = false := beq_eq_false_iff_ne.2 e38
                have HS := Lib.hid (rn_good (s := st) HRN.out HX.out (by unfold stp; rw [if_neg (by simp only; omega), if_neg (by simp only; omega), if_neg (by simp only; omega), if_neg (by simp only; omega)]) (rn_inv HRN.out).1)
                have h6i : (N : Int) ≤ 6 := by omega
                go_wp2_with fail
                go_roundw
                case rel => exact ⟨k + 1, N, _, _, st, by omega, by go_num, HNN.out, rfl, HS.out, HOW.out, hbl⟩
                case measure => simp [intOf]; omega
end Go.Proofs.YtdikenapnncmfaaDoor
