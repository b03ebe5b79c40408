/- Walks: the partner of an instruction, the reference's side. -/
import Derived.Test.YtofaolbgjhpopaaPhb
namespace Go.Proofs.Ytofaolbgjhpopaa
open Go.RowKit
set_option linter.unusedVariables false
section
variable {l : List AHint} {k a : Nat} {st : St} {x : AHint}
theorem nx (h : ntB l = true) (hr : rn l k = some st) (hx : l[k]? = some x) : ∃ s, rn l (k + 1) = some s ∧ stp x.1 k st = some s := by
  have hk : k < l.length := (List.getElem?_eq_some_iff.1 hx).1
  obtain ⟨s, hs⟩ := rn_some (ntB_rn h) (show k + 1 ≤ l.length by omega)
  refine ⟨s, hs, ?_⟩
  rw [rn_succ hr hx] at hs
  exact (chk_some hs).1
theorem nx_push (h : ntB l = true) (hr : rn l k = some st) (hx : l[k]? = some x) (hc : x.1 = 35 ∨ x.1 = 44) : rn l (k + 1) = some ((k, x.1) :: st) := by
  obtain ⟨s, hs, h2⟩ := nx h hr hx
  unfold stp at h2
  rw [if_pos hc] at h2
  rw [hs, ← h2]
theorem nx_else (h : ntB l = true) (hr : rn l k = some st) (hx : l[k]? = some x) (hc : x.1 = 36) : ∃ (p : Nat × Int) (r : St), st = p :: r ∧ p.2 = 35 ∧ rn l (k + 1) = some ((k, 36) :: r) := by
  obtain ⟨s, hs, h2⟩ := nx h hr hx
  unfold stp at h2
  rw [if_neg (by rw [hc]; decide), if_pos hc] at h2
  cases st with
  | nil => cases h2
  | cons p r =>
    simp only at h2
    split at h2
    · rename_i h3; exact ⟨p, r, rfl, h3, by rw [hs, ← h2]⟩
    · cases h2
theorem nx_end (h : ntB l = true) (hr : rn l k = some st) (hx : l[k]? = some x) (hc : x.1 = 37) : ∃ (p : Nat × Int) (r : St), st = p :: r ∧ ¬ p.2 = 44 ∧ rn l (k + 1) = some r := by
  obtain ⟨s, hs, h2⟩ := nx h hr hx
  unfold stp at h2
  rw [if_neg (by rw [hc]; decide), if_neg (by rw [hc]; decide), if_pos hc] at h2
  cases st with
  | nil => cases h2
  | cons p r =>
    simp only at h2
    split at h2
    · cases h2
    · rename_i h3; exact ⟨p, r, rfl, h3, by rw [hs, ← h2]⟩
theorem nx_again (h : ntB l = true) (hr : rn l k = some st) (hx : l[k]? = some x) (hc : x.1 = 38) : ∃ (p : Nat × Int) (r : St), st = p :: r ∧ p.2 = 44 ∧ rn l (k + 1) = some r := by
  obtain ⟨s, hs, h2⟩ := nx h hr hx
  unfold stp at h2
  rw [if_neg (by rw [hc]; decide), if_neg (by rw [hc]; decide), if_neg (by rw [hc]; decide), if_pos hc] at h2
  cases st with
  | nil => cases h2
  | cons p r =>
    simp only at h2
    split at h2
    · rename_i h3; exact ⟨p, r, rfl, h3, by rw [hs, ← h2]⟩
    · cases h2
theorem nx_other (h : ntB l = true) (hr : rn l k = some st) (hx : l[k]? = some x) (h1 : ¬ x.1 = 35) (h2 : ¬ x.1 = 44) (h3 : ¬ x.1 = 36) (h4 : ¬ x.1 = 37) (h5 : ¬ x.1 = 38) : rn l (k + 1) = some st := by
  obtain ⟨s, hs, h6⟩ := nx h hr hx
  unfold stp at h6
  rw [if_neg (by intro h; rcases h with h | h; exact h1 h; exact h2 h), if_neg h3, if_neg h4, if_neg h5] at h6
  rw [hs, ← h6]
theorem rn_open (h : ntB l = true) (hx : l[a]? = some x) (ho : isOp x.1) : ∃ lo, rn l (a + 1) = some ((a, x.1) :: lo) := by
  have ha : a < l.length := (List.getElem?_eq_some_iff.1 hx).1
  obtain ⟨s, hs⟩ := rn_some (ntB_rn h) (show a ≤ l.length by omega)
  rcases ho with hc | hc | hc
  · exact ⟨s, nx_push h hs hx (.inl hc)⟩
  · obtain ⟨p, r, -, -, h2⟩ := nx_else h hs hx hc
    exact ⟨r, by rw [h2, hc]⟩
  · exact ⟨s, nx_push h hs hx (.inr hc)⟩
end
set_option maxRecDepth 100000 in
set_option maxHeartbeats 12800000 in
theorem l19Partner_any (l : List AHint) (A : Option Addr) (c a : Nat) (ca op : Int) (w : World) (hl : l.length ≤ 1048576) (hn : ntB l = true) (hx : l[a]? = some (ca, op)) (ho : isOp ca) (r : Rd cHint 2 w w.heap.size A l) :
    Calls Try.prog 56 #[.slice A l.length c, .int .i64 (a : Int)] w fun e w' => e = .returned (.int .i64 (ptV l a)) ∧ Below w.heap.size w w' := by
  have HNT := Lib.hid hn
  have HXA := Lib.hid hx
  have HOP := Lib.hid ho
  have han : a < l.length := (List.getElem?_eq_some_iff.1 hx).1
  obtain ⟨lo0, h0⟩ := rn_open hn hx ho
  obtain ⟨ga, oa, rfl, hga, hca⟩ := r.elem hx
  have ya : w.cell? ⟨ga, oa + a * 2, none⟩ = some (.int .i64 ca) := hca 0 _ rfl
  clear hca hn hx ho
  have HR := Lib.hid r
  clear r
  obtain ⟨n, hn⟩ : ∃ n, n = l.length := ⟨_, rfl⟩
  rw [← hn] at hl han ⊢
  have HN := Lib.hid hn
  clear hn
  have H0 := Lib.hid h0
  clear h0
  have hai : (a : Int) < (n : Int) := by omega
  have hw1 : IntKind.i64.wrap ((a : Int) + 1) = (a : Int) + 1 := IntWalk.i64_in _ (by omega)
  obtain ⟨R, hR⟩ : ∃ R, R = ptV l a := ⟨_, rfl⟩
  rw [← hR]
  have HRV := Lib.hid hR
  clear hR
  go_enter Try.func56, Try.ntmps56
  go_wp2_with fail
  go_loopw [5, 6] (fun dep i wr => ∃ (k d : Nat) (hi lo : St), a < k ∧ k ≤ n ∧ i = .int .i64 (k : Int) ∧ dep = .int .i64 (d : Int) ∧ d ≤ 6 ∧ hi.length = d ∧ rn l k = some (hi ++ (a, ca) :: lo) ∧ wr = w) (fun _ i _ => n - (intOf i).toNat)
  case atStart => exact ⟨a + 1, 0, [], lo0, by omega, by omega, by simp, rfl, by omega, rfl, H0.out, rfl⟩
  case round =>
    obtain ⟨k, d, hi, lo, hak, hk, rfl, rfl, hd6, hd, hrn, rfl⟩ := hrel
    have HRN := Lib.hid hrn
    have HD := Lib.hid hd
    clear hrn hd
    by_cases hlt : k < n
    case neg =>
      exfalso
      have h1 := HRN.out
      obtain rfl : k = n := by omega
      rw [HN.out, ntB_rn HNT.out] at h1
      have h2 := Option.some.inj h1
      simp at h2
    case pos =>
      obtain ⟨⟨x0, x1⟩, hx⟩ : ∃ x, l[k]? = some x := ⟨l[k]'(by have := HN.out; omega), List.getElem?_eq_getElem (by have := HN.out; omega)⟩
      obtain ⟨g', o', hgo, hg', hc⟩ := HR.out.elem hx
      obtain ⟨rfl, rfl⟩ : ga = g' ∧ oa = o' := by injection hgo with h; injection h with h1 h2; exact ⟨h1, h2⟩
      have y0 : wr.cell? ⟨ga, oa + k * 2, none⟩ = some (.int .i64 x0) := hc 0 _ rfl
      clear hc hgo
      have HX := Lib.hid hx
      clear hx
      have hki : (k : Int) < (n : Int) := by omega
      have hk1 : IntKind.i64.wrap ((k : Int) + 1) = (k : Int) + 1 := IntWalk.i64_in _ (by omega)
      have hd1 : IntKind.i64.wrap ((d : Int) + 1) = (d : Int) + 1 := IntWalk.i64_in _ (by omega)
      have hd2 : IntKind.i64.wrap ((d : Int) - 1) = (d : Int) - 1 := IntWalk.i64_in _ (by omega)
      by_cases e35 : x0 = 35
      case pos =>
        have HS := Lib.hid (show rn l (k + 1) = some (((k, x0) :: hi) ++ (a, ca) :: lo) from nx_push HNT.out HRN.out HX.out (by simp only; omega))
        have HL6 := Lib.hid (show ((k, x0) :: hi).length ≤ 6 by have h6 := (rn_inv HS.out).1; simp only [List.length_append, List.length_cons] at h6; (try simp only [List.length_cons]); omega)
        subst e35
        go_wp2_with fail
        go_roundw
        case rel => exact ⟨k + 1, d + 1, (k, 35) :: hi, lo, by omega, by omega, by go_num, by first | rfl | go_num | (congr 1; omega), by have h7 := HL6.out; have h8 := HD.out; (try simp only [List.length_cons] at h7); (try simp only [List.length_cons] at h8); omega, by have h8 := HD.out; (try simp only [List.length_cons] at h8); (try simp only [List.length_cons]); omega, HS.out, by first | rfl | trivial⟩
        case measure => simp [intOf]; omega
      case neg =>
        have d35 : (x0 == 35) = false := beq_eq_false_iff_ne.2 e35
        by_cases e44 : x0 = 44
        case pos =>
          have HS := Lib.hid (show rn l (k + 1) = some (((k, x0) :: hi) ++ (a, ca) :: lo) from nx_push HNT.out HRN.out HX.out (by simp only; omega))
          have HL6 := Lib.hid (show ((k, x0) :: hi).length ≤ 6 by have h6 := (rn_inv HS.out).1; simp only [List.length_append, List.length_cons] at h6; (try simp only [List.length_cons]); omega)
          subst e44
          go_wp2_with fail
          go_roundw
          case rel => exact ⟨k + 1, d + 1, (k, 44) :: hi, lo, by omega, by omega, by go_num, by first | rfl | go_num | (congr 1; omega), by have h7 := HL6.out; have h8 := HD.out; (try simp only [List.length_cons] at h7); (try simp only [List.length_cons] at h8); omega, by have h8 := HD.out; (try simp only [List.length_cons] at h8); (try simp only [List.length_cons]); omega, HS.out, by first | rfl | trivial⟩
          case measure => simp [intOf]; omega
        case neg =>
          have d44 : (x0 == 44) = false := beq_eq_false_iff_ne.2 e44
          by_cases e36 : x0 = 36
          case pos =>
            obtain ⟨p, r, hst, hp, hs⟩ := nx_else HNT.out HRN.out HX.out e36
            subst e36
            cases hi with
            | nil =>
              obtain ⟨rfl, rfl⟩ : (a, ca) = p ∧ lo = r := by simpa using hst
              simp only at hp
              subst hp
              have HT := Lib.hid (show rn l k = some ((a, 35) :: lo) from HRN.out)
              obtain rfl : d = 0 := by have := HD.out; simpa using this.symm
              clear hs hst
              have HE := Lib.hid (HRV.out.trans (pt_here HNT.out HT.out HX.out (.inl rfl)))
              go_wp2_with fail
              go_ret
              exact ⟨ret_i HE.out.symm, by repeat' (first | with_reducible assumption | with_reducible exact Below.refl _ _ | (with_reducible refine Below.setCell ?_ ?_ _) | (with_reducible refine Below.alloc ?_ ?_ _) | (with_reducible refine Below.drew ?_) | (with_reducible refine below_dr ?_ _) | (with_reducible refine Below.trans ?_ (Below.mono (by with_reducible assumption) ?_)) | omega | (simp; done) | (simp; omega))⟩
            | cons q0 hi =>
              obtain ⟨rfl, rfl⟩ : q0 = p ∧ hi ++ (a, ca) :: lo = r := by simpa using hst
              have HS := Lib.hid (show rn l (k + 1) = some (((k, 36) :: hi) ++ (a, ca) :: lo) from hs)
              have HL6 := Lib.hid (show ((k, (36 : Int)) :: hi).length ≤ 6 by have h6 := (rn_inv HS.out).1; simp only [List.length_append, List.length_cons] at h6; (try simp only [List.length_cons]); omega)
              have hdp : 0 < d := by have := HD.out; simp only [List.length_cons] at this; omega
              have hdz : ((d : Int) == 0) = false := beq_eq_false_iff_ne.2 (by omega)
              clear hs hst hp
              go_wp2_with fail
              go_roundw
              case rel => exact ⟨k + 1, d, (k, 36) :: hi, lo, by omega, by omega, by go_num, by first | rfl | go_num | (congr 1; omega), by have h7 := HL6.out; have h8 := HD.out; (try simp only [List.length_cons] at h7); (try simp only [List.length_cons] at h8); omega, by have h8 := HD.out; (try simp only [List.length_cons] at h8); (try simp only [List.length_cons]); omega, HS.out, by first | rfl | trivial⟩
              case measure => simp [intOf]; omega
          case neg =>
            have d36 : (x0 == 36) = false := beq_eq_false_iff_ne.2 e36
            by_cases e37 : x0 = 37
            case pos =>
              obtain ⟨p, r, hst, hp, hs⟩ := nx_end HNT.out HRN.out HX.out e37
              subst e37
              cases hi with
              | nil =>
                obtain ⟨rfl, rfl⟩ : (a, ca) = p ∧ lo = r := by simpa using hst
                simp only at hp
                have dca : (ca == 44) = false := beq_eq_false_iff_ne.2 hp
                have HT := Lib.hid (show rn l k = some ((a, ca) :: lo) from HRN.out)
                obtain rfl : d = 0 := by have := HD.out; simpa using this.symm
                clear hs hst
                have HE := Lib.hid (HRV.out.trans (pt_here HNT.out HT.out HX.out (.inr (.inl rfl))))
                go_wp2_with fail
                go_quiet (fail)
                go_wp2_with fail
                go_ret
                exact ⟨ret_i HE.out.symm, by repeat' (first | with_reducible assumption | with_reducible exact Below.refl _ _ | (with_reducible refine Below.setCell ?_ ?_ _) | (with_reducible refine Below.alloc ?_ ?_ _) | (with_reducible refine Below.drew ?_) | (with_reducible refine below_dr ?_ _) | (with_reducible refine Below.trans ?_ (Below.mono (by with_reducible assumption) ?_)) | omega | (simp; done) | (simp; omega))⟩
              | cons q0 hi =>
                obtain ⟨rfl, rfl⟩ : q0 = p ∧ hi ++ (a, ca) :: lo = r := by simpa using hst
                have HS := Lib.hid (show rn l (k + 1) = some (hi ++ (a, ca) :: lo) from hs)
                have HL6 := Lib.hid (show (hi).length ≤ 6 by have h6 := (rn_inv HS.out).1; simp only [List.length_append, List.length_cons] at h6; (try simp only [List.length_cons]); omega)
                have hdp : 0 < d := by have := HD.out; simp only [List.length_cons] at this; omega
                have hdz : ((d : Int) == 0) = false := beq_eq_false_iff_ne.2 (by omega)
                obtain ⟨d', rfl⟩ : ∃ d', d = d' + 1 := ⟨d - 1, by omega⟩
                have hd3 : IntKind.i64.wrap (((d' + 1 : Nat) : Int) - 1) = (d' : Int) := by rw [show ((d' + 1 : Nat) : Int) - 1 = (d' : Int) by omega]; exact IntWalk.i64_in _ (by omega)
                clear hs hst hp
                go_wp2_with fail
                go_roundw
                case rel => exact ⟨k + 1, d', hi, lo, by omega, by omega, by go_num, by first | rfl | go_num | (congr 1; omega), by have h7 := HL6.out; have h8 := HD.out; (try simp only [List.length_cons] at h7); (try simp only [List.length_cons] at h8); omega, by have h8 := HD.out; (try simp only [List.length_cons] at h8); (try simp only [List.length_cons]); omega, HS.out, by first | rfl | trivial⟩
                case measure => simp [intOf]; omega
            case neg =>
              have d37 : (x0 == 37) = false := beq_eq_false_iff_ne.2 e37
              by_cases e38 : x0 = 38
              case pos =>
                obtain ⟨p, r, hst, hp, hs⟩ := nx_again HNT.out HRN.out HX.out e38
                subst e38
                cases hi with
                | nil =>
                  obtain ⟨rfl, rfl⟩ : (a, ca) = p ∧ lo = r := by simpa using hst
                  simp only at hp
                  subst hp
                  have HT := Lib.hid (show rn l k = some ((a, 44) :: lo) from HRN.out)
                  obtain rfl : d = 0 := by have := HD.out; simpa using this.symm
                  clear hs hst
                  have HE := Lib.hid (HRV.out.trans (pt_here HNT.out HT.out HX.out (.inr (.inr rfl))))
                  go_wp2_with fail
                  go_quiet (fail)
                  go_wp2_with fail
                  go_ret
                  exact ⟨ret_i HE.out.symm, by repeat' (first | with_reducible assumption | with_reducible exact Below.refl _ _ | (with_reducible refine Below.setCell ?_ ?_ _) | (with_reducible refine Below.alloc ?_ ?_ _) | (with_reducible refine Below.drew ?_) | (with_reducible refine below_dr ?_ _) | (with_reducible refine Below.trans ?_ (Below.mono (by with_reducible assumption) ?_)) | omega | (simp; done) | (simp; omega))⟩
                | cons q0 hi =>
                  obtain ⟨rfl, rfl⟩ : q0 = p ∧ hi ++ (a, ca) :: lo = r := by simpa using hst
                  have HS := Lib.hid (show rn l (k + 1) = some (hi ++ (a, ca) :: lo) from hs)
                  have HL6 := Lib.hid (show (hi).length ≤ 6 by have h6 := (rn_inv HS.out).1; simp only [List.length_append, List.length_cons] at h6; (try simp only [List.length_cons]); omega)
                  have hdp : 0 < d := by have := HD.out; simp only [List.length_cons] at this; omega
                  have hdz : ((d : Int) == 0) = false := beq_eq_false_iff_ne.2 (by omega)
                  obtain ⟨d', rfl⟩ : ∃ d', d = d' + 1 := ⟨d - 1, by omega⟩
                  have hd3 : IntKind.i64.wrap (((d' + 1 : Nat) : Int) - 1) = (d' : Int) := by rw [show ((d' + 1 : Nat) : Int) - 1 = (d' : Int) by omega]; exact IntWalk.i64_in _ (by omega)
                  clear hs hst hp
                  go_wp2_with fail
                  go_roundw
                  case rel => exact ⟨k + 1, d', hi, lo, by omega, by omega, by go_num, by first | rfl | go_num | (congr 1; omega), by have h7 := HL6.out; have h8 := HD.out; (try simp only [List.length_cons] at h7); (try simp only [List.length_cons] at h8); omega, by have h8 := HD.out; (try simp only [List.length_cons] at h8); (try simp only [List.length_cons]); omega, HS.out, by first | rfl | trivial⟩
                  case measure => simp [intOf]; omega
              case neg =>
                have d38 : (x0 == 38) = false := beq_eq_false_iff_ne.2 e38
                have HS := Lib.hid (nx_other HNT.out HRN.out HX.out e35 e44 e36 e37 e38)
                have HL6 := Lib.hid (show (hi).length ≤ 6 by have h6 := (rn_inv HS.out).1; simp only [List.length_append, List.length_cons] at h6; (try simp only [List.length_cons]); omega)
                go_wp2_with fail
                go_roundw
                case rel => exact ⟨k + 1, d, hi, lo, by omega, by omega, by go_num, by first | rfl | go_num | (congr 1; omega), by have h7 := HL6.out; have h8 := HD.out; (try simp only [List.length_cons] at h7); (try simp only [List.length_cons] at h8); omega, by have h8 := HD.out; (try simp only [List.length_cons] at h8); (try simp only [List.length_cons]); omega, HS.out, by first | rfl | trivial⟩
                case measure => simp [intOf]; omega
end Go.Proofs.Ytofaolbgjhpopaa
