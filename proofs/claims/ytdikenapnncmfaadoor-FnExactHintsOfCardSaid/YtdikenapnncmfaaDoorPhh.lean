/- Walks: pairs of instructions, the program's side: one instruction after the other. -/
import Derived.Test.YtdikenapnncmfaaDoorPhg
namespace Go.Proofs.YtdikenapnncmfaaDoor
open Go.RowKit
set_option linter.unusedVariables false
/-- What stands in memory when k instructions have been taken. -/
def NS (w : World) (l : List AHint) (A0 : Option Addr) (c0 P B base k : Nat) (st : St) : Prop :=
  ∃ (A' : Option Addr) (c' : Nat), Blk w B 126 #[.slice A0 l.length c0, .slice (some ⟨P, 0, none⟩) l.length l.length, .slice A' st.length c'] ∧ Blk w P 2 (iArr (pr l k)) ∧ OwI 3 w base A' st.length c' (ixs st)
theorem st_codes {l : List AHint} {k : Nat} {st : St} (h : rn l k = some st) : ∀ p ∈ st, ∃ x, l[p.1]? = some x ∧ x.1 = p.2 := fun p hp => ((rn_inv h).2.1 p hp).2.1
theorem reads_codes (w : World) (a : Int) (t : TypeId) : Rd cInt 1 (w.alloc (.cells #[.int .i64 a] t)) (w.alloc (.cells #[.int .i64 a] t)).heap.size (some ⟨w.heap.size, 0, none⟩) [a] := by
  refine .inr ⟨w.heap.size, 0, rfl, by simp, fun k x hx i u hu => ?_⟩
  have hk : k = 0 := by have := (List.getElem?_eq_some_iff.1 hx).1; simp at this; exact this
  subst hk
  obtain rfl : a = x := by simpa using hx
  cases i with
  | zero =>
    obtain rfl : Value.int .i64 a = u := by simpa [cInt] using hu
    simp [go_sem]
  | succ i => simp [cInt] at hu
theorem reads_codes2 (w : World) (a b : Int) (t : TypeId) : Rd cInt 1 (w.alloc (.cells #[.int .i64 a, .int .i64 b] t)) (w.alloc (.cells #[.int .i64 a, .int .i64 b] t)).heap.size (some ⟨w.heap.size, 0, none⟩) [a, b] := by
  refine .inr ⟨w.heap.size, 0, rfl, by simp, fun k x hx i u hu => ?_⟩
  have hi : i = 0 := by
    cases i with
    | zero => rfl
    | succ i => simp [cInt] at hu
  subst hi
  obtain rfl : Value.int .i64 x = u := by simpa [cInt] using hu
  have hk : k = 0 ∨ k = 1 := by have := (List.getElem?_eq_some_iff.1 hx).1; simp at this; omega
  rcases hk with rfl | rfl
  · obtain rfl : a = x := by simpa using hx
    simp [go_sem]
  · obtain rfl : b = x := by simpa using hx
    simp [go_sem]
theorem end_bad {l : List AHint} {A0 Cb : Option Addr} {c0 P B base k cc : Nat} {st : St} {cl : List Int} {w : World} (ns : NS w l A0 c0 P B base k st) (hr : rn l k = some st) (rl : Rd cHint 2 w P A0 l) (rc : Rd cInt 1 w w.heap.size Cb cl) (hPB : P < B) (hB : B < base) (hbs : base ≤ w.heap.size) (hk : k ≤ l.length) (hn2 : l.length ≤ 1048576) (hcl : cl.length ≤ 1048576) (h : st = [] ∨ ∃ p r, st = p :: r ∧ ¬ p.2 ∈ cl) :
    Calls Tryd.prog 119 #[.pointer (some ⟨B, 0, none⟩), .int .i64 (k : Int), .slice Cb cl.length cc] w fun e w' => e = .returned (.bool false) ∧ Below P w w' := by
  obtain ⟨A', c', bk, pk, ow⟩ := ns
  rcases h with h | ⟨p, r, h, hno⟩
  · exact end_nil l A0 A' Cb l.length c0 P st.length c' B base k cc st (pr l k) cl w bk pk ow rl rc hPB hB hbs rfl rfl (pr_len k) hn2 (rn_inv hr).1 hcl (by omega) (st_codes hr) h
  · exact end_no l A0 A' Cb l.length c0 P st.length c' B base k cc st (pr l k) cl w bk pk ow rl rc hPB hB hbs rfl rfl (pr_len k) hn2 (rn_inv hr).1 hcl (by omega) (st_codes hr) (by rw [h]; exact List.cons_ne_nil _ _) (fun p2 r2 h2 => by rw [h] at h2; injection h2 with e1 e2; subst e1; exact hno)
theorem end_good {l : List AHint} {A0 Cb : Option Addr} {c0 P B base k cc : Nat} {st : St} {cl : List Int} {w : World} (ns : NS w l A0 c0 P B base k st) (hr : rn l k = some st) (rl : Rd cHint 2 w P A0 l) (rc : Rd cInt 1 w w.heap.size Cb cl) (hPB : P < B) (hB : B < base) (hbs : base ≤ w.heap.size) (hk : k ≤ l.length) (hn2 : l.length ≤ 1048576) (hcl : cl.length ≤ 1048576) {pj : Nat} {pc : Int} {r : St} (h : st = (pj, pc) :: r) (hy : pc ∈ cl) :
    Calls Tryd.prog 119 #[.pointer (some ⟨B, 0, none⟩), .int .i64 (k : Int), .slice Cb cl.length cc] w fun e w' => ∃ (A2 : Option Addr) (c2 : Nat), e = .returned (.bool true) ∧ Blk w' B 126 #[.slice A0 l.length c0, .slice (some ⟨P, 0, none⟩) l.length l.length, .slice A2 r.length c2] ∧ Blk w' P 2 (iArr ((pr l k).set pj (k : Int))) ∧ OwI 3 w' base A2 r.length c2 (ixs r) ∧ Below P w w' := by
  obtain ⟨A', c', bk, pk, ow⟩ := ns
  exact end_yes l A0 A' Cb l.length c0 P st.length c' B base k cc st (pr l k) cl w bk pk ow rl rc hPB hB hbs rfl rfl (pr_len k) hn2 (rn_inv hr).1 hcl (by omega) (st_codes hr) pj pc r h hy
set_option maxRecDepth 100000 in
set_option maxHeartbeats 12800000 in
theorem take_any (l : List AHint) (A0 : Option Addr) (c0 P B base k : Nat) (st : St) (w : World) (ns : NS w l A0 c0 P B base k st) (hr : rn l k = some st) (rl : Rd cHint 2 w P A0 l) (hPB : P < B) (hB : B < base) (hbs : base ≤ w.heap.size) (hk : k < l.length) (hn2 : l.length ≤ 1048576) :
    Calls Tryd.prog 96 #[.pointer (some ⟨B, 0, none⟩), .int .i64 (k : Int)] w fun e w' => Below P w w' ∧ ((rn l (k + 1) = none ∧ e = .returned (.bool false)) ∨ ∃ s, rn l (k + 1) = some s ∧ e = .returned (.bool true) ∧ NS w' l A0 c0 P B base (k + 1) s) := by
  obtain ⟨⟨x0, x1⟩, hx⟩ : ∃ x, l[k]? = some x := ⟨l[k]'hk, List.getElem?_eq_getElem hk⟩
  have NS0 := Lib.hid ns
  have RL := Lib.hid rl
  obtain ⟨g, o, rfl, hg, hc⟩ := rl.elem hx
  have yl : w.cell? ⟨g, o + k * 2, none⟩ = some (.int .i64 x0) := hc 0 _ rfl
  clear hc rl
  obtain ⟨A', c', bk, pk, ow⟩ := ns
  have y0 : w.cell? ⟨B, 0, none⟩ = some (.slice (some ⟨g, o, none⟩) l.length c0) := bk.cell 0 rfl
  have lB := bk.lt
  have lP := pk.lt
  have HR := Lib.hid hr
  have HX := Lib.hid hx
  have h6 := (rn_inv hr).1
  have BK := Lib.hid bk
  have PK := Lib.hid pk
  have OW := Lib.hid ow
  clear bk pk ow hr hx
  have hki : (k : Int) < (l.length : Int) := by omega
  have hgw : g < w.heap.size := by omega
  obtain ⟨n, hn⟩ : ∃ n, n = l.length := ⟨_, rfl⟩
  have HN := Lib.hid hn
  clear hn
  rw [← HN.out] at y0 hki
  by_cases e35 : x0 = 35
  case pos =>
    have HP := Lib.hid (rn_push HR.out HX.out (by simp only; omega))
    have HPR := Lib.hid (show pr l (k + 1) = pr l k by rw [pr_succ HR.out HX.out]; unfold pstp; rw [if_neg (by simp only; omega)])
    subst e35
    have CB := Lib.hid (begin_any (some ⟨g, o, none⟩) A' l.length c0 P st.length c' B base k (ixs st) w BK.out OW.out hB hbs h6)
    go_enter Tryd.func96, Tryd.ntmps96
    go_wp2_with fail
    refine (CB.out).mono ?_
    intro e w1 hq
    obtain ⟨A2, c2, rfl, k1, o1, b1⟩ := hq
    have bP : Below P w w1 := b1.mono (by omega)
    have p1 := PK.out
    have p1' : Blk w1 P 2 (iArr (pr l k)) := (b1.block P hPB).trans p1
    have HK1 := Lib.hid k1
    have HO1 := Lib.hid o1
    have HP1 := Lib.hid p1'
    clear k1 o1 p1 p1'
    by_cases h7 : st.length + 1 ≤ 6
    case pos =>
      have HS := Lib.hid (show rn l (k + 1) = some ((k, 35) :: st) by have h := HP.out; rw [if_pos h7] at h; exact h)
      have e7 : decide (st.length + 1 ≤ 6) = true := decide_eq_true h7
      rw [e7]
      go_wp2_with fail
      go_ret
      refine ⟨bP, .inr ⟨_, HS.out, rfl, A2, c2, HK1.out, by rw [HPR.out]; exact HP1.out, by rw [ixs_push]; exact HO1.out⟩⟩
    case neg =>
      have HS := Lib.hid (show rn l (k + 1) = none by have h := HP.out; rw [if_neg h7] at h; exact h)
      have e7 : decide (st.length + 1 ≤ 6) = false := decide_eq_false h7
      rw [e7]
      go_wp2_with fail
      go_ret
      exact ⟨bP, .inl ⟨HS.out, rfl⟩⟩
  case neg =>
    have d35 : (x0 == 35) = false := beq_eq_false_iff_ne.2 e35
    by_cases e44 : x0 = 44
    case pos =>
      have HP := Lib.hid (rn_push HR.out HX.out (by simp only; omega))
      have HPR := Lib.hid (show pr l (k + 1) = pr l k by rw [pr_succ HR.out HX.out]; unfold pstp; rw [if_neg (by simp only; omega)])
      subst e44
      have CB := Lib.hid (begin_any (some ⟨g, o, none⟩) A' l.length c0 P st.length c' B base k (ixs st) w BK.out OW.out hB hbs h6)
      go_enter Tryd.func96, Tryd.ntmps96
      go_wp2_with fail
      refine (CB.out).mono ?_
      intro e w1 hq
      obtain ⟨A2, c2, rfl, k1, o1, b1⟩ := hq
      have bP : Below P w w1 := b1.mono (by omega)
      have p1 := PK.out
      have p1' : Blk w1 P 2 (iArr (pr l k)) := (b1.block P hPB).trans p1
      have HK1 := Lib.hid k1
      have HO1 := Lib.hid o1
      have HP1 := Lib.hid p1'
      clear k1 o1 p1 p1'
      by_cases h7 : st.length + 1 ≤ 6
      case pos =>
        have HS := Lib.hid (show rn l (k + 1) = some ((k, 44) :: st) by have h := HP.out; rw [if_pos h7] at h; exact h)
        have e7 : decide (st.length + 1 ≤ 6) = true := decide_eq_true h7
        rw [e7]
        go_wp2_with fail
        go_ret
        refine ⟨bP, .inr ⟨_, HS.out, rfl, A2, c2, HK1.out, by rw [HPR.out]; exact HP1.out, by rw [ixs_push]; exact HO1.out⟩⟩
      case neg =>
        have HS := Lib.hid (show rn l (k + 1) = none by have h := HP.out; rw [if_neg h7] at h; exact h)
        have e7 : decide (st.length + 1 ≤ 6) = false := decide_eq_false h7
        rw [e7]
        go_wp2_with fail
        go_ret
        exact ⟨bP, .inl ⟨HS.out, rfl⟩⟩
    case neg =>
      have d44 : (x0 == 44) = false := beq_eq_false_iff_ne.2 e44
      by_cases e36 : x0 = 36
      case pos =>
        have hgood : ∀ (pj : Nat) (pc : Int) (r : St), st = (pj, pc) :: r → (pc ∈ ([35] : List Int) ↔ pc = 35) := fun pj pc r h => by simp
        by_cases hok : ∃ pj pc r, st = (pj, pc) :: r ∧ pc ∈ ([35] : List Int)
        case neg =>
          have HB := Lib.hid (show rn l (k + 1) = none from rn_bad HR.out HX.out (by
            unfold stp; rw [if_neg (by simp only; omega), if_pos (by simp only; exact e36)]
            cases hst : st with
            | nil => rfl
            | cons p r =>
              simp only
              have hop := ((rn_inv HR.out).2.1 p (by rw [hst]; exact List.mem_cons_self)).2.2
              obtain ⟨pj, pc⟩ := p
              have hni : ¬ pc ∈ ([35] : List Int) := fun hm => hok ⟨pj, pc, r, hst, hm⟩
              simp only [List.mem_cons, List.not_mem_nil, or_false] at hni
              unfold isOp at hop
              simp only at hop ⊢
              rw [if_neg hni]))
          have ns1 : NS (w.alloc (.cells #[.int .i64 35] 2)) l (some ⟨g, o, none⟩) c0 P B base k st := ⟨A', c', BK.out.alloc _, PK.out.alloc _, OW.out.alloc _⟩
          have rl1 : Rd cHint 2 (w.alloc (.cells #[.int .i64 35] 2)) P (some ⟨g, o, none⟩) l := Rd.keep RL.out (fun p hp => ((Below.refl w.heap.size w).alloc (Nat.le_refl _) _).cell (Nat.lt_trans hp lP))
          have bW : Below P w (w.alloc (.cells #[.int .i64 35] 2)) := (Below.refl P w).alloc (by omega) _
          have zW : w.heap.size < (w.alloc (.cells #[.int .i64 35] 2)).heap.size := by simp
          have CE := Lib.hid (end_bad (cc := 1) ns1 HR.out rl1 (reads_codes w 35 2) hPB hB (by omega) (by omega) hn2 (by simp) (by
            cases hst : st with
            | nil => exact .inl rfl
            | cons p r => exact .inr ⟨p, r, rfl, fun hm => hok ⟨p.1, p.2, r, hst, hm⟩⟩))
          clear ns1 rl1 hok hgood
          subst e36
          go_enter Tryd.func96, Tryd.ntmps96
          go_wp2_with fail
          refine (CE.out).mono ?_
          rintro e w1 ⟨rfl, b1⟩
          have bP : Below P w w1 := bW.trans b1
          go_wp2_with fail
          go_ret
          exact ⟨bP, .inl ⟨HB.out, rfl⟩⟩
        case pos =>
          obtain ⟨pj, pc, r, hst, hm⟩ := hok
          have hpc := (hgood pj pc r hst).1 hm
          have ns1 : NS (w.alloc (.cells #[.int .i64 35] 2)) l (some ⟨g, o, none⟩) c0 P B base k st := ⟨A', c', BK.out.alloc _, PK.out.alloc _, OW.out.alloc _⟩
          have rl1 : Rd cHint 2 (w.alloc (.cells #[.int .i64 35] 2)) P (some ⟨g, o, none⟩) l := Rd.keep RL.out (fun p hp => ((Below.refl w.heap.size w).alloc (Nat.le_refl _) _).cell (Nat.lt_trans hp lP))
          have bW : Below P w (w.alloc (.cells #[.int .i64 35] 2)) := (Below.refl P w).alloc (by omega) _
          have zW : w.heap.size < (w.alloc (.cells #[.int .i64 35] 2)).heap.size := by simp
          have CE := Lib.hid (end_good (cc := 1) ns1 HR.out rl1 (reads_codes w 35 2) hPB hB (by omega) (by omega) hn2 (by simp) hst hm)
          have hlr : r.length + 1 ≤ 6 := by have := h6; rw [hst] at this; exact this
          have HPR := Lib.hid (show pr l (k + 1) = (pr l k).set pj (k : Int) by rw [pr_succ HR.out HX.out]; unfold pstp; rw [if_pos (by simp only; omega), hst])
          have HS := Lib.hid (show rn l (k + 1) = some ((k, 36) :: r) from rn_good HR.out HX.out (by unfold stp; rw [if_neg (by simp only; omega), if_pos (by simp only; exact e36)]; rw [hst]; simp only; rw [if_pos hpc]) (by simpa using hlr))
          clear ns1 rl1 hgood
          subst e36
          go_enter Tryd.func96, Tryd.ntmps96
          go_wp2_with fail
          refine (CE.out).mono ?_
          intro e w1 hq
          obtain ⟨A2, c2, rfl, k1, p1, o1, b1⟩ := hq
          have bP : Below P w w1 := bW.trans b1
          have z1 := bP.size
          have HK1 := Lib.hid k1
          have HP1 := Lib.hid p1
          have HO1 := Lib.hid o1
          have CB := Lib.hid (begin_any (some ⟨g, o, none⟩) A2 l.length c0 P r.length c2 B base k (ixs r) w1 k1 o1 hB (by omega) (by omega))
          rw [decide_eq_true hlr] at CB
          clear k1 p1 o1
          go_wp2_with fail
          refine (CB.out).mono ?_
          intro e w2 hq
          obtain ⟨A3, c3, rfl, k2, o2, b2⟩ := hq
          have p2 : Blk w2 P 2 (iArr ((pr l k).set pj (k : Int))) := (b2.block P hPB).trans HP1.out
          have HK2 := Lib.hid k2
          have HO2 := Lib.hid o2
          have HP2 := Lib.hid p2
          clear k2 o2 p2
          have bP2 : Below P w w2 := bP.trans (b2.mono (by omega))
          go_wp2_with fail
          go_ret
          exact ⟨bP2, .inr ⟨_, HS.out, rfl, A3, c3, HK2.out, by rw [HPR.out]; exact HP2.out, by rw [ixs_push]; exact HO2.out⟩⟩
      case neg =>
        have d36 : (x0 == 36) = false := beq_eq_false_iff_ne.2 e36
        by_cases e37 : x0 = 37
        case pos =>
          have hgood : ∀ (pj : Nat) (pc : Int) (r : St), st = (pj, pc) :: r → (pc ∈ ([35, 36] : List Int) ↔ pc = 35 ∨ pc = 36) := fun pj pc r h => by simp
          by_cases hok : ∃ pj pc r, st = (pj, pc) :: r ∧ pc ∈ ([35, 36] : List Int)
          case neg =>
            have HB := Lib.hid (show rn l (k + 1) = none from rn_bad HR.out HX.out (by
              unfold stp; rw [if_neg (by simp only; omega), if_neg (by simp only; omega), if_pos (by simp only; exact e37)]
              cases hst : st with
              | nil => rfl
              | cons p r =>
                simp only
                have hop := ((rn_inv HR.out).2.1 p (by rw [hst]; exact List.mem_cons_self)).2.2
                obtain ⟨pj, pc⟩ := p
                have hni : ¬ pc ∈ ([35, 36] : List Int) := fun hm => hok ⟨pj, pc, r, hst, hm⟩
                simp only [List.mem_cons, List.not_mem_nil, or_false] at hni
                unfold isOp at hop
                simp only at hop ⊢
                rw [if_pos (by rcases hop with h | h | h; exact absurd (.inl h) hni; exact absurd (.inr h) hni; exact h)]))
            have ns1 : NS (w.alloc (.cells #[.int .i64 35, .int .i64 36] 2)) l (some ⟨g, o, none⟩) c0 P B base k st := ⟨A', c', BK.out.alloc _, PK.out.alloc _, OW.out.alloc _⟩
            have rl1 : Rd cHint 2 (w.alloc (.cells #[.int .i64 35, .int .i64 36] 2)) P (some ⟨g, o, none⟩) l := Rd.keep RL.out (fun p hp => ((Below.refl w.heap.size w).alloc (Nat.le_refl _) _).cell (Nat.lt_trans hp lP))
            have bW : Below P w (w.alloc (.cells #[.int .i64 35, .int .i64 36] 2)) := (Below.refl P w).alloc (by omega) _
            have zW : w.heap.size < (w.alloc (.cells #[.int .i64 35, .int .i64 36] 2)).heap.size := by simp
            have CE := Lib.hid (end_bad (cc := 2) ns1 HR.out rl1 (reads_codes2 w 35 36 2) hPB hB (by omega) (by omega) hn2 (by simp) (by
              cases hst : st with
              | nil => exact .inl rfl
              | cons p r => exact .inr ⟨p, r, rfl, fun hm => hok ⟨p.1, p.2, r, hst, hm⟩⟩))
            clear ns1 rl1 hok hgood
            subst e37
            go_enter Tryd.func96, Tryd.ntmps96
            go_wp2_with fail
            refine (CE.out).mono ?_
            rintro e w1 ⟨rfl, b1⟩
            have bP : Below P w w1 := bW.trans b1
            go_wp2_with fail
            go_ret
            exact ⟨bP, .inl ⟨HB.out, rfl⟩⟩
          case pos =>
            obtain ⟨pj, pc, r, hst, hm⟩ := hok
            have hpc := (hgood pj pc r hst).1 hm
            have ns1 : NS (w.alloc (.cells #[.int .i64 35, .int .i64 36] 2)) l (some ⟨g, o, none⟩) c0 P B base k st := ⟨A', c', BK.out.alloc _, PK.out.alloc _, OW.out.alloc _⟩
            have rl1 : Rd cHint 2 (w.alloc (.cells #[.int .i64 35, .int .i64 36] 2)) P (some ⟨g, o, none⟩) l := Rd.keep RL.out (fun p hp => ((Below.refl w.heap.size w).alloc (Nat.le_refl _) _).cell (Nat.lt_trans hp lP))
            have bW : Below P w (w.alloc (.cells #[.int .i64 35, .int .i64 36] 2)) := (Below.refl P w).alloc (by omega) _
            have zW : w.heap.size < (w.alloc (.cells #[.int .i64 35, .int .i64 36] 2)).heap.size := by simp
            have CE := Lib.hid (end_good (cc := 2) ns1 HR.out rl1 (reads_codes2 w 35 36 2) hPB hB (by omega) (by omega) hn2 (by simp) hst hm)
            have hlr : r.length + 1 ≤ 6 := by have := h6; rw [hst] at this; exact this
            have HPR := Lib.hid (show pr l (k + 1) = (pr l k).set pj (k : Int) by rw [pr_succ HR.out HX.out]; unfold pstp; rw [if_pos (by simp only; omega), hst])
            have HS := Lib.hid (show rn l (k + 1) = some r from rn_good HR.out HX.out (by unfold stp; rw [if_neg (by simp only; omega), if_neg (by simp only; omega), if_pos (by simp only; exact e37)]; rw [hst]; simp only; rw [if_neg (by omega)]) (by omega))
            clear ns1 rl1 hgood
            subst e37
            go_enter Tryd.func96, Tryd.ntmps96
            go_wp2_with fail
            refine (CE.out).mono ?_
            intro e w1 hq
            obtain ⟨A2, c2, rfl, k1, p1, o1, b1⟩ := hq
            have bP : Below P w w1 := bW.trans b1
            have z1 := bP.size
            have HK1 := Lib.hid k1
            have HP1 := Lib.hid p1
            have HO1 := Lib.hid o1
            clear k1 p1 o1
            go_wp2_with fail
            go_ret
            exact ⟨bP, .inr ⟨_, HS.out, rfl, A2, c2, HK1.out, by rw [HPR.out]; exact HP1.out, HO1.out⟩⟩
        case neg =>
          have d37 : (x0 == 37) = false := beq_eq_false_iff_ne.2 e37
          by_cases e38 : x0 = 38
          case pos =>
            have hgood : ∀ (pj : Nat) (pc : Int) (r : St), st = (pj, pc) :: r → (pc ∈ ([44] : List Int) ↔ pc = 44) := fun pj pc r h => by simp
            by_cases hok : ∃ pj pc r, st = (pj, pc) :: r ∧ pc ∈ ([44] : List Int)
            case neg =>
              have HB := Lib.hid (show rn l (k + 1) = none from rn_bad HR.out HX.out (by
                unfold stp; rw [if_neg (by simp only; omega), if_neg (by simp only; omega), if_neg (by simp only; omega), if_pos (by simp only; exact e38)]
                cases hst : st with
                | nil => rfl
                | cons p r =>
                  simp only
                  have hop := ((rn_inv HR.out).2.1 p (by rw [hst]; exact List.mem_cons_self)).2.2
                  obtain ⟨pj, pc⟩ := p
                  have hni : ¬ pc ∈ ([44] : List Int) := fun hm => hok ⟨pj, pc, r, hst, hm⟩
                  simp only [List.mem_cons, List.not_mem_nil, or_false] at hni
                  unfold isOp at hop
                  simp only at hop ⊢
                  rw [if_neg hni]))
              have ns1 : NS (w.alloc (.cells #[.int .i64 44] 2)) l (some ⟨g, o, none⟩) c0 P B base k st := ⟨A', c', BK.out.alloc _, PK.out.alloc _, OW.out.alloc _⟩
              have rl1 : Rd cHint 2 (w.alloc (.cells #[.int .i64 44] 2)) P (some ⟨g, o, none⟩) l := Rd.keep RL.out (fun p hp => ((Below.refl w.heap.size w).alloc (Nat.le_refl _) _).cell (Nat.lt_trans hp lP))
              have bW : Below P w (w.alloc (.cells #[.int .i64 44] 2)) := (Below.refl P w).alloc (by omega) _
              have zW : w.heap.size < (w.alloc (.cells #[.int .i64 44] 2)).heap.size := by simp
              have CE := Lib.hid (end_bad (cc := 1) ns1 HR.out rl1 (reads_codes w 44 2) hPB hB (by omega) (by omega) hn2 (by simp) (by
                cases hst : st with
                | nil => exact .inl rfl
                | cons p r => exact .inr ⟨p, r, rfl, fun hm => hok ⟨p.1, p.2, r, hst, hm⟩⟩))
              clear ns1 rl1 hok hgood
              subst e38
              go_enter Tryd.func96, Tryd.ntmps96
              go_wp2_with fail
              refine (CE.out).mono ?_
              rintro e w1 ⟨rfl, b1⟩
              have bP : Below P w w1 := bW.trans b1
              go_wp2_with fail
              go_ret
              exact ⟨bP, .inl ⟨HB.out, rfl⟩⟩
            case pos =>
              obtain ⟨pj, pc, r, hst, hm⟩ := hok
              have hpc := (hgood pj pc r hst).1 hm
              have ns1 : NS (w.alloc (.cells #[.int .i64 44] 2)) l (some ⟨g, o, none⟩) c0 P B base k st := ⟨A', c', BK.out.alloc _, PK.out.alloc _, OW.out.alloc _⟩
              have rl1 : Rd cHint 2 (w.alloc (.cells #[.int .i64 44] 2)) P (some ⟨g, o, none⟩) l := Rd.keep RL.out (fun p hp => ((Below.refl w.heap.size w).alloc (Nat.le_refl _) _).cell (Nat.lt_trans hp lP))
              have bW : Below P w (w.alloc (.cells #[.int .i64 44] 2)) := (Below.refl P w).alloc (by omega) _
              have zW : w.heap.size < (w.alloc (.cells #[.int .i64 44] 2)).heap.size := by simp
              have CE := Lib.hid (end_good (cc := 1) ns1 HR.out rl1 (reads_codes w 44 2) hPB hB (by omega) (by omega) hn2 (by simp) hst hm)
              have hlr : r.length + 1 ≤ 6 := by have := h6; rw [hst] at this; exact this
              have HPR := Lib.hid (show pr l (k + 1) = (pr l k).set pj (k : Int) by rw [pr_succ HR.out HX.out]; unfold pstp; rw [if_pos (by simp only; omega), hst])
              have HS := Lib.hid (show rn l (k + 1) = some r from rn_good HR.out HX.out (by unfold stp; rw [if_neg (by simp only; omega), if_neg (by simp only; omega), if_neg (by simp only; omega), if_pos (by simp only; exact e38)]; rw [hst]; simp only; rw [if_pos hpc]) (by omega))
              clear ns1 rl1 hgood
              subst e38
              go_enter Tryd.func96, Tryd.ntmps96
              go_wp2_with fail
              refine (CE.out).mono ?_
              intro e w1 hq
              obtain ⟨A2, c2, rfl, k1, p1, o1, b1⟩ := hq
              have bP : Below P w w1 := bW.trans b1
              have z1 := bP.size
              have HK1 := Lib.hid k1
              have HP1 := Lib.hid p1
              have HO1 := Lib.hid o1
              clear k1 p1 o1
              go_wp2_with fail
              go_ret
              exact ⟨bP, .inr ⟨_, HS.out, rfl, A2, c2, HK1.out, by rw [HPR.out]; exact HP1.out, HO1.out⟩⟩
          case neg =>
            have d38 : (x0 == 38) = false := beq_eq_false_iff_ne.2 e38
            have HS := Lib.hid (rn_good (s := st) HR.out HX.out (by unfold stp; rw [if_neg (by simp only; omega), if_neg (by simp only; omega), if_neg (by simp only; omega), if_neg (by simp only; omega)]) h6)
            have HPR := Lib.hid (show pr l (k + 1) = pr l k by rw [pr_succ HR.out HX.out]; unfold pstp; rw [if_neg (by simp only; omega)])
            go_enter Tryd.func96, Tryd.ntmps96
            go_wp2_with fail
            go_ret
            exact ⟨Below.refl _ _, .inr ⟨_, HS.out, rfl, A', c', BK.out, by rw [HPR.out]; exact PK.out, OW.out⟩⟩
end Go.Proofs.YtdikenapnncmfaaDoor
