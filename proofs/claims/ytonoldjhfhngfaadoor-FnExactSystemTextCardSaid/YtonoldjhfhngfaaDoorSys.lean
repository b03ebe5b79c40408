/- Walks: the law on ValidSystem: the program's side; the law. -/
import Derived.Test.YtonoldjhfhngfaaDoorSyr
import Derived.Test.YtonoldjhfhngfaaDoorSy5
namespace Go.Proofs.YtonoldjhfhngfaaDoor
open Go.RowKit Go.Maps
set_option linter.unusedVariables false
set_option maxRecDepth 100000 in
set_option maxHeartbeats 12800000 in
theorem implValidSystem_any (A : Option Addr) (c : Nat) (l : List DSRow) (w : World) (h : totSystem l ≤ 1048576) (hok : okS l) (r : Row RvSRow 4 w w.heap.size A l) :
    Calls Tryd.prog 22 #[.agg #[.slice A l.length c]] w fun e w' => e = .returned (.bool (vSys l)) ∧ Below w.heap.size w w' := by
  have CO := Lib.hid (fun w1 r => occurring_any l A c w1 h hok r)
  have HT := Lib.hid (show totRow totSRow l ≤ 1048576 from h)
  have hl : l.length ≤ 1048576 := Nat.le_trans (totRow_len totSRow l) h
  have HOK := Lib.hid hok
  clear h hok
  obtain ⟨n, hn⟩ : ∃ n, n = l.length := ⟨_, rfl⟩
  rw [← hn] at hl CO ⊢
  have HN := Lib.hid hn
  clear hn
  have HR := Lib.hid r
  clear r
  by_cases h24 : 24 < n
  case pos =>
    have HE := Lib.hid (vSys_len (l := l) (by rw [← HN.out]; exact h24))
    have hq : (24 : Int) < (n : Int) := by omega
    go_enter Tryd.func22, Tryd.ntmps22
    go_wp2_with fail
    go_ret
    exact ⟨ret_bool HE.out, by repeat' (first | with_reducible assumption | with_reducible exact Below.refl _ _ | (with_reducible refine Below.setCell ?_ ?_ _) | (with_reducible refine Below.alloc ?_ ?_ _) | (with_reducible refine Below.drew ?_) | (with_reducible refine below_dr ?_ _) | (with_reducible refine Below.trans ?_ (Below.mono (by with_reducible assumption) ?_)) | omega | (simp; done) | (simp; omega))⟩
  case neg =>
    have hq : (n : Int) ≤ 24 := by omega
    go_enter Tryd.func22, Tryd.ntmps22
    go_wp2_with fail
    generalize hW : w.alloc (.cells #[.slice A n c] 32) = W0
    have hb0 : Below w.heap.size w W0 := by rw [← hW]; repeat' (first | with_reducible assumption | with_reducible exact Below.refl _ _ | (with_reducible refine Below.setCell ?_ ?_ _) | (with_reducible refine Below.alloc ?_ ?_ _) | (with_reducible refine Below.drew ?_) | (with_reducible refine below_dr ?_ _) | (with_reducible refine Below.trans ?_ (Below.mono (by with_reducible assumption) ?_)) | omega | (simp; done) | (simp; omega))
    have S0 : W0.cell? ⟨w.heap.size, 0, none⟩ = some (.slice A n c) := by rw [← hW]; simp [go_sem]
    have hz0 : w.heap.size < W0.heap.size := by rw [← hW]; simp
    clear hW
    go_loopw [15] (fun i wr => ∃ k : Nat, k ≤ n ∧ i = .int .i64 k ∧ upR l k ∧ Below W0.heap.size W0 wr) (fun i _ => n - (intOf i).toNat)
    case atStart => exact ⟨0, Nat.zero_le _, rfl, fun j hj => by omega, Below.refl _ _⟩
    case round =>
      obtain ⟨k, hk, rfl, hu, hbl⟩ := hrel
      have HU := Lib.hid hu
      clear hu
      have zr := hbl.size
      have s0r : wr.cell? ⟨w.heap.size, 0, none⟩ = some (.slice A n c) := (hbl.cell (p := ⟨w.heap.size, 0, none⟩) hz0).trans S0
      have hbw : Below w.heap.size w wr := hb0.trans (hbl.mono (by omega))
      by_cases hlt : k < n
      case pos =>
        obtain ⟨⟨x0, x1, x2, x3l⟩, ha⟩ : ∃ a, l[k]? = some a := ⟨l[k]'(by have := HN.out; omega), List.getElem?_eq_getElem (by have := HN.out; omega)⟩
        obtain ⟨g, o, rowc, rfl, hg, hRc, hcc⟩ := (Row.carry (w' := wr) HR.out hbw (Nat.le_refl _)).elem ha
        obtain ⟨x3A, x3c, rfl, u_x3⟩ := hRc
        have c0 : wr.cell? ⟨g, o + k * 4, none⟩ = some (.string x0) := hcc 0 _ rfl
        have c1 : wr.cell? ⟨g, o + k * 4 + 1, none⟩ = some (.int .i64 x1) := hcc 1 _ rfl
        have c2 : wr.cell? ⟨g, o + k * 4 + 2, none⟩ = some (.int .i64 x2) := hcc 2 _ rfl
        have c3 : wr.cell? ⟨g, o + k * 4 + 3, none⟩ = some (.slice x3A x3l.length x3c) := hcc 3 _ rfl
        clear hcc
        have hki : (k : Int) < (n : Int) := by omega
        obtain ⟨⟨i1, i2⟩, hok, hs0⟩ := HOK.out k _ ha
        have htt : totSRow (x0, x1, x2, x3l) ≤ 1048576 := Nat.le_trans (totRow_at ha) HT.out
        have hx0 : x0.size ≤ 9223372036854775807 := by unfold maxLen at hs0; omega
        have hx3 : x3l.length ≤ 1048576 := by have := totRow_len totTerm x3l; simp only [totSRow] at htt; omega
        have HA := Lib.hid ha
        clear ha htt hs0
        have RT := Lib.hid (Row.toRd u_x3)
        clear u_x3
        have CN := Lib.hid (fun w => implIsName_any x0 w hx0)
        have CL := Lib.hid (fun w r => implValidLinear_any x1 x2 x3A x3c x3l w i1 i2 hx3 r hok)
        have hgw : g < wr.heap.size := by omega
        clear i1 i2 hok hx0
        go_wp2_with fail
        generalize hW : wr.alloc (.cells #[.string x0, .int .i64 x1, .int .i64 x2, .slice x3A x3l.length x3c] 52) = W1
        have hb1 : Below wr.heap.size wr W1 := by rw [← hW]; repeat' (first | with_reducible assumption | with_reducible exact Below.refl _ _ | (with_reducible refine Below.setCell ?_ ?_ _) | (with_reducible refine Below.alloc ?_ ?_ _) | (with_reducible refine Below.drew ?_) | (with_reducible refine below_dr ?_ _) | (with_reducible refine Below.trans ?_ (Below.mono (by with_reducible assumption) ?_)) | omega | (simp; done) | (simp; omega))
        have k0 : W1.cell? ⟨wr.heap.size, 0, none⟩ = some (.string x0) := by rw [← hW]; simp [go_sem]
        have k1 : W1.cell? ⟨wr.heap.size, 1, none⟩ = some (.int .i64 x1) := by rw [← hW]; simp [go_sem]
        have k2 : W1.cell? ⟨wr.heap.size, 2, none⟩ = some (.int .i64 x2) := by rw [← hW]; simp [go_sem]
        have k3 : W1.cell? ⟨wr.heap.size, 3, none⟩ = some (.slice x3A x3l.length x3c) := by rw [← hW]; simp [go_sem]
        have z1 : wr.heap.size < W1.heap.size := by rw [← hW]; simp
        clear hW c0 c1 c2 c3
        go_wp2_with fail
        refine (CN.out _).mono ?_
        rintro e wN ⟨rfl, rfl⟩
        rcases hnm : nameB x0.data.toList with _ | _
        case false =>
          have HNM := Lib.hid hnm
          have HE := Lib.hid (vSys_nr (l := l) (k := k) (by have := HN.out; omega) (rw_n1 HA.out HNM.out))
          clear hnm
          go_wp2_with fail
          go_ret
          exact ⟨ret_bool HE.out, by repeat' (first | with_reducible assumption | with_reducible exact Below.refl _ _ | (with_reducible refine Below.setCell ?_ ?_ _) | (with_reducible refine Below.alloc ?_ ?_ _) | (with_reducible refine Below.drew ?_) | (with_reducible refine below_dr ?_ _) | (with_reducible refine Below.trans ?_ (Below.mono (by with_reducible assumption) ?_)) | omega | (simp; done) | (simp; omega))⟩
        case true =>
          have HNM := Lib.hid hnm
          clear hnm
          go_wp2_with fail
          refine (CL.out _ ?_).mono ?_
          · exact (Rd.carry (Rd.keep RT.out (fun p hp => rfl)) hb1 (by omega)).more (by omega)
          rintro e wL ⟨rfl, hbL⟩
          have zL := hbL.size
          have gL : Below wr.heap.size wr wL := hb1.trans (hbL.mono (by omega))
          have gW : Below W0.heap.size W0 wL := hbl.trans (gL.mono (by omega))
          have m0 : wL.cell? ⟨wr.heap.size, 0, none⟩ = some (.string x0) := (hbL.cell (p := ⟨wr.heap.size, 0, none⟩) z1).trans k0
          have sL : wL.cell? ⟨w.heap.size, 0, none⟩ = some (.slice (some ⟨g, o, none⟩) n c) := (gW.cell (p := ⟨w.heap.size, 0, none⟩) hz0).trans S0
          clear k0 k1 k2 k3
          rcases hvl : vLin x1 x2 x3l with _ | _
          case false =>
            have HVL := Lib.hid hvl
            have HE := Lib.hid (vSys_nr (l := l) (k := k) (by have := HN.out; omega) (rw_n2 HA.out HVL.out))
            clear hvl
            go_wp2_with fail
            go_ret
            exact ⟨ret_bool HE.out, by repeat' (first | with_reducible assumption | with_reducible exact Below.refl _ _ | (with_reducible refine Below.setCell ?_ ?_ _) | (with_reducible refine Below.alloc ?_ ?_ _) | (with_reducible refine Below.drew ?_) | (with_reducible refine below_dr ?_ _) | (with_reducible refine Below.trans ?_ (Below.mono (by with_reducible assumption) ?_)) | omega | (simp; done) | (simp; omega))⟩
          case true =>
            have HVL := Lib.hid hvl
            clear hvl
            rcases k with _ | j
            case zero =>
              have e0 : decide ((0 : Int) < ((0 : Nat) : Int)) = false := by simp
              have HRW := Lib.hid (rw_y0 HA.out HNM.out HVL.out)
              go_wp2_with fail
              go_quiet (fail)
              go_wp2_with fail
              go_roundw
              case rel => exact ⟨0 + 1, by omega, by go_num, below_one HU.out HRW.out, by first | exact gW | exact gW.drew | (repeat' (first | with_reducible assumption | with_reducible exact Below.refl _ _ | (with_reducible refine Below.setCell ?_ ?_ _) | (with_reducible refine Below.alloc ?_ ?_ _) | (with_reducible refine Below.drew ?_) | (with_reducible refine below_dr ?_ _) | (with_reducible refine Below.trans ?_ (Below.mono (by with_reducible assumption) ?_)) | omega | (simp; done) | (simp; omega)))⟩
              case measure => simp [intOf]; omega
            case succ =>
              obtain ⟨⟨y0, y1, y2, y3l⟩, hy⟩ : ∃ e, l[j]? = some e := ⟨l[j]'(by have := HN.out; omega), List.getElem?_eq_getElem (by have := HN.out; omega)⟩
              obtain ⟨g', o', rowy, hgo, hg', hRy, hcy⟩ := (Row.carry (w' := wL) HR.out (hb0.trans (gW.mono (by omega))) (Nat.le_refl _)).elem hy
              obtain ⟨rfl, rfl⟩ : g = g' ∧ o = o' := by injection hgo with h; injection h with h1 h2; exact ⟨h1, h2⟩
              obtain ⟨yA, yc, rfl, -⟩ := hRy
              have p0 : wL.cell? ⟨g, o + j * 4, none⟩ = some (.string y0) := hcy 0 _ rfl
              clear hcy hgo
              have HY := Lib.hid hy
              clear hy
              have e2 : IntKind.i64.wrap ((j : Int) + 1 - 1) = (j : Int) := by rw [show (j : Int) + 1 - 1 = (j : Int) by omega]; exact IntWalk.i64_in _ (by omega)
              have e6 : IntKind.i64.wrap (j : Int) = (j : Int) := IntWalk.i64_in _ (by omega)
              have e3 : (0 : Int) ≤ (j : Int) := by omega
              have e4 : (j : Int) < (n : Int) := by omega
              have e5 : decide ((0 : Int) < (j : Int) + 1) = true := decide_eq_true (by omega)
              have hgL : g < wL.heap.size := by omega
              rcases hq1 : Op.bytesLess x0.toList y0.toList with _ | _
              case false =>
                rcases hq2 : (x0.toList == y0.toList) with _ | _
                case false =>
                  have HLE := Lib.hid (show leB x0 y0 = false by unfold leB; rw [hq1, hq2]; rfl)
                  have HRW := Lib.hid (rw_y1 HA.out HY.out HNM.out HVL.out HLE.out)
                  go_wp2_with fail
                  go_quiet (fail)
                  go_wp2_with fail
                  go_roundw
                  case rel => exact ⟨(j + 1) + 1, by omega, by go_num, below_one HU.out HRW.out, by first | exact gW | exact gW.drew | (repeat' (first | with_reducible assumption | with_reducible exact Below.refl _ _ | (with_reducible refine Below.setCell ?_ ?_ _) | (with_reducible refine Below.alloc ?_ ?_ _) | (with_reducible refine Below.drew ?_) | (with_reducible refine below_dr ?_ _) | (with_reducible refine Below.trans ?_ (Below.mono (by with_reducible assumption) ?_)) | omega | (simp; done) | (simp; omega)))⟩
                  case measure => simp [intOf]; omega
                case true =>
                  have HLE := Lib.hid (show leB x0 y0 = true by unfold leB; rw [hq2]; simp)
                  have HE := Lib.hid (vSys_nr (l := l) (k := j + 1) (by have := HN.out; omega) (rw_n3 HA.out HY.out HLE.out))
                  go_wp2_with fail
                  go_quiet (fail)
                  go_wp2_with fail
                  go_ret
                  exact ⟨ret_bool HE.out, by repeat' (first | with_reducible assumption | with_reducible exact Below.refl _ _ | (with_reducible refine Below.setCell ?_ ?_ _) | (with_reducible refine Below.alloc ?_ ?_ _) | (with_reducible refine Below.drew ?_) | (with_reducible refine below_dr ?_ _) | (with_reducible refine Below.trans ?_ (Below.mono (by with_reducible assumption) ?_)) | omega | (simp; done) | (simp; omega))⟩
              case true =>
                have HLE := Lib.hid (show leB x0 y0 = true by unfold leB; rw [hq1]; rfl)
                have HE := Lib.hid (vSys_nr (l := l) (k := j + 1) (by have := HN.out; omega) (rw_n3 HA.out HY.out HLE.out))
                go_wp2_with fail
                go_quiet (fail)
                go_wp2_with fail
                go_ret
                exact ⟨ret_bool HE.out, by repeat' (first | with_reducible assumption | with_reducible exact Below.refl _ _ | (with_reducible refine Below.setCell ?_ ?_ _) | (with_reducible refine Below.alloc ?_ ?_ _) | (with_reducible refine Below.drew ?_) | (with_reducible refine below_dr ?_ _) | (with_reducible refine Below.trans ?_ (Below.mono (by with_reducible assumption) ?_)) | omega | (simp; done) | (simp; omega))⟩
      case neg =>
        obtain rfl : k = n := by omega
        have HUP := Lib.hid (HN.out ▸ HU.out : upR l l.length)
        go_wp2_with fail
        refine (CO.out _ ?_).mono ?_
        · exact (Row.carry (w' := wr) HR.out hbw (Nat.le_refl _)).more (by omega)
        intro e wO hq
        obtain ⟨N, rfl, mO, hbO⟩ := hq
        have MO := Lib.hid mO
        have hml := mO.lt
        clear mO
        obtain ⟨b, hb⟩ : ∃ b, b = wr.heap.size + 1 := ⟨_, rfl⟩
        rw [← hb] at MO hml ⊢
        clear hb
        have zO := hbO.size
        have gO : Below W0.heap.size W0 wO := hbl.trans (hbO.mono (by omega))
        have sO : wO.cell? ⟨w.heap.size, 0, none⟩ = some (.slice A k c) := (gO.cell (p := ⟨w.heap.size, 0, none⟩) hz0).trans S0
        go_wp2_with fail
        clear sO
        go_loopw [50] (fun i wr => ∃ q : Nat, q ≤ k ∧ i = .int .i64 q ∧ (∀ (j : Nat) (d : DSRow), j < q → l[j]? = some d → occA l d.1.data.toList = false) ∧ Below wO.heap.size wO wr) (fun i _ => k - (intOf i).toNat)
        case atStart => exact ⟨0, Nat.zero_le _, rfl, fun j d hj => by omega, Below.refl _ _⟩
        case round =>
          obtain ⟨q, hq, rfl, ho, hby⟩ := hrel
          have HO := Lib.hid ho
          clear ho
          have zy := hby.size
          have hbw2 : Below w.heap.size w wr := hb0.trans ((gO.trans (hby.mono (by omega))).mono (by omega))
          by_cases hlq : q < k
          case neg =>
            obtain rfl : q = k := by omega
            have HE := Lib.hid (vSys_end HUP.out (occ_yes fun j d hd => HO.out j d (by have := (List.getElem?_eq_some_iff.1 hd).1; have := HN.out; omega) hd))
            have HD := Lib.hid (show decide (l.length ≤ 24) = true by rw [decide_eq_true]; have := HN.out; omega)
            go_wp2_with fail
            go_ret
            exact ⟨ret_bool (HD.out.symm.trans HE.out), by repeat' (first | with_reducible assumption | with_reducible exact Below.refl _ _ | (with_reducible refine Below.setCell ?_ ?_ _) | (with_reducible refine Below.alloc ?_ ?_ _) | (with_reducible refine Below.drew ?_) | (with_reducible refine below_dr ?_ _) | (with_reducible refine Below.trans ?_ (Below.mono (by with_reducible assumption) ?_)) | omega | (simp; done) | (simp; omega))⟩
          case pos =>
            obtain ⟨⟨x0, x1, x2, x3l⟩, ha⟩ : ∃ a, l[q]? = some a := ⟨l[q]'(by have := HN.out; omega), List.getElem?_eq_getElem (by have := HN.out; omega)⟩
            obtain ⟨g, o, rowc, rfl, hg, hRc, hcc⟩ := (Row.carry (w' := wr) HR.out hbw2 (Nat.le_refl _)).elem ha
            obtain ⟨x3A, x3c, rfl, u_x3⟩ := hRc
            have c0 : wr.cell? ⟨g, o + q * 4, none⟩ = some (.string x0) := hcc 0 _ rfl
            have c1 : wr.cell? ⟨g, o + q * 4 + 1, none⟩ = some (.int .i64 x1) := hcc 1 _ rfl
            have c2 : wr.cell? ⟨g, o + q * 4 + 2, none⟩ = some (.int .i64 x2) := hcc 2 _ rfl
            have c3 : wr.cell? ⟨g, o + q * 4 + 3, none⟩ = some (.slice x3A x3l.length x3c) := hcc 3 _ rfl
            clear hcc
            have hki : (q : Int) < (k : Int) := by omega
            obtain ⟨-, -, hs0⟩ := HOK.out q _ ha
            simp only at hs0
            have HA := Lib.hid ha
            clear ha
            have hgw : g < wr.heap.size := by omega
            have hb1 : Below wr.heap.size wr (wr.alloc (.cells #[.string x0, .int .i64 x1, .int .i64 x2, .slice x3A x3l.length x3c] 52)) := by repeat' (first | with_reducible assumption | with_reducible exact Below.refl _ _ | (with_reducible refine Below.setCell ?_ ?_ _) | (with_reducible refine Below.alloc ?_ ?_ _) | (with_reducible refine Below.drew ?_) | (with_reducible refine below_dr ?_ _) | (with_reducible refine Below.trans ?_ (Below.mono (by with_reducible assumption) ?_)) | omega | (simp; done) | (simp; omega))
            have g1 : Below wO.heap.size wO (wr.alloc (.cells #[.string x0, .int .i64 x1, .int .i64 x2, .slice x3A x3l.length x3c] 52)) := hby.trans (hb1.mono (by omega))
            have hlk := (MO.out.below g1 hml).look x0 hs0
            rcases hh : occA l x0.data.toList with _ | _
            case true =>
              rw [hh] at hlk
              have HE := Lib.hid (occ_no HA.out hh)
              clear hh
              go_wp2_with fail
              go_ret
              exact ⟨ret_bool HE.out, by repeat' (first | with_reducible assumption | with_reducible exact Below.refl _ _ | (with_reducible refine Below.setCell ?_ ?_ _) | (with_reducible refine Below.alloc ?_ ?_ _) | (with_reducible refine Below.drew ?_) | (with_reducible refine below_dr ?_ _) | (with_reducible refine Below.trans ?_ (Below.mono (by with_reducible assumption) ?_)) | omega | (simp; done) | (simp; omega))⟩
            case false =>
              rw [hh] at hlk
              have HH := Lib.hid hh
              clear hh
              go_wp2_with fail
              go_roundw
              case rel => exact ⟨q + 1, by omega, by go_num, fun j d hj hd => by
                rcases Nat.lt_or_ge j q with h2 | h2
                · exact HO.out j d h2 hd
                · obtain rfl : j = q := by omega
                  rw [HA.out] at hd; obtain rfl := Option.some.inj hd; exact HH.out, g1⟩
              case measure => simp [intOf]; omega
end Go.Proofs.YtonoldjhfhngfaaDoor
