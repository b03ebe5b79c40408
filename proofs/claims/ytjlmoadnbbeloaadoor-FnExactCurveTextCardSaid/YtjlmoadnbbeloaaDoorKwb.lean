/- Walks: which curves are valid, the program's side: closed curves. -/
import Derived.Test.YtjlmoadnbbeloaaDoorKw
namespace Go.Proofs.YtjlmoadnbbeloaaDoor
open Go.RowKit
set_option linter.unusedVariables false
set_option maxHeartbeats 12800000 in
theorem implValidCurve_true (l : List APt) (A : Option Addr) (c : Nat) (t : Int) (ff fl : Bool) (fx fy lx ly : Int) (w : World) (hl : l.length ≤ 1048576) (r : Rd cPt 2 w w.heap.size A l) :
    Calls Tryd.prog 49 #[.agg #[.slice A l.length c, .bool true, .int .i64 t, .bool ff, .bool fl, .int .i64 fx, .int .i64 fy, .int .i64 lx, .int .i64 ly]] w fun e w' => e = .returned (.bool (vCur l true t ff fl fx fy lx ly)) ∧ Below w.heap.size w w' := by
  obtain ⟨n, hn⟩ : ∃ n, n = l.length := ⟨_, rfl⟩
  rw [← hn]
  rw [← hn] at hl
  have HN := Lib.hid hn
  clear hn
  by_cases hlo : n < 3
  case pos =>
    have e1 : (n : Int) < 3 := by omega
    have H := Lib.hid (vC_1 (l := l) (cl := true) (t := t) (ff := ff) (fl := fl) (fx := fx) (fy := fy) (lx := lx) (ly := ly) (by unfold lenB; simp; have := HN.out; omega))
    clear hlo
    go_enter Tryd.func49, Tryd.ntmps49
    go_wp2_with fail
    go_ret
    exact ⟨ret_bool (H.out), by repeat' (first | with_reducible assumption | with_reducible exact Below.refl _ _ | (with_reducible refine Below.setCell ?_ ?_ _) | (with_reducible refine Below.alloc ?_ ?_ _) | (with_reducible refine Below.drew ?_) | (with_reducible refine below_dr ?_ _) | (with_reducible refine Below.trans ?_ (Below.mono (by with_reducible assumption) ?_)) | omega | (simp; done) | (simp; omega))⟩
  case neg =>
    have e1 : (3 : Int) ≤ (n : Int) := by omega
    have e1b : decide ((n : Int) < 3) = false := by simp; omega
    by_cases hhi : 10 < n
    case pos =>
      have e2 : (10 : Int) < (n : Int) := by omega
      have H := Lib.hid (vC_1 (l := l) (cl := true) (t := t) (ff := ff) (fl := fl) (fx := fx) (fy := fy) (lx := lx) (ly := ly) (by unfold lenB; simp; have := HN.out; omega))
      clear hhi
      go_enter Tryd.func49, Tryd.ntmps49
      go_wp2_with fail
      go_ret
      exact ⟨ret_bool (H.out), by repeat' (first | with_reducible assumption | with_reducible exact Below.refl _ _ | (with_reducible refine Below.setCell ?_ ?_ _) | (with_reducible refine Below.alloc ?_ ?_ _) | (with_reducible refine Below.drew ?_) | (with_reducible refine below_dr ?_ _) | (with_reducible refine Below.trans ?_ (Below.mono (by with_reducible assumption) ?_)) | omega | (simp; done) | (simp; omega))⟩
    case neg =>
      have e2 : (n : Int) ≤ 10 := by omega
      have HLEN := Lib.hid (show lenB true l.length = true by unfold lenB; simp; have := HN.out; omega)
      have C1 := Lib.hid (fun w r => validPts_rd l A c w (by have := HN.out; omega) r)
      rw [← HN.out] at C1
      rcases hp : ptsUp l n with _ | _
      case false =>
        rw [hp] at C1
        have H := Lib.hid (vC_2 (l := l) (cl := true) (t := t) (ff := ff) (fl := fl) (fx := fx) (fy := fy) (lx := lx) (ly := ly) (by rw [← HN.out]; exact hp))
        clear hp
        go_enter Tryd.func49, Tryd.ntmps49
        go_wp2_with fail
        refine (C1.out _ ((r.alloc (Nat.le_refl _) _).more (by simp))).mono ?_
        rintro e w2 ⟨rfl, hb2⟩
        go_wp2_with fail
        go_ret
        exact ⟨ret_bool (H.out), by repeat' (first | with_reducible assumption | with_reducible exact Below.refl _ _ | (with_reducible refine Below.setCell ?_ ?_ _) | (with_reducible refine Below.alloc ?_ ?_ _) | (with_reducible refine Below.drew ?_) | (with_reducible refine below_dr ?_ _) | (with_reducible refine Below.trans ?_ (Below.mono (by with_reducible assumption) ?_)) | omega | (simp; done) | (simp; omega))⟩
      case true =>
        rw [hp] at C1
        have HPT := Lib.hid (show ptsUp l l.length = true by rw [← HN.out]; exact hp)
        clear hp
        go_enter Tryd.func49, Tryd.ntmps49
        go_wp2_with fail
        refine (C1.out _ ((r.alloc (Nat.le_refl _) _).more (by simp))).mono ?_
        rintro e w2 ⟨rfl, hb2⟩
        have atw2 : AtL w.heap.size [.slice A n c, .bool true, .int .i64 t, .bool ff, .bool fl, .int .i64 fx, .int .i64 fy, .int .i64 lx, .int .i64 ly] w2 := (AtL.new w _ 53).below hb2
        have rw2 : Rd cPt 2 w2 w.heap.size A l := (r.alloc (Nat.le_refl _) _).carry hb2 (by simp)
        have gw2 : Below w.heap.size w w2 := by repeat' (first | with_reducible assumption | with_reducible exact Below.refl _ _ | (with_reducible refine Below.setCell ?_ ?_ _) | (with_reducible refine Below.alloc ?_ ?_ _) | (with_reducible refine Below.drew ?_) | (with_reducible refine below_dr ?_ _) | (with_reducible refine Below.trans ?_ (Below.mono (by with_reducible assumption) ?_)) | omega | (simp; done) | (simp; omega))
        clear hb2 C1 r
        have k0 := atw2.cell 0 rfl
        have k1 := atw2.cell 1 rfl
        have k2 := atw2.cell 2 rfl
        have k3 := atw2.cell 3 rfl
        have k4 := atw2.cell 4 rfl
        have k5 := atw2.cell 5 rfl
        have k6 := atw2.cell 6 rfl
        have k7 := atw2.cell 7 rfl
        have k8 := atw2.cell 8 rfl
        have lt0 := atw2.lt
        by_cases ht3 : t < 3
        case pos =>
          have H := Lib.hid (vC_3 (l := l) (cl := true) (t := t) (ff := ff) (fl := fl) (fx := fx) (fy := fy) (lx := lx) (ly := ly) (by unfold tenB; simp; omega))
          go_wp2_with fail
          go_ret
          exact ⟨ret_bool (H.out), by repeat' (first | with_reducible assumption | with_reducible exact Below.refl _ _ | (with_reducible refine Below.setCell ?_ ?_ _) | (with_reducible refine Below.alloc ?_ ?_ _) | (with_reducible refine Below.drew ?_) | (with_reducible refine below_dr ?_ _) | (with_reducible refine Below.trans ?_ (Below.mono (by with_reducible assumption) ?_)) | omega | (simp; done) | (simp; omega))⟩
        case neg =>
          have e3 : 3 ≤ t := by omega
          have e3b : decide (t < 3) = false := by simp; omega
          by_cases ht12 : 12 < t
          case pos =>
            have H := Lib.hid (vC_3 (l := l) (cl := true) (t := t) (ff := ff) (fl := fl) (fx := fx) (fy := fy) (lx := lx) (ly := ly) (by unfold tenB; simp; omega))
            go_wp2_with fail
            go_ret
            exact ⟨ret_bool (H.out), by repeat' (first | with_reducible assumption | with_reducible exact Below.refl _ _ | (with_reducible refine Below.setCell ?_ ?_ _) | (with_reducible refine Below.alloc ?_ ?_ _) | (with_reducible refine Below.drew ?_) | (with_reducible refine below_dr ?_ _) | (with_reducible refine Below.trans ?_ (Below.mono (by with_reducible assumption) ?_)) | omega | (simp; done) | (simp; omega))⟩
          case neg =>
            have e4 : t ≤ 12 := by omega
            have HTEN := Lib.hid (show tenB t = true by unfold tenB; simp; omega)
            clear ht3 ht12 hlo hhi
            rcases ff with _ | _
            case true =>
              have H := Lib.hid (vC_4 (l := l) (cl := true) (t := t) (ff := true) (fl := fl) (fx := fx) (fy := fy) (lx := lx) (ly := ly) (by simp [fixB]))
              go_wp2_with fail
              go_ret
              exact ⟨ret_bool (H.out), by repeat' (first | with_reducible assumption | with_reducible exact Below.refl _ _ | (with_reducible refine Below.setCell ?_ ?_ _) | (with_reducible refine Below.alloc ?_ ?_ _) | (with_reducible refine Below.drew ?_) | (with_reducible refine below_dr ?_ _) | (with_reducible refine Below.trans ?_ (Below.mono (by with_reducible assumption) ?_)) | omega | (simp; done) | (simp; omega))⟩
            case false =>
              rcases fl with _ | _
              case true =>
                have H := Lib.hid (vC_4 (l := l) (cl := true) (t := t) (ff := false) (fl := true) (fx := fx) (fy := fy) (lx := lx) (ly := ly) (by simp [fixB]))
                go_wp2_with fail
                go_ret
                exact ⟨ret_bool (H.out), by repeat' (first | with_reducible assumption | with_reducible exact Below.refl _ _ | (with_reducible refine Below.setCell ?_ ?_ _) | (with_reducible refine Below.alloc ?_ ?_ _) | (with_reducible refine Below.drew ?_) | (with_reducible refine below_dr ?_ _) | (with_reducible refine Below.trans ?_ (Below.mono (by with_reducible assumption) ?_)) | omega | (simp; done) | (simp; omega))⟩
              case false =>
                have HFIX := Lib.hid (show fixB true false false = true by rfl)
                go_wp2_with fail
                refine (first_any _ _ _ _ _ _ _ _ _ _ _ _).mono ?_
                rintro e w3 ⟨rfl, hb3⟩
                have atw3 : AtL w.heap.size [.slice A n c, .bool true, .int .i64 t, .bool false, .bool false, .int .i64 fx, .int .i64 fy, .int .i64 lx, .int .i64 ly] w3 := atw2.below hb3
                have rw3 : Rd cPt 2 w3 w.heap.size A l := rw2.carry hb3 gw2.size
                have gw3 : Below w.heap.size w w3 := by repeat' (first | with_reducible assumption | with_reducible exact Below.refl _ _ | (with_reducible refine Below.setCell ?_ ?_ _) | (with_reducible refine Below.alloc ?_ ?_ _) | (with_reducible refine Below.drew ?_) | (with_reducible refine below_dr ?_ _) | (with_reducible refine Below.trans ?_ (Below.mono (by with_reducible assumption) ?_)) | omega | (simp; done) | (simp; omega))
                clear atw2 rw2 gw2 hb3
                clear k0 k1 k2 k3 k4 k5 k6 k7 k8 lt0
                have k0 := atw3.cell 0 rfl
                have k1 := atw3.cell 1 rfl
                have k2 := atw3.cell 2 rfl
                have k3 := atw3.cell 3 rfl
                have k4 := atw3.cell 4 rfl
                have k5 := atw3.cell 5 rfl
                have k6 := atw3.cell 6 rfl
                have k7 := atw3.cell 7 rfl
                have k8 := atw3.cell 8 rfl
                have lt0 := atw3.lt
                go_wp2_with fail
                refine (isValid_any _ _ _ _).mono ?_
                rcases he1 : endB false fx fy with _ | _
                case false =>
                  have H := Lib.hid (vC_5 (l := l) (cl := true) (t := t) (ff := false) (fl := false) (fx := fx) (fy := fy) (lx := lx) (ly := ly) he1)
                  clear he1
                  rintro e w4 ⟨rfl, hb4⟩
                  go_wp2_with fail
                  go_ret
                  exact ⟨ret_bool (H.out), by repeat' (first | with_reducible assumption | with_reducible exact Below.refl _ _ | (with_reducible refine Below.setCell ?_ ?_ _) | (with_reducible refine Below.alloc ?_ ?_ _) | (with_reducible refine Below.drew ?_) | (with_reducible refine below_dr ?_ _) | (with_reducible refine Below.trans ?_ (Below.mono (by with_reducible assumption) ?_)) | omega | (simp; done) | (simp; omega))⟩
                case true =>
                  have HE1 := Lib.hid he1
                  clear he1
                  rintro e w4 ⟨rfl, hb4⟩
                  have atw4 : AtL w.heap.size [.slice A n c, .bool true, .int .i64 t, .bool false, .bool false, .int .i64 fx, .int .i64 fy, .int .i64 lx, .int .i64 ly] w4 := atw3.below hb4
                  have rw4 : Rd cPt 2 w4 w.heap.size A l := rw3.carry hb4 gw3.size
                  have gw4 : Below w.heap.size w w4 := by repeat' (first | with_reducible assumption | with_reducible exact Below.refl _ _ | (with_reducible refine Below.setCell ?_ ?_ _) | (with_reducible refine Below.alloc ?_ ?_ _) | (with_reducible refine Below.drew ?_) | (with_reducible refine below_dr ?_ _) | (with_reducible refine Below.trans ?_ (Below.mono (by with_reducible assumption) ?_)) | omega | (simp; done) | (simp; omega))
                  clear atw3 rw3 gw3 hb4
                  clear k0 k1 k2 k3 k4 k5 k6 k7 k8 lt0
                  have k0 := atw4.cell 0 rfl
                  have k1 := atw4.cell 1 rfl
                  have k2 := atw4.cell 2 rfl
                  have k3 := atw4.cell 3 rfl
                  have k4 := atw4.cell 4 rfl
                  have k5 := atw4.cell 5 rfl
                  have k6 := atw4.cell 6 rfl
                  have k7 := atw4.cell 7 rfl
                  have k8 := atw4.cell 8 rfl
                  have lt0 := atw4.lt
                  go_wp2_with fail
                  refine (last_any _ _ _ _ _ _ _ _ _ _ _ _).mono ?_
                  rintro e w5 ⟨rfl, hb5⟩
                  have atw5 : AtL w.heap.size [.slice A n c, .bool true, .int .i64 t, .bool false, .bool false, .int .i64 fx, .int .i64 fy, .int .i64 lx, .int .i64 ly] w5 := atw4.below hb5
                  have rw5 : Rd cPt 2 w5 w.heap.size A l := rw4.carry hb5 gw4.size
                  have gw5 : Below w.heap.size w w5 := by repeat' (first | with_reducible assumption | with_reducible exact Below.refl _ _ | (with_reducible refine Below.setCell ?_ ?_ _) | (with_reducible refine Below.alloc ?_ ?_ _) | (with_reducible refine Below.drew ?_) | (with_reducible refine below_dr ?_ _) | (with_reducible refine Below.trans ?_ (Below.mono (by with_reducible assumption) ?_)) | omega | (simp; done) | (simp; omega))
                  clear atw4 rw4 gw4 hb5
                  clear k0 k1 k2 k3 k4 k5 k6 k7 k8 lt0
                  have k0 := atw5.cell 0 rfl
                  have k1 := atw5.cell 1 rfl
                  have k2 := atw5.cell 2 rfl
                  have k3 := atw5.cell 3 rfl
                  have k4 := atw5.cell 4 rfl
                  have k5 := atw5.cell 5 rfl
                  have k6 := atw5.cell 6 rfl
                  have k7 := atw5.cell 7 rfl
                  have k8 := atw5.cell 8 rfl
                  have lt0 := atw5.lt
                  go_wp2_with fail
                  refine (isValid_any _ _ _ _).mono ?_
                  rcases he2 : endB false lx ly with _ | _
                  case false =>
                    have H := Lib.hid (vC_6 (l := l) (cl := true) (t := t) (ff := false) (fl := false) (fx := fx) (fy := fy) (lx := lx) (ly := ly) he2)
                    clear he2
                    rintro e w6 ⟨rfl, hb6⟩
                    go_wp2_with fail
                    go_ret
                    exact ⟨ret_bool (H.out), by repeat' (first | with_reducible assumption | with_reducible exact Below.refl _ _ | (with_reducible refine Below.setCell ?_ ?_ _) | (with_reducible refine Below.alloc ?_ ?_ _) | (with_reducible refine Below.drew ?_) | (with_reducible refine below_dr ?_ _) | (with_reducible refine Below.trans ?_ (Below.mono (by with_reducible assumption) ?_)) | omega | (simp; done) | (simp; omega))⟩
                  case true =>
                    have HE2 := Lib.hid he2
                    clear he2
                    rintro e w6 ⟨rfl, hb6⟩
                    have atw6 : AtL w.heap.size [.slice A n c, .bool true, .int .i64 t, .bool false, .bool false, .int .i64 fx, .int .i64 fy, .int .i64 lx, .int .i64 ly] w6 := atw5.below hb6
                    have rw6 : Rd cPt 2 w6 w.heap.size A l := rw5.carry hb6 gw5.size
                    have gw6 : Below w.heap.size w w6 := by repeat' (first | with_reducible assumption | with_reducible exact Below.refl _ _ | (with_reducible refine Below.setCell ?_ ?_ _) | (with_reducible refine Below.alloc ?_ ?_ _) | (with_reducible refine Below.drew ?_) | (with_reducible refine below_dr ?_ _) | (with_reducible refine Below.trans ?_ (Below.mono (by with_reducible assumption) ?_)) | omega | (simp; done) | (simp; omega))
                    clear atw5 rw5 gw5 hb6
                    clear k0 k1 k2 k3 k4 k5 k6 k7 k8 lt0
                    have k0 := atw6.cell 0 rfl
                    have k1 := atw6.cell 1 rfl
                    have k2 := atw6.cell 2 rfl
                    have k3 := atw6.cell 3 rfl
                    have k4 := atw6.cell 4 rfl
                    have k5 := atw6.cell 5 rfl
                    have k6 := atw6.cell 6 rfl
                    have k7 := atw6.cell 7 rfl
                    have k8 := atw6.cell 8 rfl
                    have lt0 := atw6.lt
                    go_wp2_with fail
                    refine (pieces_true _ _ _ _ _ _ _ _ _ _ _ (by omega) (by omega)).mono ?_
                    obtain ⟨P, hP⟩ : ∃ P, P = pcs true n := ⟨_, rfl⟩
                    have hPn : P ≤ n := by rw [hP]; unfold pcs; simp
                    rw [← hP]
                    have HP := Lib.hid hP
                    clear hP
                    rintro e w7 ⟨rfl, hb7⟩
                    have atw7 : AtL w.heap.size [.slice A n c, .bool true, .int .i64 t, .bool false, .bool false, .int .i64 fx, .int .i64 fy, .int .i64 lx, .int .i64 ly] w7 := atw6.below hb7
                    have rw7 : Rd cPt 2 w7 w.heap.size A l := rw6.carry hb7 gw6.size
                    have gw7 : Below w.heap.size w w7 := by repeat' (first | with_reducible assumption | with_reducible exact Below.refl _ _ | (with_reducible refine Below.setCell ?_ ?_ _) | (with_reducible refine Below.alloc ?_ ?_ _) | (with_reducible refine Below.drew ?_) | (with_reducible refine below_dr ?_ _) | (with_reducible refine Below.trans ?_ (Below.mono (by with_reducible assumption) ?_)) | omega | (simp; done) | (simp; omega))
                    clear atw6 rw6 gw6 hb7
                    clear k0 k1 k2 k3 k4 k5 k6 k7 k8 lt0
                    have k0 := atw7.cell 0 rfl
                    have k1 := atw7.cell 1 rfl
                    have k2 := atw7.cell 2 rfl
                    have k3 := atw7.cell 3 rfl
                    have k4 := atw7.cell 4 rfl
                    have k5 := atw7.cell 5 rfl
                    have k6 := atw7.cell 6 rfl
                    have k7 := atw7.cell 7 rfl
                    have k8 := atw7.cell 8 rfl
                    have lt0 := atw7.lt
                    go_wp2_with fail
                    clear k0 k1 k2 k3 k4 k5 k6 k7 k8 lt0
                    go_loopw [58] (fun i wr => ∃ k : Nat, k ≤ P ∧ i = .int .i64 k ∧ apartUp l k = true ∧ AtL w.heap.size [.slice A n c, .bool true, .int .i64 t, .bool false, .bool false, .int .i64 fx, .int .i64 fy, .int .i64 lx, .int .i64 ly] wr ∧ Rd cPt 2 wr w.heap.size A l ∧ Below w.heap.size w wr) (fun i _ => P - (intOf i).toNat)
                    case atStart => exact ⟨0, Nat.zero_le _, rfl, rfl, atw7, rw7, gw7⟩
                    case round =>
                      clear atw7 rw7 gw7
                      obtain ⟨k, hk, rfl, hup, at1, r1, g1⟩ := hrel
                      have HUP := Lib.hid hup
                      clear hup
                      by_cases hlt : k < P
                      case pos =>
                        obtain ⟨j, hj⟩ : ∃ j, (k + 1) % n = j := ⟨_, rfl⟩
                        have hjn : j < n := by rw [← hj]; exact Nat.mod_lt _ (by omega)
                        have HJ := Lib.hid hj
                        clear hj
                        obtain ⟨⟨x0, x1⟩, ha⟩ : ∃ a, l[k]? = some a := ⟨l[k]'(by have := HN.out; omega), List.getElem?_eq_getElem (by have := HN.out; omega)⟩
                        obtain ⟨⟨y0, y1⟩, hb⟩ : ∃ a, l[j]? = some a := ⟨l[j]'(by have := HN.out; omega), List.getElem?_eq_getElem (by have := HN.out; omega)⟩
                        obtain ⟨g, o, rfl, hg, hc⟩ := r1.elem ha
                        obtain ⟨g', o', hgo, hg', hc'⟩ := r1.elem hb
                        obtain ⟨rfl, rfl⟩ : g = g' ∧ o = o' := by injection hgo with h; injection h with h1 h2; exact ⟨h1, h2⟩
                        have p0 : wr.cell? ⟨g, o + k * 2, none⟩ = some (.int .i64 x0) := hc 0 _ rfl
                        have p1 : wr.cell? ⟨g, o + k * 2 + 1, none⟩ = some (.int .i64 x1) := hc 1 _ rfl
                        have q0 : wr.cell? ⟨g, o + j * 2, none⟩ = some (.int .i64 y0) := hc' 0 _ rfl
                        have q1 : wr.cell? ⟨g, o + j * 2 + 1, none⟩ = some (.int .i64 y1) := hc' 1 _ rfl
                        have HA := Lib.hid ha
                        have HB := Lib.hid hb
                        clear hc hc' hgo ha hb
                        have hzr := g1.size
                        have hgw : g < wr.heap.size := by omega
                        have k0 := at1.cell 0 rfl
                        have k1 := at1.cell 1 rfl
                        have k2 := at1.cell 2 rfl
                        have k3 := at1.cell 3 rfl
                        have k4 := at1.cell 4 rfl
                        have k5 := at1.cell 5 rfl
                        have k6 := at1.cell 6 rfl
                        have k7 := at1.cell 7 rfl
                        have k8 := at1.cell 8 rfl
                        have lt0 := at1.lt
                        have hki : (k : Int) < (P : Int) := by omega
                        have hkn : (k : Int) < (n : Int) := by omega
                        have hji : (j : Int) < (n : Int) := by omega
                        have hj0 : (0 : Int) ≤ (j : Int) := by omega
                        have CJ := Lib.hid (fun w => after_any (some ⟨g, o, none⟩) n c true t false false fx fy lx ly k j w (by omega) (by omega) (by omega) HJ.out)
                        have e1 := fun w => eql_pt (a := x0) (b := x1) (c := y0) (d := y1) w
                        by_cases hxy : x0 = y0 ∧ x1 = y1
                        case pos =>
                          rw [decide_eq_true hxy] at e1
                          have HXY := Lib.hid hxy
                          clear hxy
                          go_wp2_with fail
                          go_region_held3 (fun w' => (∀ b o, b < wr.heap.size → w'.cell? ⟨b, o, none⟩ = wr.cell? ⟨b, o, none⟩) ∧ wr.heap.size ≤ w'.heap.size)
                            (first | ((try dsimp only); exact ⟨fun b o h => (by (repeat (first | with_reducible exact rfl | (with_reducible refine (cell_drew_at _ _).trans ?_) | (with_reducible refine (cell_set_at _ _ (by first | omega | (simp; done) | (simp; omega))).trans ?_) | (with_reducible refine (cell_alloc_at _ _ (by first | omega | (simp; done) | (simp; omega))).trans ?_) | (with_reducible refine (hcwQ b o (by first | omega | (simp; done) | (simp; omega))).trans ?_)))), (by first | omega | (simp; done) | (simp; omega))⟩) | fail)
                            (first
                              | (go_at_call 87; (with_reducible refine (CJ.out _).mono ?_); rintro e wQ ⟨rfl, hbwQ⟩; obtain ⟨hcwQ, hfwQ⟩ := bcell hbwQ; have hzwQ := hbwQ.size; (try simp only [World.size_drew] at hcwQ hfwQ hzwQ)))
                          all_goals
                            go_wp2_with fail
                            go_ret
                            exact ⟨ret_bool (vC_7 (apart_bad (k := k) (by rw [← HN.out, ← HP.out]; exact hlt) (d_no HA.out (by rw [← HN.out]; exact HJ.out) HB.out HXY.out))), by repeat' (first | with_reducible assumption | with_reducible exact Below.refl _ _ | (with_reducible refine Below.setCell ?_ ?_ _) | (with_reducible refine Below.alloc ?_ ?_ _) | (with_reducible refine Below.drew ?_) | (with_reducible refine below_dr ?_ _) | (with_reducible refine Below.trans ?_ (Below.mono (by with_reducible assumption) ?_)) | omega | (simp; done) | (simp; omega))⟩
                        case neg =>
                          rw [decide_eq_false hxy] at e1
                          have HXY := Lib.hid hxy
                          clear hxy
                          go_wp2_with fail
                          go_region_held3 (fun w' => (∀ b o, b < wr.heap.size → w'.cell? ⟨b, o, none⟩ = wr.cell? ⟨b, o, none⟩) ∧ wr.heap.size ≤ w'.heap.size)
                            (first | ((try dsimp only); exact ⟨fun b o h => (by (repeat (first | with_reducible exact rfl | (with_reducible refine (cell_drew_at _ _).trans ?_) | (with_reducible refine (cell_set_at _ _ (by first | omega | (simp; done) | (simp; omega))).trans ?_) | (with_reducible refine (cell_alloc_at _ _ (by first | omega | (simp; done) | (simp; omega))).trans ?_) | (with_reducible refine (hcwQ b o (by first | omega | (simp; done) | (simp; omega))).trans ?_)))), (by first | omega | (simp; done) | (simp; omega))⟩) | fail)
                            (first
                              | (go_at_call 87; (with_reducible refine (CJ.out _).mono ?_); rintro e wQ ⟨rfl, hbwQ⟩; obtain ⟨hcwQ, hfwQ⟩ := bcell hbwQ; have hzwQ := hbwQ.size; (try simp only [World.size_drew] at hcwQ hfwQ hzwQ)))
                          all_goals
                            go_wp2_with fail
                            go_roundw
                            case rel => exact ⟨k + 1, by omega, by go_num, apart_succ HUP.out (d_yes HA.out (by rw [← HN.out]; exact HJ.out) HB.out HXY.out), by repeat' (first | with_reducible assumption | with_reducible exact AtL.new _ _ _ | ((with_reducible refine AtL.newAt ?_); (first | rfl | (simp; done))) | (with_reducible refine AtL.drew ?_) | (with_reducible refine AtL.below ?_ (by with_reducible assumption)) | (with_reducible refine AtL.alloc ?_ _) | (with_reducible refine AtL.far ?_ ?_ _ _) | omega | (simp; done) | (simp; omega)), by repeat' (first | with_reducible assumption | (with_reducible refine Rd.drew ?_) | (with_reducible refine Rd.carry ?_ (by with_reducible assumption) ?_) | (with_reducible refine Rd.alloc ?_ ?_ _) | (with_reducible refine Rd.setCell ?_ ?_ _) | omega | (simp; done) | (simp; omega)), by repeat' (first | with_reducible assumption | with_reducible exact Below.refl _ _ | (with_reducible refine Below.setCell ?_ ?_ _) | (with_reducible refine Below.alloc ?_ ?_ _) | (with_reducible refine Below.drew ?_) | (with_reducible refine below_dr ?_ _) | (with_reducible refine Below.trans ?_ (Below.mono (by with_reducible assumption) ?_)) | omega | (simp; done) | (simp; omega))⟩
                            case measure => simp [intOf]; omega
                      case neg =>
                        obtain rfl : k = P := by omega
                        go_wp2_with fail
                        go_ret
                        exact ⟨ret_bool (vC_yes HLEN.out HPT.out HTEN.out HFIX.out HE1.out HE2.out (by rw [← HN.out, ← HP.out]; exact HUP.out)), g1⟩
end Go.Proofs.YtjlmoadnbbeloaaDoor
