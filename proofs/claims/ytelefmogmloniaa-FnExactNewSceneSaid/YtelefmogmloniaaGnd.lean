/- Walks: whether anchors have names, which are different. -/
import Derived.Test.YtelefmogmloniaaGnc
namespace Go.Proofs.Ytelefmogmloniaa
open Go.RowKit Go.Maps
set_option linter.unusedVariables false
set_option maxHeartbeats 1600000 in
theorem nameAnchor_any (x0 : ByteArray) (x1 : Int) (x2 : Int) (w : World) : Calls Try.prog 213 #[.agg #[.string x0, .int .i64 x1, .int .i64 x2]] w fun e w' => e = .returned (.string x0) ∧ Below w.heap.size w w' := by
  go_enter Try.func213, Try.ntmps213
  go_wp2_with fail
  go_ret
  exact ⟨rfl, by repeat' (first | with_reducible assumption | with_reducible exact Below.refl _ _ | (with_reducible refine Below.setCell ?_ ?_ _) | (with_reducible refine Below.alloc ?_ ?_ _) | (with_reducible refine Below.drew ?_) | (with_reducible refine below_dr ?_ _) | (with_reducible refine Below.trans ?_ (Below.mono (by with_reducible assumption) ?_)) | omega | (simp; done) | (simp; omega))⟩
set_option maxHeartbeats 3200000 in
set_option maxRecDepth 100000 in
theorem areNamedAnchor_any (l : List DAnchor) (A : Option Addr) (c : Nat) (w : World) (hl : l.length ≤ 1048576) (hs : ∀ (i : Nat) (d : DAnchor), l[i]? = some d → d.1.size ≤ maxLen) (r : Row RvAnchor 3 w w.heap.size A l) :
    Calls Try.prog 59 #[.slice A l.length c] w fun e w' => e = .returned (.bool (nmOk (fun a : DAnchor => a.1) l)) ∧ Below w.heap.size w w' := by
  have HS := Lib.hid hs
  clear hs
  obtain ⟨n, hn⟩ : ∃ n, n = l.length := ⟨_, rfl⟩
  rw [← hn] at hl ⊢
  have HN := Lib.hid hn
  clear hn
  have hmm := @run_makeMap Try.prog
  go_enter Try.func59, Try.ntmps59
  go_wp2_with fail
  clear hmm
  generalize hW : w.alloc (.map #[] 0) = W0
  have M0 : MapS W0 w.heap.size 0 (nmHas (fun a : DAnchor => a.1) l 0) := by rw [← hW, nmHas_zero]; exact MapS.made w
  have hb0 : Below w.heap.size w W0 := by rw [← hW]; repeat' (first | with_reducible assumption | with_reducible exact Below.refl _ _ | (with_reducible refine Below.setCell ?_ ?_ _) | (with_reducible refine Below.alloc ?_ ?_ _) | (with_reducible refine Below.drew ?_) | (with_reducible refine below_dr ?_ _) | (with_reducible refine Below.trans ?_ (Below.mono (by with_reducible assumption) ?_)) | omega | (simp; done) | (simp; omega))
  clear hW
  go_loopw [9] (fun i wr => ∃ k : Nat, k ≤ n ∧ i = .int .i64 k ∧ nmUp (fun a : DAnchor => a.1) l k = true ∧ MapS wr w.heap.size k (nmHas (fun a : DAnchor => a.1) l k) ∧ Below w.heap.size w wr) (fun i _ => n - (intOf i).toNat)
  case atStart => exact ⟨0, Nat.zero_le _, rfl, nmUp_zero, M0, hb0⟩
  case round =>
    obtain ⟨k, hk, rfl, hup, mk, hbl⟩ := hrel
    have HUP := Lib.hid hup
    have MK := Lib.hid mk
    have hmlt := mk.lt
    clear hup mk M0 hb0
    have zr := hbl.size
    by_cases hlt : k < n
    case pos =>
      obtain ⟨⟨x0, x1, x2⟩, ha⟩ : ∃ a, l[k]? = some a := ⟨l[k]'(by have := HN.out; omega), List.getElem?_eq_getElem (by have := HN.out; omega)⟩
      obtain ⟨g, o, rowc, rfl, hg, hRc, hcc⟩ := (Row.carry (w' := wr) r hbl (Nat.le_refl _)).elem ha
      obtain rfl := hRc
      have c0 : wr.cell? ⟨g, o + k * 3, none⟩ = some (.string x0) := hcc 0 _ rfl
      have c1 : wr.cell? ⟨g, o + k * 3 + 1, none⟩ = some (.int .i64 x1) := hcc 1 _ rfl
      have c2 : wr.cell? ⟨g, o + k * 3 + 2, none⟩ = some (.int .i64 x2) := hcc 2 _ rfl
      clear hcc
      have HA := Lib.hid ha
      have hsz : x0.size ≤ maxLen := HS.out k _ ha
      have CN := Lib.hid (fun w => nameAnchor_any x0 x1 x2 w)
      have CI := Lib.hid (fun w => implIsName_any x0 w (by unfold maxLen at hsz; omega))
      clear ha
      have hgw : g < wr.heap.size := by omega
      have hki : (k : Int) < (n : Int) := by omega
      go_wp2_with fail
      refine (CN.out _).mono ?_
      rintro e wA ⟨rfl, hbwA⟩
      obtain ⟨hcwA, hfwA⟩ := bcell hbwA
      have hzwA := hbwA.size
      (try simp only [World.size_setCell] at hcwA hfwA hzwA)
      (try simp only [World.size_drew] at hcwA hfwA hzwA)
      (try simp only [World.size_alloc] at hcwA hfwA hzwA)
      have ywA0 : wA.cell? ⟨wr.heap.size, 0, none⟩ = some (.string x0) := (hcwA _ _ (by first | omega | (simp; done) | (simp; omega))).trans (by simp [go_sem])
      have ywA1 : wA.cell? ⟨wr.heap.size, 1, none⟩ = some (.int .i64 x1) := (hcwA _ _ (by first | omega | (simp; done) | (simp; omega))).trans (by simp [go_sem])
      have ywA2 : wA.cell? ⟨wr.heap.size, 2, none⟩ = some (.int .i64 x2) := (hcwA _ _ (by first | omega | (simp; done) | (simp; omega))).trans (by simp [go_sem])
      have qwA : wr.heap.size < wA.heap.size := by omega
      clear hcwA hfwA
      clear c0 c1 c2
      rcases hv : nameB x0.data.toList with _ | _
      case false =>
        have CI2 := CI.out
        rw [hv] at CI2
        have CJ := Lib.hid CI2
        have HV := Lib.hid hv
        clear hv CI2 CI
        go_wp2_with fail
        refine (CJ.out _).mono ?_
        rintro e wB ⟨rfl, rfl⟩
        go_wp2_with fail
        go_ret
        exact ⟨ret_bool (nmOk_no1 HA.out HV.out), by repeat' (first | with_reducible assumption | with_reducible exact Below.refl _ _ | (with_reducible refine Below.setCell ?_ ?_ _) | (with_reducible refine Below.alloc ?_ ?_ _) | (with_reducible refine Below.drew ?_) | (with_reducible refine below_dr ?_ _) | (with_reducible refine Below.trans ?_ (Below.mono (by with_reducible assumption) ?_)) | omega | (simp; done) | (simp; omega))⟩
      case true =>
        have CI2 := CI.out
        rw [hv] at CI2
        have CJ := Lib.hid CI2
        have HV := Lib.hid hv
        clear hv CI2 CI
        go_wp2_with fail
        refine (CJ.out _).mono ?_
        rintro e wB ⟨rfl, rfl⟩
        go_wp2_with fail
        refine (CN.out _).mono ?_
        rintro e wC ⟨rfl, hbwC⟩
        obtain ⟨hcwC, hfwC⟩ := bcell hbwC
        have hzwC := hbwC.size
        (try simp only [World.size_setCell] at hcwC hfwC hzwC)
        (try simp only [World.size_drew] at hcwC hfwC hzwC)
        (try simp only [World.size_alloc] at hcwC hfwC hzwC)
        have ywC0 : wC.cell? ⟨wr.heap.size, 0, none⟩ = some (.string x0) := (hcwC _ _ (by omega)).trans ywA0
        have ywC1 : wC.cell? ⟨wr.heap.size, 1, none⟩ = some (.int .i64 x1) := (hcwC _ _ (by omega)).trans ywA1
        have ywC2 : wC.cell? ⟨wr.heap.size, 2, none⟩ = some (.int .i64 x2) := (hcwC _ _ (by omega)).trans ywA2
        have qwC : wr.heap.size < wC.heap.size := by omega
        clear hcwC hfwC ywA0 ywA1 ywA2
        have bC : Below wr.heap.size wr wC := by repeat' (first | with_reducible assumption | with_reducible exact Below.refl _ _ | (with_reducible refine Below.setCell ?_ ?_ _) | (with_reducible refine Below.alloc ?_ ?_ _) | (with_reducible refine Below.drew ?_) | (with_reducible refine below_dr ?_ _) | (with_reducible refine Below.trans ?_ (Below.mono (by with_reducible assumption) ?_)) | omega | (simp; done) | (simp; omega))
        have mC := MK.out.below bC hmlt
        have hlk := mC.look x0 hsz
        rcases hh : nmHas (fun a : DAnchor => a.1) l k x0.data.toList with _ | _
        case true =>
          rw [hh] at hlk
          have HH := Lib.hid hh
          clear hh
          go_wp2_with fail
          go_ret
          exact ⟨ret_bool (nmOk_no2 HA.out HH.out), by repeat' (first | with_reducible assumption | with_reducible exact Below.refl _ _ | (with_reducible refine Below.setCell ?_ ?_ _) | (with_reducible refine Below.alloc ?_ ?_ _) | (with_reducible refine Below.drew ?_) | (with_reducible refine below_dr ?_ _) | (with_reducible refine Below.trans ?_ (Below.mono (by with_reducible assumption) ?_)) | omega | (simp; done) | (simp; omega))⟩
        case false =>
          rw [hh] at hlk
          have HH := Lib.hid hh
          clear hh
          go_wp2_with fail
          clear hlk
          refine (CN.out _).mono ?_
          rintro e wD ⟨rfl, hbwD⟩
          obtain ⟨hcwD, hfwD⟩ := bcell hbwD
          have hzwD := hbwD.size
          (try simp only [World.size_setCell] at hcwD hfwD hzwD)
          (try simp only [World.size_drew] at hcwD hfwD hzwD)
          (try simp only [World.size_alloc] at hcwD hfwD hzwD)
          have ywD0 : wD.cell? ⟨wr.heap.size, 0, none⟩ = some (.string x0) := (hcwD _ _ (by omega)).trans ywC0
          have ywD1 : wD.cell? ⟨wr.heap.size, 1, none⟩ = some (.int .i64 x1) := (hcwD _ _ (by omega)).trans ywC1
          have ywD2 : wD.cell? ⟨wr.heap.size, 2, none⟩ = some (.int .i64 x2) := (hcwD _ _ (by omega)).trans ywC2
          have qwD : wr.heap.size < wD.heap.size := by omega
          clear hcwD hfwD ywC0 ywC1 ywC2
          have bD : Below wr.heap.size wr wD := by repeat' (first | with_reducible assumption | with_reducible exact Below.refl _ _ | (with_reducible refine Below.setCell ?_ ?_ _) | (with_reducible refine Below.alloc ?_ ?_ _) | (with_reducible refine Below.drew ?_) | (with_reducible refine below_dr ?_ _) | (with_reducible refine Below.trans ?_ (Below.mono (by with_reducible assumption) ?_)) | omega | (simp; done) | (simp; omega))
          have mD := MK.out.below bD hmlt
          obtain ⟨w9, hr9, m9, g9⟩ := mD.put x0 hsz (by unfold maxLen; omega) true
          have hb9 : Below w.heap.size w w9 := (hbl.trans (bD.mono hbl.size)).grown g9 (by omega) (by rintro j ⟨⟩; exact Nat.le_refl _)
          go_wp2_with fail
          go_roundw
          case rel => exact ⟨k + 1, by omega, by go_num, nmUp_succ HUP.out HA.out HV.out HH.out, by rw [nmHas_succ HA.out]; exact m9, hb9⟩
          case measure => simp [intOf]; omega
    case neg =>
      obtain rfl : k = n := by omega
      go_wp2_with fail
      go_ret
      exact ⟨ret_bool (by unfold nmOk; rw [← HN.out, HUP.out]), by repeat' (first | with_reducible assumption | with_reducible exact Below.refl _ _ | (with_reducible refine Below.setCell ?_ ?_ _) | (with_reducible refine Below.alloc ?_ ?_ _) | (with_reducible refine Below.drew ?_) | (with_reducible refine below_dr ?_ _) | (with_reducible refine Below.trans ?_ (Below.mono (by with_reducible assumption) ?_)) | omega | (simp; done) | (simp; omega))⟩
end Go.Proofs.Ytelefmogmloniaa
