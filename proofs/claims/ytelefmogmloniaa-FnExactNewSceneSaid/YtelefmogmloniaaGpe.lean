/- Walks: the parts of the program's test of a set: names, codes, parts that are glyphs. -/
import Derived.Test.YtelefmogmloniaaGpb
namespace Go.Proofs.Ytelefmogmloniaa
open Go.RowKit Go.Maps
set_option linter.unusedVariables false
set_option maxHeartbeats 1600000 in
theorem nameGlyph_any (x0 : ByteArray) (x1 : Int) (x2 : Int) (x3A : Option Addr) (x3c : Nat) (x3l : List DLoop) (x4A : Option Addr) (x4c : Nat) (x4l : List DPart) (x5A : Option Addr) (x5c : Nat) (x5l : List DAnchor) (x6 : ByteArray) (w : World) : Calls Try.prog 208 #[.agg #[.string x0, .int .i64 x1, .int .i64 x2, .slice x3A x3l.length x3c, .slice x4A x4l.length x4c, .slice x5A x5l.length x5c, .string x6]] w fun e w' => e = .returned (.string x0) ∧ Below w.heap.size w w' := by
  go_enter Try.func208, Try.ntmps208
  go_wp2_with fail
  go_ret
  exact ⟨rfl, by repeat' (first | with_reducible assumption | with_reducible exact Below.refl _ _ | (with_reducible refine Below.setCell ?_ ?_ _) | (with_reducible refine Below.alloc ?_ ?_ _) | (with_reducible refine Below.drew ?_) | (with_reducible refine below_dr ?_ _) | (with_reducible refine Below.trans ?_ (Below.mono (by with_reducible assumption) ?_)) | omega | (simp; done) | (simp; omega))⟩
set_option maxHeartbeats 3200000 in
set_option maxRecDepth 100000 in
theorem areNamedGlyph_any (l : List DGlyph) (A : Option Addr) (c : Nat) (w : World) (hl : l.length ≤ 1048576) (hs : ∀ (i : Nat) (d : DGlyph), l[i]? = some d → d.1.size ≤ maxLen) (r : Row RvGlyph 7 w w.heap.size A l) :
    Calls Try.prog 91 #[.slice A l.length c] w fun e w' => e = .returned (.bool (nmOk (fun a : DGlyph => a.1) l)) ∧ Below w.heap.size w w' := by
  have HS := Lib.hid hs
  clear hs
  obtain ⟨n, hn⟩ : ∃ n, n = l.length := ⟨_, rfl⟩
  rw [← hn] at hl ⊢
  have HN := Lib.hid hn
  clear hn
  have hmm := @run_makeMap Try.prog
  go_enter Try.func91, Try.ntmps91
  go_wp2_with fail
  clear hmm
  generalize hW : w.alloc (.map #[] 0) = W0
  have M0 : MapS W0 w.heap.size 0 (nmHas (fun a : DGlyph => a.1) l 0) := by rw [← hW, nmHas_zero]; exact MapS.made w
  have hb0 : Below w.heap.size w W0 := by rw [← hW]; repeat' (first | with_reducible assumption | with_reducible exact Below.refl _ _ | (with_reducible refine Below.setCell ?_ ?_ _) | (with_reducible refine Below.alloc ?_ ?_ _) | (with_reducible refine Below.drew ?_) | (with_reducible refine below_dr ?_ _) | (with_reducible refine Below.trans ?_ (Below.mono (by with_reducible assumption) ?_)) | omega | (simp; done) | (simp; omega))
  clear hW
  go_loopw [9] (fun i wr => ∃ k : Nat, k ≤ n ∧ i = .int .i64 k ∧ nmUp (fun a : DGlyph => a.1) l k = true ∧ MapS wr w.heap.size k (nmHas (fun a : DGlyph => a.1) l k) ∧ Below w.heap.size w wr) (fun i _ => n - (intOf i).toNat)
  case atStart => exact ⟨0, Nat.zero_le _, rfl, nmUp_zero, M0, hb0⟩
  case round =>
    obtain ⟨k, hk, rfl, hup, mk, hbl⟩ := hrel
    have HUP := Lib.hid hup
    have MK := Lib.hid mk
    have hmlt := mk.lt
    clear hup mk M0 hb0
    have zr := hbl.size
    by_cases hlt : k < n
    case pos =>
      obtain ⟨⟨x0, x1, x2, x3l, x4l, x5l, x6⟩, ha⟩ : ∃ a, l[k]? = some a := ⟨l[k]'(by have := HN.out; omega), List.getElem?_eq_getElem (by have := HN.out; omega)⟩
      obtain ⟨g, o, rowc, rfl, hg, hRc, hcc⟩ := (Row.carry (w' := wr) r hbl (Nat.le_refl _)).elem ha
      obtain ⟨x3A, x3c, x4A, x4c, x5A, x5c, rfl, u_x3, u_x4, u_x5⟩ := hRc
      have c0 : wr.cell? ⟨g, o + k * 7, none⟩ = some (.string x0) := hcc 0 _ rfl
      have c1 : wr.cell? ⟨g, o + k * 7 + 1, none⟩ = some (.int .i64 x1) := hcc 1 _ rfl
      have c2 : wr.cell? ⟨g, o + k * 7 + 2, none⟩ = some (.int .i64 x2) := hcc 2 _ rfl
      have c3 : wr.cell? ⟨g, o + k * 7 + 3, none⟩ = some (.slice x3A x3l.length x3c) := hcc 3 _ rfl
      have c4 : wr.cell? ⟨g, o + k * 7 + 4, none⟩ = some (.slice x4A x4l.length x4c) := hcc 4 _ rfl
      have c5 : wr.cell? ⟨g, o + k * 7 + 5, none⟩ = some (.slice x5A x5l.length x5c) := hcc 5 _ rfl
      have c6 : wr.cell? ⟨g, o + k * 7 + 6, none⟩ = some (.string x6) := hcc 6 _ rfl
      clear hcc
      have HA := Lib.hid ha
      have hsz : x0.size ≤ maxLen := HS.out k _ ha
      have CN := Lib.hid (fun w => nameGlyph_any x0 x1 x2 x3A x3c x3l x4A x4c x4l x5A x5c x5l x6 w)
      have CI := Lib.hid (fun w => implIsName_any x0 w (by unfold maxLen at hsz; omega))
      clear ha
      have hgw : g < wr.heap.size := by omega
      have hki : (k : Int) < (n : Int) := by omega
      go_wp2_with fail
      refine (CN.out _).mono ?_
      rintro e wA ⟨rfl, hbwA⟩
      obtain ⟨hcwA, hfwA⟩ := bcell hbwA
      have hzwA := hbwA.size
      (try simp only [World.size_setCell] at hcwA hfwA hzwA)
      (try simp only [World.size_drew] at hcwA hfwA hzwA)
      (try simp only [World.size_alloc] at hcwA hfwA hzwA)
      have ywA0 : wA.cell? ⟨wr.heap.size, 0, none⟩ = some (.string x0) := (hcwA _ _ (by first | omega | (simp; done) | (simp; omega))).trans (by simp [go_sem])
      have ywA1 : wA.cell? ⟨wr.heap.size, 1, none⟩ = some (.int .i64 x1) := (hcwA _ _ (by first | omega | (simp; done) | (simp; omega))).trans (by simp [go_sem])
      have ywA2 : wA.cell? ⟨wr.heap.size, 2, none⟩ = some (.int .i64 x2) := (hcwA _ _ (by first | omega | (simp; done) | (simp; omega))).trans (by simp [go_sem])
      have ywA3 : wA.cell? ⟨wr.heap.size, 3, none⟩ = some (.slice x3A x3l.length x3c) := (hcwA _ _ (by first | omega | (simp; done) | (simp; omega))).trans (by simp [go_sem])
      have ywA4 : wA.cell? ⟨wr.heap.size, 4, none⟩ = some (.slice x4A x4l.length x4c) := (hcwA _ _ (by first | omega | (simp; done) | (simp; omega))).trans (by simp [go_sem])
      have ywA5 : wA.cell? ⟨wr.heap.size, 5, none⟩ = some (.slice x5A x5l.length x5c) := (hcwA _ _ (by first | omega | (simp; done) | (simp; omega))).trans (by simp [go_sem])
      have ywA6 : wA.cell? ⟨wr.heap.size, 6, none⟩ = some (.string x6) := (hcwA _ _ (by first | omega | (simp; done) | (simp; omega))).trans (by simp [go_sem])
      have qwA : wr.heap.size < wA.heap.size := by omega
      clear hcwA hfwA
      clear c0 c1 c2 c3 c4 c5 c6
      rcases hv : nameB x0.data.toList with _ | _
      case false =>
        have CI2 := CI.out
        rw [hv] at CI2
        have CJ := Lib.hid CI2
        have HV := Lib.hid hv
        clear hv CI2 CI
        go_wp2_with fail
        refine (CJ.out _).mono ?_
        rintro e wB ⟨rfl, rfl⟩
        go_wp2_with fail
        go_ret
        exact ⟨ret_bool (nmOk_no1 HA.out HV.out), by repeat' (first | with_reducible assumption | with_reducible exact Below.refl _ _ | (with_reducible refine Below.setCell ?_ ?_ _) | (with_reducible refine Below.alloc ?_ ?_ _) | (with_reducible refine Below.drew ?_) | (with_reducible refine below_dr ?_ _) | (with_reducible refine Below.trans ?_ (Below.mono (by with_reducible assumption) ?_)) | omega | (simp; done) | (simp; omega))⟩
      case true =>
        have CI2 := CI.out
        rw [hv] at CI2
        have CJ := Lib.hid CI2
        have HV := Lib.hid hv
        clear hv CI2 CI
        go_wp2_with fail
        refine (CJ.out _).mono ?_
        rintro e wB ⟨rfl, rfl⟩
        go_wp2_with fail
        refine (CN.out _).mono ?_
        rintro e wC ⟨rfl, hbwC⟩
        obtain ⟨hcwC, hfwC⟩ := bcell hbwC
        have hzwC := hbwC.size
        (try simp only [World.size_setCell] at hcwC hfwC hzwC)
        (try simp only [World.size_drew] at hcwC hfwC hzwC)
        (try simp only [World.size_alloc] at hcwC hfwC hzwC)
        have ywC0 : wC.cell? ⟨wr.heap.size, 0, none⟩ = some (.string x0) := (hcwC _ _ (by omega)).trans ywA0
        have ywC1 : wC.cell? ⟨wr.heap.size, 1, none⟩ = some (.int .i64 x1) := (hcwC _ _ (by omega)).trans ywA1
        have ywC2 : wC.cell? ⟨wr.heap.size, 2, none⟩ = some (.int .i64 x2) := (hcwC _ _ (by omega)).trans ywA2
        have ywC3 : wC.cell? ⟨wr.heap.size, 3, none⟩ = some (.slice x3A x3l.length x3c) := (hcwC _ _ (by omega)).trans ywA3
        have ywC4 : wC.cell? ⟨wr.heap.size, 4, none⟩ = some (.slice x4A x4l.length x4c) := (hcwC _ _ (by omega)).trans ywA4
        have ywC5 : wC.cell? ⟨wr.heap.size, 5, none⟩ = some (.slice x5A x5l.length x5c) := (hcwC _ _ (by omega)).trans ywA5
        have ywC6 : wC.cell? ⟨wr.heap.size, 6, none⟩ = some (.string x6) := (hcwC _ _ (by omega)).trans ywA6
        have qwC : wr.heap.size < wC.heap.size := by omega
        clear hcwC hfwC ywA0 ywA1 ywA2 ywA3 ywA4 ywA5 ywA6
        have bC : Below wr.heap.size wr wC := by repeat' (first | with_reducible assumption | with_reducible exact Below.refl _ _ | (with_reducible refine Below.setCell ?_ ?_ _) | (with_reducible refine Below.alloc ?_ ?_ _) | (with_reducible refine Below.drew ?_) | (with_reducible refine below_dr ?_ _) | (with_reducible refine Below.trans ?_ (Below.mono (by with_reducible assumption) ?_)) | omega | (simp; done) | (simp; omega))
        have mC := MK.out.below bC hmlt
        have hlk := mC.look x0 hsz
        rcases hh : nmHas (fun a : DGlyph => a.1) l k x0.data.toList with _ | _
        case true =>
          rw [hh] at hlk
          have HH := Lib.hid hh
          clear hh
          go_wp2_with fail
          go_ret
          exact ⟨ret_bool (nmOk_no2 HA.out HH.out), by repeat' (first | with_reducible assumption | with_reducible exact Below.refl _ _ | (with_reducible refine Below.setCell ?_ ?_ _) | (with_reducible refine Below.alloc ?_ ?_ _) | (with_reducible refine Below.drew ?_) | (with_reducible refine below_dr ?_ _) | (with_reducible refine Below.trans ?_ (Below.mono (by with_reducible assumption) ?_)) | omega | (simp; done) | (simp; omega))⟩
        case false =>
          rw [hh] at hlk
          have HH := Lib.hid hh
          clear hh
          go_wp2_with fail
          clear hlk
          refine (CN.out _).mono ?_
          rintro e wD ⟨rfl, hbwD⟩
          obtain ⟨hcwD, hfwD⟩ := bcell hbwD
          have hzwD := hbwD.size
          (try simp only [World.size_setCell] at hcwD hfwD hzwD)
          (try simp only [World.size_drew] at hcwD hfwD hzwD)
          (try simp only [World.size_alloc] at hcwD hfwD hzwD)
          have ywD0 : wD.cell? ⟨wr.heap.size, 0, none⟩ = some (.string x0) := (hcwD _ _ (by omega)).trans ywC0
          have ywD1 : wD.cell? ⟨wr.heap.size, 1, none⟩ = some (.int .i64 x1) := (hcwD _ _ (by omega)).trans ywC1
          have ywD2 : wD.cell? ⟨wr.heap.size, 2, none⟩ = some (.int .i64 x2) := (hcwD _ _ (by omega)).trans ywC2
          have ywD3 : wD.cell? ⟨wr.heap.size, 3, none⟩ = some (.slice x3A x3l.length x3c) := (hcwD _ _ (by omega)).trans ywC3
          have ywD4 : wD.cell? ⟨wr.heap.size, 4, none⟩ = some (.slice x4A x4l.length x4c) := (hcwD _ _ (by omega)).trans ywC4
          have ywD5 : wD.cell? ⟨wr.heap.size, 5, none⟩ = some (.slice x5A x5l.length x5c) := (hcwD _ _ (by omega)).trans ywC5
          have ywD6 : wD.cell? ⟨wr.heap.size, 6, none⟩ = some (.string x6) := (hcwD _ _ (by omega)).trans ywC6
          have qwD : wr.heap.size < wD.heap.size := by omega
          clear hcwD hfwD ywC0 ywC1 ywC2 ywC3 ywC4 ywC5 ywC6
          have bD : Below wr.heap.size wr wD := by repeat' (first | with_reducible assumption | with_reducible exact Below.refl _ _ | (with_reducible refine Below.setCell ?_ ?_ _) | (with_reducible refine Below.alloc ?_ ?_ _) | (with_reducible refine Below.drew ?_) | (with_reducible refine below_dr ?_ _) | (with_reducible refine Below.trans ?_ (Below.mono (by with_reducible assumption) ?_)) | omega | (simp; done) | (simp; omega))
          have mD := MK.out.below bD hmlt
          obtain ⟨w9, hr9, m9, g9⟩ := mD.put x0 hsz (by unfold maxLen; omega) true
          have hb9 : Below w.heap.size w w9 := (hbl.trans (bD.mono hbl.size)).grown g9 (by omega) (by rintro j ⟨⟩; exact Nat.le_refl _)
          go_wp2_with fail
          go_roundw
          case rel => exact ⟨k + 1, by omega, by go_num, nmUp_succ HUP.out HA.out HV.out HH.out, by rw [nmHas_succ HA.out]; exact m9, hb9⟩
          case measure => simp [intOf]; omega
    case neg =>
      obtain rfl : k = n := by omega
      go_wp2_with fail
      go_ret
      exact ⟨ret_bool (by unfold nmOk; rw [← HN.out, HUP.out]), by repeat' (first | with_reducible assumption | with_reducible exact Below.refl _ _ | (with_reducible refine Below.setCell ?_ ?_ _) | (with_reducible refine Below.alloc ?_ ?_ _) | (with_reducible refine Below.drew ?_) | (with_reducible refine below_dr ?_ _) | (with_reducible refine Below.trans ?_ (Below.mono (by with_reducible assumption) ?_)) | omega | (simp; done) | (simp; omega))⟩
set_option maxHeartbeats 1600000 in
theorem areAll1_glyphOk  (x0 : ByteArray) (x1 : Int) (x2 : Int) (x3A : Option Addr) (x3c : Nat) (x3l : List DLoop) (x4A : Option Addr) (x4c : Nat) (x4l : List DPart) (x5A : Option Addr) (x5c : Nat) (x5l : List DAnchor) (x6 : ByteArray) (p : DGlyph → Bool) (Bh : Nat) (w : World) (r_x3 : Row RvLoop 1 w w.heap.size x3A x3l) (r_x4 : Row RvPart 3 w w.heap.size x4A x4l) (r_x5 : Row RvAnchor 3 w w.heap.size x5A x5l) (b0 : w.cell? ⟨Bh, 0, none⟩ = some (.func (.func 16) #[] #[])) (hh : Bh < w.heap.size) (hC : ∀ (w1 : World), Below w.heap.size w w1 → Row RvLoop 1 w1 w1.heap.size x3A x3l → Row RvPart 3 w1 w1.heap.size x4A x4l → Row RvAnchor 3 w1 w1.heap.size x5A x5l → Calls Try.prog 16 #[.agg #[.string x0, .int .i64 x1, .int .i64 x2, .slice x3A x3l.length x3c, .slice x4A x4l.length x4c, .slice x5A x5l.length x5c, .string x6]] w1 fun e w2 => e = .returned (.bool (p (x0, x1, x2, x3l, x4l, x5l, x6))) ∧ Below w1.heap.size w1 w2) :
    Calls Try.prog 153 #[.agg #[.string x0, .int .i64 x1, .int .i64 x2, .slice x3A x3l.length x3c, .slice x4A x4l.length x4c, .slice x5A x5l.length x5c, .string x6], .pointer (some ⟨Bh, 0, none⟩)] w fun e w' => e = .returned (.bool (!(p (x0, x1, x2, x3l, x4l, x5l, x6)))) ∧ Below w.heap.size w w' := by
  have N := Lib.hid hC
  clear hC
  generalize p (x0, x1, x2, x3l, x4l, x5l, x6) = v at *
  go_enter Try.func153, Try.ntmps153
  go_wp2_with fail
  refine (N.out _ (by repeat' (first | with_reducible assumption | with_reducible exact Below.refl _ _ | (with_reducible refine Below.setCell ?_ ?_ _) | (with_reducible refine Below.alloc ?_ ?_ _) | (with_reducible refine Below.drew ?_) | (with_reducible refine below_dr ?_ _) | (with_reducible refine Below.trans ?_ (Below.mono (by with_reducible assumption) ?_)) | omega | (simp; done) | (simp; omega))) ?_ ?_ ?_).mono ?_
  · exact (Row.alloc r_x3 (Nat.le_refl _) _).more (by simp)
  · exact (Row.alloc r_x4 (Nat.le_refl _) _).more (by simp)
  · exact (Row.alloc r_x5 (Nat.le_refl _) _).more (by simp)
  rintro e w1 ⟨rfl, hb1⟩
  go_wp2_with fail
  go_ret
  exact ⟨rfl, by repeat' (first | with_reducible assumption | with_reducible exact Below.refl _ _ | (with_reducible refine Below.setCell ?_ ?_ _) | (with_reducible refine Below.alloc ?_ ?_ _) | (with_reducible refine Below.drew ?_) | (with_reducible refine below_dr ?_ _) | (with_reducible refine Below.trans ?_ (Below.mono (by with_reducible assumption) ?_)) | omega | (simp; done) | (simp; omega))⟩
set_option maxHeartbeats 3200000 in
theorem indexFunc_glyphOk  (l : List DGlyph) (A : Option Addr) (c : Nat) (p : DGlyph → Bool) (Bh : Nat) (w : World) (hl : l.length ≤ 1048576) (r : Row RvGlyph 7 w w.heap.size A l) (b0 : w.cell? ⟨Bh, 0, none⟩ = some (.func (.func 16) #[] #[])) (hh : Bh < w.heap.size) (hC : ∀ (w1 : World), Below w.heap.size w w1 → ∀ (k : Nat) (x0 : ByteArray) (x1 : Int) (x2 : Int) (x3A : Option Addr) (x3c : Nat) (x3l : List DLoop) (x4A : Option Addr) (x4c : Nat) (x4l : List DPart) (x5A : Option Addr) (x5c : Nat) (x5l : List DAnchor) (x6 : ByteArray), l[k]? = some (x0, x1, x2, x3l, x4l, x5l, x6) → Row RvLoop 1 w1 w1.heap.size x3A x3l → Row RvPart 3 w1 w1.heap.size x4A x4l → Row RvAnchor 3 w1 w1.heap.size x5A x5l → Calls Try.prog 16 #[.agg #[.string x0, .int .i64 x1, .int .i64 x2, .slice x3A x3l.length x3c, .slice x4A x4l.length x4c, .slice x5A x5l.length x5c, .string x6]] w1 fun e w2 => e = .returned (.bool (p (x0, x1, x2, x3l, x4l, x5l, x6))) ∧ Below w1.heap.size w1 w2) :
    Calls Try.prog 156 #[.slice A l.length c, .func (.func 153) #[] #[.pointer (some ⟨Bh, 0, none⟩)]] w fun e w' => (∃ i : Int, e = .returned (.int .i64 i) ∧ decide (0 ≤ i) = !(l.all p)) ∧ Below w.heap.size w w' := by
  have N := Lib.hid hC
  clear hC
  have RA := Lib.hid r
  have B0 := Lib.hid b0
  clear r b0
  obtain ⟨n, hn⟩ : ∃ n, n = l.length := ⟨_, rfl⟩
  rw [← hn] at hl ⊢
  have HN := Lib.hid hn
  clear hn
  go_enter Try.func156, Try.ntmps156
  go_wp2
  go_loopw [5, 8] (fun u i wr => ∃ k : Nat, k ≤ n ∧ i = .int .i64 k ∧ alU p l k ∧ Below w.heap.size w wr) (fun u i _ => n - (intOf i).toNat)
  case atStart => exact ⟨0, Nat.zero_le _, rfl, alU_zero, Below.refl _ _⟩
  case round =>
    obtain ⟨k, hk, rfl, hyes, hbl⟩ := hrel
    have HY := Lib.hid hyes
    clear hyes
    have hzw := hbl.size
    by_cases hlt : k < n
    case pos =>
      obtain ⟨⟨x0, x1, x2, x3l, x4l, x5l, x6⟩, ha⟩ : ∃ a, l[k]? = some a := ⟨l[k]'(by have := HN.out; omega), List.getElem?_eq_getElem (by have := HN.out; omega)⟩
      obtain ⟨g, o, rowc, rfl, hg, hRc, hcc⟩ := (Row.carry (w' := wr) RA.out hbl (Nat.le_refl _)).elem ha
      obtain ⟨x3A, x3c, x4A, x4c, x5A, x5c, rfl, u_x3, u_x4, u_x5⟩ := hRc
      have c0 : wr.cell? ⟨g, o + k * 7, none⟩ = some (.string x0) := hcc 0 _ rfl
      have c1 : wr.cell? ⟨g, o + k * 7 + 1, none⟩ = some (.int .i64 x1) := hcc 1 _ rfl
      have c2 : wr.cell? ⟨g, o + k * 7 + 2, none⟩ = some (.int .i64 x2) := hcc 2 _ rfl
      have c3 : wr.cell? ⟨g, o + k * 7 + 3, none⟩ = some (.slice x3A x3l.length x3c) := hcc 3 _ rfl
      have c4 : wr.cell? ⟨g, o + k * 7 + 4, none⟩ = some (.slice x4A x4l.length x4c) := hcc 4 _ rfl
      have c5 : wr.cell? ⟨g, o + k * 7 + 5, none⟩ = some (.slice x5A x5l.length x5c) := hcc 5 _ rfl
      have c6 : wr.cell? ⟨g, o + k * 7 + 6, none⟩ = some (.string x6) := hcc 6 _ rfl
      clear hcc
      have HA := Lib.hid ha
      clear ha
      have hgw : g < wr.heap.size := by omega
      have hki : (k : Int) < (n : Int) := by omega
      have CC := areAll1_glyphOk  x0 x1 x2 x3A x3c x3l x4A x4c x4l x5A x5c x5l x6 p Bh wr (u_x3.more (by omega)) (u_x4.more (by omega)) (u_x5.more (by omega)) ((hbl.cell (p := ⟨Bh, 0, none⟩) hh).trans B0.out) (by omega) (fun w1 hb1 q_x3 q_x4 q_x5 => N.out w1 (by repeat' (first | with_reducible assumption | with_reducible exact Below.refl _ _ | (with_reducible refine Below.setCell ?_ ?_ _) | (with_reducible refine Below.alloc ?_ ?_ _) | (with_reducible refine Below.drew ?_) | (with_reducible refine below_dr ?_ _) | (with_reducible refine Below.trans ?_ (Below.mono (by with_reducible assumption) ?_)) | omega | (simp; done) | (simp; omega))) k x0 x1 x2 x3A x3c x3l x4A x4c x4l x5A x5c x5l x6 HA.out q_x3 q_x4 q_x5)
      rcases hv : p (x0, x1, x2, x3l, x4l, x5l, x6) with _ | _
      case false =>
        have HV := Lib.hid hv
        rw [hv] at CC
        have C := Lib.hid CC
        clear hv CC
        go_wp2_with fail
        refine C.out.mono ?_
        rintro e w1 ⟨rfl, hb1⟩
        go_wp2
        go_ret
        exact ⟨⟨_, rfl, by rw [all_no HA.out HV.out]; simp⟩, by repeat' (first | with_reducible assumption | with_reducible exact Below.refl _ _ | (with_reducible refine Below.setCell ?_ ?_ _) | (with_reducible refine Below.alloc ?_ ?_ _) | (with_reducible refine Below.drew ?_) | (with_reducible refine below_dr ?_ _) | (with_reducible refine Below.trans ?_ (Below.mono (by with_reducible assumption) ?_)) | omega | (simp; done) | (simp; omega))⟩
      case true =>
        have HV := Lib.hid hv
        rw [hv] at CC
        have C := Lib.hid CC
        clear hv CC
        go_wp2_with fail
        refine C.out.mono ?_
        rintro e w1 ⟨rfl, hb1⟩
        go_wp2
        go_roundw
        case rel => exact ⟨k + 1, by omega, by go_num, alU_succ HY.out HA.out HV.out, by repeat' (first | with_reducible assumption | with_reducible exact Below.refl _ _ | (with_reducible refine Below.setCell ?_ ?_ _) | (with_reducible refine Below.alloc ?_ ?_ _) | (with_reducible refine Below.drew ?_) | (with_reducible refine below_dr ?_ _) | (with_reducible refine Below.trans ?_ (Below.mono (by with_reducible assumption) ?_)) | omega | (simp; done) | (simp; omega))⟩
        case measure => simp [intOf]; omega
    case neg =>
      obtain rfl : k = n := by omega
      go_wp2
      go_ret
      exact ⟨⟨_, rfl, by rw [all_yes (by rw [← HN.out]; exact HY.out)]; rfl⟩, hbl⟩
set_option maxHeartbeats 1600000 in
theorem containsFunc_glyphOk  (l : List DGlyph) (A : Option Addr) (c : Nat) (p : DGlyph → Bool) (Bh : Nat) (w : World) (hl : l.length ≤ 1048576) (r : Row RvGlyph 7 w w.heap.size A l) (b0 : w.cell? ⟨Bh, 0, none⟩ = some (.func (.func 16) #[] #[])) (hh : Bh < w.heap.size) (hC : ∀ (w1 : World), Below w.heap.size w w1 → ∀ (k : Nat) (x0 : ByteArray) (x1 : Int) (x2 : Int) (x3A : Option Addr) (x3c : Nat) (x3l : List DLoop) (x4A : Option Addr) (x4c : Nat) (x4l : List DPart) (x5A : Option Addr) (x5c : Nat) (x5l : List DAnchor) (x6 : ByteArray), l[k]? = some (x0, x1, x2, x3l, x4l, x5l, x6) → Row RvLoop 1 w1 w1.heap.size x3A x3l → Row RvPart 3 w1 w1.heap.size x4A x4l → Row RvAnchor 3 w1 w1.heap.size x5A x5l → Calls Try.prog 16 #[.agg #[.string x0, .int .i64 x1, .int .i64 x2, .slice x3A x3l.length x3c, .slice x4A x4l.length x4c, .slice x5A x5l.length x5c, .string x6]] w1 fun e w2 => e = .returned (.bool (p (x0, x1, x2, x3l, x4l, x5l, x6))) ∧ Below w1.heap.size w1 w2) :
    Calls Try.prog 152 #[.slice A l.length c, .func (.func 153) #[] #[.pointer (some ⟨Bh, 0, none⟩)]] w fun e w' => e = .returned (.bool (!(l.all p))) ∧ Below w.heap.size w w' := by
  have N := Lib.hid (indexFunc_glyphOk  l A c p Bh w hl r b0 hh hC)
  clear hC b0 r hl
  generalize l.length = n at *
  generalize l.all p = v at *
  go_enter Try.func152, Try.ntmps152
  go_wp2_with fail
  refine N.out.mono ?_
  rintro e w1 ⟨⟨i, rfl, hi⟩, hb1⟩
  go_wp2
  go_ret
  exact ⟨rfl, hb1⟩
set_option maxHeartbeats 1600000 in
theorem areAll_glyphOk  (l : List DGlyph) (A : Option Addr) (c : Nat) (p : DGlyph → Bool) (w : World) (hl : l.length ≤ 1048576) (r : Row RvGlyph 7 w w.heap.size A l) (hC : ∀ (w1 : World), Below w.heap.size w w1 → ∀ (k : Nat) (x0 : ByteArray) (x1 : Int) (x2 : Int) (x3A : Option Addr) (x3c : Nat) (x3l : List DLoop) (x4A : Option Addr) (x4c : Nat) (x4l : List DPart) (x5A : Option Addr) (x5c : Nat) (x5l : List DAnchor) (x6 : ByteArray), l[k]? = some (x0, x1, x2, x3l, x4l, x5l, x6) → Row RvLoop 1 w1 w1.heap.size x3A x3l → Row RvPart 3 w1 w1.heap.size x4A x4l → Row RvAnchor 3 w1 w1.heap.size x5A x5l → Calls Try.prog 16 #[.agg #[.string x0, .int .i64 x1, .int .i64 x2, .slice x3A x3l.length x3c, .slice x4A x4l.length x4c, .slice x5A x5l.length x5c, .string x6]] w1 fun e w2 => e = .returned (.bool (p (x0, x1, x2, x3l, x4l, x5l, x6))) ∧ Below w1.heap.size w1 w2) :
    Calls Try.prog 90 #[.slice A l.length c, .func (.func 16) #[] #[]] w fun e w' => e = .returned (.bool (l.all p)) ∧ Below w.heap.size w w' := by
  have N := Lib.hid (fun (w' : World) (hb : Below w.heap.size w w') r b0 hh => containsFunc_glyphOk  l A c p w.heap.size w' hl r b0 hh (fun w1 h1 => hC w1 (hb.trans (Below.mono h1 hb.size))))
  clear hC
  have RA := Lib.hid r
  clear r hl
  generalize l.length = n at *
  generalize l.all p = v at *
  go_enter Try.func90, Try.ntmps90
  go_wp2_with fail
  refine (N.out _ (by repeat' (first | with_reducible assumption | with_reducible exact Below.refl _ _ | (with_reducible refine Below.setCell ?_ ?_ _) | (with_reducible refine Below.alloc ?_ ?_ _) | (with_reducible refine Below.drew ?_) | (with_reducible refine below_dr ?_ _) | (with_reducible refine Below.trans ?_ (Below.mono (by with_reducible assumption) ?_)) | omega | (simp; done) | (simp; omega))) ((RA.out.alloc (Nat.le_refl _) _).more (by simp)) (by simp [go_sem]) (by simp)).mono ?_
  rintro e w1 ⟨rfl, hb1⟩
  go_wp2
  go_ret
  exact ⟨by simp, by repeat' (first | with_reducible assumption | with_reducible exact Below.refl _ _ | (with_reducible refine Below.setCell ?_ ?_ _) | (with_reducible refine Below.alloc ?_ ?_ _) | (with_reducible refine Below.drew ?_) | (with_reducible refine below_dr ?_ _) | (with_reducible refine Below.trans ?_ (Below.mono (by with_reducible assumption) ?_)) | omega | (simp; done) | (simp; omega))⟩
set_option maxHeartbeats 1600000 in
theorem areAll1_inSet (Bs : Nat) (x0 : Int) (x1 : Int) (x2 : Int) (p : DPart → Bool) (Bh : Nat) (w : World)  (b0 : w.cell? ⟨Bh, 0, none⟩ = some (.func (.func 154) #[] #[.pointer (some ⟨Bs, 0, none⟩)])) (hh : Bh < w.heap.size) (hC : ∀ (w1 : World), Below w.heap.size w w1 → Calls Try.prog 154 #[.agg #[.int .i64 x0, .int .i64 x1, .int .i64 x2], .pointer (some ⟨Bs, 0, none⟩)] w1 fun e w2 => e = .returned (.bool (p (x0, x1, x2))) ∧ Below w1.heap.size w1 w2) :
    Calls Try.prog 123 #[.agg #[.int .i64 x0, .int .i64 x1, .int .i64 x2], .pointer (some ⟨Bh, 0, none⟩)] w fun e w' => e = .returned (.bool (!(p (x0, x1, x2)))) ∧ Below w.heap.size w w' := by
  have N := Lib.hid hC
  clear hC
  generalize p (x0, x1, x2) = v at *
  go_enter Try.func123, Try.ntmps123
  go_wp2_with fail
  refine (N.out _ (by repeat' (first | with_reducible assumption | with_reducible exact Below.refl _ _ | (with_reducible refine Below.setCell ?_ ?_ _) | (with_reducible refine Below.alloc ?_ ?_ _) | (with_reducible refine Below.drew ?_) | (with_reducible refine below_dr ?_ _) | (with_reducible refine Below.trans ?_ (Below.mono (by with_reducible assumption) ?_)) | omega | (simp; done) | (simp; omega)))).mono ?_
  rintro e w1 ⟨rfl, hb1⟩
  go_wp2_with fail
  go_ret
  exact ⟨rfl, by repeat' (first | with_reducible assumption | with_reducible exact Below.refl _ _ | (with_reducible refine Below.setCell ?_ ?_ _) | (with_reducible refine Below.alloc ?_ ?_ _) | (with_reducible refine Below.drew ?_) | (with_reducible refine below_dr ?_ _) | (with_reducible refine Below.trans ?_ (Below.mono (by with_reducible assumption) ?_)) | omega | (simp; done) | (simp; omega))⟩
set_option maxHeartbeats 3200000 in
theorem indexFunc_inSet (Bs : Nat) (l : List DPart) (A : Option Addr) (c : Nat) (p : DPart → Bool) (Bh : Nat) (w : World) (hl : l.length ≤ 1048576) (r : Row RvPart 3 w w.heap.size A l) (b0 : w.cell? ⟨Bh, 0, none⟩ = some (.func (.func 154) #[] #[.pointer (some ⟨Bs, 0, none⟩)])) (hh : Bh < w.heap.size) (hC : ∀ (w1 : World), Below w.heap.size w w1 → ∀ (k : Nat) (x0 : Int) (x1 : Int) (x2 : Int), l[k]? = some (x0, x1, x2) → Calls Try.prog 154 #[.agg #[.int .i64 x0, .int .i64 x1, .int .i64 x2], .pointer (some ⟨Bs, 0, none⟩)] w1 fun e w2 => e = .returned (.bool (p (x0, x1, x2))) ∧ Below w1.heap.size w1 w2) :
    Calls Try.prog 157 #[.slice A l.length c, .func (.func 123) #[] #[.pointer (some ⟨Bh, 0, none⟩)]] w fun e w' => (∃ i : Int, e = .returned (.int .i64 i) ∧ decide (0 ≤ i) = !(l.all p)) ∧ Below w.heap.size w w' := by
  have N := Lib.hid hC
  clear hC
  have RA := Lib.hid r
  have B0 := Lib.hid b0
  clear r b0
  obtain ⟨n, hn⟩ : ∃ n, n = l.length := ⟨_, rfl⟩
  rw [← hn] at hl ⊢
  have HN := Lib.hid hn
  clear hn
  go_enter Try.func157, Try.ntmps157
  go_wp2
  go_loopw [5, 8] (fun u i wr => ∃ k : Nat, k ≤ n ∧ i = .int .i64 k ∧ alU p l k ∧ Below w.heap.size w wr) (fun u i _ => n - (intOf i).toNat)
  case atStart => exact ⟨0, Nat.zero_le _, rfl, alU_zero, Below.refl _ _⟩
  case round =>
    obtain ⟨k, hk, rfl, hyes, hbl⟩ := hrel
    have HY := Lib.hid hyes
    clear hyes
    have hzw := hbl.size
    by_cases hlt : k < n
    case pos =>
      obtain ⟨⟨x0, x1, x2⟩, ha⟩ : ∃ a, l[k]? = some a := ⟨l[k]'(by have := HN.out; omega), List.getElem?_eq_getElem (by have := HN.out; omega)⟩
      obtain ⟨g, o, rowc, rfl, hg, hRc, hcc⟩ := (Row.carry (w' := wr) RA.out hbl (Nat.le_refl _)).elem ha
      obtain rfl := hRc
      have c0 : wr.cell? ⟨g, o + k * 3, none⟩ = some (.int .i64 x0) := hcc 0 _ rfl
      have c1 : wr.cell? ⟨g, o + k * 3 + 1, none⟩ = some (.int .i64 x1) := hcc 1 _ rfl
      have c2 : wr.cell? ⟨g, o + k * 3 + 2, none⟩ = some (.int .i64 x2) := hcc 2 _ rfl
      clear hcc
      have HA := Lib.hid ha
      clear ha
      have hgw : g < wr.heap.size := by omega
      have hki : (k : Int) < (n : Int) := by omega
      have CC := areAll1_inSet Bs x0 x1 x2 p Bh wr  ((hbl.cell (p := ⟨Bh, 0, none⟩) hh).trans B0.out) (by omega) (fun w1 hb1  => N.out w1 (by repeat' (first | with_reducible assumption | with_reducible exact Below.refl _ _ | (with_reducible refine Below.setCell ?_ ?_ _) | (with_reducible refine Below.alloc ?_ ?_ _) | (with_reducible refine Below.drew ?_) | (with_reducible refine below_dr ?_ _) | (with_reducible refine Below.trans ?_ (Below.mono (by with_reducible assumption) ?_)) | omega | (simp; done) | (simp; omega))) k x0 x1 x2 HA.out )
      rcases hv : p (x0, x1, x2) with _ | _
      case false =>
        have HV := Lib.hid hv
        rw [hv] at CC
        have C := Lib.hid CC
        clear hv CC
        go_wp2_with fail
        refine C.out.mono ?_
        rintro e w1 ⟨rfl, hb1⟩
        go_wp2
        go_ret
        exact ⟨⟨_, rfl, by rw [all_no HA.out HV.out]; simp⟩, by repeat' (first | with_reducible assumption | with_reducible exact Below.refl _ _ | (with_reducible refine Below.setCell ?_ ?_ _) | (with_reducible refine Below.alloc ?_ ?_ _) | (with_reducible refine Below.drew ?_) | (with_reducible refine below_dr ?_ _) | (with_reducible refine Below.trans ?_ (Below.mono (by with_reducible assumption) ?_)) | omega | (simp; done) | (simp; omega))⟩
      case true =>
        have HV := Lib.hid hv
        rw [hv] at CC
        have C := Lib.hid CC
        clear hv CC
        go_wp2_with fail
        refine C.out.mono ?_
        rintro e w1 ⟨rfl, hb1⟩
        go_wp2
        go_roundw
        case rel => exact ⟨k + 1, by omega, by go_num, alU_succ HY.out HA.out HV.out, by repeat' (first | with_reducible assumption | with_reducible exact Below.refl _ _ | (with_reducible refine Below.setCell ?_ ?_ _) | (with_reducible refine Below.alloc ?_ ?_ _) | (with_reducible refine Below.drew ?_) | (with_reducible refine below_dr ?_ _) | (with_reducible refine Below.trans ?_ (Below.mono (by with_reducible assumption) ?_)) | omega | (simp; done) | (simp; omega))⟩
        case measure => simp [intOf]; omega
    case neg =>
      obtain rfl : k = n := by omega
      go_wp2
      go_ret
      exact ⟨⟨_, rfl, by rw [all_yes (by rw [← HN.out]; exact HY.out)]; rfl⟩, hbl⟩
set_option maxHeartbeats 1600000 in
theorem containsFunc_inSet (Bs : Nat) (l : List DPart) (A : Option Addr) (c : Nat) (p : DPart → Bool) (Bh : Nat) (w : World) (hl : l.length ≤ 1048576) (r : Row RvPart 3 w w.heap.size A l) (b0 : w.cell? ⟨Bh, 0, none⟩ = some (.func (.func 154) #[] #[.pointer (some ⟨Bs, 0, none⟩)])) (hh : Bh < w.heap.size) (hC : ∀ (w1 : World), Below w.heap.size w w1 → ∀ (k : Nat) (x0 : Int) (x1 : Int) (x2 : Int), l[k]? = some (x0, x1, x2) → Calls Try.prog 154 #[.agg #[.int .i64 x0, .int .i64 x1, .int .i64 x2], .pointer (some ⟨Bs, 0, none⟩)] w1 fun e w2 => e = .returned (.bool (p (x0, x1, x2))) ∧ Below w1.heap.size w1 w2) :
    Calls Try.prog 103 #[.slice A l.length c, .func (.func 123) #[] #[.pointer (some ⟨Bh, 0, none⟩)]] w fun e w' => e = .returned (.bool (!(l.all p))) ∧ Below w.heap.size w w' := by
  have N := Lib.hid (indexFunc_inSet Bs l A c p Bh w hl r b0 hh hC)
  clear hC b0 r hl
  generalize l.length = n at *
  generalize l.all p = v at *
  go_enter Try.func103, Try.ntmps103
  go_wp2_with fail
  refine N.out.mono ?_
  rintro e w1 ⟨⟨i, rfl, hi⟩, hb1⟩
  go_wp2
  go_ret
  exact ⟨rfl, hb1⟩
set_option maxHeartbeats 1600000 in
theorem areAll_inSet (Bs : Nat) (l : List DPart) (A : Option Addr) (c : Nat) (p : DPart → Bool) (w : World) (hl : l.length ≤ 1048576) (r : Row RvPart 3 w w.heap.size A l) (hC : ∀ (w1 : World), Below w.heap.size w w1 → ∀ (k : Nat) (x0 : Int) (x1 : Int) (x2 : Int), l[k]? = some (x0, x1, x2) → Calls Try.prog 154 #[.agg #[.int .i64 x0, .int .i64 x1, .int .i64 x2], .pointer (some ⟨Bs, 0, none⟩)] w1 fun e w2 => e = .returned (.bool (p (x0, x1, x2))) ∧ Below w1.heap.size w1 w2) :
    Calls Try.prog 55 #[.slice A l.length c, .func (.func 154) #[] #[.pointer (some ⟨Bs, 0, none⟩)]] w fun e w' => e = .returned (.bool (l.all p)) ∧ Below w.heap.size w w' := by
  have N := Lib.hid (fun (w' : World) (hb : Below w.heap.size w w') r b0 hh => containsFunc_inSet Bs l A c p w.heap.size w' hl r b0 hh (fun w1 h1 => hC w1 (hb.trans (Below.mono h1 hb.size))))
  clear hC
  have RA := Lib.hid r
  clear r hl
  generalize l.length = n at *
  generalize l.all p = v at *
  go_enter Try.func55, Try.ntmps55
  go_wp2_with fail
  refine (N.out _ (by repeat' (first | with_reducible assumption | with_reducible exact Below.refl _ _ | (with_reducible refine Below.setCell ?_ ?_ _) | (with_reducible refine Below.alloc ?_ ?_ _) | (with_reducible refine Below.drew ?_) | (with_reducible refine below_dr ?_ _) | (with_reducible refine Below.trans ?_ (Below.mono (by with_reducible assumption) ?_)) | omega | (simp; done) | (simp; omega))) ((RA.out.alloc (Nat.le_refl _) _).more (by simp)) (by simp [go_sem]) (by simp)).mono ?_
  rintro e w1 ⟨rfl, hb1⟩
  go_wp2
  go_ret
  exact ⟨by simp, by repeat' (first | with_reducible assumption | with_reducible exact Below.refl _ _ | (with_reducible refine Below.setCell ?_ ?_ _) | (with_reducible refine Below.alloc ?_ ?_ _) | (with_reducible refine Below.drew ?_) | (with_reducible refine below_dr ?_ _) | (with_reducible refine Below.trans ?_ (Below.mono (by with_reducible assumption) ?_)) | omega | (simp; done) | (simp; omega))⟩
set_option maxHeartbeats 1600000 in
theorem areAll1_hasParts (u : Int) (SA : Option Addr) (sn sc : Nat) (x0 : ByteArray) (x1 : Int) (x2 : Int) (x3A : Option Addr) (x3c : Nat) (x3l : List DLoop) (x4A : Option Addr) (x4c : Nat) (x4l : List DPart) (x5A : Option Addr) (x5c : Nat) (x5l : List DAnchor) (x6 : ByteArray) (p : DGlyph → Bool) (Bh : Nat) (w : World) (r_x3 : Row RvLoop 1 w w.heap.size x3A x3l) (r_x4 : Row RvPart 3 w w.heap.size x4A x4l) (r_x5 : Row RvAnchor 3 w w.heap.size x5A x5l) (b0 : w.cell? ⟨Bh, 0, none⟩ = some (.func (.func 93) #[.agg #[.int .i64 u, .slice SA sn sc]] #[])) (hh : Bh < w.heap.size) (hC : ∀ (w1 : World), Below w.heap.size w w1 → Row RvLoop 1 w1 w1.heap.size x3A x3l → Row RvPart 3 w1 w1.heap.size x4A x4l → Row RvAnchor 3 w1 w1.heap.size x5A x5l → Calls Try.prog 93 #[.agg #[.int .i64 u, .slice SA sn sc], .agg #[.string x0, .int .i64 x1, .int .i64 x2, .slice x3A x3l.length x3c, .slice x4A x4l.length x4c, .slice x5A x5l.length x5c, .string x6]] w1 fun e w2 => e = .returned (.bool (p (x0, x1, x2, x3l, x4l, x5l, x6))) ∧ Below w1.heap.size w1 w2) :
    Calls Try.prog 153 #[.agg #[.string x0, .int .i64 x1, .int .i64 x2, .slice x3A x3l.length x3c, .slice x4A x4l.length x4c, .slice x5A x5l.length x5c, .string x6], .pointer (some ⟨Bh, 0, none⟩)] w fun e w' => e = .returned (.bool (!(p (x0, x1, x2, x3l, x4l, x5l, x6)))) ∧ Below w.heap.size w w' := by
  have N := Lib.hid hC
  clear hC
  generalize p (x0, x1, x2, x3l, x4l, x5l, x6) = v at *
  go_enter Try.func153, Try.ntmps153
  go_wp2_with fail
  refine (N.out _ (by repeat' (first | with_reducible assumption | with_reducible exact Below.refl _ _ | (with_reducible refine Below.setCell ?_ ?_ _) | (with_reducible refine Below.alloc ?_ ?_ _) | (with_reducible refine Below.drew ?_) | (with_reducible refine below_dr ?_ _) | (with_reducible refine Below.trans ?_ (Below.mono (by with_reducible assumption) ?_)) | omega | (simp; done) | (simp; omega))) ?_ ?_ ?_).mono ?_
  · exact (Row.alloc r_x3 (Nat.le_refl _) _).more (by simp)
  · exact (Row.alloc r_x4 (Nat.le_refl _) _).more (by simp)
  · exact (Row.alloc r_x5 (Nat.le_refl _) _).more (by simp)
  rintro e w1 ⟨rfl, hb1⟩
  go_wp2_with fail
  go_ret
  exact ⟨rfl, by repeat' (first | with_reducible assumption | with_reducible exact Below.refl _ _ | (with_reducible refine Below.setCell ?_ ?_ _) | (with_reducible refine Below.alloc ?_ ?_ _) | (with_reducible refine Below.drew ?_) | (with_reducible refine below_dr ?_ _) | (with_reducible refine Below.trans ?_ (Below.mono (by with_reducible assumption) ?_)) | omega | (simp; done) | (simp; omega))⟩
set_option maxHeartbeats 3200000 in
theorem indexFunc_hasParts (u : Int) (SA : Option Addr) (sn sc : Nat) (l : List DGlyph) (A : Option Addr) (c : Nat) (p : DGlyph → Bool) (Bh : Nat) (w : World) (hl : l.length ≤ 1048576) (r : Row RvGlyph 7 w w.heap.size A l) (b0 : w.cell? ⟨Bh, 0, none⟩ = some (.func (.func 93) #[.agg #[.int .i64 u, .slice SA sn sc]] #[])) (hh : Bh < w.heap.size) (hC : ∀ (w1 : World), Below w.heap.size w w1 → ∀ (k : Nat) (x0 : ByteArray) (x1 : Int) (x2 : Int) (x3A : Option Addr) (x3c : Nat) (x3l : List DLoop) (x4A : Option Addr) (x4c : Nat) (x4l : List DPart) (x5A : Option Addr) (x5c : Nat) (x5l : List DAnchor) (x6 : ByteArray), l[k]? = some (x0, x1, x2, x3l, x4l, x5l, x6) → Row RvLoop 1 w1 w1.heap.size x3A x3l → Row RvPart 3 w1 w1.heap.size x4A x4l → Row RvAnchor 3 w1 w1.heap.size x5A x5l → Calls Try.prog 93 #[.agg #[.int .i64 u, .slice SA sn sc], .agg #[.string x0, .int .i64 x1, .int .i64 x2, .slice x3A x3l.length x3c, .slice x4A x4l.length x4c, .slice x5A x5l.length x5c, .string x6]] w1 fun e w2 => e = .returned (.bool (p (x0, x1, x2, x3l, x4l, x5l, x6))) ∧ Below w1.heap.size w1 w2) :
    Calls Try.prog 156 #[.slice A l.length c, .func (.func 153) #[] #[.pointer (some ⟨Bh, 0, none⟩)]] w fun e w' => (∃ i : Int, e = .returned (.int .i64 i) ∧ decide (0 ≤ i) = !(l.all p)) ∧ Below w.heap.size w w' := by
  have N := Lib.hid hC
  clear hC
  have RA := Lib.hid r
  have B0 := Lib.hid b0
  clear r b0
  obtain ⟨n, hn⟩ : ∃ n, n = l.length := ⟨_, rfl⟩
  rw [← hn] at hl ⊢
  have HN := Lib.hid hn
  clear hn
  go_enter Try.func156, Try.ntmps156
  go_wp2
  go_loopw [5, 8] (fun u i wr => ∃ k : Nat, k ≤ n ∧ i = .int .i64 k ∧ alU p l k ∧ Below w.heap.size w wr) (fun u i _ => n - (intOf i).toNat)
  case atStart => exact ⟨0, Nat.zero_le _, rfl, alU_zero, Below.refl _ _⟩
  case round =>
    obtain ⟨k, hk, rfl, hyes, hbl⟩ := hrel
    have HY := Lib.hid hyes
    clear hyes
    have hzw := hbl.size
    by_cases hlt : k < n
    case pos =>
      obtain ⟨⟨x0, x1, x2, x3l, x4l, x5l, x6⟩, ha⟩ : ∃ a, l[k]? = some a := ⟨l[k]'(by have := HN.out; omega), List.getElem?_eq_getElem (by have := HN.out; omega)⟩
      obtain ⟨g, o, rowc, rfl, hg, hRc, hcc⟩ := (Row.carry (w' := wr) RA.out hbl (Nat.le_refl _)).elem ha
      obtain ⟨x3A, x3c, x4A, x4c, x5A, x5c, rfl, u_x3, u_x4, u_x5⟩ := hRc
      have c0 : wr.cell? ⟨g, o + k * 7, none⟩ = some (.string x0) := hcc 0 _ rfl
      have c1 : wr.cell? ⟨g, o + k * 7 + 1, none⟩ = some (.int .i64 x1) := hcc 1 _ rfl
      have c2 : wr.cell? ⟨g, o + k * 7 + 2, none⟩ = some (.int .i64 x2) := hcc 2 _ rfl
      have c3 : wr.cell? ⟨g, o + k * 7 + 3, none⟩ = some (.slice x3A x3l.length x3c) := hcc 3 _ rfl
      have c4 : wr.cell? ⟨g, o + k * 7 + 4, none⟩ = some (.slice x4A x4l.length x4c) := hcc 4 _ rfl
      have c5 : wr.cell? ⟨g, o + k * 7 + 5, none⟩ = some (.slice x5A x5l.length x5c) := hcc 5 _ rfl
      have c6 : wr.cell? ⟨g, o + k * 7 + 6, none⟩ = some (.string x6) := hcc 6 _ rfl
      clear hcc
      have HA := Lib.hid ha
      clear ha
      have hgw : g < wr.heap.size := by omega
      have hki : (k : Int) < (n : Int) := by omega
      have CC := areAll1_hasParts u SA sn sc x0 x1 x2 x3A x3c x3l x4A x4c x4l x5A x5c x5l x6 p Bh wr (u_x3.more (by omega)) (u_x4.more (by omega)) (u_x5.more (by omega)) ((hbl.cell (p := ⟨Bh, 0, none⟩) hh).trans B0.out) (by omega) (fun w1 hb1 q_x3 q_x4 q_x5 => N.out w1 (by repeat' (first | with_reducible assumption | with_reducible exact Below.refl _ _ | (with_reducible refine Below.setCell ?_ ?_ _) | (with_reducible refine Below.alloc ?_ ?_ _) | (with_reducible refine Below.drew ?_) | (with_reducible refine below_dr ?_ _) | (with_reducible refine Below.trans ?_ (Below.mono (by with_reducible assumption) ?_)) | omega | (simp; done) | (simp; omega))) k x0 x1 x2 x3A x3c x3l x4A x4c x4l x5A x5c x5l x6 HA.out q_x3 q_x4 q_x5)
      rcases hv : p (x0, x1, x2, x3l, x4l, x5l, x6) with _ | _
      case false =>
        have HV := Lib.hid hv
        rw [hv] at CC
        have C := Lib.hid CC
        clear hv CC
        go_wp2_with fail
        refine C.out.mono ?_
        rintro e w1 ⟨rfl, hb1⟩
        go_wp2
        go_ret
        exact ⟨⟨_, rfl, by rw [all_no HA.out HV.out]; simp⟩, by repeat' (first | with_reducible assumption | with_reducible exact Below.refl _ _ | (with_reducible refine Below.setCell ?_ ?_ _) | (with_reducible refine Below.alloc ?_ ?_ _) | (with_reducible refine Below.drew ?_) | (with_reducible refine below_dr ?_ _) | (with_reducible refine Below.trans ?_ (Below.mono (by with_reducible assumption) ?_)) | omega | (simp; done) | (simp; omega))⟩
      case true =>
        have HV := Lib.hid hv
        rw [hv] at CC
        have C := Lib.hid CC
        clear hv CC
        go_wp2_with fail
        refine C.out.mono ?_
        rintro e w1 ⟨rfl, hb1⟩
        go_wp2
        go_roundw
        case rel => exact ⟨k + 1, by omega, by go_num, alU_succ HY.out HA.out HV.out, by repeat' (first | with_reducible assumption | with_reducible exact Below.refl _ _ | (with_reducible refine Below.setCell ?_ ?_ _) | (with_reducible refine Below.alloc ?_ ?_ _) | (with_reducible refine Below.drew ?_) | (with_reducible refine below_dr ?_ _) | (with_reducible refine Below.trans ?_ (Below.mono (by with_reducible assumption) ?_)) | omega | (simp; done) | (simp; omega))⟩
        case measure => simp [intOf]; omega
    case neg =>
      obtain rfl : k = n := by omega
      go_wp2
      go_ret
      exact ⟨⟨_, rfl, by rw [all_yes (by rw [← HN.out]; exact HY.out)]; rfl⟩, hbl⟩
set_option maxHeartbeats 1600000 in
theorem containsFunc_hasParts (u : Int) (SA : Option Addr) (sn sc : Nat) (l : List DGlyph) (A : Option Addr) (c : Nat) (p : DGlyph → Bool) (Bh : Nat) (w : World) (hl : l.length ≤ 1048576) (r : Row RvGlyph 7 w w.heap.size A l) (b0 : w.cell? ⟨Bh, 0, none⟩ = some (.func (.func 93) #[.agg #[.int .i64 u, .slice SA sn sc]] #[])) (hh : Bh < w.heap.size) (hC : ∀ (w1 : World), Below w.heap.size w w1 → ∀ (k : Nat) (x0 : ByteArray) (x1 : Int) (x2 : Int) (x3A : Option Addr) (x3c : Nat) (x3l : List DLoop) (x4A : Option Addr) (x4c : Nat) (x4l : List DPart) (x5A : Option Addr) (x5c : Nat) (x5l : List DAnchor) (x6 : ByteArray), l[k]? = some (x0, x1, x2, x3l, x4l, x5l, x6) → Row RvLoop 1 w1 w1.heap.size x3A x3l → Row RvPart 3 w1 w1.heap.size x4A x4l → Row RvAnchor 3 w1 w1.heap.size x5A x5l → Calls Try.prog 93 #[.agg #[.int .i64 u, .slice SA sn sc], .agg #[.string x0, .int .i64 x1, .int .i64 x2, .slice x3A x3l.length x3c, .slice x4A x4l.length x4c, .slice x5A x5l.length x5c, .string x6]] w1 fun e w2 => e = .returned (.bool (p (x0, x1, x2, x3l, x4l, x5l, x6))) ∧ Below w1.heap.size w1 w2) :
    Calls Try.prog 152 #[.slice A l.length c, .func (.func 153) #[] #[.pointer (some ⟨Bh, 0, none⟩)]] w fun e w' => e = .returned (.bool (!(l.all p))) ∧ Below w.heap.size w w' := by
  have N := Lib.hid (indexFunc_hasParts u SA sn sc l A c p Bh w hl r b0 hh hC)
  clear hC b0 r hl
  generalize l.length = n at *
  generalize l.all p = v at *
  go_enter Try.func152, Try.ntmps152
  go_wp2_with fail
  refine N.out.mono ?_
  rintro e w1 ⟨⟨i, rfl, hi⟩, hb1⟩
  go_wp2
  go_ret
  exact ⟨rfl, hb1⟩
set_option maxHeartbeats 1600000 in
theorem areAll_hasParts (u : Int) (SA : Option Addr) (sn sc : Nat) (l : List DGlyph) (A : Option Addr) (c : Nat) (p : DGlyph → Bool) (w : World) (hl : l.length ≤ 1048576) (r : Row RvGlyph 7 w w.heap.size A l) (hC : ∀ (w1 : World), Below w.heap.size w w1 → ∀ (k : Nat) (x0 : ByteArray) (x1 : Int) (x2 : Int) (x3A : Option Addr) (x3c : Nat) (x3l : List DLoop) (x4A : Option Addr) (x4c : Nat) (x4l : List DPart) (x5A : Option Addr) (x5c : Nat) (x5l : List DAnchor) (x6 : ByteArray), l[k]? = some (x0, x1, x2, x3l, x4l, x5l, x6) → Row RvLoop 1 w1 w1.heap.size x3A x3l → Row RvPart 3 w1 w1.heap.size x4A x4l → Row RvAnchor 3 w1 w1.heap.size x5A x5l → Calls Try.prog 93 #[.agg #[.int .i64 u, .slice SA sn sc], .agg #[.string x0, .int .i64 x1, .int .i64 x2, .slice x3A x3l.length x3c, .slice x4A x4l.length x4c, .slice x5A x5l.length x5c, .string x6]] w1 fun e w2 => e = .returned (.bool (p (x0, x1, x2, x3l, x4l, x5l, x6))) ∧ Below w1.heap.size w1 w2) :
    Calls Try.prog 90 #[.slice A l.length c, .func (.func 93) #[.agg #[.int .i64 u, .slice SA sn sc]] #[]] w fun e w' => e = .returned (.bool (l.all p)) ∧ Below w.heap.size w w' := by
  have N := Lib.hid (fun (w' : World) (hb : Below w.heap.size w w') r b0 hh => containsFunc_hasParts u SA sn sc l A c p w.heap.size w' hl r b0 hh (fun w1 h1 => hC w1 (hb.trans (Below.mono h1 hb.size))))
  clear hC
  have RA := Lib.hid r
  clear r hl
  generalize l.length = n at *
  generalize l.all p = v at *
  go_enter Try.func90, Try.ntmps90
  go_wp2_with fail
  refine (N.out _ (by repeat' (first | with_reducible assumption | with_reducible exact Below.refl _ _ | (with_reducible refine Below.setCell ?_ ?_ _) | (with_reducible refine Below.alloc ?_ ?_ _) | (with_reducible refine Below.drew ?_) | (with_reducible refine below_dr ?_ _) | (with_reducible refine Below.trans ?_ (Below.mono (by with_reducible assumption) ?_)) | omega | (simp; done) | (simp; omega))) ((RA.out.alloc (Nat.le_refl _) _).more (by simp)) (by simp [go_sem]) (by simp)).mono ?_
  rintro e w1 ⟨rfl, hb1⟩
  go_wp2
  go_ret
  exact ⟨by simp, by repeat' (first | with_reducible assumption | with_reducible exact Below.refl _ _ | (with_reducible refine Below.setCell ?_ ?_ _) | (with_reducible refine Below.alloc ?_ ?_ _) | (with_reducible refine Below.drew ?_) | (with_reducible refine below_dr ?_ _) | (with_reducible refine Below.trans ?_ (Below.mono (by with_reducible assumption) ?_)) | omega | (simp; done) | (simp; omega))⟩
theorem allGlyphs_any (l : List DGlyph) (A : Option Addr) (c : Nat) (w : World) (ht : totRow totGlyph l ≤ 1048576) (r : Row RvGlyph 7 w w.heap.size A l) :
    Calls Try.prog 90 #[.slice A l.length c, .func (.func 16) #[] #[]] w fun e w' => e = .returned (.bool (l.all vG)) ∧ Below w.heap.size w w' :=
  areAll_glyphOk l A c vG w (Nat.le_trans (totRow_len totGlyph l) ht) r (fun w1 _ k x0 x1 x2 x3A x3c x3l x4A x4c x4l x5A x5c x5l x6 hk r3 r4 r5 => implValidGlyph_any x0 x1 x2 x3A x3c x3l x4A x4c x4l x5A x5c x5l x6 w1 (Nat.le_trans (totRow_at hk) ht) r3 r4 r5)
set_option maxHeartbeats 1600000 in
theorem hasParts1_any (Bs : Nat) (A : Option Addr) (n c : Nat) (x y z : Int) (w : World) (hb : Bs < w.heap.size) (s1 : w.cell? ⟨Bs, 1, none⟩ = some (.slice A n c)) :
    Calls Try.prog 154 #[.agg #[.int .i64 x, .int .i64 y, .int .i64 z], .pointer (some ⟨Bs, 0, none⟩)] w fun e w' => e = .returned (.bool (decide (x < (n : Int)))) ∧ Below w.heap.size w w' := by
  go_enter Try.func154, Try.ntmps154
  go_wp2_with fail
  go_ret
  exact ⟨rfl, by repeat' (first | with_reducible assumption | with_reducible exact Below.refl _ _ | (with_reducible refine Below.setCell ?_ ?_ _) | (with_reducible refine Below.alloc ?_ ?_ _) | (with_reducible refine Below.drew ?_) | (with_reducible refine below_dr ?_ _) | (with_reducible refine Below.trans ?_ (Below.mono (by with_reducible assumption) ?_)) | omega | (simp; done) | (simp; omega))⟩
def inSet (n : Nat) (d : DGlyph) : Bool := d.2.2.2.2.1.all fun a : DPart => decide (a.1 < (n : Int))
set_option maxHeartbeats 1600000 in
theorem hasParts_any (u : Int) (SA : Option Addr) (sn sc : Nat) (x0 : ByteArray) (x1 x2 : Int) (x3A : Option Addr) (x3c : Nat) (x3l : List DLoop) (x4A : Option Addr) (x4c : Nat) (x4l : List DPart) (x5A : Option Addr) (x5c : Nat) (x5l : List DAnchor) (x6 : ByteArray) (w : World) (hl : x4l.length ≤ 1048576) (r4 : Row RvPart 3 w w.heap.size x4A x4l) :
    Calls Try.prog 93 #[.agg #[.int .i64 u, .slice SA sn sc], .agg #[.string x0, .int .i64 x1, .int .i64 x2, .slice x3A x3l.length x3c, .slice x4A x4l.length x4c, .slice x5A x5l.length x5c, .string x6]] w fun e w' => e = .returned (.bool (inSet sn (x0, x1, x2, x3l, x4l, x5l, x6))) ∧ Below w.heap.size w w' := by
  have C := Lib.hid (fun (w1 : World) (Bs : Nat) (hb : Bs < w1.heap.size) (s1 : w1.cell? ⟨Bs, 1, none⟩ = some (.slice SA sn sc)) (r : Row RvPart 3 w1 w1.heap.size x4A x4l) => areAll_inSet Bs x4l x4A x4c (fun a : DPart => decide (a.1 < (sn : Int))) w1 hl r (fun w2 hb2 k x y z _ => hasParts1_any Bs SA sn sc x y z w2 (Nat.lt_of_lt_of_le hb hb2.size) ((hb2.cell (p := ⟨Bs, 1, none⟩) hb).trans s1)))
  have hv : inSet sn (x0, x1, x2, x3l, x4l, x5l, x6) = (x4l.all fun a : DPart => decide (a.1 < (sn : Int))) := rfl
  rw [hv]
  clear hv
  generalize (x4l.all fun a : DPart => decide (a.1 < (sn : Int))) = v at C ⊢
  go_enter Try.func93, Try.ntmps93
  go_wp2_with fail
  refine (C.out _ _ (by simp; omega) (by simp [go_sem]) ?_).mono ?_
  · exact (Row.carry (w' := _) r4 (by repeat' (first | with_reducible assumption | with_reducible exact Below.refl _ _ | (with_reducible refine Below.setCell ?_ ?_ _) | (with_reducible refine Below.alloc ?_ ?_ _) | (with_reducible refine Below.drew ?_) | (with_reducible refine below_dr ?_ _) | (with_reducible refine Below.trans ?_ (Below.mono (by with_reducible assumption) ?_)) | omega | (simp; done) | (simp; omega))) (Nat.le_refl _)).more (by simp; omega)
  rintro e w1 ⟨rfl, hb⟩
  go_wp2_with fail
  go_ret
  exact ⟨rfl, by repeat' (first | with_reducible assumption | with_reducible exact Below.refl _ _ | (with_reducible refine Below.setCell ?_ ?_ _) | (with_reducible refine Below.alloc ?_ ?_ _) | (with_reducible refine Below.drew ?_) | (with_reducible refine below_dr ?_ _) | (with_reducible refine Below.trans ?_ (Below.mono (by with_reducible assumption) ?_)) | omega | (simp; done) | (simp; omega))⟩
theorem allHave_any (u : Int) (SA : Option Addr) (sn sc : Nat) (l : List DGlyph) (A : Option Addr) (c : Nat) (w : World) (ht : totRow totGlyph l ≤ 1048576) (r : Row RvGlyph 7 w w.heap.size A l) :
    Calls Try.prog 90 #[.slice A l.length c, .func (.func 93) #[.agg #[.int .i64 u, .slice SA sn sc]] #[]] w fun e w' => e = .returned (.bool (l.all (inSet sn))) ∧ Below w.heap.size w w' :=
  areAll_hasParts u SA sn sc l A c (inSet sn) w (Nat.le_trans (totRow_len totGlyph l) ht) r (fun w1 _ k x0 x1 x2 x3A x3c x3l x4A x4c x4l x5A x5c x5l x6 hk r3 r4 r5 => hasParts_any u SA sn sc x0 x1 x2 x3A x3c x3l x4A x4c x4l x5A x5c x5l x6 w1 (by have h1 := Nat.le_trans (totRow_at hk) ht; have h2 := totRow_len totPart x4l; simp only [totGlyph] at h1; omega) r4)
set_option maxRecDepth 100000 in
set_option maxHeartbeats 6400000 in
theorem diffCodes_any (u : Int) (l : List DGlyph) (A : Option Addr) (c : Nat) (w : World) (hl : l.length ≤ 1048576) (hi : ∀ (i : Nat) (d : DGlyph), l[i]? = some d → (Lit.int .i64 d.2.1).wf = true) (r : Row RvGlyph 7 w w.heap.size A l) :
    Calls Try.prog 92 #[.agg #[.int .i64 u, .slice A l.length c]] w fun e w' => e = .returned (.bool (cdUp l l.length)) ∧ Below w.heap.size w w' := by
  have HI := Lib.hid hi
  clear hi
  obtain ⟨n, hn⟩ : ∃ n, n = l.length := ⟨_, rfl⟩
  rw [← hn] at hl ⊢
  have HN := Lib.hid hn
  clear hn
  have hmm := @run_makeMap Try.prog
  go_enter Try.func92, Try.ntmps92
  go_wp2_with fail
  clear hmm
  generalize hW : (w.alloc (.cells #[.int .i64 u, .slice A n c] 49)).alloc (.map #[] 0) = W0
  have M0 : MapI W0 (w.heap.size + 1) 0 (cdHas l 0) := by
    rw [← hW, cdHas_zero]
    have := MapI.made (w.alloc (.cells #[.int .i64 u, .slice A n c] 49))
    simpa using this
  have hb0 : Below w.heap.size w W0 := by rw [← hW]; repeat' (first | with_reducible assumption | with_reducible exact Below.refl _ _ | (with_reducible refine Below.setCell ?_ ?_ _) | (with_reducible refine Below.alloc ?_ ?_ _) | (with_reducible refine Below.drew ?_) | (with_reducible refine below_dr ?_ _) | (with_reducible refine Below.trans ?_ (Below.mono (by with_reducible assumption) ?_)) | omega | (simp; done) | (simp; omega))
  clear hW
  go_loopw [10] (fun i wr => ∃ k : Nat, k ≤ n ∧ i = .int .i64 k ∧ cdUp l k = true ∧ MapI wr (w.heap.size + 1) k (cdHas l k) ∧ Below w.heap.size w wr) (fun i _ => n - (intOf i).toNat)
  case atStart => exact ⟨0, Nat.zero_le _, rfl, cdUp_zero, M0, hb0⟩
  case round =>
    obtain ⟨k, hk, rfl, hup, mk, hbl⟩ := hrel
    have HUP := Lib.hid hup
    have MK := Lib.hid mk
    have hmlt := mk.lt
    clear hup mk M0 hb0
    have zr := hbl.size
    by_cases hlt : k < n
    case pos =>
      obtain ⟨⟨x0, x1, x2, x3l, x4l, x5l, x6⟩, ha⟩ : ∃ a, l[k]? = some a := ⟨l[k]'(by have := HN.out; omega), List.getElem?_eq_getElem (by have := HN.out; omega)⟩
      obtain ⟨g, o, rowc, rfl, hg, hRc, hcc⟩ := (Row.carry (w' := wr) r hbl (Nat.le_refl _)).elem ha
      obtain ⟨x3A, x3c, x4A, x4c, x5A, x5c, rfl, u_x3, u_x4, u_x5⟩ := hRc
      have c0 : wr.cell? ⟨g, o + k * 7, none⟩ = some (.string x0) := hcc 0 _ rfl
      have c1 : wr.cell? ⟨g, o + k * 7 + 1, none⟩ = some (.int .i64 x1) := hcc 1 _ rfl
      have c2 : wr.cell? ⟨g, o + k * 7 + 2, none⟩ = some (.int .i64 x2) := hcc 2 _ rfl
      have c3 : wr.cell? ⟨g, o + k * 7 + 3, none⟩ = some (.slice x3A x3l.length x3c) := hcc 3 _ rfl
      have c4 : wr.cell? ⟨g, o + k * 7 + 4, none⟩ = some (.slice x4A x4l.length x4c) := hcc 4 _ rfl
      have c5 : wr.cell? ⟨g, o + k * 7 + 5, none⟩ = some (.slice x5A x5l.length x5c) := hcc 5 _ rfl
      have c6 : wr.cell? ⟨g, o + k * 7 + 6, none⟩ = some (.string x6) := hcc 6 _ rfl
      clear hcc
      have HA := Lib.hid ha
      have hw1 := HI.out k _ ha
      simp only at hw1
      clear ha
      have hgw : g < wr.heap.size := by omega
      have hki : (k : Int) < (n : Int) := by omega
      obtain ⟨wB, hwB⟩ : ∃ W : World, W = (wr.alloc (.cells #[.string x0, .int .i64 x1, .int .i64 x2, .slice x3A x3l.length x3c, .slice x4A x4l.length x4c, .slice x5A x5l.length x5c, .string x6] 37)) := ⟨_, rfl⟩
      have bB : Below wr.heap.size wr wB := by rw [hwB]; repeat' (first | with_reducible assumption | with_reducible exact Below.refl _ _ | (with_reducible refine Below.setCell ?_ ?_ _) | (with_reducible refine Below.alloc ?_ ?_ _) | (with_reducible refine Below.drew ?_) | (with_reducible refine below_dr ?_ _) | (with_reducible refine Below.trans ?_ (Below.mono (by with_reducible assumption) ?_)) | omega | (simp; done) | (simp; omega))
      have mB := MK.out.below bB hmlt
      have hlk := mB.look x1 hw1
      rw [hwB] at hlk
      rcases hh : cdHas l k x1 with _ | _
      case true =>
        rw [hh] at hlk
        have HH := Lib.hid (cd_no HA.out hh)
        clear hh mB bB hwB
        go_wp2_with fail
        go_ret
        exact ⟨ret_bool (by have h := HH.out; rw [← HN.out] at h; exact h.symm), by repeat' (first | with_reducible assumption | with_reducible exact Below.refl _ _ | (with_reducible refine Below.setCell ?_ ?_ _) | (with_reducible refine Below.alloc ?_ ?_ _) | (with_reducible refine Below.drew ?_) | (with_reducible refine below_dr ?_ _) | (with_reducible refine Below.trans ?_ (Below.mono (by with_reducible assumption) ?_)) | omega | (simp; done) | (simp; omega))⟩
      case false =>
        rw [hh] at hlk
        have HH := Lib.hid hh
        clear hh
        obtain ⟨w9, hr9, m9, g9⟩ := mB.put x1 hw1 (by unfold maxLen; omega) (decide (x1 ≠ -1))
        have F := bne_dec x1 (-1)
        have E : (!decide (x1 = -1)) = decide (x1 ≠ -1) := by by_cases h : x1 = -1 <;> simp [h]
        rw [E] at F
        generalize hvv : decide (x1 ≠ -1) = vv at *
        rw [hwB] at hr9
        have hb9 : Below w.heap.size w w9 := (hbl.trans (bB.mono hbl.size)).grown g9 (by have := bB.size; omega) (by rintro j ⟨⟩; omega)
        have HB9 := Lib.hid hb9
        have M9 := Lib.hid m9
        have HVV := Lib.hid hvv
        clear hb9 m9 hvv g9 mB bB hwB E
        go_wp2_with fail
        go_roundw
        case rel => exact ⟨k + 1, by omega, by go_num, cdUp_succ HUP.out HA.out HH.out, by rw [cdHas_succ HA.out]; have := M9.out; rw [← HVV.out] at this; exact this, HB9.out⟩
        case measure => simp [intOf]; omega
    case neg =>
      obtain rfl : n = k := by omega
      go_wp2_with fail
      go_ret
      exact ⟨ret_bool HUP.out.symm, by repeat' (first | with_reducible assumption | with_reducible exact Below.refl _ _ | (with_reducible refine Below.setCell ?_ ?_ _) | (with_reducible refine Below.alloc ?_ ?_ _) | (with_reducible refine Below.drew ?_) | (with_reducible refine below_dr ?_ _) | (with_reducible refine Below.trans ?_ (Below.mono (by with_reducible assumption) ?_)) | omega | (simp; done) | (simp; omega))⟩
end Go.Proofs.Ytelefmogmloniaa
