/- Walks: they are measured. -/
import Derived.Test.YtelefmogmloniaaGl2
namespace Go.Proofs.Ytelefmogmloniaa
open Go.RowKit
set_option linter.unusedVariables false
set_option maxHeartbeats 3200000 in
theorem szGlyph_any (x0 : ByteArray) (x1 : Int) (x2 : Int) (x3A : Option Addr) (x3c : Nat) (x3l : List DLoop) (x4A : Option Addr) (x4c : Nat) (x4l : List DPart) (x5A : Option Addr) (x5c : Nat) (x5l : List DAnchor) (x6 : ByteArray) (left : Int) (w : World) (h0 : 0 ≤ left) (h1 : left ≤ 1048576) (hz : SzGlyph (x0, x1, x2, x3l, x4l, x5l, x6)) (r_x3 : Row RvLoop 1 w w.heap.size x3A x3l) (r_x4 : Row RvPart 3 w w.heap.size x4A x4l) (r_x5 : Row RvAnchor 3 w w.heap.size x5A x5l) :
    Calls Try.prog 13 #[.agg #[.string x0, .int .i64 x1, .int .i64 x2, .slice x3A x3l.length x3c, .slice x4A x4l.length x4c, .slice x5A x5l.length x5c, .string x6], .int .i64 left] w fun e w' => e = .returned (.int .i64 (szV (totGlyph (x0, x1, x2, x3l, x4l, x5l, x6)) left)) ∧ Below w.heap.size w w' := by
  have HT : totGlyph (x0, x1, x2, x3l, x4l, x5l, x6) = x0.size + totOutline x3l + totRow totPart x4l + totRow totAnchor x5l + x6.size := by first | rfl | (simp only [totGlyph, totOutline]; omega) | (simp only [totGlyph, totOutline]; done)
  obtain ⟨V, hV⟩ : ∃ V : Int, V = szV (totGlyph (x0, x1, x2, x3l, x4l, x5l, x6)) left := ⟨_, rfl⟩
  rw [← hV]
  rw [HT] at hV
  clear HT
  have HV := Lib.hid hV
  clear hV
  replace hz : x0.size ≤ maxLen ∧ szRow SzLoop x3l ∧ szRow SzPart x4l ∧ szRow SzAnchor x5l ∧ x6.size ≤ maxLen := hz
  obtain ⟨z_x0, z_x3, z_x4, z_x5, z_x6⟩ := hz
  unfold maxLen at z_x0
  unfold maxLen at z_x6
  obtain ⟨T0, hT0⟩ : ∃ T, T = x0.size := ⟨_, rfl⟩
  rw [← hT0] at HV
  obtain ⟨T1, hT1⟩ : ∃ T, T = totOutline x3l := ⟨_, rfl⟩
  rw [← hT1] at HV
  obtain ⟨T2, hT2⟩ : ∃ T, T = totRow totPart x4l := ⟨_, rfl⟩
  rw [← hT2] at HV
  obtain ⟨T3, hT3⟩ : ∃ T, T = totRow totAnchor x5l := ⟨_, rfl⟩
  rw [← hT3] at HV
  obtain ⟨T4, hT4⟩ : ∃ T, T = x6.size := ⟨_, rfl⟩
  rw [← hT4] at HV
  by_cases f0 : left - (x0.size : Int) < 0
  case pos =>
    have H := Lib.hid (show (-1 : Int) = V by rw [HV.out, szV_no (by omega)])
    go_enter Try.func13, Try.ntmps13
    go_wp2_with fail
    go_ret
    exact ⟨ret_i H.out, by repeat' (first | with_reducible assumption | with_reducible exact Below.refl _ _ | (with_reducible refine Below.setCell ?_ ?_ _) | (with_reducible refine Below.alloc ?_ ?_ _) | (with_reducible refine Below.drew ?_) | (with_reducible refine below_dr ?_ _) | (with_reducible refine Below.trans ?_ (Below.mono (by with_reducible assumption) ?_)) | omega | (simp; done) | (simp; omega))⟩
  case neg =>
    replace f0 : 0 ≤ left - (x0.size : Int) := by omega
    go_enter Try.func13, Try.ntmps13
    go_wp2_with fail
    refine (szOutline_any x3A x3c x3l (left - (x0.size : Int)) _ (by omega) (by omega) z_x3 ?_).mono ?_
    · exact (Row.carry (w' := _) r_x3 (by repeat' (first | with_reducible assumption | with_reducible exact Below.refl _ _ | (with_reducible refine Below.setCell ?_ ?_ _) | (with_reducible refine Below.alloc ?_ ?_ _) | (with_reducible refine Below.drew ?_) | (with_reducible refine below_dr ?_ _) | (with_reducible refine Below.trans ?_ (Below.mono (by with_reducible assumption) ?_)) | omega | (simp; done) | (simp; omega))) (Nat.le_refl _)).more (by (try simp only [World.size_setCell]); (try simp only [World.size_drew]); (try simp only [World.size_alloc]); omega)
    rw [← hT1]
    clear hT1
    by_cases f1 : (T1 : Int) ≤ left - (x0.size : Int)
    case neg =>
      rw [szV_no f1]
      rintro e wZ1 ⟨rfl, hbZ1⟩
      have hzZ1 := hbZ1.size
      have H := Lib.hid (show (-1 : Int) = V by rw [HV.out, szV_no (by omega)])
      go_wp2_with fail
      go_ret
      exact ⟨ret_i H.out, by repeat' (first | with_reducible assumption | with_reducible exact Below.refl _ _ | (with_reducible refine Below.setCell ?_ ?_ _) | (with_reducible refine Below.alloc ?_ ?_ _) | (with_reducible refine Below.drew ?_) | (with_reducible refine below_dr ?_ _) | (with_reducible refine Below.trans ?_ (Below.mono (by with_reducible assumption) ?_)) | omega | (simp; done) | (simp; omega))⟩
    case pos =>
      rw [szV_yes f1]
      obtain ⟨L1, hL1⟩ : ∃ L, L = left - (x0.size : Int) - (T1 : Int) := ⟨_, rfl⟩
      rw [← hL1]
      have hl1 : 0 ≤ L1 ∧ L1 ≤ 1048576 := by omega
      have HL1 := Lib.hid hL1
      clear hL1 f1
      obtain ⟨hl1, hm1⟩ := hl1
      rintro e wZ1 ⟨rfl, hbZ1⟩
      obtain ⟨hcZ1, hfZ1⟩ := bcell hbZ1
      have hzZ1 := hbZ1.size
      (try simp only [World.size_alloc] at hcZ1 hfZ1 hzZ1)
      have qZ1 : w.heap.size < wZ1.heap.size := by omega
      go_wp2_with fail
      refine (szPartS_any x4l x4A x4c (L1) _ (by omega) (by omega) z_x4 ?_).mono ?_
      · exact (Row.carry (w' := _) r_x4 (by repeat' (first | with_reducible assumption | with_reducible exact Below.refl _ _ | (with_reducible refine Below.setCell ?_ ?_ _) | (with_reducible refine Below.alloc ?_ ?_ _) | (with_reducible refine Below.drew ?_) | (with_reducible refine below_dr ?_ _) | (with_reducible refine Below.trans ?_ (Below.mono (by with_reducible assumption) ?_)) | omega | (simp; done) | (simp; omega))) (Nat.le_refl _)).more (by (try simp only [World.size_setCell]); (try simp only [World.size_drew]); (try simp only [World.size_alloc]); omega)
      rw [← hT2]
      clear hT2
      by_cases f2 : (T2 : Int) ≤ L1
      case neg =>
        rw [szV_no f2]
        rintro e wZ2 ⟨rfl, hbZ2⟩
        have hzZ2 := hbZ2.size
        have H := Lib.hid (show (-1 : Int) = V by rw [HV.out, szV_no (by have := HL1.out; omega)])
        go_wp2_with fail
        go_ret
        exact ⟨ret_i H.out, by repeat' (first | with_reducible assumption | with_reducible exact Below.refl _ _ | (with_reducible refine Below.setCell ?_ ?_ _) | (with_reducible refine Below.alloc ?_ ?_ _) | (with_reducible refine Below.drew ?_) | (with_reducible refine below_dr ?_ _) | (with_reducible refine Below.trans ?_ (Below.mono (by with_reducible assumption) ?_)) | omega | (simp; done) | (simp; omega))⟩
      case pos =>
        rw [szV_yes f2]
        obtain ⟨L2, hL2⟩ : ∃ L, L = L1 - (T2 : Int) := ⟨_, rfl⟩
        rw [← hL2]
        have hl2 : 0 ≤ L2 ∧ L2 ≤ 1048576 := by omega
        have HL2 := Lib.hid hL2
        clear hL2 f2
        obtain ⟨hl2, hm2⟩ := hl2
        rintro e wZ2 ⟨rfl, hbZ2⟩
        obtain ⟨hcZ2, hfZ2⟩ := bcell hbZ2
        have hzZ2 := hbZ2.size
        (try simp only [World.size_alloc] at hcZ2 hfZ2 hzZ2)
        have qZ2 : w.heap.size < wZ2.heap.size := by omega
        go_wp2_with fail
        refine (szAnchorS_any x5l x5A x5c (L2) _ (by omega) (by omega) z_x5 ?_).mono ?_
        · exact (Row.carry (w' := _) r_x5 (by repeat' (first | with_reducible assumption | with_reducible exact Below.refl _ _ | (with_reducible refine Below.setCell ?_ ?_ _) | (with_reducible refine Below.alloc ?_ ?_ _) | (with_reducible refine Below.drew ?_) | (with_reducible refine below_dr ?_ _) | (with_reducible refine Below.trans ?_ (Below.mono (by with_reducible assumption) ?_)) | omega | (simp; done) | (simp; omega))) (Nat.le_refl _)).more (by (try simp only [World.size_setCell]); (try simp only [World.size_drew]); (try simp only [World.size_alloc]); omega)
        rw [← hT3]
        clear hT3
        by_cases f3 : (T3 : Int) ≤ L2
        case neg =>
          rw [szV_no f3]
          rintro e wZ3 ⟨rfl, hbZ3⟩
          have hzZ3 := hbZ3.size
          have H := Lib.hid (show (-1 : Int) = V by rw [HV.out, szV_no (by have := HL1.out; have := HL2.out; omega)])
          go_wp2_with fail
          go_ret
          exact ⟨ret_i H.out, by repeat' (first | with_reducible assumption | with_reducible exact Below.refl _ _ | (with_reducible refine Below.setCell ?_ ?_ _) | (with_reducible refine Below.alloc ?_ ?_ _) | (with_reducible refine Below.drew ?_) | (with_reducible refine below_dr ?_ _) | (with_reducible refine Below.trans ?_ (Below.mono (by with_reducible assumption) ?_)) | omega | (simp; done) | (simp; omega))⟩
        case pos =>
          rw [szV_yes f3]
          obtain ⟨L3, hL3⟩ : ∃ L, L = L2 - (T3 : Int) := ⟨_, rfl⟩
          rw [← hL3]
          have hl3 : 0 ≤ L3 ∧ L3 ≤ 1048576 := by omega
          have HL3 := Lib.hid hL3
          clear hL3 f3
          obtain ⟨hl3, hm3⟩ := hl3
          rintro e wZ3 ⟨rfl, hbZ3⟩
          obtain ⟨hcZ3, hfZ3⟩ := bcell hbZ3
          have hzZ3 := hbZ3.size
          (try simp only [World.size_alloc] at hcZ3 hfZ3 hzZ3)
          have qZ3 : w.heap.size < wZ3.heap.size := by omega
          by_cases f4 : L3 - (x6.size : Int) < 0
          case pos =>
            have H := Lib.hid (show (-1 : Int) = V by rw [HV.out, szV_no (by have := HL1.out; have := HL2.out; have := HL3.out; omega)])
            go_wp2_with fail
            go_ret
            exact ⟨ret_i H.out, by repeat' (first | with_reducible assumption | with_reducible exact Below.refl _ _ | (with_reducible refine Below.setCell ?_ ?_ _) | (with_reducible refine Below.alloc ?_ ?_ _) | (with_reducible refine Below.drew ?_) | (with_reducible refine below_dr ?_ _) | (with_reducible refine Below.trans ?_ (Below.mono (by with_reducible assumption) ?_)) | omega | (simp; done) | (simp; omega))⟩
          case neg =>
            replace f4 : 0 ≤ L3 - (x6.size : Int) := by omega
            have H := Lib.hid (show L3 - (x6.size : Int) = V by rw [HV.out, szV_yes (by have := HL1.out; have := HL2.out; have := HL3.out; omega)]; have := HL1.out; have := HL2.out; have := HL3.out; omega)
            go_wp2_with fail
            go_ret
            exact ⟨ret_i H.out, by repeat' (first | with_reducible assumption | with_reducible exact Below.refl _ _ | (with_reducible refine Below.setCell ?_ ?_ _) | (with_reducible refine Below.alloc ?_ ?_ _) | (with_reducible refine Below.drew ?_) | (with_reducible refine below_dr ?_ _) | (with_reducible refine Below.trans ?_ (Below.mono (by with_reducible assumption) ?_)) | omega | (simp; done) | (simp; omega))⟩
set_option maxHeartbeats 3200000 in
theorem szGlyphS_any (l : List DGlyph) (A : Option Addr) (c : Nat) (left : Int) (w : World) (h0 : 0 ≤ left) (h1 : left ≤ 1048576) (hz : szRow SzGlyph l) (r : Row RvGlyph 7 w w.heap.size A l) :
    Calls Try.prog 67 #[.slice A l.length c, .int .i64 left] w fun e w' => e = .returned (.int .i64 (szV (totRow totGlyph l) left)) ∧ Below w.heap.size w w' := by
  obtain ⟨hlen, hel⟩ := hz
  have HEL := Lib.hid hel
  clear hel
  obtain ⟨V, hV⟩ : ∃ V : Int, V = szV (totRow totGlyph l) left := ⟨_, rfl⟩
  have HV := Lib.hid hV
  rw [← hV]
  clear hV
  have hln := totRow_len totGlyph l
  unfold maxLen at hlen
  by_cases f : (l.length : Int) ≤ left
  case neg =>
    have H := Lib.hid (show (-1 : Int) = V by rw [HV.out, szV_no (by omega)])
    have f2 : left - (l.length : Int) < 0 := by omega
    generalize l.length = n at *
    go_enter Try.func67, Try.ntmps67
    go_wp2_with fail
    go_ret
    exact ⟨ret_i H.out, by repeat' (first | with_reducible assumption | with_reducible exact Below.refl _ _ | (with_reducible refine Below.setCell ?_ ?_ _) | (with_reducible refine Below.alloc ?_ ?_ _) | (with_reducible refine Below.drew ?_) | (with_reducible refine below_dr ?_ _) | (with_reducible refine Below.trans ?_ (Below.mono (by with_reducible assumption) ?_)) | omega | (simp; done) | (simp; omega))⟩
  case pos =>
    have f2 : 0 ≤ left - (l.length : Int) := by omega
    have HALL := Lib.hid (totUp_all totGlyph l)
    obtain ⟨n, hn⟩ : ∃ n, n = l.length := ⟨_, rfl⟩
    rw [← hn] at hlen f f2 HALL ⊢
    have HN := Lib.hid hn
    clear hn hln
    go_enter Try.func67, Try.ntmps67
    go_wp2_with fail
    go_loopw [1, 5] (fun v i wr => ∃ k : Nat, k ≤ n ∧ i = .int .i64 (k : Int) ∧ v = .int .i64 (left - (n + totUp totGlyph l k : Nat)) ∧ ((n + totUp totGlyph l k : Nat) : Int) ≤ left ∧ Below w.heap.size w wr) (fun _ i _ => n - (intOf i).toNat)
    case atStart => exact ⟨0, Nat.zero_le _, rfl, by simp [totUp], by simp [totUp]; omega, by repeat' (first | with_reducible assumption | with_reducible exact Below.refl _ _ | (with_reducible refine Below.setCell ?_ ?_ _) | (with_reducible refine Below.alloc ?_ ?_ _) | (with_reducible refine Below.drew ?_) | (with_reducible refine below_dr ?_ _) | (with_reducible refine Below.trans ?_ (Below.mono (by with_reducible assumption) ?_)) | omega | (simp; done) | (simp; omega))⟩
    case round =>
      obtain ⟨k, hk, rfl, rfl, hle, hbl⟩ := hrel
      have zr := hbl.size
      by_cases hlt : k < n
      case pos =>
        obtain ⟨⟨x0, x1, x2, x3l, x4l, x5l, x6⟩, ha⟩ : ∃ a, l[k]? = some a := ⟨l[k]'(by have := HN.out; omega), List.getElem?_eq_getElem (by have := HN.out; omega)⟩
        obtain ⟨g, o, row, rfl, hg, hR, hcc⟩ := (Row.carry (w' := wr) r hbl (Nat.le_refl _)).elem ha
        obtain ⟨x3A, x3c, x4A, x4c, x5A, x5c, rfl, hr_x3, hr_x4, hr_x5⟩ := hR
        have c0 : wr.cell? ⟨g, o + k * 7, none⟩ = some (.string x0) := hcc 0 _ rfl
        have c1 : wr.cell? ⟨g, o + k * 7 + 1, none⟩ = some (.int .i64 x1) := hcc 1 _ rfl
        have c2 : wr.cell? ⟨g, o + k * 7 + 2, none⟩ = some (.int .i64 x2) := hcc 2 _ rfl
        have c3 : wr.cell? ⟨g, o + k * 7 + 3, none⟩ = some (.slice x3A x3l.length x3c) := hcc 3 _ rfl
        have c4 : wr.cell? ⟨g, o + k * 7 + 4, none⟩ = some (.slice x4A x4l.length x4c) := hcc 4 _ rfl
        have c5 : wr.cell? ⟨g, o + k * 7 + 5, none⟩ = some (.slice x5A x5l.length x5c) := hcc 5 _ rfl
        have c6 : wr.cell? ⟨g, o + k * 7 + 6, none⟩ = some (.string x6) := hcc 6 _ rfl
        clear hcc
        have hsz := HEL.out k _ ha
        have hts := totUp_snoc (f := totGlyph) ha
        have htl := totUp_le totGlyph l (k + 1)
        have hgw : g < wr.heap.size := by omega
        have hki : (k : Int) < (n : Int) := by omega
        clear ha
        rw [← HN.out] at htl
        obtain ⟨T, hT⟩ : ∃ T, T = totUp totGlyph l k := ⟨_, rfl⟩
        rw [← hT] at hts hle ⊢
        obtain ⟨U, hUU⟩ : ∃ U, U = totGlyph (x0, x1, x2, x3l, x4l, x5l, x6) := ⟨_, rfl⟩
        rw [← hUU] at hts
        have HT := Lib.hid hts
        have HTL := Lib.hid htl
        clear hT htl
        by_cases fu : (U : Int) ≤ left - ((n + T : Nat) : Int)
        case pos =>
          go_wp2_with fail
          refine (szGlyph_any x0 x1 x2 x3A x3c x3l x4A x4c x4l x5A x5c x5l x6 (left - ((n + T : Nat) : Int)) _ (by omega) (by omega) hsz ?_ ?_ ?_).mono ?_
          · exact (Row.carry (w' := _) hr_x3 (by repeat' (first | with_reducible assumption | with_reducible exact Below.refl _ _ | (with_reducible refine Below.setCell ?_ ?_ _) | (with_reducible refine Below.alloc ?_ ?_ _) | (with_reducible refine Below.drew ?_) | (with_reducible refine below_dr ?_ _) | (with_reducible refine Below.trans ?_ (Below.mono (by with_reducible assumption) ?_)) | omega | (simp; done) | (simp; omega))) (by omega)).more (by (try simp only [World.size_setCell]); (try simp only [World.size_drew]); (try simp only [World.size_alloc]); omega)
          · exact (Row.carry (w' := _) hr_x4 (by repeat' (first | with_reducible assumption | with_reducible exact Below.refl _ _ | (with_reducible refine Below.setCell ?_ ?_ _) | (with_reducible refine Below.alloc ?_ ?_ _) | (with_reducible refine Below.drew ?_) | (with_reducible refine below_dr ?_ _) | (with_reducible refine Below.trans ?_ (Below.mono (by with_reducible assumption) ?_)) | omega | (simp; done) | (simp; omega))) (by omega)).more (by (try simp only [World.size_setCell]); (try simp only [World.size_drew]); (try simp only [World.size_alloc]); omega)
          · exact (Row.carry (w' := _) hr_x5 (by repeat' (first | with_reducible assumption | with_reducible exact Below.refl _ _ | (with_reducible refine Below.setCell ?_ ?_ _) | (with_reducible refine Below.alloc ?_ ?_ _) | (with_reducible refine Below.drew ?_) | (with_reducible refine below_dr ?_ _) | (with_reducible refine Below.trans ?_ (Below.mono (by with_reducible assumption) ?_)) | omega | (simp; done) | (simp; omega))) (by omega)).more (by (try simp only [World.size_setCell]); (try simp only [World.size_drew]); (try simp only [World.size_alloc]); omega)
          rw [← hUU]
          rw [szV_yes (by omega)]
          rintro e wZ ⟨rfl, hbZ⟩
          have fy : 0 ≤ left - ((n + T : Nat) : Int) - (U : Int) := by omega
          go_wp2_with fail
          go_roundw
          case rel => exact ⟨k + 1, by omega, by go_num, by rw [HT.out]; congr 1; omega, by rw [HT.out]; omega, by repeat' (first | with_reducible assumption | with_reducible exact Below.refl _ _ | (with_reducible refine Below.setCell ?_ ?_ _) | (with_reducible refine Below.alloc ?_ ?_ _) | (with_reducible refine Below.drew ?_) | (with_reducible refine below_dr ?_ _) | (with_reducible refine Below.trans ?_ (Below.mono (by with_reducible assumption) ?_)) | omega | (simp; done) | (simp; omega))⟩
          case measure => simp [intOf]; omega
        case neg =>
          have H := Lib.hid (show (-1 : Int) = V by rw [HV.out, szV_no (by have := HTL.out; have := HT.out; omega)])
          go_wp2_with fail
          refine (szGlyph_any x0 x1 x2 x3A x3c x3l x4A x4c x4l x5A x5c x5l x6 (left - ((n + T : Nat) : Int)) _ (by omega) (by omega) hsz ?_ ?_ ?_).mono ?_
          · exact (Row.carry (w' := _) hr_x3 (by repeat' (first | with_reducible assumption | with_reducible exact Below.refl _ _ | (with_reducible refine Below.setCell ?_ ?_ _) | (with_reducible refine Below.alloc ?_ ?_ _) | (with_reducible refine Below.drew ?_) | (with_reducible refine below_dr ?_ _) | (with_reducible refine Below.trans ?_ (Below.mono (by with_reducible assumption) ?_)) | omega | (simp; done) | (simp; omega))) (by omega)).more (by (try simp only [World.size_setCell]); (try simp only [World.size_drew]); (try simp only [World.size_alloc]); omega)
          · exact (Row.carry (w' := _) hr_x4 (by repeat' (first | with_reducible assumption | with_reducible exact Below.refl _ _ | (with_reducible refine Below.setCell ?_ ?_ _) | (with_reducible refine Below.alloc ?_ ?_ _) | (with_reducible refine Below.drew ?_) | (with_reducible refine below_dr ?_ _) | (with_reducible refine Below.trans ?_ (Below.mono (by with_reducible assumption) ?_)) | omega | (simp; done) | (simp; omega))) (by omega)).more (by (try simp only [World.size_setCell]); (try simp only [World.size_drew]); (try simp only [World.size_alloc]); omega)
          · exact (Row.carry (w' := _) hr_x5 (by repeat' (first | with_reducible assumption | with_reducible exact Below.refl _ _ | (with_reducible refine Below.setCell ?_ ?_ _) | (with_reducible refine Below.alloc ?_ ?_ _) | (with_reducible refine Below.drew ?_) | (with_reducible refine below_dr ?_ _) | (with_reducible refine Below.trans ?_ (Below.mono (by with_reducible assumption) ?_)) | omega | (simp; done) | (simp; omega))) (by omega)).more (by (try simp only [World.size_setCell]); (try simp only [World.size_drew]); (try simp only [World.size_alloc]); omega)
          rw [← hUU]
          rw [szV_no (by omega)]
          rintro e wZ ⟨rfl, hbZ⟩
          go_wp2_with fail
          go_ret
          exact ⟨ret_i H.out, by repeat' (first | with_reducible assumption | with_reducible exact Below.refl _ _ | (with_reducible refine Below.setCell ?_ ?_ _) | (with_reducible refine Below.alloc ?_ ?_ _) | (with_reducible refine Below.drew ?_) | (with_reducible refine below_dr ?_ _) | (with_reducible refine Below.trans ?_ (Below.mono (by with_reducible assumption) ?_)) | omega | (simp; done) | (simp; omega))⟩
      case neg =>
        obtain rfl : k = n := by omega
        have H := Lib.hid (show left - ((k + totUp totGlyph l k : Nat) : Int) = V by rw [HV.out, HALL.out, szV_yes (by rw [← HALL.out]; exact hle)])
        go_wp2_with fail
        go_ret
        exact ⟨ret_i H.out, by repeat' (first | with_reducible assumption | with_reducible exact Below.refl _ _ | (with_reducible refine Below.setCell ?_ ?_ _) | (with_reducible refine Below.alloc ?_ ?_ _) | (with_reducible refine Below.drew ?_) | (with_reducible refine below_dr ?_ _) | (with_reducible refine Below.trans ?_ (Below.mono (by with_reducible assumption) ?_)) | omega | (simp; done) | (simp; omega))⟩
set_option maxHeartbeats 3200000 in
theorem szGlyphSet_any (x0 : Int) (x1A : Option Addr) (x1c : Nat) (x1l : List DGlyph) (left : Int) (w : World) (h0 : 0 ≤ left) (h1 : left ≤ 1048576) (hz : SzGlyphSet (x0, x1l)) (r_x1 : Row RvGlyph 7 w w.heap.size x1A x1l) :
    Calls Try.prog 20 #[.agg #[.int .i64 x0, .slice x1A x1l.length x1c], .int .i64 left] w fun e w' => e = .returned (.int .i64 (szV (totGlyphSet (x0, x1l)) left)) ∧ Below w.heap.size w w' := by
  have HT : totGlyphSet (x0, x1l) = totRow totGlyph x1l := by first | rfl | (simp only [totGlyphSet]; omega) | (simp only [totGlyphSet]; done)
  obtain ⟨V, hV⟩ : ∃ V : Int, V = szV (totGlyphSet (x0, x1l)) left := ⟨_, rfl⟩
  rw [← hV]
  rw [HT] at hV
  clear HT
  have HV := Lib.hid hV
  clear hV
  replace hz : szRow SzGlyph x1l := hz
  have z_x1 := hz
  obtain ⟨T0, hT0⟩ : ∃ T, T = totRow totGlyph x1l := ⟨_, rfl⟩
  rw [← hT0] at HV
  go_enter Try.func20, Try.ntmps20
  go_wp2_with fail
  refine (szGlyphS_any x1l x1A x1c (left) _ (by omega) (by omega) z_x1 ?_).mono ?_
  · exact (Row.carry (w' := _) r_x1 (by repeat' (first | with_reducible assumption | with_reducible exact Below.refl _ _ | (with_reducible refine Below.setCell ?_ ?_ _) | (with_reducible refine Below.alloc ?_ ?_ _) | (with_reducible refine Below.drew ?_) | (with_reducible refine below_dr ?_ _) | (with_reducible refine Below.trans ?_ (Below.mono (by with_reducible assumption) ?_)) | omega | (simp; done) | (simp; omega))) (Nat.le_refl _)).more (by (try simp only [World.size_setCell]); (try simp only [World.size_drew]); (try simp only [World.size_alloc]); omega)
  rw [← hT0]
  clear hT0
  by_cases f0 : (T0 : Int) ≤ left
  case neg =>
    rw [szV_no f0]
    rintro e wZ0 ⟨rfl, hbZ0⟩
    have hzZ0 := hbZ0.size
    have H := Lib.hid (show (-1 : Int) = V by rw [HV.out, szV_no (by omega)])
    go_wp2_with fail
    go_ret
    exact ⟨ret_i H.out, by repeat' (first | with_reducible assumption | with_reducible exact Below.refl _ _ | (with_reducible refine Below.setCell ?_ ?_ _) | (with_reducible refine Below.alloc ?_ ?_ _) | (with_reducible refine Below.drew ?_) | (with_reducible refine below_dr ?_ _) | (with_reducible refine Below.trans ?_ (Below.mono (by with_reducible assumption) ?_)) | omega | (simp; done) | (simp; omega))⟩
  case pos =>
    rw [szV_yes f0]
    obtain ⟨L0, hL0⟩ : ∃ L, L = left - (T0 : Int) := ⟨_, rfl⟩
    rw [← hL0]
    have hl0 : 0 ≤ L0 ∧ L0 ≤ 1048576 := by omega
    have HL0 := Lib.hid hL0
    clear hL0 f0
    obtain ⟨hl0, hm0⟩ := hl0
    rintro e wZ0 ⟨rfl, hbZ0⟩
    obtain ⟨hcZ0, hfZ0⟩ := bcell hbZ0
    have hzZ0 := hbZ0.size
    (try simp only [World.size_alloc] at hcZ0 hfZ0 hzZ0)
    have qZ0 : w.heap.size < wZ0.heap.size := by omega
    have H := Lib.hid (show L0 = V by rw [HV.out, szV_yes (by have := HL0.out; omega)]; have := HL0.out; omega)
    go_wp2_with fail
    go_ret
    exact ⟨ret_i H.out, by repeat' (first | with_reducible assumption | with_reducible exact Below.refl _ _ | (with_reducible refine Below.setCell ?_ ?_ _) | (with_reducible refine Below.alloc ?_ ?_ _) | (with_reducible refine Below.drew ?_) | (with_reducible refine below_dr ?_ _) | (with_reducible refine Below.trans ?_ (Below.mono (by with_reducible assumption) ?_)) | omega | (simp; done) | (simp; omega))⟩
end Go.Proofs.Ytelefmogmloniaa
