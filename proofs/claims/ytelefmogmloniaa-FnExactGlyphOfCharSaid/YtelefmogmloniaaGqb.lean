/- Walks: the glyph with a name, and that of a character, on the program's side; the laws. -/
import Derived.Test.YtelefmogmloniaaGqa
namespace Go.Proofs.Ytelefmogmloniaa
open Go.RowKit
set_option linter.unusedVariables false
set_option maxHeartbeats 1600000 in
theorem named1_any (nm : ByteArray) (Bs : Nat) (x0 : ByteArray) (x1 x2 : Int) (x3A : Option Addr) (x3c : Nat) (x3l : List DLoop) (x4A : Option Addr) (x4c : Nat) (x4l : List DPart) (x5A : Option Addr) (x5c : Nat) (x5l : List DAnchor) (x6 : ByteArray) (w : World) (hb : Bs < w.heap.size) (s0 : w.cell? ⟨Bs, 0, none⟩ = some (.string nm)) :
    Calls Try.prog 97 #[.agg #[.string x0, .int .i64 x1, .int .i64 x2, .slice x3A x3l.length x3c, .slice x4A x4l.length x4c, .slice x5A x5l.length x5c, .string x6], .pointer (some ⟨Bs, 0, none⟩)] w fun e w' => e = .returned (.bool (pNm nm (x0, x1, x2, x3l, x4l, x5l, x6))) ∧ Below w.heap.size w w' := by
  have hv : pNm nm (x0, x1, x2, x3l, x4l, x5l, x6) = decide (x0.data.toList = nm.data.toList) := rfl
  rw [hv]
  clear hv
  have e1 : (x0.toList == nm.toList) = decide (x0.data.toList = nm.data.toList) := by
    by_cases h : x0.data.toList = nm.data.toList
    · rw [str_eq h, decide_eq_true h]
    · rw [str_ne h, decide_eq_false h]
  generalize decide (x0.data.toList = nm.data.toList) = v at e1 ⊢
  go_enter Try.func97, Try.ntmps97
  go_wp2_with fail
  go_ret
  exact ⟨rfl, by repeat' (first | with_reducible assumption | with_reducible exact Below.refl _ _ | (with_reducible refine Below.setCell ?_ ?_ _) | (with_reducible refine Below.alloc ?_ ?_ _) | (with_reducible refine Below.drew ?_) | (with_reducible refine below_dr ?_ _) | (with_reducible refine Below.trans ?_ (Below.mono (by with_reducible assumption) ?_)) | omega | (simp; done) | (simp; omega))⟩
set_option maxHeartbeats 1600000 in
theorem ofChar1_any (ch : Int) (Bs : Nat) (x0 : ByteArray) (x1 x2 : Int) (x3A : Option Addr) (x3c : Nat) (x3l : List DLoop) (x4A : Option Addr) (x4c : Nat) (x4l : List DPart) (x5A : Option Addr) (x5c : Nat) (x5l : List DAnchor) (x6 : ByteArray) (w : World) (hb : Bs < w.heap.size) (s0 : w.cell? ⟨Bs, 0, none⟩ = some (.int .i64 ch)) :
    Calls Try.prog 99 #[.agg #[.string x0, .int .i64 x1, .int .i64 x2, .slice x3A x3l.length x3c, .slice x4A x4l.length x4c, .slice x5A x5l.length x5c, .string x6], .pointer (some ⟨Bs, 0, none⟩)] w fun e w' => e = .returned (.bool (pCi ch (x0, x1, x2, x3l, x4l, x5l, x6))) ∧ Below w.heap.size w w' := by
  have hv : pCi ch (x0, x1, x2, x3l, x4l, x5l, x6) = (decide (x1 = ch) && decide (ch ≠ -1)) := rfl
  rw [hv]
  clear hv
  have e1 : (x1 == ch) = decide (x1 = ch) := by by_cases h : x1 = ch <;> simp [h]
  have e2 : (ch != -1) = decide (ch ≠ -1) := by by_cases h : ch = -1 <;> simp [h]
  generalize decide (x1 = ch) = v at e1 ⊢
  generalize decide (ch ≠ -1) = u at e2 ⊢
  cases v
  · go_enter Try.func99, Try.ntmps99
    go_wp2_with fail
    go_ret
    exact ⟨rfl, by repeat' (first | with_reducible assumption | with_reducible exact Below.refl _ _ | (with_reducible refine Below.setCell ?_ ?_ _) | (with_reducible refine Below.alloc ?_ ?_ _) | (with_reducible refine Below.drew ?_) | (with_reducible refine below_dr ?_ _) | (with_reducible refine Below.trans ?_ (Below.mono (by with_reducible assumption) ?_)) | omega | (simp; done) | (simp; omega))⟩
  · go_enter Try.func99, Try.ntmps99
    go_wp2_with fail
    go_ret
    exact ⟨by cases u <;> rfl, by repeat' (first | with_reducible assumption | with_reducible exact Below.refl _ _ | (with_reducible refine Below.setCell ?_ ?_ _) | (with_reducible refine Below.alloc ?_ ?_ _) | (with_reducible refine Below.drew ?_) | (with_reducible refine below_dr ?_ _) | (with_reducible refine Below.trans ?_ (Below.mono (by with_reducible assumption) ?_)) | omega | (simp; done) | (simp; omega))⟩
set_option maxHeartbeats 3200000 in
theorem indexOf_named (Bs : Nat) (l : List DGlyph) (A : Option Addr) (c : Nat) (p : DGlyph → Bool) (w : World) (hl : l.length ≤ 1048576) (r : Row RvGlyph 7 w w.heap.size A l) (hC : ∀ (w1 : World), Below w.heap.size w w1 → ∀ (k : Nat) (x0 : ByteArray) (x1 : Int) (x2 : Int) (x3A : Option Addr) (x3c : Nat) (x3l : List DLoop) (x4A : Option Addr) (x4c : Nat) (x4l : List DPart) (x5A : Option Addr) (x5c : Nat) (x5l : List DAnchor) (x6 : ByteArray), l[k]? = some (x0, x1, x2, x3l, x4l, x5l, x6) → Row RvLoop 1 w1 w1.heap.size x3A x3l → Row RvPart 3 w1 w1.heap.size x4A x4l → Row RvAnchor 3 w1 w1.heap.size x5A x5l → Calls Try.prog 97 #[.agg #[.string x0, .int .i64 x1, .int .i64 x2, .slice x3A x3l.length x3c, .slice x4A x4l.length x4c, .slice x5A x5l.length x5c, .string x6], .pointer (some ⟨Bs, 0, none⟩)] w1 fun e w2 => e = .returned (.bool (p (x0, x1, x2, x3l, x4l, x5l, x6))) ∧ Below w1.heap.size w1 w2) :
    Calls Try.prog 156 #[.slice A l.length c, .func (.func 97) #[] #[.pointer (some ⟨Bs, 0, none⟩)]] w fun e w' => e = .returned (.int .i64 (firstI p l)) ∧ Below w.heap.size w w' := by
  have N := Lib.hid hC
  clear hC
  have RA := Lib.hid r
  clear r
  obtain ⟨n, hn⟩ : ∃ n, n = l.length := ⟨_, rfl⟩
  rw [← hn] at hl ⊢
  have HN := Lib.hid hn
  clear hn
  obtain ⟨v, hv⟩ : ∃ v, v = firstI p l := ⟨_, rfl⟩
  rw [← hv]
  have HV := Lib.hid hv
  clear hv
  go_enter Try.func156, Try.ntmps156
  go_wp2
  go_loopw [5, 8] (fun u i wr => ∃ k : Nat, k ≤ n ∧ i = .int .i64 k ∧ noU p l k ∧ Below w.heap.size w wr) (fun u i _ => n - (intOf i).toNat)
  case atStart => exact ⟨0, Nat.zero_le _, rfl, noU_zero, Below.refl _ _⟩
  case round =>
    obtain ⟨k, hk, rfl, hyes, hbl⟩ := hrel
    have HY := Lib.hid hyes
    clear hyes
    have hzw := hbl.size
    by_cases hlt : k < n
    case pos =>
      obtain ⟨⟨x0, x1, x2, x3l, x4l, x5l, x6⟩, ha⟩ : ∃ a, l[k]? = some a := ⟨l[k]'(by have := HN.out; omega), List.getElem?_eq_getElem (by have := HN.out; omega)⟩
      obtain ⟨g, o, rowc, rfl, hg, hRc, hcc⟩ := (Row.carry (w' := wr) RA.out hbl (Nat.le_refl _)).elem ha
      obtain ⟨x3A, x3c, x4A, x4c, x5A, x5c, rfl, u_x3, u_x4, u_x5⟩ := hRc
      have c0 : wr.cell? ⟨g, o + k * 7, none⟩ = some (.string x0) := hcc 0 _ rfl
      have c1 : wr.cell? ⟨g, o + k * 7 + 1, none⟩ = some (.int .i64 x1) := hcc 1 _ rfl
      have c2 : wr.cell? ⟨g, o + k * 7 + 2, none⟩ = some (.int .i64 x2) := hcc 2 _ rfl
      have c3 : wr.cell? ⟨g, o + k * 7 + 3, none⟩ = some (.slice x3A x3l.length x3c) := hcc 3 _ rfl
      have c4 : wr.cell? ⟨g, o + k * 7 + 4, none⟩ = some (.slice x4A x4l.length x4c) := hcc 4 _ rfl
      have c5 : wr.cell? ⟨g, o + k * 7 + 5, none⟩ = some (.slice x5A x5l.length x5c) := hcc 5 _ rfl
      have c6 : wr.cell? ⟨g, o + k * 7 + 6, none⟩ = some (.string x6) := hcc 6 _ rfl
      clear hcc
      have HA := Lib.hid ha
      clear ha
      have hgw : g < wr.heap.size := by omega
      have hki : (k : Int) < (n : Int) := by omega
      have CC := N.out wr hbl k x0 x1 x2 x3A x3c x3l x4A x4c x4l x5A x5c x5l x6 HA.out (u_x3.more (by omega)) (u_x4.more (by omega)) (u_x5.more (by omega))
      rcases hv : p (x0, x1, x2, x3l, x4l, x5l, x6) with _ | _
      case false =>
        rw [hv] at CC
        have HP := Lib.hid hv
        have C := Lib.hid CC
        clear hv CC
        go_wp2_with fail
        refine C.out.mono ?_
        rintro e w1 ⟨rfl, hb1⟩
        go_wp2
        go_roundw
        case rel => exact ⟨k + 1, by omega, by go_num, noU_succ HY.out HA.out HP.out, by repeat' (first | with_reducible assumption | with_reducible exact Below.refl _ _ | (with_reducible refine Below.setCell ?_ ?_ _) | (with_reducible refine Below.alloc ?_ ?_ _) | (with_reducible refine Below.drew ?_) | (with_reducible refine below_dr ?_ _) | (with_reducible refine Below.trans ?_ (Below.mono (by with_reducible assumption) ?_)) | omega | (simp; done) | (simp; omega))⟩
        case measure => simp [intOf]; omega
      case true =>
        rw [hv] at CC
        have HP := Lib.hid hv
        have C := Lib.hid CC
        clear hv CC
        go_wp2_with fail
        refine C.out.mono ?_
        rintro e w1 ⟨rfl, hb1⟩
        have HK := Lib.hid (HV.out.trans (firstI_yes HY.out HA.out HP.out))
        go_wp2
        go_ret
        exact ⟨ret_i HK.out.symm, by repeat' (first | with_reducible assumption | with_reducible exact Below.refl _ _ | (with_reducible refine Below.setCell ?_ ?_ _) | (with_reducible refine Below.alloc ?_ ?_ _) | (with_reducible refine Below.drew ?_) | (with_reducible refine below_dr ?_ _) | (with_reducible refine Below.trans ?_ (Below.mono (by with_reducible assumption) ?_)) | omega | (simp; done) | (simp; omega))⟩
    case neg =>
      obtain rfl : n = k := by omega
      have HK := Lib.hid (HV.out.trans (firstI_no (by rw [← HN.out]; exact HY.out)))
      go_wp2
      go_ret
      exact ⟨ret_i HK.out.symm, hbl⟩
set_option maxHeartbeats 3200000 in
theorem indexOf_ofChar (Bs : Nat) (l : List DGlyph) (A : Option Addr) (c : Nat) (p : DGlyph → Bool) (w : World) (hl : l.length ≤ 1048576) (r : Row RvGlyph 7 w w.heap.size A l) (hC : ∀ (w1 : World), Below w.heap.size w w1 → ∀ (k : Nat) (x0 : ByteArray) (x1 : Int) (x2 : Int) (x3A : Option Addr) (x3c : Nat) (x3l : List DLoop) (x4A : Option Addr) (x4c : Nat) (x4l : List DPart) (x5A : Option Addr) (x5c : Nat) (x5l : List DAnchor) (x6 : ByteArray), l[k]? = some (x0, x1, x2, x3l, x4l, x5l, x6) → Row RvLoop 1 w1 w1.heap.size x3A x3l → Row RvPart 3 w1 w1.heap.size x4A x4l → Row RvAnchor 3 w1 w1.heap.size x5A x5l → Calls Try.prog 99 #[.agg #[.string x0, .int .i64 x1, .int .i64 x2, .slice x3A x3l.length x3c, .slice x4A x4l.length x4c, .slice x5A x5l.length x5c, .string x6], .pointer (some ⟨Bs, 0, none⟩)] w1 fun e w2 => e = .returned (.bool (p (x0, x1, x2, x3l, x4l, x5l, x6))) ∧ Below w1.heap.size w1 w2) :
    Calls Try.prog 156 #[.slice A l.length c, .func (.func 99) #[] #[.pointer (some ⟨Bs, 0, none⟩)]] w fun e w' => e = .returned (.int .i64 (firstI p l)) ∧ Below w.heap.size w w' := by
  have N := Lib.hid hC
  clear hC
  have RA := Lib.hid r
  clear r
  obtain ⟨n, hn⟩ : ∃ n, n = l.length := ⟨_, rfl⟩
  rw [← hn] at hl ⊢
  have HN := Lib.hid hn
  clear hn
  obtain ⟨v, hv⟩ : ∃ v, v = firstI p l := ⟨_, rfl⟩
  rw [← hv]
  have HV := Lib.hid hv
  clear hv
  go_enter Try.func156, Try.ntmps156
  go_wp2
  go_loopw [5, 8] (fun u i wr => ∃ k : Nat, k ≤ n ∧ i = .int .i64 k ∧ noU p l k ∧ Below w.heap.size w wr) (fun u i _ => n - (intOf i).toNat)
  case atStart => exact ⟨0, Nat.zero_le _, rfl, noU_zero, Below.refl _ _⟩
  case round =>
    obtain ⟨k, hk, rfl, hyes, hbl⟩ := hrel
    have HY := Lib.hid hyes
    clear hyes
    have hzw := hbl.size
    by_cases hlt : k < n
    case pos =>
      obtain ⟨⟨x0, x1, x2, x3l, x4l, x5l, x6⟩, ha⟩ : ∃ a, l[k]? = some a := ⟨l[k]'(by have := HN.out; omega), List.getElem?_eq_getElem (by have := HN.out; omega)⟩
      obtain ⟨g, o, rowc, rfl, hg, hRc, hcc⟩ := (Row.carry (w' := wr) RA.out hbl (Nat.le_refl _)).elem ha
      obtain ⟨x3A, x3c, x4A, x4c, x5A, x5c, rfl, u_x3, u_x4, u_x5⟩ := hRc
      have c0 : wr.cell? ⟨g, o + k * 7, none⟩ = some (.string x0) := hcc 0 _ rfl
      have c1 : wr.cell? ⟨g, o + k * 7 + 1, none⟩ = some (.int .i64 x1) := hcc 1 _ rfl
      have c2 : wr.cell? ⟨g, o + k * 7 + 2, none⟩ = some (.int .i64 x2) := hcc 2 _ rfl
      have c3 : wr.cell? ⟨g, o + k * 7 + 3, none⟩ = some (.slice x3A x3l.length x3c) := hcc 3 _ rfl
      have c4 : wr.cell? ⟨g, o + k * 7 + 4, none⟩ = some (.slice x4A x4l.length x4c) := hcc 4 _ rfl
      have c5 : wr.cell? ⟨g, o + k * 7 + 5, none⟩ = some (.slice x5A x5l.length x5c) := hcc 5 _ rfl
      have c6 : wr.cell? ⟨g, o + k * 7 + 6, none⟩ = some (.string x6) := hcc 6 _ rfl
      clear hcc
      have HA := Lib.hid ha
      clear ha
      have hgw : g < wr.heap.size := by omega
      have hki : (k : Int) < (n : Int) := by omega
      have CC := N.out wr hbl k x0 x1 x2 x3A x3c x3l x4A x4c x4l x5A x5c x5l x6 HA.out (u_x3.more (by omega)) (u_x4.more (by omega)) (u_x5.more (by omega))
      rcases hv : p (x0, x1, x2, x3l, x4l, x5l, x6) with _ | _
      case false =>
        rw [hv] at CC
        have HP := Lib.hid hv
        have C := Lib.hid CC
        clear hv CC
        go_wp2_with fail
        refine C.out.mono ?_
        rintro e w1 ⟨rfl, hb1⟩
        go_wp2
        go_roundw
        case rel => exact ⟨k + 1, by omega, by go_num, noU_succ HY.out HA.out HP.out, by repeat' (first | with_reducible assumption | with_reducible exact Below.refl _ _ | (with_reducible refine Below.setCell ?_ ?_ _) | (with_reducible refine Below.alloc ?_ ?_ _) | (with_reducible refine Below.drew ?_) | (with_reducible refine below_dr ?_ _) | (with_reducible refine Below.trans ?_ (Below.mono (by with_reducible assumption) ?_)) | omega | (simp; done) | (simp; omega))⟩
        case measure => simp [intOf]; omega
      case true =>
        rw [hv] at CC
        have HP := Lib.hid hv
        have C := Lib.hid CC
        clear hv CC
        go_wp2_with fail
        refine C.out.mono ?_
        rintro e w1 ⟨rfl, hb1⟩
        have HK := Lib.hid (HV.out.trans (firstI_yes HY.out HA.out HP.out))
        go_wp2
        go_ret
        exact ⟨ret_i HK.out.symm, by repeat' (first | with_reducible assumption | with_reducible exact Below.refl _ _ | (with_reducible refine Below.setCell ?_ ?_ _) | (with_reducible refine Below.alloc ?_ ?_ _) | (with_reducible refine Below.drew ?_) | (with_reducible refine below_dr ?_ _) | (with_reducible refine Below.trans ?_ (Below.mono (by with_reducible assumption) ?_)) | omega | (simp; done) | (simp; omega))⟩
    case neg =>
      obtain rfl : n = k := by omega
      have HK := Lib.hid (HV.out.trans (firstI_no (by rw [← HN.out]; exact HY.out)))
      go_wp2
      go_ret
      exact ⟨ret_i HK.out.symm, hbl⟩
set_option maxHeartbeats 3200000 in
theorem first_named (u : Int) (A : Option Addr) (c : Nat) (l : List DGlyph) (nm : ByteArray) (Bs : Nat) (w : World) (h : totGlyphSet (u, l) ≤ 1048576) (hb : Bs < w.heap.size) (s0 : w.cell? ⟨Bs, 0, none⟩ = some (.string nm)) (r : Row RvGlyph 7 w w.heap.size A l) :
    Calls Try.prog 96 #[.agg #[.int .i64 u, .slice A l.length c], .func (.func 97) #[] #[.pointer (some ⟨Bs, 0, none⟩)]] w fun e w' => e = .returned (.tuple #[.int .i64 (gvI (pNm nm) (u, l)), .bool (gvB (pNm nm) (u, l))]) ∧ Below w.heap.size w w' := by
  have hll := Nat.le_trans (totRow_len totGlyph l) h
  have CV := Lib.hid (fun w1 q => implValidGlyphSet_any u l A c w1 h q)
  have CN := Lib.hid (fun (w1 : World) (hbw : Bs < w1.heap.size) (s : w1.cell? ⟨Bs, 0, none⟩ = some (.string nm)) (q : Row RvGlyph 7 w1 w1.heap.size A l) => indexOf_named Bs l A c (pNm nm) w1 hll q (fun w2 hb2 k x0 x1 x2 x3A x3c x3l x4A x4c x4l x5A x5c x5l x6 _ _ _ _ => named1_any nm Bs x0 x1 x2 x3A x3c x3l x4A x4c x4l x5A x5c x5l x6 w2 (Nat.lt_of_lt_of_le hbw hb2.size) ((hb2.cell (p := ⟨Bs, 0, none⟩) hbw).trans s)))
  have hI : gvI (pNm nm) (u, l) = if vS (u, l) = true then max (firstI (pNm nm) l) 0 else 0 := rfl
  have hB : gvB (pNm nm) (u, l) = if vS (u, l) = true then decide (0 ≤ firstI (pNm nm) l) else false := rfl
  rw [hI, hB]
  clear hI hB
  generalize vS (u, l) = v at CV ⊢
  generalize firstI (pNm nm) l = k at CN ⊢
  generalize l.length = n at *
  go_enter Try.func96, Try.ntmps96
  go_wp2_with fail
  refine (CV.out _ ?_).mono ?_
  · exact (Row.alloc r (Nat.le_refl _) _).more (by simp)
  rintro e w1 ⟨rfl, hb1⟩
  have hz1 := hb1.size
  simp only [World.size_alloc] at hz1
  cases v
  case false =>
    go_wp2_with fail
    refine bodyPost_ret (v := .tuple #[.int .i64 (0), .bool (false)]) (by simp [results, Try.results96, go_sem, *]) rfl ?_
    exact ⟨by simp, by repeat' (first | with_reducible assumption | with_reducible exact Below.refl _ _ | (with_reducible refine Below.setCell ?_ ?_ _) | (with_reducible refine Below.alloc ?_ ?_ _) | (with_reducible refine Below.drew ?_) | (with_reducible refine below_dr ?_ _) | (with_reducible refine Below.trans ?_ (Below.mono (by with_reducible assumption) ?_)) | omega | (simp; done) | (simp; omega))⟩
  case true =>
    have s1z : w1.cell? ⟨w.heap.size, 1, none⟩ = some (.slice A n c) := (hb1.cell (p := ⟨w.heap.size, 1, none⟩) (by simp)).trans (by simp [go_sem])
    have b1 : Below w.heap.size w w1 := by repeat' (first | with_reducible assumption | with_reducible exact Below.refl _ _ | (with_reducible refine Below.setCell ?_ ?_ _) | (with_reducible refine Below.alloc ?_ ?_ _) | (with_reducible refine Below.drew ?_) | (with_reducible refine below_dr ?_ _) | (with_reducible refine Below.trans ?_ (Below.mono (by with_reducible assumption) ?_)) | omega | (simp; done) | (simp; omega))
    have s0z : w1.cell? ⟨Bs, 0, none⟩ = some (.string nm) := (b1.cell (p := ⟨Bs, 0, none⟩) hb).trans s0
    go_wp2_with fail
    refine (CN.out _ (by omega) s0z ?_).mono ?_
    · exact (Row.carry (w' := _) r b1 (Nat.le_refl _)).more (by omega)
    rintro e w2 ⟨rfl, hb2⟩
    by_cases hk : 0 ≤ k
    case pos =>
      have HM := Lib.hid (show max k 0 = k by omega)
      have HD := Lib.hid (decide_eq_true hk)
      go_wp2_with fail
      refine bodyPost_ret (v := .tuple #[.int .i64 (k), .bool (true)]) (by simp [results, Try.results96, go_sem, *]) rfl ?_
      exact ⟨by have h1 := HM.out; have h2 := HD.out; first | (rw [h1, h2]; done) | (rw [if_pos rfl, if_pos rfl, h1, h2]; done) | (simp [h1, h2]; done), by repeat' (first | with_reducible assumption | with_reducible exact Below.refl _ _ | (with_reducible refine Below.setCell ?_ ?_ _) | (with_reducible refine Below.alloc ?_ ?_ _) | (with_reducible refine Below.drew ?_) | (with_reducible refine below_dr ?_ _) | (with_reducible refine Below.trans ?_ (Below.mono (by with_reducible assumption) ?_)) | omega | (simp; done) | (simp; omega))⟩
    case neg =>
      have HM := Lib.hid (show max k 0 = 0 by omega)
      have HD := Lib.hid (decide_eq_false hk)
      go_wp2_with fail
      refine bodyPost_ret (v := .tuple #[.int .i64 (0), .bool (false)]) (by simp [results, Try.results96, go_sem, *]) rfl ?_
      exact ⟨by have h1 := HM.out; have h2 := HD.out; first | (rw [h1, h2]; done) | (rw [if_pos rfl, if_pos rfl, h1, h2]; done) | (simp [h1, h2]; done), by repeat' (first | with_reducible assumption | with_reducible exact Below.refl _ _ | (with_reducible refine Below.setCell ?_ ?_ _) | (with_reducible refine Below.alloc ?_ ?_ _) | (with_reducible refine Below.drew ?_) | (with_reducible refine below_dr ?_ _) | (with_reducible refine Below.trans ?_ (Below.mono (by with_reducible assumption) ?_)) | omega | (simp; done) | (simp; omega))⟩
set_option maxHeartbeats 3200000 in
theorem first_ofChar (u : Int) (A : Option Addr) (c : Nat) (l : List DGlyph) (ch : Int) (Bs : Nat) (w : World) (h : totGlyphSet (u, l) ≤ 1048576) (hb : Bs < w.heap.size) (s0 : w.cell? ⟨Bs, 0, none⟩ = some (.int .i64 ch)) (r : Row RvGlyph 7 w w.heap.size A l) :
    Calls Try.prog 96 #[.agg #[.int .i64 u, .slice A l.length c], .func (.func 99) #[] #[.pointer (some ⟨Bs, 0, none⟩)]] w fun e w' => e = .returned (.tuple #[.int .i64 (gvI (pCi ch) (u, l)), .bool (gvB (pCi ch) (u, l))]) ∧ Below w.heap.size w w' := by
  have hll := Nat.le_trans (totRow_len totGlyph l) h
  have CV := Lib.hid (fun w1 q => implValidGlyphSet_any u l A c w1 h q)
  have CN := Lib.hid (fun (w1 : World) (hbw : Bs < w1.heap.size) (s : w1.cell? ⟨Bs, 0, none⟩ = some (.int .i64 ch)) (q : Row RvGlyph 7 w1 w1.heap.size A l) => indexOf_ofChar Bs l A c (pCi ch) w1 hll q (fun w2 hb2 k x0 x1 x2 x3A x3c x3l x4A x4c x4l x5A x5c x5l x6 _ _ _ _ => ofChar1_any ch Bs x0 x1 x2 x3A x3c x3l x4A x4c x4l x5A x5c x5l x6 w2 (Nat.lt_of_lt_of_le hbw hb2.size) ((hb2.cell (p := ⟨Bs, 0, none⟩) hbw).trans s)))
  have hI : gvI (pCi ch) (u, l) = if vS (u, l) = true then max (firstI (pCi ch) l) 0 else 0 := rfl
  have hB : gvB (pCi ch) (u, l) = if vS (u, l) = true then decide (0 ≤ firstI (pCi ch) l) else false := rfl
  rw [hI, hB]
  clear hI hB
  generalize vS (u, l) = v at CV ⊢
  generalize firstI (pCi ch) l = k at CN ⊢
  generalize l.length = n at *
  go_enter Try.func96, Try.ntmps96
  go_wp2_with fail
  refine (CV.out _ ?_).mono ?_
  · exact (Row.alloc r (Nat.le_refl _) _).more (by simp)
  rintro e w1 ⟨rfl, hb1⟩
  have hz1 := hb1.size
  simp only [World.size_alloc] at hz1
  cases v
  case false =>
    go_wp2_with fail
    refine bodyPost_ret (v := .tuple #[.int .i64 (0), .bool (false)]) (by simp [results, Try.results96, go_sem, *]) rfl ?_
    exact ⟨by simp, by repeat' (first | with_reducible assumption | with_reducible exact Below.refl _ _ | (with_reducible refine Below.setCell ?_ ?_ _) | (with_reducible refine Below.alloc ?_ ?_ _) | (with_reducible refine Below.drew ?_) | (with_reducible refine below_dr ?_ _) | (with_reducible refine Below.trans ?_ (Below.mono (by with_reducible assumption) ?_)) | omega | (simp; done) | (simp; omega))⟩
  case true =>
    have s1z : w1.cell? ⟨w.heap.size, 1, none⟩ = some (.slice A n c) := (hb1.cell (p := ⟨w.heap.size, 1, none⟩) (by simp)).trans (by simp [go_sem])
    have b1 : Below w.heap.size w w1 := by repeat' (first | with_reducible assumption | with_reducible exact Below.refl _ _ | (with_reducible refine Below.setCell ?_ ?_ _) | (with_reducible refine Below.alloc ?_ ?_ _) | (with_reducible refine Below.drew ?_) | (with_reducible refine below_dr ?_ _) | (with_reducible refine Below.trans ?_ (Below.mono (by with_reducible assumption) ?_)) | omega | (simp; done) | (simp; omega))
    have s0z : w1.cell? ⟨Bs, 0, none⟩ = some (.int .i64 ch) := (b1.cell (p := ⟨Bs, 0, none⟩) hb).trans s0
    go_wp2_with fail
    refine (CN.out _ (by omega) s0z ?_).mono ?_
    · exact (Row.carry (w' := _) r b1 (Nat.le_refl _)).more (by omega)
    rintro e w2 ⟨rfl, hb2⟩
    by_cases hk : 0 ≤ k
    case pos =>
      have HM := Lib.hid (show max k 0 = k by omega)
      have HD := Lib.hid (decide_eq_true hk)
      go_wp2_with fail
      refine bodyPost_ret (v := .tuple #[.int .i64 (k), .bool (true)]) (by simp [results, Try.results96, go_sem, *]) rfl ?_
      exact ⟨by have h1 := HM.out; have h2 := HD.out; first | (rw [h1, h2]; done) | (rw [if_pos rfl, if_pos rfl, h1, h2]; done) | (simp [h1, h2]; done), by repeat' (first | with_reducible assumption | with_reducible exact Below.refl _ _ | (with_reducible refine Below.setCell ?_ ?_ _) | (with_reducible refine Below.alloc ?_ ?_ _) | (with_reducible refine Below.drew ?_) | (with_reducible refine below_dr ?_ _) | (with_reducible refine Below.trans ?_ (Below.mono (by with_reducible assumption) ?_)) | omega | (simp; done) | (simp; omega))⟩
    case neg =>
      have HM := Lib.hid (show max k 0 = 0 by omega)
      have HD := Lib.hid (decide_eq_false hk)
      go_wp2_with fail
      refine bodyPost_ret (v := .tuple #[.int .i64 (0), .bool (false)]) (by simp [results, Try.results96, go_sem, *]) rfl ?_
      exact ⟨by have h1 := HM.out; have h2 := HD.out; first | (rw [h1, h2]; done) | (rw [if_pos rfl, if_pos rfl, h1, h2]; done) | (simp [h1, h2]; done), by repeat' (first | with_reducible assumption | with_reducible exact Below.refl _ _ | (with_reducible refine Below.setCell ?_ ?_ _) | (with_reducible refine Below.alloc ?_ ?_ _) | (with_reducible refine Below.drew ?_) | (with_reducible refine below_dr ?_ _) | (with_reducible refine Below.trans ?_ (Below.mono (by with_reducible assumption) ?_)) | omega | (simp; done) | (simp; omega))⟩
end Go.Proofs.Ytelefmogmloniaa
