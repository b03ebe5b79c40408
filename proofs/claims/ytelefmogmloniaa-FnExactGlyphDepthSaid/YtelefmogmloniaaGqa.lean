/- Walks: the glyph with a name, and that of a character, on both sides. -/
import Derived.Test.YtelefmogmloniaaGpg
namespace Go.Proofs.Ytelefmogmloniaa
open Go.RowKit
set_option linter.unusedVariables false
def firstI {α : Type} (p : α → Bool) (l : List α) : Int := match l.findIdx? p with | some i => (i : Int) | none => -1
section
variable {α : Type} {l : List α} {p q : α → Bool} {k : Nat} {a : α}
def noU (p : α → Bool) (l : List α) (k : Nat) : Prop := ∀ j x, j < k → l[j]? = some x → p x = false
theorem noU_zero : noU p l 0 := fun j x h _ => absurd h (Nat.not_lt_zero _)
theorem noU_succ (h : noU p l k) (ha : l[k]? = some a) (hp : p a = false) : noU p l (k + 1) := fun j x hj hx => by
  rcases Nat.lt_or_ge j k with h2 | h2
  · exact h j x h2 hx
  · obtain rfl : j = k := by omega
    rw [ha] at hx; obtain rfl := Option.some.inj hx; exact hp
theorem firstI_yes (h : noU p l k) (ha : l[k]? = some a) (hp : p a = true) : firstI p l = (k : Int) := by
  have hs : l.findIdx? p = some k := by
    rw [List.findIdx?_eq_some_iff_getElem]
    obtain ⟨hk, he⟩ := List.getElem?_eq_some_iff.1 ha
    refine ⟨hk, by rw [he]; exact hp, fun j hj => ?_⟩
    have := h j (l[j]'(by omega)) hj (List.getElem?_eq_getElem (by omega))
    rw [this]; simp
  unfold firstI; rw [hs]
theorem firstI_no (h : noU p l l.length) : firstI p l = -1 := by
  have hs : l.findIdx? p = none := by
    rw [List.findIdx?_eq_none_iff]
    intro x hx
    obtain ⟨j, hj⟩ := List.getElem?_of_mem hx
    exact h j x (List.getElem?_eq_some_iff.1 hj).1 hj
  unfold firstI; rw [hs]
theorem firstI_congr (h : ∀ x ∈ l, p x = q x) : firstI p l = firstI q l := by
  have : l.findIdx? p = l.findIdx? q := by
    induction l with
    | nil => rfl
    | cons a l ih =>
      rw [List.findIdx?_cons, List.findIdx?_cons, h a (by simp), ih (fun x hx => h x (by simp [hx]))]
  unfold firstI; rw [this]
end
def pNm (s : ByteArray) : DGlyph → Bool := fun a => decide (a.1.data.toList = s.data.toList)
def pCh (c : Int) : DGlyph → Bool := fun a => decide (0 ≤ c) && decide (a.2.1 = c)
def pCi (c : Int) : DGlyph → Bool := fun a => decide (a.2.1 = c) && decide (c ≠ -1)
def gvI (p : DGlyph → Bool) (d : DGlyphSet) : Int := if vS d = true then max (firstI p d.2) 0 else 0
def gvB (p : DGlyph → Bool) (d : DGlyphSet) : Bool := if vS d = true then decide (0 ≤ firstI p d.2) else false
theorem vS_all {u : Int} {l : List DGlyph} (h : vS (u, l) = true) : l.all vG = true := by
  have hv : vS (u, l) = ((decide (16 ≤ u ∧ u ≤ 16384) && decide (l.length ≤ 40)) && (l.all vG && (nmOk gN l && cdUp l l.length)) && decide ((ordL (psOf l)).length = l.length)) := rfl
  rw [hv] at h
  simp only [Bool.and_eq_true] at h
  exact h.1.2.1
theorem pCh_pCi {u c : Int} {l : List DGlyph} (h : vS (u, l) = true) : firstI (pCh c) l = firstI (pCi c) l := by
  apply firstI_congr
  intro x hx
  have h1 := vG_code (List.all_eq_true.1 (vS_all h) x hx)
  unfold pCh pCi
  by_cases e : x.2.1 = c
  · rw [decide_eq_true e, Bool.and_true, Bool.true_and]
    by_cases h0 : 0 ≤ c
    · rw [decide_eq_true h0, decide_eq_true (by omega)]
    · rw [decide_eq_false h0, decide_eq_false (by omega)]
  · rw [decide_eq_false e]; simp
set_option maxHeartbeats 3200000 in
theorem l17Named_any (l : List DGlyph) (A : Option Addr) (c b p : Nat) (nm : ByteArray) (w : World) (hl : l.length ≤ 1048576) (hb : b < w.heap.size) (s1 : w.cell? ⟨b, p + 1, none⟩ = some (.slice A l.length c)) (r : Row RvGlyph 7 w w.heap.size A l) :
    Calls Try.prog 95 #[.pointer (some ⟨b, p, none⟩), .string nm] w fun e w' => e = .returned (.int .i64 (firstI (pNm nm) l)) ∧ Below w.heap.size w w' := by
  obtain ⟨n, hn⟩ : ∃ n, n = l.length := ⟨_, rfl⟩
  rw [← hn] at hl s1
  have HN := Lib.hid hn
  clear hn
  obtain ⟨v, hv⟩ : ∃ v, v = firstI (pNm nm) l := ⟨_, rfl⟩
  rw [← hv]
  have HV := Lib.hid hv
  clear hv
  go_enter Try.func95, Try.ntmps95
  go_wp2_with fail
  go_loopw [5] (fun i wr => ∃ k : Nat, k ≤ n ∧ i = .int .i64 k ∧ noU (pNm nm) l k ∧ Below w.heap.size w wr) (fun i _ => n - (intOf i).toNat)
  case atStart => exact ⟨0, Nat.zero_le _, rfl, noU_zero, by repeat' (first | with_reducible assumption | with_reducible exact Below.refl _ _ | (with_reducible refine Below.setCell ?_ ?_ _) | (with_reducible refine Below.alloc ?_ ?_ _) | (with_reducible refine Below.drew ?_) | (with_reducible refine below_dr ?_ _) | (with_reducible refine Below.trans ?_ (Below.mono (by with_reducible assumption) ?_)) | omega | (simp; done) | (simp; omega))⟩
  case round =>
    obtain ⟨k, hk, rfl, hno, hbl⟩ := hrel
    have HY := Lib.hid hno
    clear hno
    have zr := hbl.size
    have s1z : wr.cell? ⟨b, p + 1, none⟩ = some (.slice A n c) := (hbl.cell (p := ⟨b, p + 1, none⟩) hb).trans s1
    by_cases hlt : k < n
    case neg =>
      obtain rfl : n = k := by omega
      have HK := Lib.hid (HV.out.trans (firstI_no (by rw [← HN.out]; exact HY.out)))
      go_wp2_with fail
      go_ret
      exact ⟨ret_i HK.out.symm, by repeat' (first | with_reducible assumption | with_reducible exact Below.refl _ _ | (with_reducible refine Below.setCell ?_ ?_ _) | (with_reducible refine Below.alloc ?_ ?_ _) | (with_reducible refine Below.drew ?_) | (with_reducible refine below_dr ?_ _) | (with_reducible refine Below.trans ?_ (Below.mono (by with_reducible assumption) ?_)) | omega | (simp; done) | (simp; omega))⟩
    case pos =>
      obtain ⟨⟨x0, x1, x2, x3l, x4l, x5l, x6⟩, ha⟩ : ∃ a, l[k]? = some a := ⟨l[k]'(by have := HN.out; omega), List.getElem?_eq_getElem (by have := HN.out; omega)⟩
      obtain ⟨g, o, rowc, rfl, hg, hRc, hcc⟩ := (Row.carry (w' := wr) r hbl (Nat.le_refl _)).elem ha
      obtain ⟨x3A, x3c, x4A, x4c, x5A, x5c, rfl, u_x3, u_x4, u_x5⟩ := hRc
      have c0 : wr.cell? ⟨g, o + k * 7, none⟩ = some (.string x0) := hcc 0 _ rfl
      have c1 : wr.cell? ⟨g, o + k * 7 + 1, none⟩ = some (.int .i64 x1) := hcc 1 _ rfl
      have c2 : wr.cell? ⟨g, o + k * 7 + 2, none⟩ = some (.int .i64 x2) := hcc 2 _ rfl
      have c3 : wr.cell? ⟨g, o + k * 7 + 3, none⟩ = some (.slice x3A x3l.length x3c) := hcc 3 _ rfl
      have c4 : wr.cell? ⟨g, o + k * 7 + 4, none⟩ = some (.slice x4A x4l.length x4c) := hcc 4 _ rfl
      have c5 : wr.cell? ⟨g, o + k * 7 + 5, none⟩ = some (.slice x5A x5l.length x5c) := hcc 5 _ rfl
      have c6 : wr.cell? ⟨g, o + k * 7 + 6, none⟩ = some (.string x6) := hcc 6 _ rfl
      clear hcc
      have HA := Lib.hid ha
      clear ha c2 c3 c4 c5 c6 u_x3 u_x4 u_x5
      have hgw : g < wr.heap.size := by omega
      have hki : (k : Int) < (n : Int) := by omega
      by_cases he : x0.data.toList = nm.data.toList
      case pos =>
        have e1 := str_eq he
        have HP := Lib.hid (show pNm nm (x0, x1, x2, x3l, x4l, x5l, x6) = true from decide_eq_true he)
        clear he
        have HK := Lib.hid (HV.out.trans (firstI_yes HY.out HA.out HP.out))
        go_wp2_with fail
        go_ret
        exact ⟨ret_i HK.out.symm, by repeat' (first | with_reducible assumption | with_reducible exact Below.refl _ _ | (with_reducible refine Below.setCell ?_ ?_ _) | (with_reducible refine Below.alloc ?_ ?_ _) | (with_reducible refine Below.drew ?_) | (with_reducible refine below_dr ?_ _) | (with_reducible refine Below.trans ?_ (Below.mono (by with_reducible assumption) ?_)) | omega | (simp; done) | (simp; omega))⟩
      case neg =>
        have e1 := str_ne he
        have HP := Lib.hid (show pNm nm (x0, x1, x2, x3l, x4l, x5l, x6) = false from decide_eq_false he)
        clear he
        go_wp2_with fail
        go_roundw
        case rel => exact ⟨k + 1, by omega, by go_num, noU_succ HY.out HA.out HP.out, by repeat' (first | with_reducible assumption | with_reducible exact Below.refl _ _ | (with_reducible refine Below.setCell ?_ ?_ _) | (with_reducible refine Below.alloc ?_ ?_ _) | (with_reducible refine Below.drew ?_) | (with_reducible refine below_dr ?_ _) | (with_reducible refine Below.trans ?_ (Below.mono (by with_reducible assumption) ?_)) | omega | (simp; done) | (simp; omega))⟩
        case measure => simp [intOf]; omega
set_option maxHeartbeats 3200000 in
theorem l17OfChar_any (l : List DGlyph) (A : Option Addr) (c b p : Nat) (ch : Int) (w : World) (hl : l.length ≤ 1048576) (hb : b < w.heap.size) (s1 : w.cell? ⟨b, p + 1, none⟩ = some (.slice A l.length c)) (r : Row RvGlyph 7 w w.heap.size A l) :
    Calls Try.prog 98 #[.pointer (some ⟨b, p, none⟩), .int .i64 ch] w fun e w' => e = .returned (.int .i64 (firstI (pCh ch) l)) ∧ Below w.heap.size w w' := by
  obtain ⟨n, hn⟩ : ∃ n, n = l.length := ⟨_, rfl⟩
  rw [← hn] at hl s1
  have HN := Lib.hid hn
  clear hn
  obtain ⟨v, hv⟩ : ∃ v, v = firstI (pCh ch) l := ⟨_, rfl⟩
  rw [← hv]
  have HV := Lib.hid hv
  clear hv
  go_enter Try.func98, Try.ntmps98
  go_wp2_with fail
  go_loopw [5] (fun i wr => ∃ k : Nat, k ≤ n ∧ i = .int .i64 k ∧ noU (pCh ch) l k ∧ Below w.heap.size w wr) (fun i _ => n - (intOf i).toNat)
  case atStart => exact ⟨0, Nat.zero_le _, rfl, noU_zero, by repeat' (first | with_reducible assumption | with_reducible exact Below.refl _ _ | (with_reducible refine Below.setCell ?_ ?_ _) | (with_reducible refine Below.alloc ?_ ?_ _) | (with_reducible refine Below.drew ?_) | (with_reducible refine below_dr ?_ _) | (with_reducible refine Below.trans ?_ (Below.mono (by with_reducible assumption) ?_)) | omega | (simp; done) | (simp; omega))⟩
  case round =>
    obtain ⟨k, hk, rfl, hno, hbl⟩ := hrel
    have HY := Lib.hid hno
    clear hno
    have zr := hbl.size
    have s1z : wr.cell? ⟨b, p + 1, none⟩ = some (.slice A n c) := (hbl.cell (p := ⟨b, p + 1, none⟩) hb).trans s1
    by_cases hlt : k < n
    case neg =>
      obtain rfl : n = k := by omega
      have HK := Lib.hid (HV.out.trans (firstI_no (by rw [← HN.out]; exact HY.out)))
      go_wp2_with fail
      go_ret
      exact ⟨ret_i HK.out.symm, by repeat' (first | with_reducible assumption | with_reducible exact Below.refl _ _ | (with_reducible refine Below.setCell ?_ ?_ _) | (with_reducible refine Below.alloc ?_ ?_ _) | (with_reducible refine Below.drew ?_) | (with_reducible refine below_dr ?_ _) | (with_reducible refine Below.trans ?_ (Below.mono (by with_reducible assumption) ?_)) | omega | (simp; done) | (simp; omega))⟩
    case pos =>
      obtain ⟨⟨x0, x1, x2, x3l, x4l, x5l, x6⟩, ha⟩ : ∃ a, l[k]? = some a := ⟨l[k]'(by have := HN.out; omega), List.getElem?_eq_getElem (by have := HN.out; omega)⟩
      obtain ⟨g, o, rowc, rfl, hg, hRc, hcc⟩ := (Row.carry (w' := wr) r hbl (Nat.le_refl _)).elem ha
      obtain ⟨x3A, x3c, x4A, x4c, x5A, x5c, rfl, u_x3, u_x4, u_x5⟩ := hRc
      have c0 : wr.cell? ⟨g, o + k * 7, none⟩ = some (.string x0) := hcc 0 _ rfl
      have c1 : wr.cell? ⟨g, o + k * 7 + 1, none⟩ = some (.int .i64 x1) := hcc 1 _ rfl
      have c2 : wr.cell? ⟨g, o + k * 7 + 2, none⟩ = some (.int .i64 x2) := hcc 2 _ rfl
      have c3 : wr.cell? ⟨g, o + k * 7 + 3, none⟩ = some (.slice x3A x3l.length x3c) := hcc 3 _ rfl
      have c4 : wr.cell? ⟨g, o + k * 7 + 4, none⟩ = some (.slice x4A x4l.length x4c) := hcc 4 _ rfl
      have c5 : wr.cell? ⟨g, o + k * 7 + 5, none⟩ = some (.slice x5A x5l.length x5c) := hcc 5 _ rfl
      have c6 : wr.cell? ⟨g, o + k * 7 + 6, none⟩ = some (.string x6) := hcc 6 _ rfl
      clear hcc
      have HA := Lib.hid ha
      clear ha c2 c3 c4 c5 c6 u_x3 u_x4 u_x5
      have hgw : g < wr.heap.size := by omega
      have hki : (k : Int) < (n : Int) := by omega
      by_cases h0 : 0 ≤ ch
      case neg =>
        have q1 : decide (ch ≥ 0) = false := by simp; omega
        have HP := Lib.hid (show pCh ch (x0, x1, x2, x3l, x4l, x5l, x6) = false by unfold pCh; rw [decide_eq_false h0]; rfl)
        clear h0
        go_wp2_with fail
        go_roundw
        case rel => exact ⟨k + 1, by omega, by go_num, noU_succ HY.out HA.out HP.out, by repeat' (first | with_reducible assumption | with_reducible exact Below.refl _ _ | (with_reducible refine Below.setCell ?_ ?_ _) | (with_reducible refine Below.alloc ?_ ?_ _) | (with_reducible refine Below.drew ?_) | (with_reducible refine below_dr ?_ _) | (with_reducible refine Below.trans ?_ (Below.mono (by with_reducible assumption) ?_)) | omega | (simp; done) | (simp; omega))⟩
        case measure => simp [intOf]; omega
      case pos =>
        have q1 : decide (ch ≥ 0) = true := by simp; omega
        by_cases he : x1 = ch
        case pos =>
          have e1 : (x1 == ch) = true := by simp [he]
          have HP := Lib.hid (show pCh ch (x0, x1, x2, x3l, x4l, x5l, x6) = true by unfold pCh; rw [decide_eq_true h0]; simpa using he)
          clear he
          have HK := Lib.hid (HV.out.trans (firstI_yes HY.out HA.out HP.out))
          go_wp2_with fail
          go_ret
          exact ⟨ret_i HK.out.symm, by repeat' (first | with_reducible assumption | with_reducible exact Below.refl _ _ | (with_reducible refine Below.setCell ?_ ?_ _) | (with_reducible refine Below.alloc ?_ ?_ _) | (with_reducible refine Below.drew ?_) | (with_reducible refine below_dr ?_ _) | (with_reducible refine Below.trans ?_ (Below.mono (by with_reducible assumption) ?_)) | omega | (simp; done) | (simp; omega))⟩
        case neg =>
          have e1 : (x1 == ch) = false := by rw [beq_eq_false_iff_ne]; exact he
          have HP := Lib.hid (show pCh ch (x0, x1, x2, x3l, x4l, x5l, x6) = false by unfold pCh; rw [decide_eq_true h0]; simpa using he)
          clear he
          go_wp2_with fail
          go_roundw
          case rel => exact ⟨k + 1, by omega, by go_num, noU_succ HY.out HA.out HP.out, by repeat' (first | with_reducible assumption | with_reducible exact Below.refl _ _ | (with_reducible refine Below.setCell ?_ ?_ _) | (with_reducible refine Below.alloc ?_ ?_ _) | (with_reducible refine Below.drew ?_) | (with_reducible refine below_dr ?_ _) | (with_reducible refine Below.trans ?_ (Below.mono (by with_reducible assumption) ?_)) | omega | (simp; done) | (simp; omega))⟩
          case measure => simp [intOf]; omega
set_option maxHeartbeats 3200000 in
theorem specGlyphNamed_any (u : Int) (A : Option Addr) (c : Nat) (l : List DGlyph) (nm : ByteArray) (w : World) (h : totGlyphSet (u, l) ≤ 1048576) (r : Row RvGlyph 7 w w.heap.size A l) :
    Calls Try.prog 32 #[.agg #[.int .i64 u, .slice A l.length c], .string nm] w fun e w' => e = .returned (.tuple #[.int .i64 (gvI (pNm nm) (u, l)), .bool (gvB (pNm nm) (u, l))]) ∧ Below w.heap.size w w' := by
  have hll := Nat.le_trans (totRow_len totGlyph l) h
  have CV := Lib.hid (fun w1 z1 s0 s1 q => l17Ok_any u l A c w.heap.size 0 w1 h z1 s0 s1 q)
  have CN := Lib.hid (fun w1 z1 s1 q => l17Named_any l A c w.heap.size 0 nm w1 hll z1 s1 q)
  have hI : gvI (pNm nm) (u, l) = if vS (u, l) = true then max (firstI (pNm nm) l) 0 else 0 := rfl
  have hB : gvB (pNm nm) (u, l) = if vS (u, l) = true then decide (0 ≤ firstI (pNm nm) l) else false := rfl
  rw [hI, hB]
  clear hI hB
  generalize vS (u, l) = v at CV ⊢
  generalize firstI (pNm nm) l = k at CN ⊢
  generalize l.length = n at *
  go_enter Try.func32, Try.ntmps32
  go_wp2_with fail
  refine (CV.out _ (by first | (simp; done) | (simp; omega)) (by simp [go_sem]) (by simp [go_sem]) ?_).mono ?_
  · exact (Row.alloc r (Nat.le_refl _) _).more (by simp)
  rintro e w1 ⟨rfl, hb⟩
  have hz1 := hb.size
  simp only [World.size_alloc] at hz1
  cases v
  case false =>
    go_wp2_with fail
    refine bodyPost_ret (v := .tuple #[.int .i64 0, .bool false]) (by simp [results, Try.results32, go_sem, *]) rfl ?_
    exact ⟨by simp, by repeat' (first | with_reducible assumption | with_reducible exact Below.refl _ _ | (with_reducible refine Below.setCell ?_ ?_ _) | (with_reducible refine Below.alloc ?_ ?_ _) | (with_reducible refine Below.drew ?_) | (with_reducible refine below_dr ?_ _) | (with_reducible refine Below.trans ?_ (Below.mono (by with_reducible assumption) ?_)) | omega | (simp; done) | (simp; omega))⟩
  case true =>
    have s1z : w1.cell? ⟨w.heap.size, 1, none⟩ = some (.slice A n c) := (hb.cell (p := ⟨w.heap.size, 1, none⟩) (by simp)).trans (by simp [go_sem])
    have b1 : Below w.heap.size w w1 := by repeat' (first | with_reducible assumption | with_reducible exact Below.refl _ _ | (with_reducible refine Below.setCell ?_ ?_ _) | (with_reducible refine Below.alloc ?_ ?_ _) | (with_reducible refine Below.drew ?_) | (with_reducible refine below_dr ?_ _) | (with_reducible refine Below.trans ?_ (Below.mono (by with_reducible assumption) ?_)) | omega | (simp; done) | (simp; omega))
    go_wp2_with fail
    refine (CN.out _ (by omega) (by simpa using s1z) ?_).mono ?_
    · exact (Row.carry (w' := _) r b1 (Nat.le_refl _)).more (by omega)
    rintro e w2 ⟨rfl, hb2⟩
    by_cases hk : k < 0
    case pos =>
      have hk2 : decide (k < 0) = true := by simpa using hk
      have HM := Lib.hid (show max k 0 = 0 by omega)
      have HD := Lib.hid (show decide (0 ≤ k) = false by simp; omega)
      go_wp2_with fail
      refine bodyPost_ret (v := .tuple #[.int .i64 0, .bool false]) (by simp [results, Try.results32, go_sem, *]) rfl ?_
      exact ⟨by have h1 := HM.out; have h2 := HD.out; first | (rw [h1, h2]; done) | (rw [h1]; done) | (rw [if_pos rfl, if_pos rfl, h1, h2]; done) | (simp [h1, h2]; done), by repeat' (first | with_reducible assumption | with_reducible exact Below.refl _ _ | (with_reducible refine Below.setCell ?_ ?_ _) | (with_reducible refine Below.alloc ?_ ?_ _) | (with_reducible refine Below.drew ?_) | (with_reducible refine below_dr ?_ _) | (with_reducible refine Below.trans ?_ (Below.mono (by with_reducible assumption) ?_)) | omega | (simp; done) | (simp; omega))⟩
    case neg =>
      have hk2 : decide (k < 0) = false := by simpa using hk
      have HM := Lib.hid (show max k 0 = k by omega)
      have HD := Lib.hid (show decide (0 ≤ k) = true by simp; omega)
      go_wp2_with fail
      refine bodyPost_ret (v := .tuple #[.int .i64 k, .bool true]) (by simp [results, Try.results32, go_sem, *]) rfl ?_
      exact ⟨by have h1 := HM.out; have h2 := HD.out; first | (rw [h1, h2]; done) | (rw [h1]; done) | (rw [if_pos rfl, if_pos rfl, h1, h2]; done) | (simp [h1, h2]; done), by repeat' (first | with_reducible assumption | with_reducible exact Below.refl _ _ | (with_reducible refine Below.setCell ?_ ?_ _) | (with_reducible refine Below.alloc ?_ ?_ _) | (with_reducible refine Below.drew ?_) | (with_reducible refine below_dr ?_ _) | (with_reducible refine Below.trans ?_ (Below.mono (by with_reducible assumption) ?_)) | omega | (simp; done) | (simp; omega))⟩
set_option maxHeartbeats 3200000 in
theorem specGlyphOfChar_any (u : Int) (A : Option Addr) (c : Nat) (l : List DGlyph) (ch : Int) (w : World) (h : totGlyphSet (u, l) ≤ 1048576) (r : Row RvGlyph 7 w w.heap.size A l) :
    Calls Try.prog 34 #[.agg #[.int .i64 u, .slice A l.length c], .int .i64 ch] w fun e w' => e = .returned (.tuple #[.int .i64 (gvI (pCh ch) (u, l)), .bool (gvB (pCh ch) (u, l))]) ∧ Below w.heap.size w w' := by
  have hll := Nat.le_trans (totRow_len totGlyph l) h
  have CV := Lib.hid (fun w1 z1 s0 s1 q => l17Ok_any u l A c w.heap.size 0 w1 h z1 s0 s1 q)
  have CN := Lib.hid (fun w1 z1 s1 q => l17OfChar_any l A c w.heap.size 0 ch w1 hll z1 s1 q)
  have hI : gvI (pCh ch) (u, l) = if vS (u, l) = true then max (firstI (pCh ch) l) 0 else 0 := rfl
  have hB : gvB (pCh ch) (u, l) = if vS (u, l) = true then decide (0 ≤ firstI (pCh ch) l) else false := rfl
  rw [hI, hB]
  clear hI hB
  generalize vS (u, l) = v at CV ⊢
  generalize firstI (pCh ch) l = k at CN ⊢
  generalize l.length = n at *
  go_enter Try.func34, Try.ntmps34
  go_wp2_with fail
  refine (CV.out _ (by first | (simp; done) | (simp; omega)) (by simp [go_sem]) (by simp [go_sem]) ?_).mono ?_
  · exact (Row.alloc r (Nat.le_refl _) _).more (by simp)
  rintro e w1 ⟨rfl, hb⟩
  have hz1 := hb.size
  simp only [World.size_alloc] at hz1
  cases v
  case false =>
    go_wp2_with fail
    refine bodyPost_ret (v := .tuple #[.int .i64 0, .bool false]) (by simp [results, Try.results34, go_sem, *]) rfl ?_
    exact ⟨by simp, by repeat' (first | with_reducible assumption | with_reducible exact Below.refl _ _ | (with_reducible refine Below.setCell ?_ ?_ _) | (with_reducible refine Below.alloc ?_ ?_ _) | (with_reducible refine Below.drew ?_) | (with_reducible refine below_dr ?_ _) | (with_reducible refine Below.trans ?_ (Below.mono (by with_reducible assumption) ?_)) | omega | (simp; done) | (simp; omega))⟩
  case true =>
    have s1z : w1.cell? ⟨w.heap.size, 1, none⟩ = some (.slice A n c) := (hb.cell (p := ⟨w.heap.size, 1, none⟩) (by simp)).trans (by simp [go_sem])
    have b1 : Below w.heap.size w w1 := by repeat' (first | with_reducible assumption | with_reducible exact Below.refl _ _ | (with_reducible refine Below.setCell ?_ ?_ _) | (with_reducible refine Below.alloc ?_ ?_ _) | (with_reducible refine Below.drew ?_) | (with_reducible refine below_dr ?_ _) | (with_reducible refine Below.trans ?_ (Below.mono (by with_reducible assumption) ?_)) | omega | (simp; done) | (simp; omega))
    go_wp2_with fail
    refine (CN.out _ (by omega) (by simpa using s1z) ?_).mono ?_
    · exact (Row.carry (w' := _) r b1 (Nat.le_refl _)).more (by omega)
    rintro e w2 ⟨rfl, hb2⟩
    by_cases hk : k < 0
    case pos =>
      have hk2 : decide (k < 0) = true := by simpa using hk
      have HM := Lib.hid (show max k 0 = 0 by omega)
      have HD := Lib.hid (show decide (0 ≤ k) = false by simp; omega)
      go_wp2_with fail
      refine bodyPost_ret (v := .tuple #[.int .i64 0, .bool false]) (by simp [results, Try.results34, go_sem, *]) rfl ?_
      exact ⟨by have h1 := HM.out; have h2 := HD.out; first | (rw [h1, h2]; done) | (rw [h1]; done) | (rw [if_pos rfl, if_pos rfl, h1, h2]; done) | (simp [h1, h2]; done), by repeat' (first | with_reducible assumption | with_reducible exact Below.refl _ _ | (with_reducible refine Below.setCell ?_ ?_ _) | (with_reducible refine Below.alloc ?_ ?_ _) | (with_reducible refine Below.drew ?_) | (with_reducible refine below_dr ?_ _) | (with_reducible refine Below.trans ?_ (Below.mono (by with_reducible assumption) ?_)) | omega | (simp; done) | (simp; omega))⟩
    case neg =>
      have hk2 : decide (k < 0) = false := by simpa using hk
      have HM := Lib.hid (show max k 0 = k by omega)
      have HD := Lib.hid (show decide (0 ≤ k) = true by simp; omega)
      go_wp2_with fail
      refine bodyPost_ret (v := .tuple #[.int .i64 k, .bool true]) (by simp [results, Try.results34, go_sem, *]) rfl ?_
      exact ⟨by have h1 := HM.out; have h2 := HD.out; first | (rw [h1, h2]; done) | (rw [h1]; done) | (rw [if_pos rfl, if_pos rfl, h1, h2]; done) | (simp [h1, h2]; done), by repeat' (first | with_reducible assumption | with_reducible exact Below.refl _ _ | (with_reducible refine Below.setCell ?_ ?_ _) | (with_reducible refine Below.alloc ?_ ?_ _) | (with_reducible refine Below.drew ?_) | (with_reducible refine below_dr ?_ _) | (with_reducible refine Below.trans ?_ (Below.mono (by with_reducible assumption) ?_)) | omega | (simp; done) | (simp; omega))⟩
end Go.Proofs.Ytelefmogmloniaa
