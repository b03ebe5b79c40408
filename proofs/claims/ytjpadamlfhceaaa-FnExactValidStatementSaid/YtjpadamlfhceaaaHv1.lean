/- Walks: expressions that are valid and of free names, on both sides. -/
import Derived.Test.YtjpadamlfhceaaaHv0
namespace Go.Proofs.Ytjpadamlfhceaaa
open Go.RowKit
set_option linter.unusedVariables false
def freeUp (l : List DTerm) (k : Nat) : Bool := (l.take k).all (fun a => !kwB a.1)
def freeT (l : List DTerm) : Bool := l.all (fun a => !kwB a.1)
def frLin (n d : Int) (l : List DTerm) : Bool := vLin n d l && freeT l
theorem freeUp_succ {l : List DTerm} {k : Nat} {a : DTerm} (h : freeUp l k = true) (ha : l[k]? = some a) (e : kwB a.1 = false) : freeUp l (k + 1) = true := by
  unfold freeUp at *
  rw [List.take_add_one, ha, List.all_append, h]
  simp [e]
theorem freeT_no {l : List DTerm} {k : Nat} {a : DTerm} (ha : l[k]? = some a) (e : kwB a.1 = true) : freeT l = false := by
  unfold freeT; rw [List.all_eq_false]
  exact ⟨a, List.mem_of_getElem? ha, by simp [e]⟩
theorem freeT_yes {l : List DTerm} (h : freeUp l l.length = true) : freeT l = true := by
  unfold freeUp at h; rw [List.take_length] at h; exact h
set_option maxHeartbeats 3200000 in
theorem implFree_any (n d : Int) (A : Option Addr) (c : Nat) (l : List DTerm) (w : World) (hn : -9223372036854775808 ≤ n ∧ n ≤ 9223372036854775807) (hd : -9223372036854775808 ≤ d ∧ d ≤ 9223372036854775807) (hl : l.length ≤ 1048576) (r : Row RvTerm 3 w w.heap.size A l) (hok : ∀ (w2 : World) (B : Nat) (i : Nat) (b : ATerm), l[i]? = some b → okTerm w2 B b) :
    Calls Try.prog 19 #[.agg #[.int .i64 n, .int .i64 d, .slice A l.length c]] w fun e w' => e = .returned (.bool (frLin n d l)) ∧ Below w.heap.size w w' := by
  have C := Lib.hid (fun w r => implValidLinear_any n d A c l w hn hd hl (Row.toRd r) hok)
  unfold frLin
  rcases hv : vLin n d l with _ | _
  case false =>
    rw [hv] at C
    clear hv hn hd hok
    go_enter Try.func19, Try.ntmps19
    go_wp2_with fail
    refine (C.out _ ?_).mono ?_
    · exact (Row.carry (w' := _) r (by repeat' (first | with_reducible assumption | with_reducible exact Below.refl _ _ | (with_reducible refine Below.setCell ?_ ?_ _) | (with_reducible refine Below.alloc ?_ ?_ _) | (with_reducible refine Below.drew ?_) | (with_reducible refine below_dr ?_ _) | (with_reducible refine Below.trans ?_ (Below.mono (by with_reducible assumption) ?_)) | omega | (simp; done) | (simp; omega))) (Nat.le_refl _)).more (by (try simp only [World.size_setCell]); (try simp only [World.size_drew]); (try simp only [World.size_alloc]); omega)
    rintro e wZ ⟨rfl, hbwZ⟩
    obtain ⟨hcwZ, hfwZ⟩ := bcell hbwZ
    have hzwZ := hbwZ.size
    (try simp only [World.size_setCell] at hcwZ hfwZ hzwZ)
    (try simp only [World.size_drew] at hcwZ hfwZ hzwZ)
    (try simp only [World.size_alloc] at hcwZ hfwZ hzwZ)
    have qwZ : w.heap.size < wZ.heap.size := by omega
    go_wp2_with fail
    go_ret
    exact ⟨ret_bool (by simp), by repeat' (first | with_reducible assumption | with_reducible exact Below.refl _ _ | (with_reducible refine Below.setCell ?_ ?_ _) | (with_reducible refine Below.alloc ?_ ?_ _) | (with_reducible refine Below.drew ?_) | (with_reducible refine below_dr ?_ _) | (with_reducible refine Below.trans ?_ (Below.mono (by with_reducible assumption) ?_)) | omega | (simp; done) | (simp; omega))⟩
  case true =>
    rw [hv] at C
    clear hv hn hd hok
    obtain ⟨n0, hn0⟩ : ∃ n0, n0 = l.length := ⟨_, rfl⟩
    rw [← hn0] at hl C ⊢
    have HN := Lib.hid hn0
    clear hn0
    go_enter Try.func19, Try.ntmps19
    go_wp2_with fail
    refine (C.out _ ?_).mono ?_
    · exact (Row.carry (w' := _) r (by repeat' (first | with_reducible assumption | with_reducible exact Below.refl _ _ | (with_reducible refine Below.setCell ?_ ?_ _) | (with_reducible refine Below.alloc ?_ ?_ _) | (with_reducible refine Below.drew ?_) | (with_reducible refine below_dr ?_ _) | (with_reducible refine Below.trans ?_ (Below.mono (by with_reducible assumption) ?_)) | omega | (simp; done) | (simp; omega))) (Nat.le_refl _)).more (by (try simp only [World.size_setCell]); (try simp only [World.size_drew]); (try simp only [World.size_alloc]); omega)
    rintro e wZ ⟨rfl, hbwZ⟩
    obtain ⟨hcwZ, hfwZ⟩ := bcell hbwZ
    have hzwZ := hbwZ.size
    (try simp only [World.size_setCell] at hcwZ hfwZ hzwZ)
    (try simp only [World.size_drew] at hcwZ hfwZ hzwZ)
    (try simp only [World.size_alloc] at hcwZ hfwZ hzwZ)
    have qwZ : w.heap.size < wZ.heap.size := by omega
    go_wp2_with fail
    go_loopw [11] (fun i wr => ∃ k : Nat, k ≤ n0 ∧ i = .int .i64 (k : Int) ∧ freeUp l k = true ∧ Below w.heap.size w wr) (fun i _ => n0 - (intOf i).toNat)
    case atStart => exact ⟨0, Nat.zero_le _, rfl, rfl, by repeat' (first | with_reducible assumption | with_reducible exact Below.refl _ _ | (with_reducible refine Below.setCell ?_ ?_ _) | (with_reducible refine Below.alloc ?_ ?_ _) | (with_reducible refine Below.drew ?_) | (with_reducible refine below_dr ?_ _) | (with_reducible refine Below.trans ?_ (Below.mono (by with_reducible assumption) ?_)) | omega | (simp; done) | (simp; omega))⟩
    case round =>
      clear hcwZ hfwZ
      obtain ⟨k, hk, rfl, hup, hbl⟩ := hrel
      have HUP := Lib.hid hup
      clear hup
      by_cases hlt : k < n0
      case pos =>
        obtain ⟨⟨x0, x1, x2⟩, ha⟩ : ∃ a, l[k]? = some a := ⟨l[k]'(by have := HN.out; omega), List.getElem?_eq_getElem (by have := HN.out; omega)⟩
        obtain ⟨g, o, row, rfl, hg, rfl, hc⟩ := (Row.carry (w' := wr) r hbl (Nat.le_refl _)).elem ha
        have c0 : wr.cell? ⟨g, o + k * 3, none⟩ = some (.string x0) := hc 0 _ rfl
        have c1 : wr.cell? ⟨g, o + k * 3 + 1, none⟩ = some (.int .i64 x1) := hc 1 _ rfl
        have c2 : wr.cell? ⟨g, o + k * 3 + 2, none⟩ = some (.int .i64 x2) := hc 2 _ rfl
        have HA := Lib.hid ha
        clear hc ha r
        have hki : (k : Int) < (n0 : Int) := by omega
        have hzr := hbl.size
        have CK := Lib.hid (fun w => implIsKeyword_any x0 w)
        rcases hkw : kwB x0 with _ | _
        case false =>
          rw [hkw] at CK
          have HKW := Lib.hid hkw
          clear hkw
          go_wp2_with fail
          refine (CK.out _).mono ?_
          rintro e w2 ⟨rfl, hb2⟩
          go_wp2_with fail
          go_roundw
          case rel => exact ⟨k + 1, by omega, by go_num, freeUp_succ HUP.out HA.out HKW.out, by repeat' (first | with_reducible assumption | with_reducible exact Below.refl _ _ | (with_reducible refine Below.setCell ?_ ?_ _) | (with_reducible refine Below.alloc ?_ ?_ _) | (with_reducible refine Below.drew ?_) | (with_reducible refine below_dr ?_ _) | (with_reducible refine Below.trans ?_ (Below.mono (by with_reducible assumption) ?_)) | omega | (simp; done) | (simp; omega))⟩
          case measure => simp [intOf]; omega
        case true =>
          rw [hkw] at CK
          have HKW := Lib.hid hkw
          clear hkw
          go_wp2_with fail
          refine (CK.out _).mono ?_
          rintro e w2 ⟨rfl, hb2⟩
          go_wp2_with fail
          go_ret
          exact ⟨ret_bool (by rw [freeT_no HA.out HKW.out]; simp), by repeat' (first | with_reducible assumption | with_reducible exact Below.refl _ _ | (with_reducible refine Below.setCell ?_ ?_ _) | (with_reducible refine Below.alloc ?_ ?_ _) | (with_reducible refine Below.drew ?_) | (with_reducible refine below_dr ?_ _) | (with_reducible refine Below.trans ?_ (Below.mono (by with_reducible assumption) ?_)) | omega | (simp; done) | (simp; omega))⟩
      case neg =>
        obtain rfl : k = n0 := by omega
        go_wp2_with fail
        go_ret
        exact ⟨ret_bool (by rw [freeT_yes (HN.out ▸ HUP.out)]; simp), hbl⟩
set_option maxHeartbeats 3200000 in
theorem l07Linear_any (n d : Int) (A : Option Addr) (c b : Nat) (l : List DTerm) (w : World) (hn : -9223372036854775808 ≤ n ∧ n ≤ 9223372036854775807) (hd : -9223372036854775808 ≤ d ∧ d ≤ 9223372036854775807) (hl : l.length ≤ 1048576) (at0 : AtL b [.int .i64 n, .int .i64 d, .slice A l.length c] w) (r : Row RvTerm 3 w w.heap.size A l) (hok : ∀ (w2 : World) (B : Nat) (i : Nat) (b : ATerm), l[i]? = some b → okTerm w2 B b) :
    Calls Try.prog 43 #[.pointer (some ⟨b, 0, none⟩)] w fun e w' => e = .returned (.bool (frLin n d l)) ∧ Below w.heap.size w w' := by
  have C := Lib.hid (fun w at0 r => l05Ok_any n d A c b l w hn hd hl at0 (Row.toRd r) hok)
  unfold frLin
  generalize vLin n d l = v at C ⊢
  obtain ⟨n0, hn0⟩ : ∃ n0, n0 = l.length := ⟨_, rfl⟩
  rw [← hn0] at hl at0 C
  have HN := Lib.hid hn0
  clear hn0 hn hd hok
  have s2 := at0.cell 2 rfl
  have hgb := at0.lt
  have AT0 := Lib.hid at0
  clear at0
  go_enter Try.func43, Try.ntmps43
  go_wp2_with fail
  go_loopw [3] (fun i wr => ∃ k : Nat, k ≤ n0 ∧ i = .int .i64 (k : Int) ∧ freeUp l k = true ∧ Below w.heap.size w wr) (fun i _ => n0 - (intOf i).toNat)
  case atStart => exact ⟨0, Nat.zero_le _, rfl, rfl, by repeat' (first | with_reducible assumption | with_reducible exact Below.refl _ _ | (with_reducible refine Below.setCell ?_ ?_ _) | (with_reducible refine Below.alloc ?_ ?_ _) | (with_reducible refine Below.drew ?_) | (with_reducible refine below_dr ?_ _) | (with_reducible refine Below.trans ?_ (Below.mono (by with_reducible assumption) ?_)) | omega | (simp; done) | (simp; omega))⟩
  case round =>
    obtain ⟨k, hk, rfl, hup, hbl⟩ := hrel
    have HUP := Lib.hid hup
    clear hup
    by_cases hlt : k < n0
    case pos =>
      obtain ⟨⟨x0, x1, x2⟩, ha⟩ : ∃ a, l[k]? = some a := ⟨l[k]'(by have := HN.out; omega), List.getElem?_eq_getElem (by have := HN.out; omega)⟩
      obtain ⟨g, o, row, rfl, hg, rfl, hc⟩ := (Row.carry (w' := wr) r hbl (Nat.le_refl _)).elem ha
      have c0 : wr.cell? ⟨g, o + k * 3, none⟩ = some (.string x0) := hc 0 _ rfl
      have c1 : wr.cell? ⟨g, o + k * 3 + 1, none⟩ = some (.int .i64 x1) := hc 1 _ rfl
      have c2 : wr.cell? ⟨g, o + k * 3 + 2, none⟩ = some (.int .i64 x2) := hc 2 _ rfl
      have s2r : wr.cell? ⟨b, 2, none⟩ = some (.slice (some ⟨g, o, none⟩) n0 c) := (hbl.cell (p := ⟨b, 2, none⟩) hgb).trans s2
      have hgr : b < wr.heap.size := by have := hbl.size; omega
      clear s2 C AT0
      have HA := Lib.hid ha
      clear hc ha r
      have hki : (k : Int) < (n0 : Int) := by omega
      have hzr := hbl.size
      have CK := Lib.hid (fun w => specIsKeyword_any x0 w)
      rcases hkw : kwB x0 with _ | _
      case false =>
        rw [hkw] at CK
        have HKW := Lib.hid hkw
        clear hkw
        go_wp2_with fail
        refine (CK.out _).mono ?_
        rintro e w2 ⟨rfl, hb2⟩
        go_wp2_with fail
        go_roundw
        case rel => exact ⟨k + 1, by omega, by go_num, freeUp_succ HUP.out HA.out HKW.out, by repeat' (first | with_reducible assumption | with_reducible exact Below.refl _ _ | (with_reducible refine Below.setCell ?_ ?_ _) | (with_reducible refine Below.alloc ?_ ?_ _) | (with_reducible refine Below.drew ?_) | (with_reducible refine below_dr ?_ _) | (with_reducible refine Below.trans ?_ (Below.mono (by with_reducible assumption) ?_)) | omega | (simp; done) | (simp; omega))⟩
        case measure => simp [intOf]; omega
      case true =>
        rw [hkw] at CK
        have HKW := Lib.hid hkw
        clear hkw
        go_wp2_with fail
        refine (CK.out _).mono ?_
        rintro e w2 ⟨rfl, hb2⟩
        go_wp2_with fail
        go_ret
        exact ⟨ret_bool (by rw [freeT_no HA.out HKW.out]; simp), by repeat' (first | with_reducible assumption | with_reducible exact Below.refl _ _ | (with_reducible refine Below.setCell ?_ ?_ _) | (with_reducible refine Below.alloc ?_ ?_ _) | (with_reducible refine Below.drew ?_) | (with_reducible refine below_dr ?_ _) | (with_reducible refine Below.trans ?_ (Below.mono (by with_reducible assumption) ?_)) | omega | (simp; done) | (simp; omega))⟩
    case neg =>
      obtain rfl : k = n0 := by omega
      have s2r : wr.cell? ⟨b, 2, none⟩ = some (.slice A k c) := (hbl.cell (p := ⟨b, 2, none⟩) hgb).trans s2
      have hzr := hbl.size
      have at1 : AtL b [.int .i64 n, .int .i64 d, .slice A k c] wr := ⟨fun i v h => (hbl.cell (p := ⟨b, i, none⟩) hgb).trans (AT0.out.1 i v h), by omega⟩
      have r1 := (Row.carry (w' := wr) r hbl (Nat.le_refl _)).more hzr
      go_wp2_with fail
      refine (C.out _ ?_ ?_).mono ?_
      · first | exact at1 | exact at1.drew
      · first | exact r1 | exact r1.drew
      rintro e w2 ⟨rfl, hb2⟩
      go_wp2_with fail
      go_ret
      exact ⟨ret_bool (by rw [freeT_yes (HN.out ▸ HUP.out)]; simp), by repeat' (first | with_reducible assumption | with_reducible exact Below.refl _ _ | (with_reducible refine Below.setCell ?_ ?_ _) | (with_reducible refine Below.alloc ?_ ?_ _) | (with_reducible refine Below.drew ?_) | (with_reducible refine below_dr ?_ _) | (with_reducible refine Below.trans ?_ (Below.mono (by with_reducible assumption) ?_)) | omega | (simp; done) | (simp; omega))⟩
end Go.Proofs.Ytjpadamlfhceaaa
