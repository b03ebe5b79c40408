/- Walks: lists of rings and regions are measured. -/
import Derived.Test.YtdeemhfhmgnbgaaVc
namespace Go.Proofs.Ytdeemhfhmgnbgaa
open Go.RowKit
set_option linter.unusedVariables false
abbrev DRing : Type := List APt
def dRing (a : ARing) : DRing := a.2.2
def xRing (d : DRing) (A' : Option Addr) (c' : Nat) : ARing := (A', c', d)
theorem xRing_d (a : ARing) : xRing (dRing a) a.1 a.2.1 = a := rfl
/-- A slice at A whose elements are these, each with its own slice. -/
def RdRing (w : World) (B : Nat) (A : Option Addr) (ds : List DRing) : Prop := ∃ rows : List ARing, rows.map dRing = ds ∧ Rd cRing 1 w B A rows ∧ ∀ (i : Nat) (a : ARing), rows[i]? = some a → Rd cPt 2 w B a.1 a.2.2
section
variable {w w' : World} {B B' : Nat} {A : Option Addr} {ds : List DRing}
theorem RdRing.carry (h : RdRing w B A ds) (hb : Below w.heap.size w w') (hB : B ≤ w.heap.size) : RdRing w' B A ds := by
  obtain ⟨rows, h1, h2, h3⟩ := h
  exact ⟨rows, h1, h2.carry hb hB, fun i a ha => (h3 i a ha).carry hb hB⟩
theorem RdRing.more (h : RdRing w B A ds) (hB : B ≤ B') : RdRing w B' A ds := by
  obtain ⟨rows, h1, h2, h3⟩ := h
  exact ⟨rows, h1, h2.more hB, fun i a ha => (h3 i a ha).more hB⟩
theorem RdRing.drew (h : RdRing w B A ds) : RdRing w.drew B A ds := h
theorem RdRing.drewN (h : RdRing w B A ds) (k : Nat) : RdRing (w.drewN k) B A ds := h
theorem RdRing.alloc (h : RdRing w B A ds) (hB : B ≤ w.heap.size) (o : Obj) : RdRing (w.alloc o) B A ds := h.carry ((Below.refl _ _).alloc (Nat.le_refl _) o) hB
theorem RdRing.setCell (h : RdRing w B A ds) {p : Addr} (hB : B ≤ p.block) (u : Value) : RdRing (w.setCell p u) B A ds := by
  obtain ⟨rows, h1, h2, h3⟩ := h
  exact ⟨rows, h1, h2.setCell hB u, fun i a ha => (h3 i a ha).setCell hB u⟩
theorem RdRing.elem (h : RdRing w B A ds) {k : Nat} {d : DRing} (hd : ds[k]? = some d) : ∃ (g o : Nat) (A' : Option Addr) (c' : Nat), A = some ⟨g, o, none⟩ ∧ g < B ∧ (∀ i u, (cRing (xRing d A' c'))[i]? = some u → w.cell? ⟨g, o + k * 1 + i, none⟩ = some u) ∧ Rd cPt 2 w B A' d := by
  obtain ⟨rows, rfl, h2, h3⟩ := h
  rw [List.getElem?_map] at hd
  obtain ⟨a, ha, rfl⟩ : ∃ a, rows[k]? = some a ∧ dRing a = d := by
    cases hr : rows[k]? with
    | none => rw [hr] at hd; cases hd
    | some a => rw [hr] at hd; exact ⟨a, rfl, Option.some.inj hd⟩
  obtain ⟨g, o, rfl, hg, hc⟩ := h2.elem ha
  exact ⟨g, o, a.1, a.2.1, rfl, hg, hc, h3 k a ha⟩
/-- As RdRing, whatever happens below block lo. -/
def RdRingIn (w : World) (lo B : Nat) (A : Option Addr) (ds : List DRing) : Prop := ∀ w2 : World, (∀ p : Addr, lo ≤ p.block → p.block < B → w2.cell? p = w.cell? p) → RdRing w2 B A ds
theorem RdRingIn.here {lo : Nat} (h : RdRingIn w lo B A ds) : RdRing w B A ds := h w fun _ _ _ => rfl
theorem RdRingIn.down {lo lo' : Nat} (h : RdRingIn w lo B A ds) (hl : lo' ≤ lo) : RdRingIn w lo' B A ds := fun w2 ha => h w2 fun p h1 h2 => ha p (by omega) h2
theorem RdRingIn.far {lo : Nat} (h : RdRingIn w lo B A ds) {p : Addr} (hp : p.block < lo) (u : Value) : RdRingIn (w.setCell p u) lo B A ds := fun w2 ha => h w2 fun q h1 h2 => (ha q h1 h2).trans (World.cell?_setCell_other w p q u (fun e => by subst e; omega))
theorem RdRing.of (l : List ARing) (h : Rd cRing 1 w B A l) (hok : ∀ (i : Nat) (a : ARing), l[i]? = some a → okRing w B a) : RdRing w B A (l.map dRing) := by
  refine ⟨l, rfl, h, fun i a ha => ?_⟩
  have := hok i a ha
  simp only [okRing] at this
  exact this.2.2.1
end
set_option maxHeartbeats 1600000 in
theorem szRingN_yes (x0A : Option Addr) (x0c : Nat) (x0l : List APt) (left : Int) (w : World) (h0 : 0 ≤ left) (h1 : left ≤ 1048576) (hm : x0l.length ≤ 9223372036854775807) (h : ((x0l.length : Nat) : Int) ≤ left)  (r_x0 : Rd cPt 2 w w.heap.size x0A x0l) (hok : ∀ (w2 : World) (B : Nat) (i : Nat) (a : APt), x0l[i]? = some a → okPt w2 B a) :
    Calls Try.prog 21 #[.agg #[.slice x0A x0l.length x0c], .int .i64 left] w fun e w' => e = .returned (.int .i64 (left - ((x0l.length : Nat) : Int))) ∧ Below w.heap.size w w' := by
  have HK := Lib.hid hok
  clear hok
  have HH := Lib.hid h
  clear h
  obtain ⟨V, hV⟩ : ∃ V : Int, V = left - ((x0l.length : Nat) : Int) := ⟨_, rfl⟩
  have HV := Lib.hid hV
  rw [← hV]
  have hv : 0 ≤ V := by have := HH.out; omega
  clear hV
  go_enter Try.func21, Try.ntmps21
  go_wp2_with fail
  refine (szPtS_yes x0l x0A x0c (left) _ (by omega) (by omega) hm (by have := HH.out; omega)).mono ?_
  rw [show left - (x0l.length : Int) = V from by have := HV.out; omega]
  rintro e wZ ⟨rfl, hbZ⟩
  go_wp2_with fail
  go_ret
  exact ⟨rfl, by repeat' (first | with_reducible assumption | with_reducible exact Below.refl _ _ | (with_reducible refine Below.setCell ?_ ?_ _) | (with_reducible refine Below.alloc ?_ ?_ _) | (with_reducible refine Below.drew ?_) | (with_reducible refine below_dr ?_ _) | (with_reducible refine Below.trans ?_ (Below.mono (by with_reducible assumption) ?_)) | omega | (simp; done) | (simp; omega))⟩
set_option maxHeartbeats 1600000 in
theorem szRingN_no (x0A : Option Addr) (x0c : Nat) (x0l : List APt) (left : Int) (w : World) (h0 : 0 ≤ left) (h1 : left ≤ 1048576) (hm : x0l.length ≤ 9223372036854775807) (h : left < ((x0l.length : Nat) : Int))  (r_x0 : Rd cPt 2 w w.heap.size x0A x0l) (hok : ∀ (w2 : World) (B : Nat) (i : Nat) (a : APt), x0l[i]? = some a → okPt w2 B a) :
    Calls Try.prog 21 #[.agg #[.slice x0A x0l.length x0c], .int .i64 left] w fun e w' => e = .returned (.int .i64 (-1)) ∧ Below w.heap.size w w' := by
  have HK := Lib.hid hok
  clear hok
  have HH := Lib.hid h
  clear h
  go_enter Try.func21, Try.ntmps21
  go_wp2_with fail
  refine (szPtS_no x0l x0A x0c (left) _ (by omega) (by omega) hm (by have := HH.out; omega)).mono ?_
  rintro e wZ ⟨rfl, hbZ⟩
  go_wp2_with fail
  go_ret
  exact ⟨rfl, by repeat' (first | with_reducible assumption | with_reducible exact Below.refl _ _ | (with_reducible refine Below.setCell ?_ ?_ _) | (with_reducible refine Below.alloc ?_ ?_ _) | (with_reducible refine Below.drew ?_) | (with_reducible refine below_dr ?_ _) | (with_reducible refine Below.trans ?_ (Below.mono (by with_reducible assumption) ?_)) | omega | (simp; done) | (simp; omega))⟩
def oneRing (d : DRing) : Nat := d.length
def totRing (ds : List DRing) : Nat := (ds.map oneRing).sum
theorem totRing_snoc (l : List DRing) (k : Nat) (a : DRing) (h : l[k]? = some a) : totRing (l.take (k + 1)) = totRing (l.take k) + oneRing a := by
  unfold totRing; rw [List.take_add_one, h]; simp
theorem totRing_le (l : List DRing) (k : Nat) : totRing (l.take k) ≤ totRing l := by
  have h := List.take_append_drop k l
  have : totRing l = totRing (l.take k) + totRing (l.drop k) := by
    unfold totRing; rw [← List.sum_append, ← List.map_append, h]
  omega
/-- What is well formed of the elements. -/
def okDRing (d : DRing) : Prop := d.length ≤ maxLen ∧ ∀ (w2 : World) (B : Nat) (i : Nat) (a : APt), d[i]? = some a → okPt w2 B a
set_option maxHeartbeats 1600000 in
theorem szRingS_yes (ds : List DRing) (A : Option Addr) (c : Nat) (left : Int) (w : World) (h1 : left ≤ 1048576) (h : ((ds.length + totRing ds : Nat) : Int) ≤ left) (hr : RdRing w w.heap.size A ds) (hok : ∀ (i : Nat) (d : DRing), ds[i]? = some d → okDRing d) :
    Calls Try.prog 41 #[.slice A ds.length c, .int .i64 left] w fun e w' => e = .returned (.int .i64 (left - (ds.length + totRing ds : Nat))) ∧ Below w.heap.size w w' := by
  have HOK := Lib.hid hok
  clear hok
  obtain ⟨n, hn⟩ : ∃ n, n = ds.length := ⟨_, rfl⟩
  rw [← hn]
  rw [← hn] at h
  have HN := Lib.hid hn
  clear hn
  go_enter Try.func41, Try.ntmps41
  go_wp2
  go_loopw [1, 5] (fun v i wr => ∃ k : Nat, k ≤ n ∧ i = .int .i64 k ∧ v = .int .i64 (left - (n + totRing (ds.take k) : Nat)) ∧ Below w.heap.size w wr) (fun _ i _ => n - (intOf i).toNat)
  case atStart => exact ⟨0, Nat.zero_le _, rfl, by simp [totRing], by repeat' (first | with_reducible assumption | with_reducible exact Below.refl _ _ | (with_reducible refine Below.setCell ?_ ?_ _) | (with_reducible refine Below.alloc ?_ ?_ _) | (with_reducible refine Below.drew ?_) | (with_reducible refine below_dr ?_ _) | (with_reducible refine Below.trans ?_ (Below.mono (by with_reducible assumption) ?_)) | omega | (simp; done) | (simp; omega))⟩
  case round =>
    obtain ⟨k, hk, rfl, rfl, hbl⟩ := hrel
    by_cases hlt : k < n
    · obtain ⟨x0l, ha⟩ : ∃ a, ds[k]? = some a := ⟨ds[k]'(by have := HN.out; omega), List.getElem?_eq_getElem (by have := HN.out; omega)⟩
      obtain ⟨g, o, x0A, x0c, rfl, hg, hc, hrd⟩ := (hr.carry hbl (Nat.le_refl _)).elem ha
      have hsz := HOK.out k _ ha
      simp only [okDRing] at hsz
      obtain ⟨hm_x0, hok_x0⟩ := hsz
      have c0 : wr.cell? ⟨g, o + k, none⟩ = some (.slice x0A x0l.length x0c) := by have h := hc 0 _ rfl; rw [Nat.mul_one] at h; exact h
      clear hc
      have hzr := hbl.size
      have hki : (k : Int) < (n : Int) := by omega
      have HKK := Lib.hid hok_x0
      clear hok_x0
      have hone : oneRing x0l = x0l.length := rfl
      have hts := totRing_snoc ds k _ ha
      have htl := totRing_le ds (k + 1)
      obtain ⟨T, hT⟩ : ∃ T, T = totRing (ds.take k) := ⟨_, rfl⟩
      rw [← hT] at hts ⊢
      obtain ⟨U, hU⟩ : ∃ U, U = oneRing x0l := ⟨_, rfl⟩
      rw [← hU] at hts hone
      have HS := Lib.hid hts
      have hT2 : ((n + T : Nat) : Int) + (U : Int) ≤ left := by omega
      have HONE := Lib.hid hone
      clear hts htl ha hT hU hone
      obtain ⟨V, hV⟩ : ∃ V : Int, V = left - (n + T : Nat) := ⟨_, rfl⟩
      rw [← hV]
      have HV := Lib.hid hV
      have hv0 : (U : Int) ≤ V := by omega
      have hv1 : V ≤ 1048576 := by omega
      have hv2 : 0 ≤ V := by omega
      clear hV hT2
      go_wp2_with fail
      refine (szRingN_yes x0A x0c x0l V _ (by omega) (by omega) (by unfold maxLen at hm_x0; omega) (by have := HONE.out; omega) (hrd.more hzr) HKK.out).mono ?_
      rintro e w2 ⟨rfl, hb2⟩
      have hres : V - ((x0l.length : Nat) : Int) = V - (U : Int) := by have := HONE.out; omega
      rw [hres]
      clear hres
      have hv3 : 0 ≤ V - (U : Int) := by omega
      go_wp2_with fail
      go_roundw
      case rel => exact ⟨k + 1, by omega, by go_num, by rw [HS.out]; have := HV.out; go_num, by repeat' (first | with_reducible assumption | with_reducible exact Below.refl _ _ | (with_reducible refine Below.setCell ?_ ?_ _) | (with_reducible refine Below.alloc ?_ ?_ _) | (with_reducible refine Below.drew ?_) | (with_reducible refine below_dr ?_ _) | (with_reducible refine Below.trans ?_ (Below.mono (by with_reducible assumption) ?_)) | omega | (simp; done) | (simp; omega))⟩
      case measure => simp [intOf]; omega
    · obtain rfl : k = n := by omega
      rw [List.take_of_length_le (by have := HN.out; omega)]
      go_wp2
      go_ret
      exact ⟨rfl, hbl⟩
set_option maxHeartbeats 1600000 in
theorem szRingS_no (ds : List DRing) (A : Option Addr) (c : Nat) (left : Int) (w : World) (h0 : 0 ≤ left) (h1 : left ≤ 1048576) (hm : ds.length ≤ 9223372036854775807) (h : left < ((ds.length + totRing ds : Nat) : Int)) (hr : RdRing w w.heap.size A ds) (hok : ∀ (i : Nat) (d : DRing), ds[i]? = some d → okDRing d) :
    Calls Try.prog 41 #[.slice A ds.length c, .int .i64 left] w fun e w' => e = .returned (.int .i64 (-1)) ∧ Below w.heap.size w w' := by
  have HOK := Lib.hid hok
  clear hok
  obtain ⟨n, hn⟩ : ∃ n, n = ds.length := ⟨_, rfl⟩
  rw [← hn]
  rw [← hn] at h hm
  have HN := Lib.hid hn
  clear hn
  by_cases hnl : left < (n : Int)
  · go_enter Try.func41, Try.ntmps41
    go_wp2
    go_ret
    exact ⟨rfl, by repeat' (first | with_reducible assumption | with_reducible exact Below.refl _ _ | (with_reducible refine Below.setCell ?_ ?_ _) | (with_reducible refine Below.alloc ?_ ?_ _) | (with_reducible refine Below.drew ?_) | (with_reducible refine below_dr ?_ _) | (with_reducible refine Below.trans ?_ (Below.mono (by with_reducible assumption) ?_)) | omega | (simp; done) | (simp; omega))⟩
  · go_enter Try.func41, Try.ntmps41
    go_wp2
    go_loopw [1, 5] (fun v i wr => ∃ k : Nat, k ≤ n ∧ i = .int .i64 k ∧ v = .int .i64 (left - (n + totRing (ds.take k) : Nat)) ∧ ((n + totRing (ds.take k) : Nat) : Int) ≤ left ∧ Below w.heap.size w wr) (fun _ i _ => n - (intOf i).toNat)
    case atStart => exact ⟨0, Nat.zero_le _, rfl, by simp [totRing], by simp [totRing]; omega, by repeat' (first | with_reducible assumption | with_reducible exact Below.refl _ _ | (with_reducible refine Below.setCell ?_ ?_ _) | (with_reducible refine Below.alloc ?_ ?_ _) | (with_reducible refine Below.drew ?_) | (with_reducible refine below_dr ?_ _) | (with_reducible refine Below.trans ?_ (Below.mono (by with_reducible assumption) ?_)) | omega | (simp; done) | (simp; omega))⟩
    case round =>
      obtain ⟨k, hk, rfl, rfl, hle, hbl⟩ := hrel
      by_cases hlt : k < n
      · obtain ⟨x0l, ha⟩ : ∃ a, ds[k]? = some a := ⟨ds[k]'(by have := HN.out; omega), List.getElem?_eq_getElem (by have := HN.out; omega)⟩
        obtain ⟨g, o, x0A, x0c, rfl, hg, hc, hrd⟩ := (hr.carry hbl (Nat.le_refl _)).elem ha
        have hsz := HOK.out k _ ha
        simp only [okDRing] at hsz
        obtain ⟨hm_x0, hok_x0⟩ := hsz
        have c0 : wr.cell? ⟨g, o + k, none⟩ = some (.slice x0A x0l.length x0c) := by have h := hc 0 _ rfl; rw [Nat.mul_one] at h; exact h
        clear hc
        have hzr := hbl.size
        have hki : (k : Int) < (n : Int) := by omega
        have HKK := Lib.hid hok_x0
        clear hok_x0
        have hone : oneRing x0l = x0l.length := rfl
        have hts := totRing_snoc ds k _ ha
        obtain ⟨T, hT⟩ : ∃ T, T = totRing (ds.take k) := ⟨_, rfl⟩
        rw [← hT] at hts hle ⊢
        obtain ⟨U, hU⟩ : ∃ U, U = oneRing x0l := ⟨_, rfl⟩
        rw [← hU] at hts hone
        have HS := Lib.hid hts
        have HONE := Lib.hid hone
        clear hts ha hT hU hone
        obtain ⟨V, hV⟩ : ∃ V : Int, V = left - (n + T : Nat) := ⟨_, rfl⟩
        rw [← hV]
        have HV := Lib.hid hV
        have hv1 : V ≤ 1048576 := by omega
        have hv2 : 0 ≤ V := by omega
        clear hV hle
        by_cases hfit : (U : Int) ≤ V
        · go_wp2_with fail
          refine (szRingN_yes x0A x0c x0l V _ (by omega) (by omega) (by unfold maxLen at hm_x0; omega) (by have := HONE.out; omega) (hrd.more hzr) HKK.out).mono ?_
          rintro e w2 ⟨rfl, hb2⟩
          have hres : V - ((x0l.length : Nat) : Int) = V - (U : Int) := by have := HONE.out; omega
          rw [hres]
          clear hres
          have hv3 : 0 ≤ V - (U : Int) := by omega
          go_wp2_with fail
          go_roundw
          case rel => exact ⟨k + 1, by omega, by go_num, by rw [HS.out]; have := HV.out; go_num, by rw [HS.out]; have := HV.out; omega, by repeat' (first | with_reducible assumption | with_reducible exact Below.refl _ _ | (with_reducible refine Below.setCell ?_ ?_ _) | (with_reducible refine Below.alloc ?_ ?_ _) | (with_reducible refine Below.drew ?_) | (with_reducible refine below_dr ?_ _) | (with_reducible refine Below.trans ?_ (Below.mono (by with_reducible assumption) ?_)) | omega | (simp; done) | (simp; omega))⟩
          case measure => simp [intOf]; omega
        · have hfit2 : V < (U : Int) := by omega
          go_wp2_with fail
          refine (szRingN_no x0A x0c x0l V _ (by omega) (by omega) (by unfold maxLen at hm_x0; omega) (by have := HONE.out; omega) (hrd.more hzr) HKK.out).mono ?_
          rintro e w2 ⟨rfl, hb2⟩
          go_wp2_with fail
          go_ret
          exact ⟨rfl, by repeat' (first | with_reducible assumption | with_reducible exact Below.refl _ _ | (with_reducible refine Below.setCell ?_ ?_ _) | (with_reducible refine Below.alloc ?_ ?_ _) | (with_reducible refine Below.drew ?_) | (with_reducible refine below_dr ?_ _) | (with_reducible refine Below.trans ?_ (Below.mono (by with_reducible assumption) ?_)) | omega | (simp; done) | (simp; omega))⟩
      · obtain rfl : k = n := by omega
        rw [List.take_of_length_le (by have := HN.out; omega)] at hle
        exfalso; omega
end Go.Proofs.Ytdeemhfhmgnbgaa
