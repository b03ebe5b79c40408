/- Walks: lists of loops and outlines are measured. -/
import Derived.Test.YtjlmoadnbbeloaaDoorLc
namespace Go.Proofs.YtjlmoadnbbeloaaDoor
open Go.RowKit
set_option linter.unusedVariables false
abbrev DLoop : Type := List AKnot
def dLoop (a : ALoop) : DLoop := a.2.2
def xLoop (d : DLoop) (A' : Option Addr) (c' : Nat) : ALoop := (A', c', d)
theorem xLoop_d (a : ALoop) : xLoop (dLoop a) a.1 a.2.1 = a := rfl
/-- A slice at A whose elements are these, each with its own slice. -/
def RdLoop (w : World) (B : Nat) (A : Option Addr) (ds : List DLoop) : Prop := ∃ rows : List ALoop, rows.map dLoop = ds ∧ Rd cLoop 1 w B A rows ∧ ∀ (i : Nat) (a : ALoop), rows[i]? = some a → Rd cKnot 3 w B a.1 a.2.2
section
variable {w w' : World} {B B' : Nat} {A : Option Addr} {ds : List DLoop}
theorem RdLoop.carry (h : RdLoop w B A ds) (hb : Below w.heap.size w w') (hB : B ≤ w.heap.size) : RdLoop w' B A ds := by
  obtain ⟨rows, h1, h2, h3⟩ := h
  exact ⟨rows, h1, h2.carry hb hB, fun i a ha => (h3 i a ha).carry hb hB⟩
theorem RdLoop.more (h : RdLoop w B A ds) (hB : B ≤ B') : RdLoop w B' A ds := by
  obtain ⟨rows, h1, h2, h3⟩ := h
  exact ⟨rows, h1, h2.more hB, fun i a ha => (h3 i a ha).more hB⟩
theorem RdLoop.drew (h : RdLoop w B A ds) : RdLoop w.drew B A ds := h
theorem RdLoop.drewN (h : RdLoop w B A ds) (k : Nat) : RdLoop (w.drewN k) B A ds := h
theorem RdLoop.alloc (h : RdLoop w B A ds) (hB : B ≤ w.heap.size) (o : Obj) : RdLoop (w.alloc o) B A ds := h.carry ((Below.refl _ _).alloc (Nat.le_refl _) o) hB
theorem RdLoop.setCell (h : RdLoop w B A ds) {p : Addr} (hB : B ≤ p.block) (u : Value) : RdLoop (w.setCell p u) B A ds := by
  obtain ⟨rows, h1, h2, h3⟩ := h
  exact ⟨rows, h1, h2.setCell hB u, fun i a ha => (h3 i a ha).setCell hB u⟩
theorem RdLoop.elem (h : RdLoop w B A ds) {k : Nat} {d : DLoop} (hd : ds[k]? = some d) : ∃ (g o : Nat) (A' : Option Addr) (c' : Nat), A = some ⟨g, o, none⟩ ∧ g < B ∧ (∀ i u, (cLoop (xLoop d A' c'))[i]? = some u → w.cell? ⟨g, o + k * 1 + i, none⟩ = some u) ∧ Rd cKnot 3 w B A' d := by
  obtain ⟨rows, rfl, h2, h3⟩ := h
  rw [List.getElem?_map] at hd
  obtain ⟨a, ha, rfl⟩ : ∃ a, rows[k]? = some a ∧ dLoop a = d := by
    cases hr : rows[k]? with
    | none => rw [hr] at hd; cases hd
    | some a => rw [hr] at hd; exact ⟨a, rfl, Option.some.inj hd⟩
  obtain ⟨g, o, rfl, hg, hc⟩ := h2.elem ha
  exact ⟨g, o, a.1, a.2.1, rfl, hg, hc, h3 k a ha⟩
/-- As RdLoop, whatever happens below block lo. -/
def RdLoopIn (w : World) (lo B : Nat) (A : Option Addr) (ds : List DLoop) : Prop := ∀ w2 : World, (∀ p : Addr, lo ≤ p.block → p.block < B → w2.cell? p = w.cell? p) → RdLoop w2 B A ds
theorem RdLoopIn.here {lo : Nat} (h : RdLoopIn w lo B A ds) : RdLoop w B A ds := h w fun _ _ _ => rfl
theorem RdLoopIn.down {lo lo' : Nat} (h : RdLoopIn w lo B A ds) (hl : lo' ≤ lo) : RdLoopIn w lo' B A ds := fun w2 ha => h w2 fun p h1 h2 => ha p (by omega) h2
theorem RdLoopIn.far {lo : Nat} (h : RdLoopIn w lo B A ds) {p : Addr} (hp : p.block < lo) (u : Value) : RdLoopIn (w.setCell p u) lo B A ds := fun w2 ha => h w2 fun q h1 h2 => (ha q h1 h2).trans (World.cell?_setCell_other w p q u (fun e => by subst e; omega))
theorem RdLoop.of (l : List ALoop) (h : Rd cLoop 1 w B A l) (hok : ∀ (i : Nat) (a : ALoop), l[i]? = some a → okLoop w B a) : RdLoop w B A (l.map dLoop) := by
  refine ⟨l, rfl, h, fun i a ha => ?_⟩
  have := hok i a ha
  simp only [okLoop] at this
  exact this.2.2.1
end
set_option maxHeartbeats 1600000 in
theorem szLoopN_yes (x0A : Option Addr) (x0c : Nat) (x0l : List AKnot) (left : Int) (w : World) (h0 : 0 ≤ left) (h1 : left ≤ 1048576) (hm : x0l.length ≤ 9223372036854775807) (h : ((x0l.length : Nat) : Int) ≤ left)  (r_x0 : Rd cKnot 3 w w.heap.size x0A x0l) (hok : ∀ (w2 : World) (B : Nat) (i : Nat) (a : AKnot), x0l[i]? = some a → okKnot w2 B a) :
    Calls Tryd.prog 93 #[.agg #[.slice x0A x0l.length x0c], .int .i64 left] w fun e w' => e = .returned (.int .i64 (left - ((x0l.length : Nat) : Int))) ∧ Below w.heap.size w w' := by
  have HK := Lib.hid hok
  clear hok
  have HH := Lib.hid h
  clear h
  obtain ⟨V, hV⟩ : ∃ V : Int, V = left - ((x0l.length : Nat) : Int) := ⟨_, rfl⟩
  have HV := Lib.hid hV
  rw [← hV]
  have hv : 0 ≤ V := by have := HH.out; omega
  clear hV
  go_enter Tryd.func93, Tryd.ntmps93
  go_wp2_with fail
  refine (szKnotS_yes x0l x0A x0c (left) _ (by omega) (by omega) hm (by have := HH.out; omega)).mono ?_
  rw [show left - (x0l.length : Int) = V from by have := HV.out; omega]
  rintro e wZ ⟨rfl, hbZ⟩
  go_wp2_with fail
  go_ret
  exact ⟨rfl, by repeat' (first | with_reducible assumption | with_reducible exact Below.refl _ _ | (with_reducible refine Below.setCell ?_ ?_ _) | (with_reducible refine Below.alloc ?_ ?_ _) | (with_reducible refine Below.drew ?_) | (with_reducible refine below_dr ?_ _) | (with_reducible refine Below.trans ?_ (Below.mono (by with_reducible assumption) ?_)) | omega | (simp; done) | (simp; omega))⟩
set_option maxHeartbeats 1600000 in
theorem szLoopN_no (x0A : Option Addr) (x0c : Nat) (x0l : List AKnot) (left : Int) (w : World) (h0 : 0 ≤ left) (h1 : left ≤ 1048576) (hm : x0l.length ≤ 9223372036854775807) (h : left < ((x0l.length : Nat) : Int))  (r_x0 : Rd cKnot 3 w w.heap.size x0A x0l) (hok : ∀ (w2 : World) (B : Nat) (i : Nat) (a : AKnot), x0l[i]? = some a → okKnot w2 B a) :
    Calls Tryd.prog 93 #[.agg #[.slice x0A x0l.length x0c], .int .i64 left] w fun e w' => e = .returned (.int .i64 (-1)) ∧ Below w.heap.size w w' := by
  have HK := Lib.hid hok
  clear hok
  have HH := Lib.hid h
  clear h
  go_enter Tryd.func93, Tryd.ntmps93
  go_wp2_with fail
  refine (szKnotS_no x0l x0A x0c (left) _ (by omega) (by omega) hm (by have := HH.out; omega)).mono ?_
  rintro e wZ ⟨rfl, hbZ⟩
  go_wp2_with fail
  go_ret
  exact ⟨rfl, by repeat' (first | with_reducible assumption | with_reducible exact Below.refl _ _ | (with_reducible refine Below.setCell ?_ ?_ _) | (with_reducible refine Below.alloc ?_ ?_ _) | (with_reducible refine Below.drew ?_) | (with_reducible refine below_dr ?_ _) | (with_reducible refine Below.trans ?_ (Below.mono (by with_reducible assumption) ?_)) | omega | (simp; done) | (simp; omega))⟩
def oneLoop (d : DLoop) : Nat := d.length
def totLoop (ds : List DLoop) : Nat := (ds.map oneLoop).sum
theorem totLoop_snoc (l : List DLoop) (k : Nat) (a : DLoop) (h : l[k]? = some a) : totLoop (l.take (k + 1)) = totLoop (l.take k) + oneLoop a := by
  unfold totLoop; rw [List.take_add_one, h]; simp
theorem totLoop_le (l : List DLoop) (k : Nat) : totLoop (l.take k) ≤ totLoop l := by
  have h := List.take_append_drop k l
  have : totLoop l = totLoop (l.take k) + totLoop (l.drop k) := by
    unfold totLoop; rw [← List.sum_append, ← List.map_append, h]
  omega
/-- What is well formed of the elements. -/
def okDLoop (d : DLoop) : Prop := d.length ≤ maxLen ∧ ∀ (w2 : World) (B : Nat) (i : Nat) (a : AKnot), d[i]? = some a → okKnot w2 B a
set_option maxHeartbeats 1600000 in
theorem szLoopS_yes (ds : List DLoop) (A : Option Addr) (c : Nat) (left : Int) (w : World) (h1 : left ≤ 1048576) (h : ((ds.length + totLoop ds : Nat) : Int) ≤ left) (hr : RdLoop w w.heap.size A ds) (hok : ∀ (i : Nat) (d : DLoop), ds[i]? = some d → okDLoop d) :
    Calls Tryd.prog 57 #[.slice A ds.length c, .int .i64 left] w fun e w' => e = .returned (.int .i64 (left - (ds.length + totLoop ds : Nat))) ∧ Below w.heap.size w w' := by
  have HOK := Lib.hid hok
  clear hok
  obtain ⟨n, hn⟩ : ∃ n, n = ds.length := ⟨_, rfl⟩
  rw [← hn]
  rw [← hn] at h
  have HN := Lib.hid hn
  clear hn
  go_enter Tryd.func57, Tryd.ntmps57
  go_wp2
  go_loopw [1, 5] (fun v i wr => ∃ k : Nat, k ≤ n ∧ i = .int .i64 k ∧ v = .int .i64 (left - (n + totLoop (ds.take k) : Nat)) ∧ Below w.heap.size w wr) (fun _ i _ => n - (intOf i).toNat)
  case atStart => exact ⟨0, Nat.zero_le _, rfl, by simp [totLoop], by repeat' (first | with_reducible assumption | with_reducible exact Below.refl _ _ | (with_reducible refine Below.setCell ?_ ?_ _) | (with_reducible refine Below.alloc ?_ ?_ _) | (with_reducible refine Below.drew ?_) | (with_reducible refine below_dr ?_ _) | (with_reducible refine Below.trans ?_ (Below.mono (by with_reducible assumption) ?_)) | omega | (simp; done) | (simp; omega))⟩
  case round =>
    obtain ⟨k, hk, rfl, rfl, hbl⟩ := hrel
    by_cases hlt : k < n
    · obtain ⟨x0l, ha⟩ : ∃ a, ds[k]? = some a := ⟨ds[k]'(by have := HN.out; omega), List.getElem?_eq_getElem (by have := HN.out; omega)⟩
      obtain ⟨g, o, x0A, x0c, rfl, hg, hc, hrd⟩ := (hr.carry hbl (Nat.le_refl _)).elem ha
      have hsz := HOK.out k _ ha
      simp only [okDLoop] at hsz
      obtain ⟨hm_x0, hok_x0⟩ := hsz
      have c0 : wr.cell? ⟨g, o + k, none⟩ = some (.slice x0A x0l.length x0c) := by have h := hc 0 _ rfl; rw [Nat.mul_one] at h; exact h
      clear hc
      have hzr := hbl.size
      have hki : (k : Int) < (n : Int) := by omega
      have HKK := Lib.hid hok_x0
      clear hok_x0
      have hone : oneLoop x0l = x0l.length := rfl
      have hts := totLoop_snoc ds k _ ha
      have htl := totLoop_le ds (k + 1)
      obtain ⟨T, hT⟩ : ∃ T, T = totLoop (ds.take k) := ⟨_, rfl⟩
      rw [← hT] at hts ⊢
      obtain ⟨U, hU⟩ : ∃ U, U = oneLoop x0l := ⟨_, rfl⟩
      rw [← hU] at hts hone
      have HS := Lib.hid hts
      have hT2 : ((n + T : Nat) : Int) + (U : Int) ≤ left := by omega
      have HONE := Lib.hid hone
      clear hts htl ha hT hU hone
      obtain ⟨V, hV⟩ : ∃ V : Int, V = left - (n + T : Nat) := ⟨_, rfl⟩
      rw [← hV]
      have HV := Lib.hid hV
      have hv0 : (U : Int) ≤ V := by omega
      have hv1 : V ≤ 1048576 := by omega
      have hv2 : 0 ≤ V := by omega
      clear hV hT2
      go_wp2_with fail
      refine (szLoopN_yes x0A x0c x0l V _ (by omega) (by omega) (by unfold maxLen at hm_x0; omega) (by have := HONE.out; omega) (hrd.more hzr) HKK.out).mono ?_
      rintro e w2 ⟨rfl, hb2⟩
      have hres : V - ((x0l.length : Nat) : Int) = V - (U : Int) := by have := HONE.out; omega
      rw [hres]
      clear hres
      have hv3 : 0 ≤ V - (U : Int) := by omega
      go_wp2_with fail
      go_roundw
      case rel => exact ⟨k + 1, by omega, by go_num, by rw [HS.out]; have := HV.out; go_num, by repeat' (first | with_reducible assumption | with_reducible exact Below.refl _ _ | (with_reducible refine Below.setCell ?_ ?_ _) | (with_reducible refine Below.alloc ?_ ?_ _) | (with_reducible refine Below.drew ?_) | (with_reducible refine below_dr ?_ _) | (with_reducible refine Below.trans ?_ (Below.mono (by with_reducible assumption) ?_)) | omega | (simp; done) | (simp; omega))⟩
      case measure => simp [intOf]; omega
    · obtain rfl : k = n := by omega
      rw [List.take_of_length_le (by have := HN.out; omega)]
      go_wp2
      go_ret
      exact ⟨rfl, hbl⟩
set_option maxHeartbeats 1600000 in
theorem szLoopS_no (ds : List DLoop) (A : Option Addr) (c : Nat) (left : Int) (w : World) (h0 : 0 ≤ left) (h1 : left ≤ 1048576) (hm : ds.length ≤ 9223372036854775807) (h : left < ((ds.length + totLoop ds : Nat) : Int)) (hr : RdLoop w w.heap.size A ds) (hok : ∀ (i : Nat) (d : DLoop), ds[i]? = some d → okDLoop d) :
    Calls Tryd.prog 57 #[.slice A ds.length c, .int .i64 left] w fun e w' => e = .returned (.int .i64 (-1)) ∧ Below w.heap.size w w' := by
  have HOK := Lib.hid hok
  clear hok
  obtain ⟨n, hn⟩ : ∃ n, n = ds.length := ⟨_, rfl⟩
  rw [← hn]
  rw [← hn] at h hm
  have HN := Lib.hid hn
  clear hn
  by_cases hnl : left < (n : Int)
  · go_enter Tryd.func57, Tryd.ntmps57
    go_wp2
    go_ret
    exact ⟨rfl, by repeat' (first | with_reducible assumption | with_reducible exact Below.refl _ _ | (with_reducible refine Below.setCell ?_ ?_ _) | (with_reducible refine Below.alloc ?_ ?_ _) | (with_reducible refine Below.drew ?_) | (with_reducible refine below_dr ?_ _) | (with_reducible refine Below.trans ?_ (Below.mono (by with_reducible assumption) ?_)) | omega | (simp; done) | (simp; omega))⟩
  · go_enter Tryd.func57, Tryd.ntmps57
    go_wp2
    go_loopw [1, 5] (fun v i wr => ∃ k : Nat, k ≤ n ∧ i = .int .i64 k ∧ v = .int .i64 (left - (n + totLoop (ds.take k) : Nat)) ∧ ((n + totLoop (ds.take k) : Nat) : Int) ≤ left ∧ Below w.heap.size w wr) (fun _ i _ => n - (intOf i).toNat)
    case atStart => exact ⟨0, Nat.zero_le _, rfl, by simp [totLoop], by simp [totLoop]; omega, by repeat' (first | with_reducible assumption | with_reducible exact Below.refl _ _ | (with_reducible refine Below.setCell ?_ ?_ _) | (with_reducible refine Below.alloc ?_ ?_ _) | (with_reducible refine Below.drew ?_) | (with_reducible refine below_dr ?_ _) | (with_reducible refine Below.trans ?_ (Below.mono (by with_reducible assumption) ?_)) | omega | (simp; done) | (simp; omega))⟩
    case round =>
      obtain ⟨k, hk, rfl, rfl, hle, hbl⟩ := hrel
      by_cases hlt : k < n
      · obtain ⟨x0l, ha⟩ : ∃ a, ds[k]? = some a := ⟨ds[k]'(by have := HN.out; omega), List.getElem?_eq_getElem (by have := HN.out; omega)⟩
        obtain ⟨g, o, x0A, x0c, rfl, hg, hc, hrd⟩ := (hr.carry hbl (Nat.le_refl _)).elem ha
        have hsz := HOK.out k _ ha
        simp only [okDLoop] at hsz
        obtain ⟨hm_x0, hok_x0⟩ := hsz
        have c0 : wr.cell? ⟨g, o + k, none⟩ = some (.slice x0A x0l.length x0c) := by have h := hc 0 _ rfl; rw [Nat.mul_one] at h; exact h
        clear hc
        have hzr := hbl.size
        have hki : (k : Int) < (n : Int) := by omega
        have HKK := Lib.hid hok_x0
        clear hok_x0
        have hone : oneLoop x0l = x0l.length := rfl
        have hts := totLoop_snoc ds k _ ha
        obtain ⟨T, hT⟩ : ∃ T, T = totLoop (ds.take k) := ⟨_, rfl⟩
        rw [← hT] at hts hle ⊢
        obtain ⟨U, hU⟩ : ∃ U, U = oneLoop x0l := ⟨_, rfl⟩
        rw [← hU] at hts hone
        have HS := Lib.hid hts
        have HONE := Lib.hid hone
        clear hts ha hT hU hone
        obtain ⟨V, hV⟩ : ∃ V : Int, V = left - (n + T : Nat) := ⟨_, rfl⟩
        rw [← hV]
        have HV := Lib.hid hV
        have hv1 : V ≤ 1048576 := by omega
        have hv2 : 0 ≤ V := by omega
        clear hV hle
        by_cases hfit : (U : Int) ≤ V
        · go_wp2_with fail
          refine (szLoopN_yes x0A x0c x0l V _ (by omega) (by omega) (by unfold maxLen at hm_x0; omega) (by have := HONE.out; omega) (hrd.more hzr) HKK.out).mono ?_
          rintro e w2 ⟨rfl, hb2⟩
          have hres : V - ((x0l.length : Nat) : Int) = V - (U : Int) := by have := HONE.out; omega
          rw [hres]
          clear hres
          have hv3 : 0 ≤ V - (U : Int) := by omega
          go_wp2_with fail
          go_roundw
          case rel => exact ⟨k + 1, by omega, by go_num, by rw [HS.out]; have := HV.out; go_num, by rw [HS.out]; have := HV.out; omega, by repeat' (first | with_reducible assumption | with_reducible exact Below.refl _ _ | (with_reducible refine Below.setCell ?_ ?_ _) | (with_reducible refine Below.alloc ?_ ?_ _) | (with_reducible refine Below.drew ?_) | (with_reducible refine below_dr ?_ _) | (with_reducible refine Below.trans ?_ (Below.mono (by with_reducible assumption) ?_)) | omega | (simp; done) | (simp; omega))⟩
          case measure => simp [intOf]; omega
        · have hfit2 : V < (U : Int) := by omega
          go_wp2_with fail
          refine (szLoopN_no x0A x0c x0l V _ (by omega) (by omega) (by unfold maxLen at hm_x0; omega) (by have := HONE.out; omega) (hrd.more hzr) HKK.out).mono ?_
          rintro e w2 ⟨rfl, hb2⟩
          go_wp2_with fail
          go_ret
          exact ⟨rfl, by repeat' (first | with_reducible assumption | with_reducible exact Below.refl _ _ | (with_reducible refine Below.setCell ?_ ?_ _) | (with_reducible refine Below.alloc ?_ ?_ _) | (with_reducible refine Below.drew ?_) | (with_reducible refine below_dr ?_ _) | (with_reducible refine Below.trans ?_ (Below.mono (by with_reducible assumption) ?_)) | omega | (simp; done) | (simp; omega))⟩
      · obtain rfl : k = n := by omega
        rw [List.take_of_length_le (by have := HN.out; omega)] at hle
        exfalso; omega
end Go.Proofs.YtjlmoadnbbeloaaDoor
