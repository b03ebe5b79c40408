/- Walks: instructions that are all valid, on both sides. -/
import Derived.Test.YtdikenapnncmfaaDoorPna
import Derived.Test.YtdikenapnncmfaaDoorHta1
import Derived.Test.YtdikenapnncmfaaDoorHx
namespace Go.Proofs.YtdikenapnncmfaaDoor
open Go.RowKit
set_option linter.unusedVariables false
abbrev DHint : Type := Int × Int
def RvHint : Rv DHint := fun _ _ row d => row = [.int .i64 d.1, .int .i64 d.2]
instance niceHint : Nice RvHint 2 where
  len := by rintro w B row d rfl; rfl
  one := by
    rintro w B row d rfl u hu
    simp only [List.mem_cons, List.not_mem_nil, or_false] at hu
    rcases hu with rfl | rfl <;> rfl
  keep := fun _ h => h
  more := fun _ h => h
def totHintD (d : DHint) : Nat := 0
def SzHint (d : DHint) : Prop := True
section
variable {α : Type} {l : List α} {p : α → Bool} {k : Nat} {a : α}
def alU (p : α → Bool) (l : List α) (k : Nat) : Prop := ∀ j x, j < k → l[j]? = some x → p x = true
theorem alU_zero : alU p l 0 := fun j x h _ => absurd h (Nat.not_lt_zero _)
theorem alU_succ (h : alU p l k) (ha : l[k]? = some a) (hp : p a = true) : alU p l (k + 1) := fun j x hj hx => by
  rcases Nat.lt_or_ge j k with h2 | h2
  · exact h j x h2 hx
  · obtain rfl : j = k := by omega
    rw [ha] at hx; obtain rfl := Option.some.inj hx; exact hp
theorem all_no (ha : l[k]? = some a) (hp : p a = false) : l.all p = false := by
  rw [List.all_eq_false]; exact ⟨a, List.mem_of_getElem? ha, by simp [hp]⟩
theorem all_yes (h : alU p l l.length) : l.all p = true := by
  rw [List.all_eq_true]; intro x hx
  obtain ⟨j, hj⟩ := List.getElem?_of_mem hx
  exact h j x (List.getElem?_eq_some_iff.1 hj).1 hj
end
set_option maxHeartbeats 1600000 in
theorem areAll1_hv  (x0 : Int) (x1 : Int) (p : DHint → Bool) (Bh : Nat) (w : World)  (b0 : w.cell? ⟨Bh, 0, none⟩ = some (.func (.func 95) #[] #[])) (hh : Bh < w.heap.size) (hC : ∀ (w1 : World), Below w.heap.size w w1 → Calls Tryd.prog 95 #[.agg #[.int .i64 x0, .int .i64 x1]] w1 fun e w2 => e = .returned (.bool (p (x0, x1))) ∧ Below w1.heap.size w1 w2) :
    Calls Tryd.prog 116 #[.agg #[.int .i64 x0, .int .i64 x1], .pointer (some ⟨Bh, 0, none⟩)] w fun e w' => e = .returned (.bool (!(p (x0, x1)))) ∧ Below w.heap.size w w' := by
  have N := Lib.hid hC
  clear hC
  generalize p (x0, x1) = v at *
  go_enter Tryd.func116, Tryd.ntmps116
  go_wp2_with fail
  refine (N.out _ (by repeat' (first | with_reducible assumption | with_reducible exact Below.refl _ _ | (with_reducible refine Below.setCell ?_ ?_ _) | (with_reducible refine Below.alloc ?_ ?_ _) | (with_reducible refine Below.drew ?_) | (with_reducible refine below_dr ?_ _) | (with_reducible refine Below.trans ?_ (Below.mono (by with_reducible assumption) ?_)) | omega | (simp; done) | (simp; omega)))).mono ?_
  rintro e w1 ⟨rfl, hb1⟩
  go_wp2_with fail
  go_ret
  exact ⟨rfl, by repeat' (first | with_reducible assumption | with_reducible exact Below.refl _ _ | (with_reducible refine Below.setCell ?_ ?_ _) | (with_reducible refine Below.alloc ?_ ?_ _) | (with_reducible refine Below.drew ?_) | (with_reducible refine below_dr ?_ _) | (with_reducible refine Below.trans ?_ (Below.mono (by with_reducible assumption) ?_)) | omega | (simp; done) | (simp; omega))⟩
set_option maxHeartbeats 3200000 in
theorem indexFunc_hv  (l : List DHint) (A : Option Addr) (c : Nat) (p : DHint → Bool) (Bh : Nat) (w : World) (hl : l.length ≤ 1048576) (r : Row RvHint 2 w w.heap.size A l) (b0 : w.cell? ⟨Bh, 0, none⟩ = some (.func (.func 95) #[] #[])) (hh : Bh < w.heap.size) (hC : ∀ (w1 : World), Below w.heap.size w w1 → ∀ (k : Nat) (x0 : Int) (x1 : Int), l[k]? = some (x0, x1) → Calls Tryd.prog 95 #[.agg #[.int .i64 x0, .int .i64 x1]] w1 fun e w2 => e = .returned (.bool (p (x0, x1))) ∧ Below w1.heap.size w1 w2) :
    Calls Tryd.prog 128 #[.slice A l.length c, .func (.func 116) #[] #[.pointer (some ⟨Bh, 0, none⟩)]] w fun e w' => (∃ i : Int, e = .returned (.int .i64 i) ∧ decide (0 ≤ i) = !(l.all p)) ∧ Below w.heap.size w w' := by
  have N := Lib.hid hC
  clear hC
  have RA := Lib.hid r
  have B0 := Lib.hid b0
  clear r b0
  obtain ⟨n, hn⟩ : ∃ n, n = l.length := ⟨_, rfl⟩
  rw [← hn] at hl ⊢
  have HN := Lib.hid hn
  clear hn
  go_enter Tryd.func128, Tryd.ntmps128
  go_wp2
  go_loopw [5, 8] (fun u i wr => ∃ k : Nat, k ≤ n ∧ i = .int .i64 k ∧ alU p l k ∧ Below w.heap.size w wr) (fun u i _ => n - (intOf i).toNat)
  case atStart => exact ⟨0, Nat.zero_le _, rfl, alU_zero, Below.refl _ _⟩
  case round =>
    obtain ⟨k, hk, rfl, hyes, hbl⟩ := hrel
    have HY := Lib.hid hyes
    clear hyes
    have hzw := hbl.size
    by_cases hlt : k < n
    case pos =>
      obtain ⟨⟨x0, x1⟩, ha⟩ : ∃ a, l[k]? = some a := ⟨l[k]'(by have := HN.out; omega), List.getElem?_eq_getElem (by have := HN.out; omega)⟩
      obtain ⟨g, o, rowc, rfl, hg, hRc, hcc⟩ := (Row.carry (w' := wr) RA.out hbl (Nat.le_refl _)).elem ha
      obtain rfl := hRc
      have c0 : wr.cell? ⟨g, o + k * 2, none⟩ = some (.int .i64 x0) := hcc 0 _ rfl
      have c1 : wr.cell? ⟨g, o + k * 2 + 1, none⟩ = some (.int .i64 x1) := hcc 1 _ rfl
      clear hcc
      have HA := Lib.hid ha
      clear ha
      have hgw : g < wr.heap.size := by omega
      have hki : (k : Int) < (n : Int) := by omega
      have CC := areAll1_hv  x0 x1 p Bh wr  ((hbl.cell (p := ⟨Bh, 0, none⟩) hh).trans B0.out) (by omega) (fun w1 hb1  => N.out w1 (by repeat' (first | with_reducible assumption | with_reducible exact Below.refl _ _ | (with_reducible refine Below.setCell ?_ ?_ _) | (with_reducible refine Below.alloc ?_ ?_ _) | (with_reducible refine Below.drew ?_) | (with_reducible refine below_dr ?_ _) | (with_reducible refine Below.trans ?_ (Below.mono (by with_reducible assumption) ?_)) | omega | (simp; done) | (simp; omega))) k x0 x1 HA.out )
      rcases hv : p (x0, x1) with _ | _
      case false =>
        have HV := Lib.hid hv
        rw [hv] at CC
        have C := Lib.hid CC
        clear hv CC
        go_wp2_with fail
        refine C.out.mono ?_
        rintro e w1 ⟨rfl, hb1⟩
        go_wp2
        go_ret
        exact ⟨⟨_, rfl, by rw [all_no HA.out HV.out]; simp⟩, by repeat' (first | with_reducible assumption | with_reducible exact Below.refl _ _ | (with_reducible refine Below.setCell ?_ ?_ _) | (with_reducible refine Below.alloc ?_ ?_ _) | (with_reducible refine Below.drew ?_) | (with_reducible refine below_dr ?_ _) | (with_reducible refine Below.trans ?_ (Below.mono (by with_reducible assumption) ?_)) | omega | (simp; done) | (simp; omega))⟩
      case true =>
        have HV := Lib.hid hv
        rw [hv] at CC
        have C := Lib.hid CC
        clear hv CC
        go_wp2_with fail
        refine C.out.mono ?_
        rintro e w1 ⟨rfl, hb1⟩
        go_wp2
        go_roundw
        case rel => exact ⟨k + 1, by omega, by go_num, alU_succ HY.out HA.out HV.out, by repeat' (first | with_reducible assumption | with_reducible exact Below.refl _ _ | (with_reducible refine Below.setCell ?_ ?_ _) | (with_reducible refine Below.alloc ?_ ?_ _) | (with_reducible refine Below.drew ?_) | (with_reducible refine below_dr ?_ _) | (with_reducible refine Below.trans ?_ (Below.mono (by with_reducible assumption) ?_)) | omega | (simp; done) | (simp; omega))⟩
        case measure => simp [intOf]; omega
    case neg =>
      obtain rfl : k = n := by omega
      go_wp2
      go_ret
      exact ⟨⟨_, rfl, by rw [all_yes (by rw [← HN.out]; exact HY.out)]; rfl⟩, hbl⟩
set_option maxHeartbeats 1600000 in
theorem containsFunc_hv  (l : List DHint) (A : Option Addr) (c : Nat) (p : DHint → Bool) (Bh : Nat) (w : World) (hl : l.length ≤ 1048576) (r : Row RvHint 2 w w.heap.size A l) (b0 : w.cell? ⟨Bh, 0, none⟩ = some (.func (.func 95) #[] #[])) (hh : Bh < w.heap.size) (hC : ∀ (w1 : World), Below w.heap.size w w1 → ∀ (k : Nat) (x0 : Int) (x1 : Int), l[k]? = some (x0, x1) → Calls Tryd.prog 95 #[.agg #[.int .i64 x0, .int .i64 x1]] w1 fun e w2 => e = .returned (.bool (p (x0, x1))) ∧ Below w1.heap.size w1 w2) :
    Calls Tryd.prog 115 #[.slice A l.length c, .func (.func 116) #[] #[.pointer (some ⟨Bh, 0, none⟩)]] w fun e w' => e = .returned (.bool (!(l.all p))) ∧ Below w.heap.size w w' := by
  have N := Lib.hid (indexFunc_hv  l A c p Bh w hl r b0 hh hC)
  clear hC b0 r hl
  generalize l.length = n at *
  generalize l.all p = v at *
  go_enter Tryd.func115, Tryd.ntmps115
  go_wp2_with fail
  refine N.out.mono ?_
  rintro e w1 ⟨⟨i, rfl, hi⟩, hb1⟩
  go_wp2
  go_ret
  exact ⟨rfl, hb1⟩
set_option maxHeartbeats 1600000 in
theorem areAll_hv  (l : List DHint) (A : Option Addr) (c : Nat) (p : DHint → Bool) (w : World) (hl : l.length ≤ 1048576) (r : Row RvHint 2 w w.heap.size A l) (hC : ∀ (w1 : World), Below w.heap.size w w1 → ∀ (k : Nat) (x0 : Int) (x1 : Int), l[k]? = some (x0, x1) → Calls Tryd.prog 95 #[.agg #[.int .i64 x0, .int .i64 x1]] w1 fun e w2 => e = .returned (.bool (p (x0, x1))) ∧ Below w1.heap.size w1 w2) :
    Calls Tryd.prog 94 #[.slice A l.length c, .func (.func 95) #[] #[]] w fun e w' => e = .returned (.bool (l.all p)) ∧ Below w.heap.size w w' := by
  have N := Lib.hid (fun (w' : World) (hb : Below w.heap.size w w') r b0 hh => containsFunc_hv  l A c p w.heap.size w' hl r b0 hh (fun w1 h1 => hC w1 (hb.trans (Below.mono h1 hb.size))))
  clear hC
  have RA := Lib.hid r
  clear r hl
  generalize l.length = n at *
  generalize l.all p = v at *
  go_enter Tryd.func94, Tryd.ntmps94
  go_wp2_with fail
  refine (N.out _ (by repeat' (first | with_reducible assumption | with_reducible exact Below.refl _ _ | (with_reducible refine Below.setCell ?_ ?_ _) | (with_reducible refine Below.alloc ?_ ?_ _) | (with_reducible refine Below.drew ?_) | (with_reducible refine below_dr ?_ _) | (with_reducible refine Below.trans ?_ (Below.mono (by with_reducible assumption) ?_)) | omega | (simp; done) | (simp; omega))) ((RA.out.alloc (Nat.le_refl _) _).more (by simp)) (by simp [go_sem]) (by simp)).mono ?_
  rintro e w1 ⟨rfl, hb1⟩
  go_wp2
  go_ret
  exact ⟨by simp, by repeat' (first | with_reducible assumption | with_reducible exact Below.refl _ _ | (with_reducible refine Below.setCell ?_ ?_ _) | (with_reducible refine Below.alloc ?_ ?_ _) | (with_reducible refine Below.drew ?_) | (with_reducible refine below_dr ?_ _) | (with_reducible refine Below.trans ?_ (Below.mono (by with_reducible assumption) ?_)) | omega | (simp; done) | (simp; omega))⟩
theorem row_hint {w : World} {B : Nat} {A : Option Addr} {l : List AHint} (h : Rd cHint 2 w B A l) : Row RvHint 2 w B A l := by
  have h2 := Row.of (g := fun a : AHint => (a : DHint)) (R := RvHint) h (fun i a ha => rfl)
  rw [List.map_id'] at h2
  exact h2
set_option maxHeartbeats 400000 in
theorem allHints_any (l : List AHint) (A : Option Addr) (c : Nat) (w : World) (hl : l.length ≤ 1048576) (r : Rd cHint 2 w w.heap.size A l) :
    Calls Tryd.prog 94 #[.slice A l.length c, .func (.func 95) #[] #[]] w fun e w' => e = .returned (.bool (alB l)) ∧ Below w.heap.size w w' :=
  areAll_hv l A c (fun a => hvB a.1 a.2) w hl (row_hint r) (fun w1 _ k x y _ => implValidHint_any x y w1)
theorem alB_no {l : List AHint} {k : Nat} {a : AHint} (ha : l[k]? = some a) (h : hvB a.1 a.2 = false) : false = alB l := by
  symm; unfold alB; rw [List.all_eq_false]; exact ⟨a, List.mem_of_getElem? ha, by simp [h]⟩
theorem alB_yes {l : List AHint} (h : ∀ (j : Nat) (a : AHint), j < l.length → l[j]? = some a → hvB a.1 a.2 = true) : true = alB l := by
  symm; unfold alB; rw [List.all_eq_true]
  intro a ha
  obtain ⟨j, hj⟩ := List.mem_iff_getElem?.1 ha
  exact h j a (List.getElem?_eq_some_iff.1 hj).1 hj
end Go.Proofs.YtdikenapnncmfaaDoor
