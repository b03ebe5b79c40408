/- Walks: the size of a list of terms. -/
import Derived.Test.YtjlmoadnbbeloaaDoorHl
import Derived.Lib.Hide
import Derived.WalkKit
import Derived.WalkSpells
import Derived.WalkLawsBesides
import Derived.Outline
namespace Go.Proofs.YtjlmoadnbbeloaaDoor
open Go.RowKit
set_option linter.unusedVariables false
set_option maxHeartbeats 400000 in
theorem szTerm_yes (x0 : ByteArray) (x1 : Int) (x2 : Int) (left : Int) (w : World) (h0 : 0 ≤ left) (h1 : left ≤ 1048576) (h : (x0.size : Int) ≤ left) (hs : x0.size ≤ maxLen) :
    Calls Tryd.prog 71 #[.agg #[.string x0, .int .i64 x1, .int .i64 x2], .int .i64 left] w fun e w' => e = .returned (.int .i64 (left - x0.size)) ∧ Below w.heap.size w w' := by
  unfold maxLen at hs
  go_enter Tryd.func71, Tryd.ntmps71
  go_wp2
  go_ret
  exact ⟨rfl, by repeat' (first | with_reducible assumption | with_reducible exact Below.refl _ _ | (with_reducible refine Below.setCell ?_ ?_ _) | (with_reducible refine Below.alloc ?_ ?_ _) | (with_reducible refine Below.drew ?_) | (with_reducible refine below_dr ?_ _) | (with_reducible refine Below.trans ?_ (Below.mono (by with_reducible assumption) ?_)) | omega | (simp; done) | (simp; omega))⟩
set_option maxHeartbeats 400000 in
theorem szTerm_no (x0 : ByteArray) (x1 : Int) (x2 : Int) (left : Int) (w : World) (h0 : 0 ≤ left) (h1 : left ≤ 1048576) (h : left < (x0.size : Int)) (hs : x0.size ≤ maxLen) :
    Calls Tryd.prog 71 #[.agg #[.string x0, .int .i64 x1, .int .i64 x2], .int .i64 left] w fun e w' => e = .returned (.int .i64 (-1)) ∧ Below w.heap.size w w' := by
  unfold maxLen at hs
  go_enter Tryd.func71, Tryd.ntmps71
  go_wp2
  go_ret
  exact ⟨rfl, by repeat' (first | with_reducible assumption | with_reducible exact Below.refl _ _ | (with_reducible refine Below.setCell ?_ ?_ _) | (with_reducible refine Below.alloc ?_ ?_ _) | (with_reducible refine Below.drew ?_) | (with_reducible refine below_dr ?_ _) | (with_reducible refine Below.trans ?_ (Below.mono (by with_reducible assumption) ?_)) | omega | (simp; done) | (simp; omega))⟩
def totTerm (l : List ATerm) : Nat := (l.map fun a => a.1.size).sum
theorem totTerm_snoc (l : List ATerm) (k : Nat) (a : ATerm) (h : l[k]? = some a) : totTerm (l.take (k + 1)) = totTerm (l.take k) + (a.1.size) := by
  unfold totTerm; rw [List.take_add_one, h]; simp
theorem totTerm_le (l : List ATerm) (k : Nat) : totTerm (l.take k) ≤ totTerm l := by
  have h := List.take_append_drop k l
  have : totTerm l = totTerm (l.take k) + totTerm (l.drop k) := by
    unfold totTerm; rw [← List.sum_append, ← List.map_append, h]
  omega
set_option maxHeartbeats 800000 in
theorem szTermS_yes (l : List ATerm) (A : Option Addr) (c : Nat) (left : Int) (w : World) (h1 : left ≤ 1048576) (h : ((l.length + totTerm l : Nat) : Int) ≤ left) (hr : Rd cTerm 3 w w.heap.size A l) (hok : ∀ (i : Nat) (a : ATerm), l[i]? = some a → okTerm w w.heap.size a) :
    Calls Tryd.prog 36 #[.slice A l.length c, .int .i64 left] w fun e w' => e = .returned (.int .i64 (left - (l.length + totTerm l : Nat))) ∧ Below w.heap.size w w' := by
  have HOK := Lib.hid hok
  clear hok
  obtain ⟨n, hn⟩ : ∃ n, n = l.length := ⟨_, rfl⟩
  rw [← hn]
  rw [← hn] at h
  have HN := Lib.hid hn
  clear hn
  go_enter Tryd.func36, Tryd.ntmps36
  go_wp2
  go_loopw [1, 5] (fun v i wr => ∃ k : Nat, k ≤ n ∧ i = .int .i64 k ∧ v = .int .i64 (left - (n + totTerm (l.take k) : Nat)) ∧ Below w.heap.size w wr) (fun _ i _ => n - (intOf i).toNat)
  case atStart => exact ⟨0, Nat.zero_le _, rfl, by simp [totTerm], by repeat' (first | with_reducible assumption | with_reducible exact Below.refl _ _ | (with_reducible refine Below.setCell ?_ ?_ _) | (with_reducible refine Below.alloc ?_ ?_ _) | (with_reducible refine Below.drew ?_) | (with_reducible refine below_dr ?_ _) | (with_reducible refine Below.trans ?_ (Below.mono (by with_reducible assumption) ?_)) | omega | (simp; done) | (simp; omega))⟩
  case round =>
    obtain ⟨k, hk, rfl, rfl, hbl⟩ := hrel
    by_cases hlt : k < n
    · obtain ⟨⟨x0, x1, x2⟩, ha⟩ : ∃ a, l[k]? = some a := ⟨l[k]'(by have := HN.out; omega), List.getElem?_eq_getElem (by have := HN.out; omega)⟩
      obtain ⟨g, o, rfl, hg, hc⟩ := (hr.below hbl).elem ha
      have hsz := HOK.out k _ ha
      simp only [okTerm] at hsz
      have c0 : wr.cell? ⟨g, o + k * 3, none⟩ = some (.string x0) := hc 0 _ rfl
      have c1 : wr.cell? ⟨g, o + k * 3 + 1, none⟩ = some (.int .i64 x1) := hc 1 _ rfl
      have c2 : wr.cell? ⟨g, o + k * 3 + 2, none⟩ = some (.int .i64 x2) := hc 2 _ rfl
      clear hc
      have hzr := hbl.size
      have hki : (k : Int) < (n : Int) := by omega
      have hts := totTerm_snoc l k _ ha
      have htl := totTerm_le l (k + 1)
      simp only at hts
      obtain ⟨T, hT⟩ : ∃ T, T = totTerm (l.take k) := ⟨_, rfl⟩
      rw [← hT] at hts ⊢
      have HS := Lib.hid hts
      have hT2 : ((n + T : Nat) : Int) + ((x0.size : Int)) ≤ left := by omega
      have hT3 : 0 ≤ ((n + T : Nat) : Int) := by omega
      clear hts htl ha hT
      obtain ⟨V, hV⟩ : ∃ V : Int, V = left - (n + T : Nat) := ⟨_, rfl⟩
      rw [← hV]
      have HV := Lib.hid hV
      have hv0 : (x0.size : Int) ≤ V := by omega
      have hv1 : V ≤ 1048576 := by omega
      have hv2 : 0 ≤ V := by omega
      clear hV hT2 hT3
      go_wp2_with fail
      refine (szTerm_yes x0 x1 x2 V _ (by omega) (by omega) (by omega) (by simp only [maxLen] at *; omega)).mono ?_
      rintro e w2 ⟨rfl, hb2⟩
      go_wp2_with fail
      go_roundw
      case rel => exact ⟨k + 1, by omega, by go_num, by rw [HS.out]; have := HV.out; go_num, by repeat' (first | with_reducible assumption | with_reducible exact Below.refl _ _ | (with_reducible refine Below.setCell ?_ ?_ _) | (with_reducible refine Below.alloc ?_ ?_ _) | (with_reducible refine Below.drew ?_) | (with_reducible refine below_dr ?_ _) | (with_reducible refine Below.trans ?_ (Below.mono (by with_reducible assumption) ?_)) | omega | (simp; done) | (simp; omega))⟩
      case measure => simp [intOf]; omega
    · obtain rfl : k = n := by omega
      rw [List.take_of_length_le (by have := HN.out; omega)]
      go_wp2
      go_ret
      exact ⟨rfl, hbl⟩
set_option maxHeartbeats 800000 in
theorem szTermS_no (l : List ATerm) (A : Option Addr) (c : Nat) (left : Int) (w : World) (h0 : 0 ≤ left) (h1 : left ≤ 1048576) (hm : l.length ≤ 9223372036854775807) (h : left < ((l.length + totTerm l : Nat) : Int)) (hr : Rd cTerm 3 w w.heap.size A l) (hok : ∀ (i : Nat) (a : ATerm), l[i]? = some a → okTerm w w.heap.size a) :
    Calls Tryd.prog 36 #[.slice A l.length c, .int .i64 left] w fun e w' => e = .returned (.int .i64 (-1)) ∧ Below w.heap.size w w' := by
  have HOK := Lib.hid hok
  clear hok
  obtain ⟨n, hn⟩ : ∃ n, n = l.length := ⟨_, rfl⟩
  rw [← hn]
  rw [← hn] at h hm
  have HN := Lib.hid hn
  clear hn
  by_cases hnl : left < (n : Int)
  · go_enter Tryd.func36, Tryd.ntmps36
    go_wp2
    go_ret
    exact ⟨rfl, by repeat' (first | with_reducible assumption | with_reducible exact Below.refl _ _ | (with_reducible refine Below.setCell ?_ ?_ _) | (with_reducible refine Below.alloc ?_ ?_ _) | (with_reducible refine Below.drew ?_) | (with_reducible refine below_dr ?_ _) | (with_reducible refine Below.trans ?_ (Below.mono (by with_reducible assumption) ?_)) | omega | (simp; done) | (simp; omega))⟩
  · go_enter Tryd.func36, Tryd.ntmps36
    go_wp2
    go_loopw [1, 5] (fun v i wr => ∃ k : Nat, k ≤ n ∧ i = .int .i64 k ∧ v = .int .i64 (left - (n + totTerm (l.take k) : Nat)) ∧ ((n + totTerm (l.take k) : Nat) : Int) ≤ left ∧ Below w.heap.size w wr) (fun _ i _ => n - (intOf i).toNat)
    case atStart => exact ⟨0, Nat.zero_le _, rfl, by simp [totTerm], by simp [totTerm]; omega, by repeat' (first | with_reducible assumption | with_reducible exact Below.refl _ _ | (with_reducible refine Below.setCell ?_ ?_ _) | (with_reducible refine Below.alloc ?_ ?_ _) | (with_reducible refine Below.drew ?_) | (with_reducible refine below_dr ?_ _) | (with_reducible refine Below.trans ?_ (Below.mono (by with_reducible assumption) ?_)) | omega | (simp; done) | (simp; omega))⟩
    case round =>
      obtain ⟨k, hk, rfl, rfl, hle, hbl⟩ := hrel
      by_cases hlt : k < n
      · obtain ⟨⟨x0, x1, x2⟩, ha⟩ : ∃ a, l[k]? = some a := ⟨l[k]'(by have := HN.out; omega), List.getElem?_eq_getElem (by have := HN.out; omega)⟩
        obtain ⟨g, o, rfl, hg, hc⟩ := (hr.below hbl).elem ha
        have hsz := HOK.out k _ ha
        simp only [okTerm] at hsz
        have c0 : wr.cell? ⟨g, o + k * 3, none⟩ = some (.string x0) := hc 0 _ rfl
        have c1 : wr.cell? ⟨g, o + k * 3 + 1, none⟩ = some (.int .i64 x1) := hc 1 _ rfl
        have c2 : wr.cell? ⟨g, o + k * 3 + 2, none⟩ = some (.int .i64 x2) := hc 2 _ rfl
        clear hc
        have hzr := hbl.size
        have hki : (k : Int) < (n : Int) := by omega
        have hts := totTerm_snoc l k _ ha
        simp only at hts
        obtain ⟨T, hT⟩ : ∃ T, T = totTerm (l.take k) := ⟨_, rfl⟩
        rw [← hT] at hts hle ⊢
        have HS := Lib.hid hts
        clear hts ha hT
        obtain ⟨V, hV⟩ : ∃ V : Int, V = left - (n + T : Nat) := ⟨_, rfl⟩
        rw [← hV]
        have HV := Lib.hid hV
        have hv1 : V ≤ 1048576 := by omega
        have hv2 : 0 ≤ V := by omega
        clear hV hle
        by_cases hfit : (x0.size : Int) ≤ V
        · go_wp2_with fail
          refine (szTerm_yes x0 x1 x2 V _ (by omega) (by omega) (by omega) (by simp only [maxLen] at *; omega)).mono ?_
          rintro e w2 ⟨rfl, hb2⟩
          go_wp2_with fail
          go_roundw
          case rel => exact ⟨k + 1, by omega, by go_num, by rw [HS.out]; have := HV.out; go_num, by rw [HS.out]; have := HV.out; omega, by repeat' (first | with_reducible assumption | with_reducible exact Below.refl _ _ | (with_reducible refine Below.setCell ?_ ?_ _) | (with_reducible refine Below.alloc ?_ ?_ _) | (with_reducible refine Below.drew ?_) | (with_reducible refine below_dr ?_ _) | (with_reducible refine Below.trans ?_ (Below.mono (by with_reducible assumption) ?_)) | omega | (simp; done) | (simp; omega))⟩
          case measure => simp [intOf]; omega
        · have hfit2 : V < (x0.size : Int) := by omega
          go_wp2_with fail
          refine (szTerm_no x0 x1 x2 V _ (by omega) (by omega) (by omega) (by simp only [maxLen] at *; omega)).mono ?_
          rintro e w2 ⟨rfl, hb2⟩
          go_wp2_with fail
          go_ret
          exact ⟨rfl, by repeat' (first | with_reducible assumption | with_reducible exact Below.refl _ _ | (with_reducible refine Below.setCell ?_ ?_ _) | (with_reducible refine Below.alloc ?_ ?_ _) | (with_reducible refine Below.drew ?_) | (with_reducible refine below_dr ?_ _) | (with_reducible refine Below.trans ?_ (Below.mono (by with_reducible assumption) ?_)) | omega | (simp; done) | (simp; omega))⟩
      · obtain rfl : k = n := by omega
        rw [List.take_of_length_le (by have := HN.out; omega)] at hle
        exfalso; omega
end Go.Proofs.YtjlmoadnbbeloaaDoor
