/- Walks: the keywords of the description language, on both sides. -/
import Derived.Test.YtjpadamlfhceaaaAb
import Derived.Test.YtjpadamlfhceaaaPa
import Derived.Deep.QuietTactic
namespace Go.Proofs.Ytjpadamlfhceaaa
open Go.RowKit
set_option linter.unusedVariables false
def kws : List ByteArray := [(⟨#[97, 110, 99, 104, 111, 114]⟩ : ByteArray), (⟨#[98, 111, 120]⟩ : ByteArray), (⟨#[99, 121, 99, 108, 101]⟩ : ByteArray), (⟨#[101, 110, 100]⟩ : ByteArray), (⟨#[101, 114, 97, 115, 101]⟩ : ByteArray), (⟨#[102, 105, 108, 108]⟩ : ByteArray), (⟨#[103, 108, 121, 112, 104]⟩ : ByteArray), (⟨#[108, 101, 116]⟩ : ByteArray), (⟨#[112, 97, 114, 116]⟩ : ByteArray), (⟨#[112, 97, 116, 104]⟩ : ByteArray), (⟨#[112, 101, 110]⟩ : ByteArray), (⟨#[114, 111, 117, 110, 100]⟩ : ByteArray), (⟨#[115, 116, 114, 111, 107, 101]⟩ : ByteArray), (⟨#[119, 105, 116, 104]⟩ : ByteArray)]
theorem kws_0 : kws[0]? = some (⟨#[97, 110, 99, 104, 111, 114]⟩ : ByteArray) := rfl
theorem ktl_0 : (⟨#[97, 110, 99, 104, 111, 114]⟩ : ByteArray).toList = ([97, 110, 99, 104, 111, 114] : List UInt8) := by simp
theorem kws_1 : kws[1]? = some (⟨#[98, 111, 120]⟩ : ByteArray) := rfl
theorem ktl_1 : (⟨#[98, 111, 120]⟩ : ByteArray).toList = ([98, 111, 120] : List UInt8) := by simp
theorem kws_2 : kws[2]? = some (⟨#[99, 121, 99, 108, 101]⟩ : ByteArray) := rfl
theorem ktl_2 : (⟨#[99, 121, 99, 108, 101]⟩ : ByteArray).toList = ([99, 121, 99, 108, 101] : List UInt8) := by simp
theorem kws_3 : kws[3]? = some (⟨#[101, 110, 100]⟩ : ByteArray) := rfl
theorem ktl_3 : (⟨#[101, 110, 100]⟩ : ByteArray).toList = ([101, 110, 100] : List UInt8) := by simp
theorem kws_4 : kws[4]? = some (⟨#[101, 114, 97, 115, 101]⟩ : ByteArray) := rfl
theorem ktl_4 : (⟨#[101, 114, 97, 115, 101]⟩ : ByteArray).toList = ([101, 114, 97, 115, 101] : List UInt8) := by simp
theorem kws_5 : kws[5]? = some (⟨#[102, 105, 108, 108]⟩ : ByteArray) := rfl
theorem ktl_5 : (⟨#[102, 105, 108, 108]⟩ : ByteArray).toList = ([102, 105, 108, 108] : List UInt8) := by simp
theorem kws_6 : kws[6]? = some (⟨#[103, 108, 121, 112, 104]⟩ : ByteArray) := rfl
theorem ktl_6 : (⟨#[103, 108, 121, 112, 104]⟩ : ByteArray).toList = ([103, 108, 121, 112, 104] : List UInt8) := by simp
theorem kws_7 : kws[7]? = some (⟨#[108, 101, 116]⟩ : ByteArray) := rfl
theorem ktl_7 : (⟨#[108, 101, 116]⟩ : ByteArray).toList = ([108, 101, 116] : List UInt8) := by simp
theorem kws_8 : kws[8]? = some (⟨#[112, 97, 114, 116]⟩ : ByteArray) := rfl
theorem ktl_8 : (⟨#[112, 97, 114, 116]⟩ : ByteArray).toList = ([112, 97, 114, 116] : List UInt8) := by simp
theorem kws_9 : kws[9]? = some (⟨#[112, 97, 116, 104]⟩ : ByteArray) := rfl
theorem ktl_9 : (⟨#[112, 97, 116, 104]⟩ : ByteArray).toList = ([112, 97, 116, 104] : List UInt8) := by simp
theorem kws_10 : kws[10]? = some (⟨#[112, 101, 110]⟩ : ByteArray) := rfl
theorem ktl_10 : (⟨#[112, 101, 110]⟩ : ByteArray).toList = ([112, 101, 110] : List UInt8) := by simp
theorem kws_11 : kws[11]? = some (⟨#[114, 111, 117, 110, 100]⟩ : ByteArray) := rfl
theorem ktl_11 : (⟨#[114, 111, 117, 110, 100]⟩ : ByteArray).toList = ([114, 111, 117, 110, 100] : List UInt8) := by simp
theorem kws_12 : kws[12]? = some (⟨#[115, 116, 114, 111, 107, 101]⟩ : ByteArray) := rfl
theorem ktl_12 : (⟨#[115, 116, 114, 111, 107, 101]⟩ : ByteArray).toList = ([115, 116, 114, 111, 107, 101] : List UInt8) := by simp
theorem kws_13 : kws[13]? = some (⟨#[119, 105, 116, 104]⟩ : ByteArray) := rfl
theorem ktl_13 : (⟨#[119, 105, 116, 104]⟩ : ByteArray).toList = ([119, 105, 116, 104] : List UInt8) := by simp
theorem kws_len : kws.length = 14 := rfl
def kwB (s : ByteArray) : Bool := kws.any (fun k => k.toList == s.toList)
theorem kwB_yes {s k : ByteArray} (i : Nat) (h : kws[i]? = some k) (e : (k.toList == s.toList) = true) : kwB s = true := by
  unfold kwB; rw [List.any_eq_true]; exact ⟨k, List.mem_of_getElem? h, e⟩
def kwUp (s : ByteArray) (k : Nat) : Bool := (kws.take k).all (fun x => !(x.toList == s.toList))
theorem kwUp_zero (s : ByteArray) : kwUp s 0 = true := rfl
theorem kwUp_succ {s x : ByteArray} {k : Nat} (h : kwUp s k = true) (hx : kws[k]? = some x) (e : (x.toList == s.toList) = false) : kwUp s (k + 1) = true := by
  unfold kwUp at *
  rw [List.take_add_one, hx, List.all_append, h]
  simp [e]
theorem kwB_no {s : ByteArray} (h : kwUp s 14 = true) : kwB s = false := by
  unfold kwUp at h
  rw [show kws.take 14 = kws from rfl, List.all_eq_true] at h
  unfold kwB; rw [List.any_eq_false]
  intro x hx; have := h x hx; simpa using this
set_option maxHeartbeats 3200000 in
theorem implIsKeyword_any (s : ByteArray) (w : World) :
    Calls Try.prog 38 #[.string s] w fun e w' => e = .returned (.bool (kwB s)) ∧ Below w.heap.size w w' := by
  have U0 := kwUp_zero s
  rcases e0 : (s.toList == ([97, 110, 99, 104, 111, 114] : List UInt8)) with _ | _
  case true =>
    have H := Lib.hid (kwB_yes (s := s) 0 kws_0 (by rw [ktl_0, Bool.beq_comm]; exact e0))
    clear U0
    rw [H.out]
    clear H
    go_enter Try.func38, Try.ntmps38
    go_wp2_with fail
    go_ret
    exact ⟨rfl, by repeat' (first | with_reducible assumption | with_reducible exact Below.refl _ _ | (with_reducible refine Below.setCell ?_ ?_ _) | (with_reducible refine Below.alloc ?_ ?_ _) | (with_reducible refine Below.drew ?_) | (with_reducible refine below_dr ?_ _) | (with_reducible refine Below.trans ?_ (Below.mono (by with_reducible assumption) ?_)) | omega | (simp; done) | (simp; omega))⟩
  have U1 := kwUp_succ U0 kws_0 (by rw [ktl_0, Bool.beq_comm]; exact e0)
  rcases e1 : (s.toList == ([98, 111, 120] : List UInt8)) with _ | _
  case true =>
    have H := Lib.hid (kwB_yes (s := s) 1 kws_1 (by rw [ktl_1, Bool.beq_comm]; exact e1))
    clear U1
    rw [H.out]
    clear H
    go_enter Try.func38, Try.ntmps38
    go_wp2_with fail
    go_ret
    exact ⟨rfl, by repeat' (first | with_reducible assumption | with_reducible exact Below.refl _ _ | (with_reducible refine Below.setCell ?_ ?_ _) | (with_reducible refine Below.alloc ?_ ?_ _) | (with_reducible refine Below.drew ?_) | (with_reducible refine below_dr ?_ _) | (with_reducible refine Below.trans ?_ (Below.mono (by with_reducible assumption) ?_)) | omega | (simp; done) | (simp; omega))⟩
  have U2 := kwUp_succ U1 kws_1 (by rw [ktl_1, Bool.beq_comm]; exact e1)
  rcases e2 : (s.toList == ([99, 121, 99, 108, 101] : List UInt8)) with _ | _
  case true =>
    have H := Lib.hid (kwB_yes (s := s) 2 kws_2 (by rw [ktl_2, Bool.beq_comm]; exact e2))
    clear U2
    rw [H.out]
    clear H
    go_enter Try.func38, Try.ntmps38
    go_wp2_with fail
    go_ret
    exact ⟨rfl, by repeat' (first | with_reducible assumption | with_reducible exact Below.refl _ _ | (with_reducible refine Below.setCell ?_ ?_ _) | (with_reducible refine Below.alloc ?_ ?_ _) | (with_reducible refine Below.drew ?_) | (with_reducible refine below_dr ?_ _) | (with_reducible refine Below.trans ?_ (Below.mono (by with_reducible assumption) ?_)) | omega | (simp; done) | (simp; omega))⟩
  have U3 := kwUp_succ U2 kws_2 (by rw [ktl_2, Bool.beq_comm]; exact e2)
  rcases e3 : (s.toList == ([101, 110, 100] : List UInt8)) with _ | _
  case true =>
    have H := Lib.hid (kwB_yes (s := s) 3 kws_3 (by rw [ktl_3, Bool.beq_comm]; exact e3))
    clear U3
    rw [H.out]
    clear H
    go_enter Try.func38, Try.ntmps38
    go_wp2_with fail
    go_ret
    exact ⟨rfl, by repeat' (first | with_reducible assumption | with_reducible exact Below.refl _ _ | (with_reducible refine Below.setCell ?_ ?_ _) | (with_reducible refine Below.alloc ?_ ?_ _) | (with_reducible refine Below.drew ?_) | (with_reducible refine below_dr ?_ _) | (with_reducible refine Below.trans ?_ (Below.mono (by with_reducible assumption) ?_)) | omega | (simp; done) | (simp; omega))⟩
  have U4 := kwUp_succ U3 kws_3 (by rw [ktl_3, Bool.beq_comm]; exact e3)
  rcases e4 : (s.toList == ([101, 114, 97, 115, 101] : List UInt8)) with _ | _
  case true =>
    have H := Lib.hid (kwB_yes (s := s) 4 kws_4 (by rw [ktl_4, Bool.beq_comm]; exact e4))
    clear U4
    rw [H.out]
    clear H
    go_enter Try.func38, Try.ntmps38
    go_wp2_with fail
    go_ret
    exact ⟨rfl, by repeat' (first | with_reducible assumption | with_reducible exact Below.refl _ _ | (with_reducible refine Below.setCell ?_ ?_ _) | (with_reducible refine Below.alloc ?_ ?_ _) | (with_reducible refine Below.drew ?_) | (with_reducible refine below_dr ?_ _) | (with_reducible refine Below.trans ?_ (Below.mono (by with_reducible assumption) ?_)) | omega | (simp; done) | (simp; omega))⟩
  have U5 := kwUp_succ U4 kws_4 (by rw [ktl_4, Bool.beq_comm]; exact e4)
  rcases e5 : (s.toList == ([102, 105, 108, 108] : List UInt8)) with _ | _
  case true =>
    have H := Lib.hid (kwB_yes (s := s) 5 kws_5 (by rw [ktl_5, Bool.beq_comm]; exact e5))
    clear U5
    rw [H.out]
    clear H
    go_enter Try.func38, Try.ntmps38
    go_wp2_with fail
    go_ret
    exact ⟨rfl, by repeat' (first | with_reducible assumption | with_reducible exact Below.refl _ _ | (with_reducible refine Below.setCell ?_ ?_ _) | (with_reducible refine Below.alloc ?_ ?_ _) | (with_reducible refine Below.drew ?_) | (with_reducible refine below_dr ?_ _) | (with_reducible refine Below.trans ?_ (Below.mono (by with_reducible assumption) ?_)) | omega | (simp; done) | (simp; omega))⟩
  have U6 := kwUp_succ U5 kws_5 (by rw [ktl_5, Bool.beq_comm]; exact e5)
  rcases e6 : (s.toList == ([103, 108, 121, 112, 104] : List UInt8)) with _ | _
  case true =>
    have H := Lib.hid (kwB_yes (s := s) 6 kws_6 (by rw [ktl_6, Bool.beq_comm]; exact e6))
    clear U6
    rw [H.out]
    clear H
    go_enter Try.func38, Try.ntmps38
    go_wp2_with fail
    go_ret
    exact ⟨rfl, by repeat' (first | with_reducible assumption | with_reducible exact Below.refl _ _ | (with_reducible refine Below.setCell ?_ ?_ _) | (with_reducible refine Below.alloc ?_ ?_ _) | (with_reducible refine Below.drew ?_) | (with_reducible refine below_dr ?_ _) | (with_reducible refine Below.trans ?_ (Below.mono (by with_reducible assumption) ?_)) | omega | (simp; done) | (simp; omega))⟩
  have U7 := kwUp_succ U6 kws_6 (by rw [ktl_6, Bool.beq_comm]; exact e6)
  rcases e7 : (s.toList == ([108, 101, 116] : List UInt8)) with _ | _
  case true =>
    have H := Lib.hid (kwB_yes (s := s) 7 kws_7 (by rw [ktl_7, Bool.beq_comm]; exact e7))
    clear U7
    rw [H.out]
    clear H
    go_enter Try.func38, Try.ntmps38
    go_wp2_with fail
    go_ret
    exact ⟨rfl, by repeat' (first | with_reducible assumption | with_reducible exact Below.refl _ _ | (with_reducible refine Below.setCell ?_ ?_ _) | (with_reducible refine Below.alloc ?_ ?_ _) | (with_reducible refine Below.drew ?_) | (with_reducible refine below_dr ?_ _) | (with_reducible refine Below.trans ?_ (Below.mono (by with_reducible assumption) ?_)) | omega | (simp; done) | (simp; omega))⟩
  have U8 := kwUp_succ U7 kws_7 (by rw [ktl_7, Bool.beq_comm]; exact e7)
  rcases e8 : (s.toList == ([112, 97, 114, 116] : List UInt8)) with _ | _
  case true =>
    have H := Lib.hid (kwB_yes (s := s) 8 kws_8 (by rw [ktl_8, Bool.beq_comm]; exact e8))
    clear U8
    rw [H.out]
    clear H
    go_enter Try.func38, Try.ntmps38
    go_wp2_with fail
    go_ret
    exact ⟨rfl, by repeat' (first | with_reducible assumption | with_reducible exact Below.refl _ _ | (with_reducible refine Below.setCell ?_ ?_ _) | (with_reducible refine Below.alloc ?_ ?_ _) | (with_reducible refine Below.drew ?_) | (with_reducible refine below_dr ?_ _) | (with_reducible refine Below.trans ?_ (Below.mono (by with_reducible assumption) ?_)) | omega | (simp; done) | (simp; omega))⟩
  have U9 := kwUp_succ U8 kws_8 (by rw [ktl_8, Bool.beq_comm]; exact e8)
  rcases e9 : (s.toList == ([112, 97, 116, 104] : List UInt8)) with _ | _
  case true =>
    have H := Lib.hid (kwB_yes (s := s) 9 kws_9 (by rw [ktl_9, Bool.beq_comm]; exact e9))
    clear U9
    rw [H.out]
    clear H
    go_enter Try.func38, Try.ntmps38
    go_wp2_with fail
    go_ret
    exact ⟨rfl, by repeat' (first | with_reducible assumption | with_reducible exact Below.refl _ _ | (with_reducible refine Below.setCell ?_ ?_ _) | (with_reducible refine Below.alloc ?_ ?_ _) | (with_reducible refine Below.drew ?_) | (with_reducible refine below_dr ?_ _) | (with_reducible refine Below.trans ?_ (Below.mono (by with_reducible assumption) ?_)) | omega | (simp; done) | (simp; omega))⟩
  have U10 := kwUp_succ U9 kws_9 (by rw [ktl_9, Bool.beq_comm]; exact e9)
  rcases e10 : (s.toList == ([112, 101, 110] : List UInt8)) with _ | _
  case true =>
    have H := Lib.hid (kwB_yes (s := s) 10 kws_10 (by rw [ktl_10, Bool.beq_comm]; exact e10))
    clear U10
    rw [H.out]
    clear H
    go_enter Try.func38, Try.ntmps38
    go_wp2_with fail
    go_ret
    exact ⟨rfl, by repeat' (first | with_reducible assumption | with_reducible exact Below.refl _ _ | (with_reducible refine Below.setCell ?_ ?_ _) | (with_reducible refine Below.alloc ?_ ?_ _) | (with_reducible refine Below.drew ?_) | (with_reducible refine below_dr ?_ _) | (with_reducible refine Below.trans ?_ (Below.mono (by with_reducible assumption) ?_)) | omega | (simp; done) | (simp; omega))⟩
  have U11 := kwUp_succ U10 kws_10 (by rw [ktl_10, Bool.beq_comm]; exact e10)
  rcases e11 : (s.toList == ([114, 111, 117, 110, 100] : List UInt8)) with _ | _
  case true =>
    have H := Lib.hid (kwB_yes (s := s) 11 kws_11 (by rw [ktl_11, Bool.beq_comm]; exact e11))
    clear U11
    rw [H.out]
    clear H
    go_enter Try.func38, Try.ntmps38
    go_wp2_with fail
    go_ret
    exact ⟨rfl, by repeat' (first | with_reducible assumption | with_reducible exact Below.refl _ _ | (with_reducible refine Below.setCell ?_ ?_ _) | (with_reducible refine Below.alloc ?_ ?_ _) | (with_reducible refine Below.drew ?_) | (with_reducible refine below_dr ?_ _) | (with_reducible refine Below.trans ?_ (Below.mono (by with_reducible assumption) ?_)) | omega | (simp; done) | (simp; omega))⟩
  have U12 := kwUp_succ U11 kws_11 (by rw [ktl_11, Bool.beq_comm]; exact e11)
  rcases e12 : (s.toList == ([115, 116, 114, 111, 107, 101] : List UInt8)) with _ | _
  case true =>
    have H := Lib.hid (kwB_yes (s := s) 12 kws_12 (by rw [ktl_12, Bool.beq_comm]; exact e12))
    clear U12
    rw [H.out]
    clear H
    go_enter Try.func38, Try.ntmps38
    go_wp2_with fail
    go_ret
    exact ⟨rfl, by repeat' (first | with_reducible assumption | with_reducible exact Below.refl _ _ | (with_reducible refine Below.setCell ?_ ?_ _) | (with_reducible refine Below.alloc ?_ ?_ _) | (with_reducible refine Below.drew ?_) | (with_reducible refine below_dr ?_ _) | (with_reducible refine Below.trans ?_ (Below.mono (by with_reducible assumption) ?_)) | omega | (simp; done) | (simp; omega))⟩
  have U13 := kwUp_succ U12 kws_12 (by rw [ktl_12, Bool.beq_comm]; exact e12)
  rcases e13 : (s.toList == ([119, 105, 116, 104] : List UInt8)) with _ | _
  case true =>
    have H := Lib.hid (kwB_yes (s := s) 13 kws_13 (by rw [ktl_13, Bool.beq_comm]; exact e13))
    clear U13
    rw [H.out]
    clear H
    go_enter Try.func38, Try.ntmps38
    go_wp2_with fail
    go_ret
    exact ⟨rfl, by repeat' (first | with_reducible assumption | with_reducible exact Below.refl _ _ | (with_reducible refine Below.setCell ?_ ?_ _) | (with_reducible refine Below.alloc ?_ ?_ _) | (with_reducible refine Below.drew ?_) | (with_reducible refine below_dr ?_ _) | (with_reducible refine Below.trans ?_ (Below.mono (by with_reducible assumption) ?_)) | omega | (simp; done) | (simp; omega))⟩
  have U14 := kwUp_succ U13 kws_13 (by rw [ktl_13, Bool.beq_comm]; exact e13)
  have H := Lib.hid (kwB_no U14)
  clear U0 U1 U2 U3 U4 U5 U6 U7 U8 U9 U10 U11 U12 U13 U14
  rw [H.out]
  clear H
  go_enter Try.func38, Try.ntmps38
  go_wp2_with fail
  go_ret
  exact ⟨rfl, by repeat' (first | with_reducible assumption | with_reducible exact Below.refl _ _ | (with_reducible refine Below.setCell ?_ ?_ _) | (with_reducible refine Below.alloc ?_ ?_ _) | (with_reducible refine Below.drew ?_) | (with_reducible refine below_dr ?_ _) | (with_reducible refine Below.trans ?_ (Below.mono (by with_reducible assumption) ?_)) | omega | (simp; done) | (simp; omega))⟩
theorem kws_cells : kws.map Value.string = [.string (⟨#[97, 110, 99, 104, 111, 114]⟩ : ByteArray), .string (⟨#[98, 111, 120]⟩ : ByteArray), .string (⟨#[99, 121, 99, 108, 101]⟩ : ByteArray), .string (⟨#[101, 110, 100]⟩ : ByteArray), .string (⟨#[101, 114, 97, 115, 101]⟩ : ByteArray), .string (⟨#[102, 105, 108, 108]⟩ : ByteArray), .string (⟨#[103, 108, 121, 112, 104]⟩ : ByteArray), .string (⟨#[108, 101, 116]⟩ : ByteArray), .string (⟨#[112, 97, 114, 116]⟩ : ByteArray), .string (⟨#[112, 97, 116, 104]⟩ : ByteArray), .string (⟨#[112, 101, 110]⟩ : ByteArray), .string (⟨#[114, 111, 117, 110, 100]⟩ : ByteArray), .string (⟨#[115, 116, 114, 111, 107, 101]⟩ : ByteArray), .string (⟨#[119, 105, 116, 104]⟩ : ByteArray)] := rfl
set_option maxHeartbeats 3200000 in
theorem specIsKeyword_any (s : ByteArray) (w : World) :
    Calls Try.prog 46 #[.string s] w fun e w' => e = .returned (.bool (kwB s)) ∧ Below w.heap.size w w' := by
  go_enter Try.func46, Try.ntmps46
  go_wp2_with fail
  generalize hW : (w.alloc (.cells #[.string (⟨#[97, 110, 99, 104, 111, 114]⟩ : ByteArray), .string (⟨#[98, 111, 120]⟩ : ByteArray), .string (⟨#[99, 121, 99, 108, 101]⟩ : ByteArray), .string (⟨#[101, 110, 100]⟩ : ByteArray), .string (⟨#[101, 114, 97, 115, 101]⟩ : ByteArray), .string (⟨#[102, 105, 108, 108]⟩ : ByteArray), .string (⟨#[103, 108, 121, 112, 104]⟩ : ByteArray), .string (⟨#[108, 101, 116]⟩ : ByteArray), .string (⟨#[112, 97, 114, 116]⟩ : ByteArray), .string (⟨#[112, 97, 116, 104]⟩ : ByteArray), .string (⟨#[112, 101, 110]⟩ : ByteArray), .string (⟨#[114, 111, 117, 110, 100]⟩ : ByteArray), .string (⟨#[115, 116, 114, 111, 107, 101]⟩ : ByteArray), .string (⟨#[119, 105, 116, 104]⟩ : ByteArray)] 9)) = W0
  have at0 : AtL w.heap.size [.string (⟨#[97, 110, 99, 104, 111, 114]⟩ : ByteArray), .string (⟨#[98, 111, 120]⟩ : ByteArray), .string (⟨#[99, 121, 99, 108, 101]⟩ : ByteArray), .string (⟨#[101, 110, 100]⟩ : ByteArray), .string (⟨#[101, 114, 97, 115, 101]⟩ : ByteArray), .string (⟨#[102, 105, 108, 108]⟩ : ByteArray), .string (⟨#[103, 108, 121, 112, 104]⟩ : ByteArray), .string (⟨#[108, 101, 116]⟩ : ByteArray), .string (⟨#[112, 97, 114, 116]⟩ : ByteArray), .string (⟨#[112, 97, 116, 104]⟩ : ByteArray), .string (⟨#[112, 101, 110]⟩ : ByteArray), .string (⟨#[114, 111, 117, 110, 100]⟩ : ByteArray), .string (⟨#[115, 116, 114, 111, 107, 101]⟩ : ByteArray), .string (⟨#[119, 105, 116, 104]⟩ : ByteArray)] W0 := by rw [← hW]; exact AtL.new w _ _
  have g0 : Below w.heap.size w W0 := by rw [← hW]; repeat' (first | with_reducible assumption | with_reducible exact Below.refl _ _ | (with_reducible refine Below.setCell ?_ ?_ _) | (with_reducible refine Below.alloc ?_ ?_ _) | (with_reducible refine Below.drew ?_) | (with_reducible refine below_dr ?_ _) | (with_reducible refine Below.trans ?_ (Below.mono (by with_reducible assumption) ?_)) | omega | (simp; done) | (simp; omega))
  clear hW
  have cs : ∀ (k : Nat) (x : ByteArray), kws[k]? = some x → W0.cell? ⟨w.heap.size, k, none⟩ = some (.string x) := fun k x h => at0.cell k (by rw [← kws_cells, List.getElem?_map, h]; rfl)
  clear at0
  go_loopw [4] (fun i wr => ∃ k q : Nat, k ≤ 14 ∧ i = .int .i64 k ∧ kwUp s k = true ∧ wr = W0.drewN q) (fun i _ => 14 - (intOf i).toNat)
  case atStart => exact ⟨0, 0, Nat.zero_le _, rfl, kwUp_zero _, rfl⟩
  case round =>
    obtain ⟨k, q, hk, rfl, hup, rfl⟩ := hrel
    have HUP := Lib.hid hup
    clear hup
    by_cases hlt : k < 14
    · obtain ⟨x, ha⟩ : ∃ a, kws[k]? = some a := ⟨kws[k]'(by rw [kws_len]; omega), List.getElem?_eq_getElem (by rw [kws_len]; omega)⟩
      have c0 := cs k x ha
      have HA := Lib.hid ha
      clear ha cs
      have hki : (k : Int) < 14 := by omega
      rcases e : (x.toList == s.toList) with _ | _
      · have HE := Lib.hid e
        go_wp2_with fail
        go_roundw
        case rel => exact ⟨k + 1, q, by omega, by go_num, kwUp_succ HUP.out HA.out HE.out, rfl⟩
        case measure => simp [intOf]; omega
      · have HE := Lib.hid e
        go_wp2_with fail
        go_ret
        exact ⟨ret_bool (kwB_yes _ HA.out HE.out).symm, by repeat' (first | with_reducible assumption | with_reducible exact Below.refl _ _ | (with_reducible refine Below.setCell ?_ ?_ _) | (with_reducible refine Below.alloc ?_ ?_ _) | (with_reducible refine Below.drew ?_) | (with_reducible refine below_dr ?_ _) | (with_reducible refine Below.trans ?_ (Below.mono (by with_reducible assumption) ?_)) | omega | (simp; done) | (simp; omega))⟩
    · obtain rfl : k = 14 := by omega
      clear cs
      go_wp2_with fail
      go_ret
      exact ⟨ret_bool (kwB_no HUP.out).symm, by repeat' (first | with_reducible assumption | with_reducible exact Below.refl _ _ | (with_reducible refine Below.setCell ?_ ?_ _) | (with_reducible refine Below.alloc ?_ ?_ _) | (with_reducible refine Below.drew ?_) | (with_reducible refine below_dr ?_ _) | (with_reducible refine Below.trans ?_ (Below.mono (by with_reducible assumption) ?_)) | omega | (simp; done) | (simp; omega))⟩
end Go.Proofs.Ytjpadamlfhceaaa
