/- Walks: letters, digits, and which strings are names, on both sides. -/
import Derived.Test.YtonoldjhfhngfaaDoorG
namespace Go.Proofs.YtonoldjhfhngfaaDoor
open Go.RowKit

def smallB (c : Int) : Bool := decide (97 ≤ c ∧ c ≤ 122)
def digitB (c : Int) : Bool := decide (48 ≤ c ∧ c ≤ 57)


set_option maxHeartbeats 400000 in
theorem l01Small_any (c : Int) (w : World) (h0 : 0 ≤ c) (h1 : c ≤ 255) :
    Calls Tryd.prog 56 #[.int .u8 c] w fun e w' => e = .returned (.bool (smallB c)) ∧ w = w' := by
  by_cases a : 97 ≤ c
  · by_cases b : c ≤ 122
    · have hr : smallB c = true := by simp [smallB, a, b]
      rw [hr]
      go_enter Tryd.func56, Tryd.ntmps56
      go_wp2
      go_ret
      exact ⟨rfl, rfl⟩
    · have hr : smallB c = false := by simp [smallB]; omega
      have b' : 122 < c := by omega
      rw [hr]
      go_enter Tryd.func56, Tryd.ntmps56
      go_wp2
      go_ret
      exact ⟨rfl, rfl⟩
  · have hr : smallB c = false := by simp [smallB]; omega
    have a' : c < 97 := by omega
    rw [hr]
    go_enter Tryd.func56, Tryd.ntmps56
    go_wp2
    go_ret
    exact ⟨rfl, rfl⟩
theorem l01Small_yes (c : Int) (w : World) (h0 : 0 ≤ c) (h1 : c ≤ 255) (h : smallB c = true) :
    Calls Tryd.prog 56 #[.int .u8 c] w fun e w' => e = .returned (.bool true) ∧ w = w' := by
  rw [← h]; exact l01Small_any c w h0 h1
theorem l01Small_no (c : Int) (w : World) (h0 : 0 ≤ c) (h1 : c ≤ 255) (h : smallB c = false) :
    Calls Tryd.prog 56 #[.int .u8 c] w fun e w' => e = .returned (.bool false) ∧ w = w' := by
  rw [← h]; exact l01Small_any c w h0 h1


set_option maxHeartbeats 400000 in
theorem isSmallLetter_any (c : Int) (w : World) (h0 : 0 ≤ c) (h1 : c ≤ 255) :
    Calls Tryd.prog 60 #[.int .u8 c] w fun e w' => e = .returned (.bool (smallB c)) ∧ w = w' := by
  by_cases a : 97 ≤ c
  · by_cases b : c ≤ 122
    · have hr : smallB c = true := by simp [smallB, a, b]
      rw [hr]
      go_enter Tryd.func60, Tryd.ntmps60
      go_wp2
      go_ret
      exact ⟨rfl, rfl⟩
    · have hr : smallB c = false := by simp [smallB]; omega
      have b' : 122 < c := by omega
      rw [hr]
      go_enter Tryd.func60, Tryd.ntmps60
      go_wp2
      go_ret
      exact ⟨rfl, rfl⟩
  · have hr : smallB c = false := by simp [smallB]; omega
    have a' : c < 97 := by omega
    rw [hr]
    go_enter Tryd.func60, Tryd.ntmps60
    go_wp2
    go_ret
    exact ⟨rfl, rfl⟩
theorem isSmallLetter_yes (c : Int) (w : World) (h0 : 0 ≤ c) (h1 : c ≤ 255) (h : smallB c = true) :
    Calls Tryd.prog 60 #[.int .u8 c] w fun e w' => e = .returned (.bool true) ∧ w = w' := by
  rw [← h]; exact isSmallLetter_any c w h0 h1
theorem isSmallLetter_no (c : Int) (w : World) (h0 : 0 ≤ c) (h1 : c ≤ 255) (h : smallB c = false) :
    Calls Tryd.prog 60 #[.int .u8 c] w fun e w' => e = .returned (.bool false) ∧ w = w' := by
  rw [← h]; exact isSmallLetter_any c w h0 h1


set_option maxHeartbeats 400000 in
theorem l01Digit_any (c : Int) (w : World) (h0 : 0 ≤ c) (h1 : c ≤ 255) :
    Calls Tryd.prog 57 #[.int .u8 c] w fun e w' => e = .returned (.bool (digitB c)) ∧ w = w' := by
  by_cases a : 48 ≤ c
  · by_cases b : c ≤ 57
    · have hr : digitB c = true := by simp [digitB, a, b]
      rw [hr]
      go_enter Tryd.func57, Tryd.ntmps57
      go_wp2
      go_ret
      exact ⟨rfl, rfl⟩
    · have hr : digitB c = false := by simp [digitB]; omega
      have b' : 57 < c := by omega
      rw [hr]
      go_enter Tryd.func57, Tryd.ntmps57
      go_wp2
      go_ret
      exact ⟨rfl, rfl⟩
  · have hr : digitB c = false := by simp [digitB]; omega
    have a' : c < 48 := by omega
    rw [hr]
    go_enter Tryd.func57, Tryd.ntmps57
    go_wp2
    go_ret
    exact ⟨rfl, rfl⟩
theorem l01Digit_yes (c : Int) (w : World) (h0 : 0 ≤ c) (h1 : c ≤ 255) (h : digitB c = true) :
    Calls Tryd.prog 57 #[.int .u8 c] w fun e w' => e = .returned (.bool true) ∧ w = w' := by
  rw [← h]; exact l01Digit_any c w h0 h1
theorem l01Digit_no (c : Int) (w : World) (h0 : 0 ≤ c) (h1 : c ≤ 255) (h : digitB c = false) :
    Calls Tryd.prog 57 #[.int .u8 c] w fun e w' => e = .returned (.bool false) ∧ w = w' := by
  rw [← h]; exact l01Digit_any c w h0 h1


set_option maxHeartbeats 400000 in
theorem isDigit_any (c : Int) (w : World) (h0 : 0 ≤ c) (h1 : c ≤ 255) :
    Calls Tryd.prog 61 #[.int .u8 c] w fun e w' => e = .returned (.bool (digitB c)) ∧ w = w' := by
  by_cases a : 48 ≤ c
  · by_cases b : c ≤ 57
    · have hr : digitB c = true := by simp [digitB, a, b]
      rw [hr]
      go_enter Tryd.func61, Tryd.ntmps61
      go_wp2
      go_ret
      exact ⟨rfl, rfl⟩
    · have hr : digitB c = false := by simp [digitB]; omega
      have b' : 57 < c := by omega
      rw [hr]
      go_enter Tryd.func61, Tryd.ntmps61
      go_wp2
      go_ret
      exact ⟨rfl, rfl⟩
  · have hr : digitB c = false := by simp [digitB]; omega
    have a' : c < 48 := by omega
    rw [hr]
    go_enter Tryd.func61, Tryd.ntmps61
    go_wp2
    go_ret
    exact ⟨rfl, rfl⟩
theorem isDigit_yes (c : Int) (w : World) (h0 : 0 ≤ c) (h1 : c ≤ 255) (h : digitB c = true) :
    Calls Tryd.prog 61 #[.int .u8 c] w fun e w' => e = .returned (.bool true) ∧ w = w' := by
  rw [← h]; exact isDigit_any c w h0 h1
theorem isDigit_no (c : Int) (w : World) (h0 : 0 ≤ c) (h1 : c ≤ 255) (h : digitB c = false) :
    Calls Tryd.prog 61 #[.int .u8 c] w fun e w' => e = .returned (.bool false) ∧ w = w' := by
  rw [← h]; exact isDigit_any c w h0 h1


def okU (c : UInt8) : Bool := smallB c.toNat || digitB c.toNat || c.toNat == 46
def nameB (l : List UInt8) : Bool := decide (1 ≤ l.length ∧ l.length ≤ 12) && smallB (l.headD 0).toNat && l.all okU

theorem len_eq (s : ByteArray) : s.data.toList.length = s.size := by rw [Array.length_toList]; rfl
theorem take_snoc (s : ByteArray) (k : Nat) (h : k < s.size) : s.data.toList.take (k + 1) = s.data.toList.take k ++ [s[k]] := by
  rw [List.take_succ_eq_append_getElem (by simpa using h)]; rfl
theorem all_snoc (s : ByteArray) (k : Nat) (h : k < s.size) (ho : okU s[k] = true) (ha : (s.data.toList.take k).all okU = true) : (s.data.toList.take (k + 1)).all okU = true := by
  rw [take_snoc s k h, List.all_append, ha]; simp [ho]
theorem head_at (s : ByteArray) (h : 0 < s.size) : s.data.toList.headD 0 = s[0] := by
  have h' : 0 < s.data.toList.length := by rw [len_eq]; exact h
  cases hl : s.data.toList with
  | nil => rw [hl] at h'; simp at h'
  | cons c r =>
    have : s[0] = s.data.toList[0] := rfl
    rw [this]; simp [hl]
theorem name_yes (s : ByteArray) (h : 0 < s.size) (h12 : s.size ≤ 12) (hs : smallB s[0].toNat = true) (ha : (s.data.toList.take s.size).all okU = true) : nameB s.data.toList = true := by
  have e := len_eq s
  unfold nameB
  rw [head_at s h, hs, e]
  rw [List.take_of_length_le (by omega)] at ha
  rw [ha]; simp; omega
theorem name_len (s : ByteArray) (h : s.size = 0 ∨ 12 < s.size) : nameB s.data.toList = false := by
  have e := len_eq s
  have : decide (1 ≤ s.data.toList.length ∧ s.data.toList.length ≤ 12) = false := by rw [e]; simp; omega
  unfold nameB; rw [this]; rfl
theorem name_first (s : ByteArray) (h : 0 < s.size) (hs : smallB s[0].toNat = false) : nameB s.data.toList = false := by
  unfold nameB; rw [head_at s h, hs]; simp
theorem name_bad (s : ByteArray) (k : Nat) (h : k < s.size) (hb : okU s[k] = false) : nameB s.data.toList = false := by
  have : s.data.toList.all okU = false := by
    rw [List.all_eq_false]
    exact ⟨s[k], by have : s[k] = s.data.toList[k]'(by rw [len_eq]; exact h) := rfl
                    rw [this]; exact List.getElem_mem _, by simp [hb]⟩
  unfold nameB; rw [this]; simp
theorem all_one (s : ByteArray) (h : 0 < s.size) (hs : smallB s[0].toNat = true) : (s.data.toList.take 1).all okU = true := by
  rw [take_snoc s 0 h]; simp [okU, hs]


set_option maxHeartbeats 800000 in
theorem specIsName_any (s : ByteArray) (w : World) (hsz : s.size ≤ 9223372036854775807) :
    Calls Tryd.prog 35 #[.string s] w fun e w' => e = .returned (.bool (nameB s.data.toList)) ∧ w = w' := by
  by_cases e0 : s.size = 0
  · have H := Lib.hid (name_len s (Or.inl e0))
    have e1 : s.data.toList = [] := by
      have : s.data.toList.length = 0 := by rw [len_eq]; exact e0
      exact List.eq_nil_of_length_eq_zero this
    have e1' : s.toList = [] := by rw [Lib.toList_data]; exact e1
    have e2 : s.toList.isEmpty = true := by rw [e1']; rfl
    go_enter Tryd.func35, Tryd.ntmps35
    go_wp2

    go_ret
    exact ⟨ret_bool H.out.symm, rfl⟩
  · have p0 : 0 < s.size := by omega
    have e1' : ¬ s.toList = [] := by
      intro h
      rw [Lib.toList_data] at h
      have h2 : s.data.toList.length = 0 := by rw [h]; rfl
      rw [len_eq] at h2
      omega
    have e2 : s.toList.isEmpty = false := by simpa using e1'
    by_cases h12 : 12 < s.size
    · have H := Lib.hid (name_len s (Or.inr h12))
      go_enter Tryd.func35, Tryd.ntmps35
      go_wp2
      go_ret
      exact ⟨ret_bool H.out.symm, rfl⟩
    · have b0 : (s[0].toNat : Int) ≤ 255 := by have := s[0].toNat_lt; omega
      by_cases c0 : smallB s[0].toNat = true
      · have A1 := Lib.hid (all_one s p0 c0)
        have C0 := Lib.hid c0
        clear c0
        go_enter Tryd.func35, Tryd.ntmps35
        go_wp2_with (go_at_call 56; refine (l01Small_yes _ _ (by omega) (by omega) C0.out).mono ?_; rintro e w' ⟨rfl, rfl⟩)
        go_loop [3] (fun i => ∃ k : Nat, k ≤ s.size ∧ i = .int .i64 k ∧ Hid ((s.data.toList.take k).all okU = true)) (fun i => s.size - (intOf i).toNat)
        case atStart => exact ⟨0, by omega, rfl, rfl⟩
        case round =>
          obtain ⟨k, hk, rfl, ha⟩ := hrel
          by_cases hlt : k < s.size
          · have hb : (s[k].toNat : Int) ≤ 255 := by have := s[k].toNat_lt; omega
            by_cases c1 : smallB s[k].toNat = true
            · have ha2 : Hid ((s.data.toList.take (k + 1)).all okU = true) := all_snoc s k hlt (by simp [okU, c1]) ha
              have C1 := Lib.hid c1
              clear c1
              go_wp2_with (go_at_call 56; refine (l01Small_yes _ _ (by omega) (by omega) C1.out).mono ?_; rintro e w' ⟨rfl, rfl⟩)
              go_round
              case rel => exact ⟨k + 1, by omega, by go_num, ha2⟩
              case measure => simp [intOf]; omega
            · have c1' : smallB s[k].toNat = false := by simpa using c1
              by_cases c2 : digitB s[k].toNat = true
              · have ha2 : Hid ((s.data.toList.take (k + 1)).all okU = true) := all_snoc s k hlt (by simp [okU, c2]) ha
                have C1 := Lib.hid c1'
                have C2 := Lib.hid c2
                clear c1 c1' c2
                go_wp2_with (first | (go_at_call 56; refine (l01Small_no _ _ (by omega) (by omega) C1.out).mono ?_; rintro e w' ⟨rfl, rfl⟩) | (go_at_call 57; refine (l01Digit_yes _ _ (by omega) (by omega) C2.out).mono ?_; rintro e w' ⟨rfl, rfl⟩))
                go_round
                case rel => exact ⟨k + 1, by omega, by go_num, ha2⟩
                case measure => simp [intOf]; omega
              · have c2' : digitB s[k].toNat = false := by simpa using c2
                by_cases c3 : s[k].toNat = 46
                · have ha2 : Hid ((s.data.toList.take (k + 1)).all okU = true) := all_snoc s k hlt (by simp [okU, c3]) ha
                  have C1 := Lib.hid c1'
                  have C2 := Lib.hid c2'
                  have c4 : ((s[k].toNat : Int) != 46) = false := by rw [c3]; rfl
                  clear c1 c1' c2 c2' c3
                  go_wp2_with (first | (go_at_call 56; refine (l01Small_no _ _ (by omega) (by omega) C1.out).mono ?_; rintro e w' ⟨rfl, rfl⟩) | (go_at_call 57; refine (l01Digit_no _ _ (by omega) (by omega) C2.out).mono ?_; rintro e w' ⟨rfl, rfl⟩))
                  go_round
                  case rel => exact ⟨k + 1, by omega, by go_num, ha2⟩
                  case measure => simp [intOf]; omega
                · have H := Lib.hid (name_bad s k hlt (by simp [okU, c1', c2', c3]))
                  have C1 := Lib.hid c1'
                  have C2 := Lib.hid c2'
                  have c4 : ((s[k].toNat : Int) != 46) = true := by rw [bne_iff_ne]; omega
                  clear c1 c1' c2 c2' c3
                  go_wp2_with (first | (go_at_call 56; refine (l01Small_no _ _ (by omega) (by omega) C1.out).mono ?_; rintro e w' ⟨rfl, rfl⟩) | (go_at_call 57; refine (l01Digit_no _ _ (by omega) (by omega) C2.out).mono ?_; rintro e w' ⟨rfl, rfl⟩))
                  go_ret
                  exact ⟨ret_bool H.out.symm, rfl⟩
          · obtain rfl : k = s.size := by omega
            have H := Lib.hid (name_yes s p0 (by omega) C0.out ha)
            go_wp2
            go_ret
            exact ⟨ret_bool H.out.symm, rfl⟩
      · have c0' : smallB s[0].toNat = false := by simpa using c0
        have H := Lib.hid (name_first s p0 c0')
        have C0 := Lib.hid c0'
        clear c0 c0'
        go_enter Tryd.func35, Tryd.ntmps35
        go_wp2_with (go_at_call 56; refine (l01Small_no _ _ (by omega) (by omega) C0.out).mono ?_; rintro e w' ⟨rfl, rfl⟩)
        go_ret
        exact ⟨ret_bool H.out.symm, rfl⟩


set_option maxHeartbeats 800000 in
theorem implIsName_any (s : ByteArray) (w : World) (hsz : s.size ≤ 9223372036854775807) :
    Calls Tryd.prog 40 #[.string s] w fun e w' => e = .returned (.bool (nameB s.data.toList)) ∧ w = w' := by
  by_cases e0 : s.size = 0
  · have H := Lib.hid (name_len s (Or.inl e0))
    have e1 : s.data.toList = [] := by
      have : s.data.toList.length = 0 := by rw [len_eq]; exact e0
      exact List.eq_nil_of_length_eq_zero this
    have e1' : s.toList = [] := by rw [Lib.toList_data]; exact e1
    have e2 : s.toList.isEmpty = true := by rw [e1']; rfl
    go_enter Tryd.func40, Tryd.ntmps40
    go_wp2

    go_ret
    exact ⟨ret_bool H.out.symm, rfl⟩
  · have p0 : 0 < s.size := by omega
    have e1' : ¬ s.toList = [] := by
      intro h
      rw [Lib.toList_data] at h
      have h2 : s.data.toList.length = 0 := by rw [h]; rfl
      rw [len_eq] at h2
      omega
    have e2 : s.toList.isEmpty = false := by simpa using e1'
    by_cases h12 : 12 < s.size
    · have H := Lib.hid (name_len s (Or.inr h12))
      go_enter Tryd.func40, Tryd.ntmps40
      go_wp2
      go_ret
      exact ⟨ret_bool H.out.symm, rfl⟩
    · have b0 : (s[0].toNat : Int) ≤ 255 := by have := s[0].toNat_lt; omega
      by_cases c0 : smallB s[0].toNat = true
      · have A1 := Lib.hid (all_one s p0 c0)
        have C0 := Lib.hid c0
        clear c0
        go_enter Tryd.func40, Tryd.ntmps40
        go_wp2_with (go_at_call 60; refine (isSmallLetter_yes _ _ (by omega) (by omega) C0.out).mono ?_; rintro e w' ⟨rfl, rfl⟩)
        go_loop [3] (fun i => ∃ k : Nat, 1 ≤ k ∧ k ≤ s.size ∧ i = .int .i64 k ∧ Hid ((s.data.toList.take k).all okU = true)) (fun i => s.size - (intOf i).toNat)
        case atStart => exact ⟨1, by omega, by omega, rfl, A1⟩
        case round =>
          obtain ⟨k, hk1, hk, rfl, ha⟩ := hrel
          by_cases hlt : k < s.size
          · have hb : (s[k].toNat : Int) ≤ 255 := by have := s[k].toNat_lt; omega
            by_cases c1 : smallB s[k].toNat = true
            · have ha2 : Hid ((s.data.toList.take (k + 1)).all okU = true) := all_snoc s k hlt (by simp [okU, c1]) ha
              have C1 := Lib.hid c1
              clear c1
              go_wp2_with (go_at_call 60; refine (isSmallLetter_yes _ _ (by omega) (by omega) C1.out).mono ?_; rintro e w' ⟨rfl, rfl⟩)
              go_round
              case rel => exact ⟨k + 1, by omega, by omega, by go_num, ha2⟩
              case measure => simp [intOf]; omega
            · have c1' : smallB s[k].toNat = false := by simpa using c1
              by_cases c2 : digitB s[k].toNat = true
              · have ha2 : Hid ((s.data.toList.take (k + 1)).all okU = true) := all_snoc s k hlt (by simp [okU, c2]) ha
                have C1 := Lib.hid c1'
                have C2 := Lib.hid c2
                clear c1 c1' c2
                go_wp2_with (first | (go_at_call 60; refine (isSmallLetter_no _ _ (by omega) (by omega) C1.out).mono ?_; rintro e w' ⟨rfl, rfl⟩) | (go_at_call 61; refine (isDigit_yes _ _ (by omega) (by omega) C2.out).mono ?_; rintro e w' ⟨rfl, rfl⟩))
                go_round
                case rel => exact ⟨k + 1, by omega, by omega, by go_num, ha2⟩
                case measure => simp [intOf]; omega
              · have c2' : digitB s[k].toNat = false := by simpa using c2
                by_cases c3 : s[k].toNat = 46
                · have ha2 : Hid ((s.data.toList.take (k + 1)).all okU = true) := all_snoc s k hlt (by simp [okU, c3]) ha
                  have C1 := Lib.hid c1'
                  have C2 := Lib.hid c2'
                  have c4 : ((s[k].toNat : Int) != 46) = false := by rw [c3]; rfl
                  clear c1 c1' c2 c2' c3
                  go_wp2_with (first | (go_at_call 60; refine (isSmallLetter_no _ _ (by omega) (by omega) C1.out).mono ?_; rintro e w' ⟨rfl, rfl⟩) | (go_at_call 61; refine (isDigit_no _ _ (by omega) (by omega) C2.out).mono ?_; rintro e w' ⟨rfl, rfl⟩))
                  go_round
                  case rel => exact ⟨k + 1, by omega, by omega, by go_num, ha2⟩
                  case measure => simp [intOf]; omega
                · have H := Lib.hid (name_bad s k hlt (by simp [okU, c1', c2', c3]))
                  have C1 := Lib.hid c1'
                  have C2 := Lib.hid c2'
                  have c4 : ((s[k].toNat : Int) != 46) = true := by rw [bne_iff_ne]; omega
                  clear c1 c1' c2 c2' c3
                  go_wp2_with (first | (go_at_call 60; refine (isSmallLetter_no _ _ (by omega) (by omega) C1.out).mono ?_; rintro e w' ⟨rfl, rfl⟩) | (go_at_call 61; refine (isDigit_no _ _ (by omega) (by omega) C2.out).mono ?_; rintro e w' ⟨rfl, rfl⟩))
                  go_ret
                  exact ⟨ret_bool H.out.symm, rfl⟩
          · obtain rfl : k = s.size := by omega
            have H := Lib.hid (name_yes s p0 (by omega) C0.out ha)
            go_wp2
            go_ret
            exact ⟨ret_bool H.out.symm, rfl⟩
      · have c0' : smallB s[0].toNat = false := by simpa using c0
        have H := Lib.hid (name_first s p0 c0')
        have C0 := Lib.hid c0'
        clear c0 c0'
        go_enter Tryd.func40, Tryd.ntmps40
        go_wp2_with (go_at_call 60; refine (isSmallLetter_no _ _ (by omega) (by omega) C0.out).mono ?_; rintro e w' ⟨rfl, rfl⟩)
        go_ret
        exact ⟨ret_bool H.out.symm, rfl⟩

end Go.Proofs.YtonoldjhfhngfaaDoor
