/- Walks: the number of at most ten digits, on the reference's side. -/
import Derived.Test.YtaphkogdcmnnbabDoorRf
import Derived.Test.YtaphkogdcmnnbabDoorRA
namespace Go.Proofs.YtaphkogdcmnnbabDoor
open Go.RowKit

theorem rf_byte_at (s : ByteArray) (k : Nat) (h : k < s.size) : s.data.toList[k]? = some s[k] := by
  have e : s[k] = s.data.toList[k]'(by simpa using h) := rfl
  rw [e]; exact List.getElem?_eq_getElem _
theorem rf_dig_yes {c : UInt8} (h : 48 ≤ c.toNat ∧ c.toNat ≤ 57) : Lib.digitVal c = some (c.toNat - 48) := by unfold Lib.digitVal; rw [if_pos h]
theorem rf_dig_no {c : UInt8} (h : ¬ (48 ≤ c.toNat ∧ c.toNat ≤ 57)) : Lib.digitVal c = none := by unfold Lib.digitVal; rw [if_neg h]
theorem rf_decFrom_none : ∀ (l : List UInt8) (acc k : Nat) (b : UInt8), l[k]? = some b → Lib.digitVal b = none → Lib.decFrom acc l = none
  | [], _, k, _, h, _ => by simp at h
  | x :: l, acc, 0, b, h, hb => by
    simp at h; subst h
    simp only [Lib.decFrom, hb]
  | x :: l, acc, k + 1, b, h, hb => by
    simp only [Lib.decFrom]
    cases Lib.digitVal x with
    | none => rfl
    | some d => exact rf_decFrom_none l _ k b (by simpa using h) hb
theorem int_len {l : List UInt8} (h : ¬ (1 ≤ (unsign l).length ∧ (unsign l).length ≤ 10)) : int10 l = none := by unfold int10; rw [if_neg h]
theorem int_bad {l : List UInt8} (h : Lib.decFrom 0 (unsign l) = none) : int10 l = none := by unfold int10; rw [h]; split <;> rfl
theorem int_all {l : List UInt8} {u : Nat} (hl : 1 ≤ (unsign l).length ∧ (unsign l).length ≤ 10) (h : Lib.decFrom 0 (unsign l) = some u) : int10 l = some (signOf l u) := by
  unfold int10; rw [if_pos hl, h]
theorem rf_ne_list (s : ByteArray) (h : 0 < s.size) : ¬ s.toList = [] := by
  intro h2
  rw [Lib.toList_data] at h2
  have h3 : s.data.toList.length = 0 := by rw [h2]; rfl
  rw [← Lib.size_eq] at h3
  omega
theorem rf_head_ne (s : ByteArray) (h : 0 < s.size) (hh : s[0].toNat ≠ 45) : ¬ s.data.toList.head? = some 45 := by
  rw [List.head?_eq_getElem?, rf_byte_at s 0 h]
  intro e
  injection e with e
  rw [e] at hh
  exact hh rfl
theorem rf_head_is (s : ByteArray) (h : 0 < s.size) (hh : s[0].toNat = 45) : s.data.toList.head? = some 45 := by
  rw [List.head?_eq_getElem?, rf_byte_at s 0 h]
  congr 1
  exact UInt8.toNat_inj.1 hh


set_option maxHeartbeats 1600000 in
theorem l02Int_plain (s : ByteArray) (w : World) (h0 : 0 < s.size) (h18 : s.size ≤ 10) (hh : s[0].toNat ≠ 45) :
    Calls Tryd.prog 15 #[.string s] w fun e w' => e = .returned (ansN (int10 s.data.toList)) ∧ w = w' := by
  have hd := rf_head_ne s h0 hh
  have HE := Lib.hid (show s.data.toList = unsign s.data.toList by unfold unsign; rw [if_neg hd])
  have HS := Lib.hid (show ∀ u : Nat, signOf s.data.toList u = (u : Int) by intro u; unfold signOf; rw [if_neg hd])
  have e1' := rf_ne_list s h0
  have e2 : s.toList.isEmpty = false := by simpa using e1'
  have e3 : ((s[0].toNat : Int) == 45) = false := beq_eq_false_iff_ne.2 (by omega)
  have e4 : decide (10 < s.size) = false := by simp; omega
  clear hd hh
  go_enter Tryd.func15, Tryd.ntmps15
  go_wp2
  go_loop [5, 6] (fun n i => ∃ k v : Nat, k ≤ s.size ∧ i = .int .i64 k ∧ n = .int .i64 v ∧ v < 1000000000000000000 ∧ Hid (Lib.decFrom 0 (s.data.toList.take k) = some v)) (fun _ i => s.size - (intOf i).toNat)
  case atStart => exact ⟨0, 0, by omega, rfl, rfl, by omega, rfl⟩
  case round =>
    obtain ⟨k, v, hk, rfl, rfl, hv, ha⟩ := hrel
    by_cases hlt : k < s.size
    · have hb : (s[k].toNat : Int) ≤ 255 := by have := s[k].toNat_lt; omega
      by_cases c1 : 48 ≤ s[k].toNat ∧ s[k].toNat ≤ 57
      · have g3 := rf_dig_yes c1
        obtain ⟨g1, g2⟩ := c1
        have hvk : v < 100000000000000000 := Lib.decFrom_take_lt ha (by omega)
        have ha2 := Lib.hid (Lib.decFrom_take s.data.toList k 0 v s[k] (s[k].toNat - 48) ha (rf_byte_at s k hlt) g3)
        have g4 : decide ((s[k].toNat : Int) < 48) = false := by simp; omega
        have g5 : decide ((57 : Int) < (s[k].toNat : Int)) = false := by simp; omega
        clear g3
        go_wp2
        go_round
        case rel => exact ⟨k + 1, v * 10 + (s[k].toNat - 48), by omega, by go_num, by congr 1; omega, by omega, ha2⟩
        case measure => simp [intOf]; omega
      · have H := Lib.hid (int_bad (l := s.data.toList) (by rw [← HE.out]; exact rf_decFrom_none _ 0 k _ (rf_byte_at s k hlt) (rf_dig_no c1)))
        by_cases c2 : (s[k].toNat : Int) < 48
        · clear c1
          go_wp2
          go_ret2
          exact ⟨by rw [H.out]; rfl, rfl⟩
        · have c3 : (57 : Int) < (s[k].toNat : Int) := by omega
          have c4 : decide ((s[k].toNat : Int) < 48) = false := by simp; omega
          clear c1
          go_wp2
          go_ret2
          exact ⟨by rw [H.out]; rfl, rfl⟩
    · obtain rfl : k = s.size := by omega
      have ha1 : Lib.decFrom 0 (unsign s.data.toList) = some v := by
        rw [← HE.out]
        have h2 := ha
        rw [List.take_of_length_le (by rw [← Lib.size_eq]; omega)] at h2
        exact h2
      have hN := int_all (by rw [← HE.out, ← Lib.size_eq]; omega) ha1
      rw [HS.out v] at hN
      have H := Lib.hid hN
      clear ha1 hN
      go_wp2
      go_ret2
      exact ⟨by rw [H.out]; rfl, rfl⟩

set_option maxHeartbeats 1600000 in
theorem l02Int_neg (s : ByteArray) (w : World) (h0 : 1 < s.size) (h18 : s.size ≤ 11) (hh : s[0].toNat = 45) :
    Calls Tryd.prog 15 #[.string s] w fun e w' => e = .returned (ansN (int10 s.data.toList)) ∧ w = w' := by
  have hd := rf_head_is s (by omega) hh
  have HE := Lib.hid (show (s.extract 1 s.size).data.toList = unsign s.data.toList by rw [Lib.extract_data]; unfold unsign; rw [if_pos hd, List.take_of_length_le (by rw [List.length_drop, ← Lib.size_eq]; omega), List.drop_one])
  have HS := Lib.hid (show ∀ u : Nat, signOf s.data.toList u = -(u : Int) by intro u; unfold signOf; rw [if_pos hd])
  have e1' := rf_ne_list s (by omega)
  have e2 : s.toList.isEmpty = false := by simpa using e1'
  have e3 : ((s[0].toNat : Int) == 45) = true := by rw [hh]; rfl
  obtain ⟨T, hX⟩ : ∃ T, s.extract 1 s.size = T := ⟨_, rfl⟩
  have hT : T.size = s.size - 1 := by rw [← hX]; simp
  have hT1 : 1 ≤ T.size := by omega
  have hT2 : T.size ≤ 10 := by omega
  have hT3 : decide (T.size < s.size) = true := by simp; omega
  have t1 := rf_ne_list T (by omega)
  have t2 : T.toList.isEmpty = false := by simpa using t1
  have t3 : decide (10 < T.size) = false := by simp; omega
  rw [hX] at HE
  clear hd hh hT
  go_enter Tryd.func15, Tryd.ntmps15
  go_wp2
  clear hX
  go_loop [5, 6] (fun n i => ∃ k v : Nat, k ≤ T.size ∧ i = .int .i64 k ∧ n = .int .i64 v ∧ v < 1000000000000000000 ∧ Hid (Lib.decFrom 0 (T.data.toList.take k) = some v)) (fun _ i => T.size - (intOf i).toNat)
  case atStart => exact ⟨0, 0, by omega, rfl, rfl, by omega, rfl⟩
  case round =>
    obtain ⟨k, v, hk, rfl, rfl, hv, ha⟩ := hrel
    by_cases hlt : k < T.size
    · have hb : (T[k].toNat : Int) ≤ 255 := by have := T[k].toNat_lt; omega
      by_cases c1 : 48 ≤ T[k].toNat ∧ T[k].toNat ≤ 57
      · have g3 := rf_dig_yes c1
        obtain ⟨g1, g2⟩ := c1
        have hvk : v < 100000000000000000 := Lib.decFrom_take_lt ha (by omega)
        have ha2 := Lib.hid (Lib.decFrom_take T.data.toList k 0 v T[k] (T[k].toNat - 48) ha (rf_byte_at T k hlt) g3)
        have g4 : decide ((T[k].toNat : Int) < 48) = false := by simp; omega
        have g5 : decide ((57 : Int) < (T[k].toNat : Int)) = false := by simp; omega
        clear g3
        go_wp2
        go_round
        case rel => exact ⟨k + 1, v * 10 + (T[k].toNat - 48), by omega, by go_num, by congr 1; omega, by omega, ha2⟩
        case measure => simp [intOf]; omega
      · have H := Lib.hid (int_bad (l := s.data.toList) (by rw [← HE.out]; exact rf_decFrom_none _ 0 k _ (rf_byte_at T k hlt) (rf_dig_no c1)))
        by_cases c2 : (T[k].toNat : Int) < 48
        · clear c1
          go_wp2
          go_ret2
          exact ⟨by rw [H.out]; rfl, rfl⟩
        · have c3 : (57 : Int) < (T[k].toNat : Int) := by omega
          have c4 : decide ((T[k].toNat : Int) < 48) = false := by simp; omega
          clear c1
          go_wp2
          go_ret2
          exact ⟨by rw [H.out]; rfl, rfl⟩
    · obtain rfl : k = T.size := by omega
      have ha1 : Lib.decFrom 0 (unsign s.data.toList) = some v := by
        rw [← HE.out]
        have h2 := ha
        rw [List.take_of_length_le (by rw [← Lib.size_eq]; omega)] at h2
        exact h2
      have hN := int_all (by rw [← HE.out, ← Lib.size_eq]; omega) ha1
      rw [HS.out v] at hN
      have H := Lib.hid hN
      clear ha1 hN
      go_wp2
      go_ret2
      exact ⟨by rw [H.out]; rfl, rfl⟩

set_option maxHeartbeats 1600000 in
theorem l02Int_any (s : ByteArray) (w : World) :
    Calls Tryd.prog 15 #[.string s] w fun e w' => e = .returned (ansN (int10 s.data.toList)) ∧ w = w' := by
  by_cases h0 : 0 < s.size
  · by_cases hh : s[0].toNat = 45
    · have hd := rf_head_is s h0 hh
      have hu : (unsign s.data.toList).length = s.size - 1 := by unfold unsign; rw [if_pos hd, List.length_tail, ← Lib.size_eq]
      by_cases h1 : 1 < s.size
      · by_cases h2 : s.size ≤ 11
        · exact l02Int_neg s w h1 h2 hh
        · have H := Lib.hid (int_len (l := s.data.toList) (by rw [hu]; omega))
          have e1' := rf_ne_list s h0
          have e2 : s.toList.isEmpty = false := by simpa using e1'
          have e3 : ((s[0].toNat : Int) == 45) = true := by rw [hh]; rfl
          obtain ⟨T, hX⟩ : ∃ T, s.extract 1 s.size = T := ⟨_, rfl⟩
          have hT : T.size = s.size - 1 := by rw [← hX]; simp
          have t1 := rf_ne_list T (by omega)
          have t2 : T.toList.isEmpty = false := by simpa using t1
          have t3 : 10 < T.size := by omega
          clear hd hu hh hT
          go_enter Tryd.func15, Tryd.ntmps15
          go_wp2
          go_ret2
          exact ⟨by rw [H.out]; rfl, rfl⟩
      · have H := Lib.hid (int_len (l := s.data.toList) (by rw [hu]; omega))
        have e1' := rf_ne_list s h0
        have e2 : s.toList.isEmpty = false := by simpa using e1'
        have e3 : ((s[0].toNat : Int) == 45) = true := by rw [hh]; rfl
        obtain ⟨T, hX⟩ : ∃ T, s.extract 1 s.size = T := ⟨_, rfl⟩
        have hT : T.size = s.size - 1 := by rw [← hX]; simp
        have t1 : T.toList = [] := by rw [Lib.toList_data]; exact List.eq_nil_of_length_eq_zero (by rw [← Lib.size_eq]; omega)
        have t2 : T.toList.isEmpty = true := by rw [t1]; rfl
        clear hd hu hh hT
        go_enter Tryd.func15, Tryd.ntmps15
        go_wp2
        go_ret2
        exact ⟨by rw [H.out]; rfl, rfl⟩
    · by_cases h2 : s.size ≤ 10
      · exact l02Int_plain s w h0 h2 hh
      · have hd := rf_head_ne s h0 hh
        have hu : (unsign s.data.toList).length = s.size := by unfold unsign; rw [if_neg hd, ← Lib.size_eq]
        have H := Lib.hid (int_len (l := s.data.toList) (by rw [hu]; omega))
        have e1' := rf_ne_list s h0
        have e2 : s.toList.isEmpty = false := by simpa using e1'
        have e3 : ((s[0].toNat : Int) == 45) = false := beq_eq_false_iff_ne.2 (by omega)
        have e4 : 10 < s.size := by omega
        clear hd hu hh
        go_enter Tryd.func15, Tryd.ntmps15
        go_wp2
        go_ret2
        exact ⟨by rw [H.out]; rfl, rfl⟩
  · have e1 : s.toList = [] := by rw [Lib.toList_data]; exact List.eq_nil_of_length_eq_zero (by rw [← Lib.size_eq]; omega)
    have H := Lib.hid (int_len (l := s.data.toList) (by rw [show s.data.toList = [] from List.eq_nil_of_length_eq_zero (by rw [← Lib.size_eq]; omega)]; simp [unsign]))
    have e2 : s.toList.isEmpty = true := by rw [e1]; rfl
    go_enter Tryd.func15, Tryd.ntmps15
    go_wp2
    go_ret2
    exact ⟨by rw [H.out]; rfl, rfl⟩

end Go.Proofs.YtaphkogdcmnnbabDoor
