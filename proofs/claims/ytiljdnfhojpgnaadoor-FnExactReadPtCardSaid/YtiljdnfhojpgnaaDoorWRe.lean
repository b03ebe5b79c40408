/- Walks: ReadDecimal on both sides. -/
import Derived.Test.YtiljdnfhojpgnaaDoorDA
import Derived.Test.YtiljdnfhojpgnaaDoorRd
import Derived.Lib.Strings
import Derived.Lib.SmallJoins
namespace Go.Proofs.YtiljdnfhojpgnaaDoor
open Go.RowKit

def digitB (c : Int) : Bool := decide (48 ≤ c ∧ c ≤ 57)

set_option maxHeartbeats 400000 in
theorem l01Digit_any (c : Int) (w : World) (h0 : 0 ≤ c) (h1 : c ≤ 255) :
    Calls Tryd.prog 54 #[.int .u8 c] w fun e w' => e = .returned (.bool (digitB c)) ∧ w = w' := by
  by_cases a : 48 ≤ c
  · by_cases b : c ≤ 57
    · have hr : digitB c = true := by simp [digitB, a, b]
      rw [hr]
      go_enter Tryd.func54, Tryd.ntmps54
      go_wp2
      go_ret
      exact ⟨rfl, rfl⟩
    · have hr : digitB c = false := by simp [digitB]; omega
      have b' : 57 < c := by omega
      rw [hr]
      go_enter Tryd.func54, Tryd.ntmps54
      go_wp2
      go_ret
      exact ⟨rfl, rfl⟩
  · have hr : digitB c = false := by simp [digitB]; omega
    have a' : c < 48 := by omega
    rw [hr]
    go_enter Tryd.func54, Tryd.ntmps54
    go_wp2
    go_ret
    exact ⟨rfl, rfl⟩
theorem l01Digit_yes (c : Int) (w : World) (h0 : 0 ≤ c) (h1 : c ≤ 255) (h : digitB c = true) :
    Calls Tryd.prog 54 #[.int .u8 c] w fun e w' => e = .returned (.bool true) ∧ w = w' := by
  rw [← h]; exact l01Digit_any c w h0 h1
theorem l01Digit_no (c : Int) (w : World) (h0 : 0 ≤ c) (h1 : c ≤ 255) (h : digitB c = false) :
    Calls Tryd.prog 54 #[.int .u8 c] w fun e w' => e = .returned (.bool false) ∧ w = w' := by
  rw [← h]; exact l01Digit_any c w h0 h1

/-- What a reading returns. -/
def ansN : Option Int → Value
  | some n => .tuple #[.int .i64 n, .bool true]
  | none => .tuple #[.int .i64 0, .bool false]
theorem gSyn : Tryd.prog.globalNamed "strconv.ErrSyntax" = some 1 := by kernel_rfl
theorem gRan : Tryd.prog.globalNamed "strconv.ErrRange" = some 2 := by kernel_rfl
/-- The library's variables are as the program's text lays them. -/
def Tabs (w : World) : Prop := Lib.TabIs Tryd.prog w "internal/strconv.uint64pow10" .u64 Lib.pow10Tab ∧ (∃ tp p, w.var? Tryd.prog "strconv.ErrSyntax" = some #[.iface tp p]) ∧ (∃ tp p, w.var? Tryd.prog "strconv.ErrRange" = some #[.iface tp p])
theorem Tabs.stay {w w' : World} (h : Tabs w) (hb : Below w.heap.size w w') : Tabs w' := by
  obtain ⟨h1, ⟨t2, p2, h2⟩, t3, p3, h3⟩ := h
  exact ⟨Joins.tab_stays gPow h1 hb (Nat.le_refl _), ⟨t2, p2, Joins.var_stays gSyn h2 hb (Nat.le_refl _)⟩, t3, p3, Joins.var_stays gRan h3 hb (Nat.le_refl _)⟩

def Parsed (l : List UInt8) (w : World) (e : Ending) (w' : World) : Prop := ∃ (z : Int) (er : Value), e = .returned (.tuple #[.int .i64 z, er]) ∧ ((er = .nilIface ∧ Lib.parseIntB 64 l = .ok z) ∨ ((∃ t p, er = .iface t p) ∧ numL l = none)) ∧ Below w.heap.size w w'
theorem parse_any (s : ByteArray) (w : World) (hs : s.size ≤ 1048576) (hT : Tabs w) : Calls Tryd.prog 48 #[.string s, .int .i64 10, .int .i64 64] w (Parsed s.data.toList w) := by
  obtain ⟨_, ⟨t2, p2, h2⟩, t3, p3, h3⟩ := hT
  rcases h : Lib.parseIntB 64 s.data.toList with v | _ | _
  · refine (Tryd.strconv_ParseInt_10_at64_ok s (by omega) v h w).mono fun e w' ⟨he, hw⟩ => ⟨v, _, he, .inl ⟨rfl, h⟩, ?_⟩
    rcases hw with rfl | ⟨t, rfl⟩
    · exact Below.refl _ _
    · exact Joins.below_bytesWorld _ _ _ _ (Nat.le_refl _)
  · exact (Tryd.strconv_ParseInt_10_at64_syntax_var s (by omega) h t2 p2 w h2).mono fun e w' ⟨N, he, _, _, hb⟩ => ⟨_, _, he, .inr ⟨⟨_, _, rfl⟩, numL_bad (fun v e => by rw [h] at e; cases e)⟩, hb⟩
  · exact (Tryd.strconv_ParseInt_10_at64_range_var s (by omega) h t3 p3 w h3).mono fun e w' ⟨N, he, _, _, hb⟩ => ⟨_, _, he, .inr ⟨⟨_, _, rfl⟩, numL_bad (fun v e => by rw [h] at e; cases e)⟩, hb⟩

theorem ret_ansN {v : Value} {o : Option Int} (h : v = ansN o) : Ending.returned v = .returned (ansN o) := by rw [h]
theorem spell_eq {l : List UInt8} {s : ByteArray} : ((⟨l.toArray⟩ : ByteArray).toList == s.toList) = decide (l = s.data.toList) := by
  rw [Lib.toList_data, Lib.toList_data]
  by_cases h : l = s.data.toList <;> simp [h]

set_option maxHeartbeats 1600000 in
theorem implReadDecimal_any (s : ByteArray) (w : World) (hs : s.size ≤ 1048576) (hT : Tabs w) :
    Calls Tryd.prog 27 #[.string s] w fun e w' => e = .returned (ansN (numL s.data.toList)) ∧ Below w.heap.size w w' := by
  have C := Lib.hid (parse_any s w hs hT)
  have HT := Lib.hid (fun w1 (hb : Below w.heap.size w w1) => hT.stay hb)
  clear hT
  go_enter Tryd.func27, Tryd.ntmps27
  go_wp2_with fail
  refine C.out.mono ?_
  rintro e w1 ⟨z, er, rfl, hc, hb⟩
  rcases hc with ⟨rfl, hp⟩ | ⟨⟨t, p, rfl⟩, hn⟩
  · have hz := Lib.parseIntB_bounds hp
    have hN := numL_ok hp
    have hz1 : -9223372036854775808 ≤ z := by have := hz.1; simpa using this
    have hz2 : z ≤ 9223372036854775807 := by have := hz.2; simp at this; omega
    clear hz hp C
    by_cases c1 : z < -999999999999999999
    · have H := Lib.hid (show numL s.data.toList = none by rw [hN, if_neg (by omega)])
      clear hN
      go_wp2
      go_ret2
      exact ⟨by rw [H.out]; rfl, hb⟩
    · by_cases c2 : 999999999999999999 < z
      · have H := Lib.hid (show numL s.data.toList = none by rw [hN, if_neg (by omega)])
        clear hN
        go_wp2
        go_ret2
        exact ⟨by rw [H.out]; rfl, hb⟩
      · have CD := Lib.hid (implDecimal_any z w1 hz1 hz2 (HT.out _ hb).1)
        by_cases c3 : Lib.itoa z = s.data.toList
        · have H := Lib.hid (show numL s.data.toList = some z by rw [hN, if_pos ⟨by omega, by omega, c3⟩])
          have E := (spell_eq (l := Lib.itoa z) (s := s)).trans (decide_eq_true c3)
          clear hN c3
          generalize (⟨(Lib.itoa z).toArray⟩ : ByteArray) = v at CD E
          go_wp2_with fail
          refine CD.out.mono ?_
          rintro e w2 ⟨rfl, hb2⟩
          have E2 : (v.toList != s.toList) = false := by unfold bne; rw [E]; rfl
          go_wp2
          go_ret2
          exact ⟨by rw [H.out]; rfl, hb.trans (hb2.mono hb.size)⟩
        · have H := Lib.hid (show numL s.data.toList = none by rw [hN, if_neg (by rintro ⟨_, _, h⟩; exact c3 h)])
          have E := (spell_eq (l := Lib.itoa z) (s := s)).trans (decide_eq_false c3)
          clear hN c3
          generalize (⟨(Lib.itoa z).toArray⟩ : ByteArray) = v at CD E
          go_wp2_with fail
          refine CD.out.mono ?_
          rintro e w2 ⟨rfl, hb2⟩
          have E2 : (v.toList != s.toList) = true := by unfold bne; rw [E]; rfl
          go_wp2
          go_ret2
          exact ⟨by rw [H.out]; rfl, hb.trans (hb2.mono hb.size)⟩
  · have H := Lib.hid hn
    clear hn C
    go_wp2
    go_ret2
    exact ⟨by rw [H.out]; rfl, hb⟩

theorem byte_at (s : ByteArray) (k : Nat) (h : k < s.size) : s.data.toList[k]? = some s[k] := by
  have e : s[k] = s.data.toList[k]'(by simpa using h) := rfl
  rw [e]; exact List.getElem?_eq_getElem _
theorem dig_yes {c : UInt8} (h : digitB c.toNat = true) : 48 ≤ c.toNat ∧ c.toNat ≤ 57 ∧ Lib.digitVal c = some (c.toNat - 48) := by
  have h2 : 48 ≤ c.toNat ∧ c.toNat ≤ 57 := by
    have : (48 : Int) ≤ c.toNat ∧ (c.toNat : Int) ≤ 57 := by simpa [digitB] using h
    omega
  exact ⟨h2.1, h2.2, by unfold Lib.digitVal; rw [if_pos h2]⟩
theorem dig_no {c : UInt8} (h : digitB c.toNat = false) : Lib.digitVal c = none := by
  unfold Lib.digitVal
  rw [if_neg]
  intro h2
  have : digitB c.toNat = true := by simp [digitB]; omega
  rw [this] at h; cases h
theorem decFrom_none : ∀ (l : List UInt8) (acc k : Nat) (b : UInt8), l[k]? = some b → Lib.digitVal b = none → Lib.decFrom acc l = none
  | [], _, k, _, h, _ => by simp at h
  | x :: l, acc, 0, b, h, hb => by
    simp at h; subst h
    simp only [Lib.decFrom, hb]
  | x :: l, acc, k + 1, b, h, hb => by
    simp only [Lib.decFrom]
    cases Lib.digitVal x with
    | none => rfl
    | some d => exact decFrom_none l _ k b (by simpa using h) hb
/-- The parts of the reading: by the length, by a byte that is no digit, by the form. -/
theorem num_len {l : List UInt8} (h : ¬ (1 ≤ (unsign l).length ∧ (unsign l).length ≤ 18)) : numL l = none := by unfold numL; rw [if_neg h]
theorem num_bad {l : List UInt8} (h : Lib.decFrom 0 (unsign l) = none) : numL l = none := by unfold numL; rw [h]; split <;> rfl
theorem num_all {l : List UInt8} {u : Nat} (hl : 1 ≤ (unsign l).length ∧ (unsign l).length ≤ 18) (h : Lib.decFrom 0 (unsign l) = some u) : numL l = if Lib.itoa (signOf l u) = l then some (signOf l u) else none := by
  unfold numL; rw [if_pos hl, h]

theorem ne_list (s : ByteArray) (h : 0 < s.size) : ¬ s.toList = [] := by
  intro h2
  rw [Lib.toList_data] at h2
  have h3 : s.data.toList.length = 0 := by rw [h2]; rfl
  rw [← Lib.size_eq] at h3
  omega
theorem head_ne (s : ByteArray) (h : 0 < s.size) (hh : s[0].toNat ≠ 45) : ¬ s.data.toList.head? = some 45 := by
  rw [List.head?_eq_getElem?, byte_at s 0 h]
  intro e
  injection e with e
  rw [e] at hh
  exact hh rfl
theorem head_is (s : ByteArray) (h : 0 < s.size) (hh : s[0].toNat = 45) : s.data.toList.head? = some 45 := by
  rw [List.head?_eq_getElem?, byte_at s 0 h]
  congr 1
  exact UInt8.toNat_inj.1 hh

set_option maxHeartbeats 1600000 in
theorem l01Number_plain (s : ByteArray) (w : World) (h0 : 0 < s.size) (h18 : s.size ≤ 18) (hh : s[0].toNat ≠ 45) :
    Calls Tryd.prog 46 #[.string s] w fun e w' => e = .returned (ansN (numL s.data.toList)) ∧ Below w.heap.size w w' := by
  have hd := head_ne s h0 hh
  have HE := Lib.hid (show s.data.toList = unsign s.data.toList by unfold unsign; rw [if_neg hd])
  have HS := Lib.hid (show ∀ u : Nat, signOf s.data.toList u = (u : Int) by intro u; unfold signOf; rw [if_neg hd])
  have e1' := ne_list s h0
  have e2 : s.toList.isEmpty = false := by simpa using e1'
  have e3 : ((s[0].toNat : Int) == 45) = false := beq_eq_false_iff_ne.2 (by omega)
  clear hd hh
  go_enter Tryd.func46, Tryd.ntmps46
  go_wp2
  go_loop [5, 6] (fun n i => ∃ k v : Nat, k ≤ s.size ∧ i = .int .i64 k ∧ n = .int .i64 v ∧ v < 1000000000000000000 ∧ Hid (Lib.decFrom 0 (s.data.toList.take k) = some v)) (fun _ i => s.size - (intOf i).toNat)
  case atStart => exact ⟨0, 0, by omega, rfl, rfl, by omega, rfl⟩
  case round =>
    obtain ⟨k, v, hk, rfl, rfl, hv, ha⟩ := hrel
    by_cases hlt : k < s.size
    · have hb : (s[k].toNat : Int) ≤ 255 := by have := s[k].toNat_lt; omega
      by_cases c1 : digitB s[k].toNat = true
      · obtain ⟨g1, g2, g3⟩ := dig_yes c1
        have hvk : v < 100000000000000000 := Lib.decFrom_take_lt ha (by omega)
        have ha2 := Lib.hid (Lib.decFrom_take s.data.toList k 0 v s[k] (s[k].toNat - 48) ha (byte_at s k hlt) g3)
        have C1 := Lib.hid c1
        clear c1 g3
        go_wp2_with (go_at_call 54; refine (l01Digit_yes _ _ (by omega) (by omega) C1.out).mono ?_; rintro e w' ⟨rfl, rfl⟩)
        go_round
        case rel => exact ⟨k + 1, v * 10 + (s[k].toNat - 48), by omega, by go_num, by congr 1; omega, by omega, ha2⟩
        case measure => simp [intOf]; omega
      · have c1' : digitB s[k].toNat = false := by simpa using c1
        have H := Lib.hid (num_bad (l := s.data.toList) (by rw [← HE.out]; exact decFrom_none _ 0 k _ (byte_at s k hlt) (dig_no c1')))
        have C1 := Lib.hid c1'
        clear c1 c1'
        go_wp2_with (go_at_call 54; refine (l01Digit_no _ _ (by omega) (by omega) C1.out).mono ?_; rintro e w' ⟨rfl, rfl⟩)
        go_ret2
        exact ⟨by rw [H.out]; rfl, Below.refl _ _⟩
    · obtain rfl : k = s.size := by omega
      have ha1 : Lib.decFrom 0 (unsign s.data.toList) = some v := by
        rw [← HE.out]
        have h2 := ha
        rw [List.take_of_length_le (by rw [← Lib.size_eq]; omega)] at h2
        exact h2
      have hN := num_all (by rw [← HE.out, ← Lib.size_eq]; omega) ha1
      rw [HS.out v] at hN
      have CD := Lib.hid (l01Dec_any ((v : Int)) w (by omega) (by omega))
      clear ha1
      by_cases c3 : Lib.itoa ((v : Int)) = s.data.toList
      · have H := Lib.hid (show numL s.data.toList = some ((v : Int)) by rw [hN, if_pos c3])
        have E := (spell_eq (l := Lib.itoa ((v : Int))) (s := s)).trans (decide_eq_true c3)
        clear hN c3
        generalize (⟨(Lib.itoa ((v : Int))).toArray⟩ : ByteArray) = x at CD E
        go_wp2_with fail
        refine CD.out.mono ?_
        rintro e w2 ⟨rfl, hb2⟩
        have E2 : (x.toList != s.toList) = false := by unfold bne; rw [E]; rfl
        go_wp2
        go_ret2
        exact ⟨by rw [H.out]; rfl, hb2⟩
      · have H := Lib.hid (show numL s.data.toList = none by rw [hN, if_neg c3])
        have E := (spell_eq (l := Lib.itoa ((v : Int))) (s := s)).trans (decide_eq_false c3)
        clear hN c3
        generalize (⟨(Lib.itoa ((v : Int))).toArray⟩ : ByteArray) = x at CD E
        go_wp2_with fail
        refine CD.out.mono ?_
        rintro e w2 ⟨rfl, hb2⟩
        have E2 : (x.toList != s.toList) = true := by unfold bne; rw [E]; rfl
        go_wp2
        go_ret2
        exact ⟨by rw [H.out]; rfl, hb2⟩

set_option maxHeartbeats 1600000 in
theorem l01Number_neg (s : ByteArray) (w : World) (h0 : 1 < s.size) (h18 : s.size ≤ 19) (hh : s[0].toNat = 45) :
    Calls Tryd.prog 46 #[.string s] w fun e w' => e = .returned (ansN (numL s.data.toList)) ∧ Below w.heap.size w w' := by
  have hd := head_is s (by omega) hh
  have HE := Lib.hid (show (s.extract 1 s.size).data.toList = unsign s.data.toList by rw [Lib.extract_data]; unfold unsign; rw [if_pos hd, List.take_of_length_le (by rw [List.length_drop, ← Lib.size_eq]; omega), List.drop_one])
  have HS := Lib.hid (show ∀ u : Nat, signOf s.data.toList u = -(u : Int) by intro u; unfold signOf; rw [if_pos hd])
  have e1' := ne_list s (by omega)
  have e2 : s.toList.isEmpty = false := by simpa using e1'
  have e3 : ((s[0].toNat : Int) == 45) = true := by rw [hh]; rfl
  clear hd hh
  go_enter Tryd.func46, Tryd.ntmps46
  go_wp2
  generalize hX : s.extract 1 s.size = T at HE ⊢
  have hT : T.size = s.size - 1 := by rw [← hX]; simp
  have hT1 : 1 ≤ T.size := by omega
  have hT2 : T.size ≤ 18 := by omega
  have hT3 : decide (T.size < s.size) = true := by simp; omega
  clear hX hT
  go_loop [5, 6] (fun n i => ∃ k v : Nat, k ≤ T.size ∧ i = .int .i64 k ∧ n = .int .i64 v ∧ v < 1000000000000000000 ∧ Hid (Lib.decFrom 0 (T.data.toList.take k) = some v)) (fun _ i => T.size - (intOf i).toNat)
  case atStart => exact ⟨0, 0, by omega, rfl, rfl, by omega, rfl⟩
  case round =>
    obtain ⟨k, v, hk, rfl, rfl, hv, ha⟩ := hrel
    by_cases hlt : k < T.size
    · have hb : (T[k].toNat : Int) ≤ 255 := by have := T[k].toNat_lt; omega
      by_cases c1 : digitB T[k].toNat = true
      · obtain ⟨g1, g2, g3⟩ := dig_yes c1
        have hvk : v < 100000000000000000 := Lib.decFrom_take_lt ha (by omega)
        have ha2 := Lib.hid (Lib.decFrom_take T.data.toList k 0 v T[k] (T[k].toNat - 48) ha (byte_at T k hlt) g3)
        have C1 := Lib.hid c1
        clear c1 g3
        go_wp2_with (go_at_call 54; refine (l01Digit_yes _ _ (by omega) (by omega) C1.out).mono ?_; rintro e w' ⟨rfl, rfl⟩)
        go_round
        case rel => exact ⟨k + 1, v * 10 + (T[k].toNat - 48), by omega, by go_num, by congr 1; omega, by omega, ha2⟩
        case measure => simp [intOf]; omega
      · have c1' : digitB T[k].toNat = false := by simpa using c1
        have H := Lib.hid (num_bad (l := s.data.toList) (by rw [← HE.out]; exact decFrom_none _ 0 k _ (byte_at T k hlt) (dig_no c1')))
        have C1 := Lib.hid c1'
        clear c1 c1'
        go_wp2_with (go_at_call 54; refine (l01Digit_no _ _ (by omega) (by omega) C1.out).mono ?_; rintro e w' ⟨rfl, rfl⟩)
        go_ret2
        exact ⟨by rw [H.out]; rfl, Below.refl _ _⟩
    · obtain rfl : k = T.size := by omega
      have ha1 : Lib.decFrom 0 (unsign s.data.toList) = some v := by
        rw [← HE.out]
        have h2 := ha
        rw [List.take_of_length_le (by rw [← Lib.size_eq]; omega)] at h2
        exact h2
      have hN := num_all (by rw [← HE.out, ← Lib.size_eq]; omega) ha1
      rw [HS.out v] at hN
      have CD := Lib.hid (l01Dec_any (-(v : Int)) w (by omega) (by omega))
      clear ha1
      by_cases c3 : Lib.itoa (-(v : Int)) = s.data.toList
      · have H := Lib.hid (show numL s.data.toList = some (-(v : Int)) by rw [hN, if_pos c3])
        have E := (spell_eq (l := Lib.itoa (-(v : Int))) (s := s)).trans (decide_eq_true c3)
        clear hN c3
        generalize (⟨(Lib.itoa (-(v : Int))).toArray⟩ : ByteArray) = x at CD E
        go_wp2_with fail
        refine CD.out.mono ?_
        rintro e w2 ⟨rfl, hb2⟩
        have E2 : (x.toList != s.toList) = false := by unfold bne; rw [E]; rfl
        go_wp2
        go_ret2
        exact ⟨by rw [H.out]; rfl, hb2⟩
      · have H := Lib.hid (show numL s.data.toList = none by rw [hN, if_neg c3])
        have E := (spell_eq (l := Lib.itoa (-(v : Int))) (s := s)).trans (decide_eq_false c3)
        clear hN c3
        generalize (⟨(Lib.itoa (-(v : Int))).toArray⟩ : ByteArray) = x at CD E
        go_wp2_with fail
        refine CD.out.mono ?_
        rintro e w2 ⟨rfl, hb2⟩
        have E2 : (x.toList != s.toList) = true := by unfold bne; rw [E]; rfl
        go_wp2
        go_ret2
        exact ⟨by rw [H.out]; rfl, hb2⟩

set_option maxHeartbeats 1600000 in
theorem l01Number_any (s : ByteArray) (w : World) (hs : s.size ≤ 1048576) :
    Calls Tryd.prog 46 #[.string s] w fun e w' => e = .returned (ansN (numL s.data.toList)) ∧ Below w.heap.size w w' := by
  by_cases h0 : 0 < s.size
  · by_cases hh : s[0].toNat = 45
    · have hd := head_is s (by omega) hh
      have hu : (unsign s.data.toList).length = s.size - 1 := by unfold unsign; rw [if_pos hd, List.length_tail, ← Lib.size_eq]
      by_cases h1 : 1 < s.size
      · by_cases h18 : s.size ≤ 19
        · exact l01Number_neg s w h1 h18 hh
        · have H := Lib.hid (num_len (l := s.data.toList) (by rw [hu]; omega))
          have e1' := ne_list s (by omega)
          have e2 : s.toList.isEmpty = false := by simpa using e1'
          have e3 : ((s[0].toNat : Int) == 45) = true := by rw [hh]; rfl
          clear hd hu hh
          go_enter Tryd.func46, Tryd.ntmps46
          go_wp2
          go_ret2
          exact ⟨by rw [H.out]; rfl, Below.refl _ _⟩
      · have H := Lib.hid (num_len (l := s.data.toList) (by rw [hu]; omega))
        have e1' := ne_list s (by omega)
        have e2 : s.toList.isEmpty = false := by simpa using e1'
        have e3 : ((s[0].toNat : Int) == 45) = true := by rw [hh]; rfl
        clear hd hu hh
        go_enter Tryd.func46, Tryd.ntmps46
        go_wp2
        go_ret2
        exact ⟨by rw [H.out]; rfl, Below.refl _ _⟩
    · by_cases h18 : s.size ≤ 18
      · exact l01Number_plain s w h0 h18 hh
      · have hd := head_ne s (by omega) hh
        have hu : (unsign s.data.toList).length = s.size := by unfold unsign; rw [if_neg hd, ← Lib.size_eq]
        have H := Lib.hid (num_len (l := s.data.toList) (by rw [hu]; omega))
        have e1' := ne_list s (by omega)
        have e2 : s.toList.isEmpty = false := by simpa using e1'
        have e3 : ((s[0].toNat : Int) == 45) = false := beq_eq_false_iff_ne.2 (by omega)
        clear hd hu hh
        go_enter Tryd.func46, Tryd.ntmps46
        go_wp2
        go_ret2
        exact ⟨by rw [H.out]; rfl, Below.refl _ _⟩
  · have hl : s.data.toList = [] := List.eq_nil_of_length_eq_zero (by rw [← Lib.size_eq]; omega)
    have H := Lib.hid (num_len (l := s.data.toList) (by rw [hl]; simp [unsign]))
    have e1 : s.toList = [] := by rw [Lib.toList_data]; exact hl
    have e2 : s.toList.isEmpty = true := by rw [e1]; rfl
    clear hl
    go_enter Tryd.func46, Tryd.ntmps46
    go_wp2
    go_ret2
    exact ⟨by rw [H.out]; rfl, Below.refl _ _⟩
set_option maxHeartbeats 800000 in
theorem specReadDecimal_any (s : ByteArray) (w : World) (hs : s.size ≤ 1048576) :
    Calls Tryd.prog 25 #[.string s] w fun e w' => e = .returned (ansN (numL s.data.toList)) ∧ Below w.heap.size w w' := by
  have C := Lib.hid (l01Number_any s w hs)
  generalize numL s.data.toList = o at C ⊢
  go_enter Tryd.func25, Tryd.ntmps25
  go_wp2_with fail
  refine C.out.mono ?_
  rintro e w1 ⟨rfl, hb⟩
  cases o <;>
  · simp only [ansN]
    go_wp2
    go_ret2
    exact ⟨rfl, hb⟩
end Go.Proofs.YtiljdnfhojpgnaaDoor
