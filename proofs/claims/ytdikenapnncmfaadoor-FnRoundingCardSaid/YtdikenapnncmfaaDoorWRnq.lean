/- Walks: ReadDecimal on both sides. -/
import Derived.Test.YtdikenapnncmfaaDoorDA
import Derived.Test.YtdikenapnncmfaaDoorRdnq
import Derived.Lib.Strings
import Derived.Lib.SmallJoins
namespace Go.Proofs.YtdikenapnncmfaaDoor.Pix
open Go.RowKit

def digitB (c : Int) : Bool := decide (48 ≤ c ∧ c ≤ 57)

/-- What a reading returns. -/
def ansN : Option Int → Value
  | some n => .tuple #[.int .i64 n, .bool true]
  | none => .tuple #[.int .i64 0, .bool false]
theorem gSyn : Tryd.prog.globalNamed "strconv.ErrSyntax" = some 3 := by kernel_rfl
theorem gRan : Tryd.prog.globalNamed "strconv.ErrRange" = some 4 := by kernel_rfl
/-- The library's variables are as the program's text lays them. -/
def Tabs (w : World) : Prop := Lib.TabIs Tryd.prog w "internal/strconv.uint64pow10" .u64 Lib.pow10Tab ∧ (∃ tp p, w.var? Tryd.prog "strconv.ErrSyntax" = some #[.iface tp p]) ∧ (∃ tp p, w.var? Tryd.prog "strconv.ErrRange" = some #[.iface tp p])
theorem Tabs.stay {w w' : World} (h : Tabs w) (hb : Below w.heap.size w w') : Tabs w' := by
  obtain ⟨h1, ⟨t2, p2, h2⟩, t3, p3, h3⟩ := h
  exact ⟨Joins.tab_stays gPow h1 hb (Nat.le_refl _), ⟨t2, p2, Joins.var_stays gSyn h2 hb (Nat.le_refl _)⟩, t3, p3, Joins.var_stays gRan h3 hb (Nat.le_refl _)⟩

def Parsed (l : List UInt8) (w : World) (e : Ending) (w' : World) : Prop := ∃ (z : Int) (er : Value), e = .returned (.tuple #[.int .i64 z, er]) ∧ ((er = .nilIface ∧ Lib.parseIntB 64 l = .ok z) ∨ ((∃ t p, er = .iface t p) ∧ numL l = none)) ∧ Below w.heap.size w w'
theorem parse_any (s : ByteArray) (w : World) (hs : s.size ≤ 1048577) (hT : Tabs w) : Calls Tryd.prog 53 #[.string s, .int .i64 10, .int .i64 64] w (Parsed s.data.toList w) := by
  obtain ⟨_, ⟨t2, p2, h2⟩, t3, p3, h3⟩ := hT
  rcases h : Lib.parseIntB 64 s.data.toList with v | _ | _
  · refine (Tryd.strconv_ParseInt_10_at64_ok s (by omega) v h w).mono fun e w' ⟨he, hw⟩ => ⟨v, _, he, .inl ⟨rfl, h⟩, ?_⟩
    rcases hw with rfl | ⟨t, rfl⟩
    · exact Below.refl _ _
    · exact Joins.below_bytesWorld _ _ _ _ (Nat.le_refl _)
  · exact (Tryd.strconv_ParseInt_10_at64_syntax_var s (by omega) h t2 p2 w h2).mono fun e w' ⟨N, he, _, _, hb⟩ => ⟨_, _, he, .inr ⟨⟨_, _, rfl⟩, numL_bad (fun v e => by rw [h] at e; cases e)⟩, hb⟩
  · exact (Tryd.strconv_ParseInt_10_at64_range_var s (by omega) h t3 p3 w h3).mono fun e w' ⟨N, he, _, _, hb⟩ => ⟨_, _, he, .inr ⟨⟨_, _, rfl⟩, numL_bad (fun v e => by rw [h] at e; cases e)⟩, hb⟩

theorem ret_ansN {v : Value} {o : Option Int} (h : v = ansN o) : Ending.returned v = .returned (ansN o) := by rw [h]
theorem spell_eq {l : List UInt8} {s : ByteArray} : ((⟨l.toArray⟩ : ByteArray).toList == s.toList) = decide (l = s.data.toList) := by
  rw [Lib.toList_data, Lib.toList_data]
  by_cases h : l = s.data.toList <;> simp [h]

set_option maxHeartbeats 1600000 in
theorem implReadDecimal_any (s : ByteArray) (w : World) (hs : s.size ≤ 1048577) (hT : Tabs w) :
    Calls Tryd.prog 32 #[.string s] w fun e w' => e = .returned (ansN (numL s.data.toList)) ∧ Below w.heap.size w w' := by
  have C := Lib.hid (parse_any s w hs hT)
  have HT := Lib.hid (fun w1 (hb : Below w.heap.size w w1) => hT.stay hb)
  clear hT
  go_enter Tryd.func32, Tryd.ntmps32
  go_wp2_with fail
  refine C.out.mono ?_
  rintro e w1 ⟨z, er, rfl, hc, hb⟩
  rcases hc with ⟨rfl, hp⟩ | ⟨⟨t, p, rfl⟩, hn⟩
  · have hz := Lib.parseIntB_bounds hp
    have hN := numL_ok hp
    have hz1 : -9223372036854775808 ≤ z := by have := hz.1; simpa using this
    have hz2 : z ≤ 9223372036854775807 := by have := hz.2; simp at this; omega
    clear hz hp C
    by_cases c1 : z < -999999999999999999
    · have H := Lib.hid (show numL s.data.toList = none by rw [hN, if_neg (by omega)])
      clear hN
      go_wp2
      go_ret2
      exact ⟨by rw [H.out]; rfl, hb⟩
    · by_cases c2 : 999999999999999999 < z
      · have H := Lib.hid (show numL s.data.toList = none by rw [hN, if_neg (by omega)])
        clear hN
        go_wp2
        go_ret2
        exact ⟨by rw [H.out]; rfl, hb⟩
      · have CD := Lib.hid (implDecimal_any z w1 hz1 hz2 (HT.out _ hb).1)
        by_cases c3 : Lib.itoa z = s.data.toList
        · have H := Lib.hid (show numL s.data.toList = some z by rw [hN, if_pos ⟨by omega, by omega, c3⟩])
          have E := (spell_eq (l := Lib.itoa z) (s := s)).trans (decide_eq_true c3)
          clear hN c3
          generalize (⟨(Lib.itoa z).toArray⟩ : ByteArray) = v at CD E
          go_wp2_with fail
          refine CD.out.mono ?_
          rintro e w2 ⟨rfl, hb2⟩
          have E2 : (v.toList != s.toList) = false := by unfold bne; rw [E]; rfl
          go_wp2
          go_ret2
          exact ⟨by rw [H.out]; rfl, hb.trans (hb2.mono hb.size)⟩
        · have H := Lib.hid (show numL s.data.toList = none by rw [hN, if_neg (by rintro ⟨_, _, h⟩; exact c3 h)])
          have E := (spell_eq (l := Lib.itoa z) (s := s)).trans (decide_eq_false c3)
          clear hN c3
          generalize (⟨(Lib.itoa z).toArray⟩ : ByteArray) = v at CD E
          go_wp2_with fail
          refine CD.out.mono ?_
          rintro e w2 ⟨rfl, hb2⟩
          have E2 : (v.toList != s.toList) = true := by unfold bne; rw [E]; rfl
          go_wp2
          go_ret2
          exact ⟨by rw [H.out]; rfl, hb.trans (hb2.mono hb.size)⟩
  · have H := Lib.hid hn
    clear hn C
    go_wp2
    go_ret2
    exact ⟨by rw [H.out]; rfl, hb⟩

end Go.Proofs.YtdikenapnncmfaaDoor.Pix
