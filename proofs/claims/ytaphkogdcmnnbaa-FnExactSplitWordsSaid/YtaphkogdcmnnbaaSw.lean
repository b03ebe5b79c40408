/- Walks: the words of a text, on both sides. -/
import Derived.Test.YtaphkogdcmnnbaaShelf
import Derived.Test.YtaphkogdcmnnbaaMs
import Derived.Test.YtaphkogdcmnnbaaSpl
import Derived.Shelf.Strings.FuncGrows
namespace Go.Proofs.Ytaphkogdcmnnbaa
open Go.RowKit Go.Shelf

theorem blank_pays (w : World) : PredGrows Try.prog 41 #[] isB w := by
  intro W x hx hb
  show Calls Try.prog 41 #[.int .i32 (x : Int)] W _
  clear hb
  by_cases h : x = 32
  · subst h
    go_enter Try.func41, Try.ntmps41
    go_wp2
    go_ret
    exact ⟨rfl, Below.refl _ _⟩
  · have h2 : ((x : Int) == 32) = false := beq_eq_false_iff_ne.2 (by omega)
    have h3 : isB x = false := by simp [isB, h]
    rw [h3]
    go_enter Try.func41, Try.ntmps41
    go_wp2
    go_ret
    exact ⟨rfl, Below.refl _ _⟩

/-- A new row of strings: what comes back, and where it lies. -/
def NewStrs (w : World) (L : List ByteArray) (e : Ending) (w' : World) : Prop :=
  ∃ A c, e = .returned (.slice A L.length c) ∧ w'.ownsRow w.heap.size 9 1 (.slice A L.length c) L.length (strs L) ∧ Below w.heap.size w w'

theorem implSplitWords_any (s : ByteArray) (w : World) (hs : s.size ≤ 1048576) :
    Calls Try.prog 15 #[.string s] w (NewStrs w (keepB (parts s))) := by
  have cF : ∀ w, Calls Try.prog 40 #[.string s, .func (.func 41) #[] #[]] w _ := fun w => Try.strings_FieldsFunc_grows 41 #[] (enters_of Try.func41 (by kernel_rfl) rfl) isB s w (by omega) (blank_pays w)
  rw [words_eq] at cF
  generalize keepB (parts s) = L at cF ⊢
  have CF := Lib.hid cF
  clear cF
  go_enter Try.func15, Try.ntmps15
  go_wp2_with fail
  refine (CF.out _).mono ?_
  rintro e w1 ⟨A, rfl, hA, hown, hb⟩
  go_wp2
  go_ret
  exact ⟨_, _, rfl, hown, hb⟩

theorem cut_hit (s : ByteArray) (k : Nat) (h : k < s.size) (hb : s[k] = 32) : cut s (k + 1) = ((cut s k).1 ++ [s.extract (cut s k).2 k], k + 1) := by
  have e : s.data.toList.getD k 0 = s[k] := by rw [List.getD_eq_getElem?_getD, List.getElem?_eq_getElem (by rw [← Lib.size_eq]; exact h)]; rfl
  show (if s.data.toList.getD k 0 = 32 then _ else _) = _
  rw [if_pos (by rw [e, hb])]
theorem cut_miss (s : ByteArray) (k : Nat) (h : k < s.size) (hb : s[k] ≠ 32) : cut s (k + 1) = cut s k := by
  have e : s.data.toList.getD k 0 = s[k] := by rw [List.getD_eq_getElem?_getD, List.getElem?_eq_getElem (by rw [← Lib.size_eq]; exact h)]; rfl
  show (if s.data.toList.getD k 0 = 32 then _ else _) = _
  rw [if_neg (by rw [e]; exact hb)]
theorem own_one (wr : World) (base : Nat) (e : TypeId) (x : Value) (hb : base ≤ wr.heap.size) : (wr.alloc (.cells #[x] e)).ownsRow base e 1 (.slice (some ⟨wr.heap.size, 0, none⟩) 1 1) 1 [x] :=
  ⟨rfl, Or.inr ⟨wr.heap.size, 1, #[x], rfl, hb, heap_alloc_new wr _, Nat.le_refl _, by unfold maxLen; omega, rfl, rfl⟩⟩
theorem str_info : (Try.prog.info? 9).map (fun i => (i.zero, i.size, i.bytes)) = some (some (.string ⟨#[]⟩), 1, 16) := by kernel_rfl
/-- How the loop of the parts stands. -/
def CutLoop (s : ByteArray) (k : Nat) (w : World) (out : Value) (fr : Value) (wr : World) : Prop :=
  fr = .int .i64 ((cut s k).2 : Int) ∧ wr.ownsRow w.heap.size 9 1 out (cut s k).1.length (strs (cut s k).1) ∧ Below w.heap.size w wr
theorem strs_snoc (l : List ByteArray) (x : ByteArray) : strs (l ++ [x]) = strs l ++ [.string x] := by simp [strs]
theorem grow_below {w wr w1 : World} {o : Obj} {v : Value} {e : TypeId} {size n : Nat} {xs : List Value} (hb : Below w.heap.size w wr) (hown : wr.ownsRow w.heap.size e size v n xs) (hg : (wr.alloc o).grownBy w1 v.ownBlock) : Below w.heap.size w w1 :=
  (hb.alloc hb.size _).grown hg (by have := hb.size; simp; omega) (fun k hk => (hown.lt k hk).1)

theorem cut_rel {s : ByteArray} {k : Nat} {w wr w1 : World} {L : List ByteArray} {x : ByteArray} {o : Obj} {v v' : Value} (HC : cut s (k + 1) = (L ++ [x], k + 1)) (hb : Below w.heap.size w wr) (hown : wr.ownsRow w.heap.size 9 1 v L.length (strs L))
    (hown1 : w1.ownsRow w.heap.size 9 1 v' (L.length + 1) (strs L ++ [.string x])) (hg1 : (wr.alloc o).grownBy w1 v.ownBlock) : CutLoop s (k + 1) w v' (.int .i64 ((k : Int) + 1)) w1 := by
  unfold CutLoop
  rw [HC]
  exact ⟨rfl, by rw [strs_snoc, List.length_append]; exact hown1, grow_below hb hown hg1⟩
theorem own_slice {w : World} {B e size n : Nat} {v : Value} {xs : List Value} (h : w.ownsRow B e size v n xs) : ∃ A c, v = .slice A n c := by
  rcases h.2 with ⟨rfl, rfl⟩ | ⟨g, cap, _, rfl, _⟩
  · exact ⟨_, _, rfl⟩
  · exact ⟨_, _, rfl⟩

set_option maxHeartbeats 1600000 in
theorem l01Split_any (s : ByteArray) (w : World) (hs : s.size ≤ 1048576) :
    Calls Try.prog 39 #[.string s, .int .u8 32] w (NewStrs w (parts s)) := by
  obtain ⟨i0, hi0, hz0, hz1, hz2⟩ := info_parts str_info
  go_enter Try.func39, Try.ntmps39
  go_wp2
  go_loopw [5, 6, 7] (fun out fr i wr => ∃ k : Nat, k ≤ s.size ∧ i = .int .i64 k ∧ CutLoop s k w out fr wr) (fun _ _ i _ => s.size - (intOf i).toNat)
  case atStart => exact ⟨0, Nat.zero_le _, rfl, rfl, World.ownsRow_made w #[] 0 (Nat.le_refl _) (by unfold maxLen; omega) rfl, (Below.refl _ _).alloc (Nat.le_refl _) _⟩
  case round =>
    obtain ⟨k, hk, rfl, rfl, hown, hb⟩ := hrel
    have hcl := cut_le s k
    have hcn := cut_len s k
    have hbs := hb.size
    by_cases hlt : k < s.size
    · by_cases hc : s[k] = 32
      · have e1 : ((s[k].toNat : Int) == 32) = true := by rw [hc]; rfl
        have HC := Lib.hid (cut_hit s k hlt hc)
        clear hc
        generalize (cut s k).2 = fr at hcl HC ⊢
        generalize (cut s k).1 = L at hown hcn HC ⊢
        go_wp2_with (at_builtin
                     refine wpList_append_any _ rfl (.tmp 20) (.tmp 25) _ rfl w.heap.size 9 i0 _ 1 16 Try.underlying23 hi0 hz0 hz1 hz2 rfl (by omega) _ L.length (strs L) rfl (hown.alloc _) (wr.heap.size + 1) (some ⟨wr.heap.size, 0, none⟩) 1 1 [.string (s.extract fr k)] rfl (by have := Reads.of_own (own_one wr 0 9 (.string (s.extract fr k)) (Nat.zero_le _)); simpa using this) (by intro v hv; simp at hv; subst hv; rfl) (by unfold maxLen; omega) (by omega) (by simp; omega) ?_
                     intro v' w1 hown1 hg1 hat1)
        go_roundw
        case rel => exact ⟨k + 1, by omega, by go_num, cut_rel HC.out hb hown hown1 hg1⟩
        case measure => simp [intOf]; omega
      · have e1 : ((s[k].toNat : Int) == 32) = false := beq_eq_false_iff_ne.2 (fun h => hc (UInt8.toNat_inj.1 (by simpa using Int.ofNat.inj h)))
        have HC := Lib.hid (cut_miss s k hlt hc)
        clear hc
        have hR : CutLoop s k w _ (.int .i64 ((cut s k).2 : Int)) wr := ⟨rfl, hown, hb⟩
        generalize (cut s k).2 = fr at hcl hR ⊢
        clear hown
        go_wp2
        go_roundw
        case rel => exact ⟨k + 1, by omega, by go_num, by unfold CutLoop; rw [HC.out]; exact hR⟩
        case measure => simp [intOf]; omega
    · obtain rfl : k = s.size := by omega
      have HP := Lib.hid (show parts s = (cut s s.size).1 ++ [s.extract (cut s s.size).2 s.size] from rfl)
      generalize (cut s s.size).2 = fr at hcl HP ⊢
      generalize (cut s s.size).1 = L at hown hcn HP ⊢
      go_wp2_with (at_builtin
                   refine wpList_append_any _ rfl (.tmp 29) (.tmp 33) _ rfl w.heap.size 9 i0 _ 1 16 Try.underlying23 hi0 hz0 hz1 hz2 rfl (by omega) _ L.length (strs L) rfl (hown.alloc _) (wr.heap.size + 1) (some ⟨wr.heap.size, 0, none⟩) 1 1 [.string (s.extract fr s.size)] rfl (by have := Reads.of_own (own_one wr 0 9 (.string (s.extract fr s.size)) (Nat.zero_le _)); simpa using this) (by intro v hv; simp at hv; subst hv; rfl) (by unfold maxLen; omega) (by omega) (by simp; omega) ?_
                   intro v' w1 hown1 hg1 hat1)
      go_ret
      obtain ⟨A, c, rfl⟩ := own_slice hown1
      have hl : (parts s).length = L.length + 1 := by rw [HP.out, List.length_append]; rfl
      unfold NewStrs
      rw [hl, HP.out, strs_snoc]
      exact ⟨A, c, rfl, hown1, grow_below hb hown hg1⟩

theorem own_lower {w : World} {B B' e size n : Nat} {v : Value} {xs : List Value} (h : w.ownsRow B e size v n xs) (hB : B' ≤ B) : w.ownsRow B' e size v n xs := by
  refine ⟨h.1, ?_⟩
  rcases h.2 with h | ⟨g, cap, cur, h1, h2, h3⟩
  · exact .inl h
  · exact .inr ⟨g, cap, cur, h1, Nat.le_trans hB h2, h3⟩
theorem keepB_take {L : List ByteArray} {k : Nat} {x : ByteArray} (h : L[k]? = some x) : keepB (L.take (k + 1)) = keepB (L.take k) ++ (if x.size = 0 then [] else [x]) := by
  rw [List.take_add_one, h]
  exact keepB_snoc _ _
theorem keepB_take_le (L : List ByteArray) (k : Nat) : (keepB (L.take k)).length ≤ k := Nat.le_trans (keepB_len _) (by simp; omega)

set_option maxHeartbeats 1600000 in
theorem specSplitWords_any (s : ByteArray) (w : World) (hs : s.size ≤ 1048576) :
    Calls Try.prog 14 #[.string s] w (NewStrs w (keepB (parts s))) := by
  obtain ⟨i0, hi0, hz0, hz1, hz2⟩ := info_parts str_info
  have C1 := Lib.hid (l01Split_any s w hs)
  have hl := parts_len s
  generalize parts s = P at C1 hl ⊢
  obtain ⟨n, hn⟩ : ∃ n, n = P.length := ⟨_, rfl⟩
  have HN := Lib.hid hn
  go_enter Try.func14, Try.ntmps14
  go_wp2_with fail
  refine C1.out.mono ?_
  rintro e w1 ⟨A, c, rfl, hown1, hb1⟩
  have hr1 := Reads.of_own hown1
  clear hown1
  rw [← hn] at hl hr1 ⊢
  clear hn
  go_wp2
  go_loopw [4, 5] (fun out i wr => ∃ k : Nat, k ≤ n ∧ i = .int .i64 k ∧ wr.ownsRow w1.heap.size 9 1 out (keepB (P.take k)).length (strs (keepB (P.take k))) ∧ Below w1.heap.size w1 wr) (fun _ i _ => n - (intOf i).toNat)
  case atStart => exact ⟨0, Nat.zero_le _, rfl, World.ownsRow_made w1 #[] 0 (Nat.le_refl _) (by unfold maxLen; omega) rfl, (Below.refl _ _).alloc (Nat.le_refl _) _⟩
  case round =>
    obtain ⟨k, hk, rfl, hown, hb⟩ := hrel
    have hbs := hb.size
    have hkl := keepB_take_le P k
    by_cases hlt : k < n
    · obtain ⟨ad, u, rfl, had, hx, hcell⟩ := (hr1.below hb).at_ hlt
      obtain ⟨x, hpx, rfl⟩ := strs_at hx
      have HT := Lib.hid (keepB_take hpx)
      have hki : (k : Int) < (n : Int) := by omega
      clear hx hpx hr1
      generalize keepB (P.take k) = L at hown hkl HT ⊢
      by_cases hz : x.size = 0
      · have e1 : x.toList = [] := by rw [Lib.toList_data]; exact List.eq_nil_of_length_eq_zero (by rw [← Lib.size_eq]; exact hz)
        have e2 : x.toList.isEmpty = true := by rw [e1]; rfl
        have HT2 := Lib.hid (show keepB (P.take (k + 1)) = L by rw [HT.out, if_pos hz, List.append_nil])
        clear hz HT
        go_wp2
        go_roundw
        case rel => exact ⟨k + 1, by omega, by go_num, by rw [HT2.out]; exact hown, hb⟩
        case measure => simp [intOf]; omega
      · have e1 : x.toList ≠ [] := by rw [Lib.toList_data]; exact fun h => hz (by rw [Lib.size_eq, h]; rfl)
        have e2 : x.toList.isEmpty = false := by simpa using e1
        have HT2 := Lib.hid (show keepB (P.take (k + 1)) = L ++ [x] by rw [HT.out, if_neg hz])
        clear hz HT
        go_wp2_with (at_builtin
                     refine wpList_append_any _ rfl (.tmp 20) (.tmp 25) _ rfl w1.heap.size 9 i0 _ 1 16 Try.underlying23 hi0 hz0 hz1 hz2 rfl (by omega) _ L.length (strs L) rfl (hown.alloc _) (wr.heap.size + 1) (some ⟨wr.heap.size, 0, none⟩) 1 1 [.string x] rfl (by have := Reads.of_own (own_one wr 0 9 (.string x) (Nat.zero_le _)); simpa using this) (by intro v hv; simp at hv; subst hv; rfl) (by unfold maxLen; omega) (by omega) (by simp; omega) ?_
                     intro v' w2 hown2 hg2 hat2)
        go_roundw
        case rel => exact ⟨k + 1, by omega, by go_num, by rw [HT2.out, strs_snoc, List.length_append]; exact hown2, grow_below hb hown hg2⟩
        case measure => simp [intOf]; omega
    · obtain rfl : k = n := by omega
      go_wp2
      go_ret
      rw [List.take_of_length_le (by have := HN.out; omega)] at hown
      obtain ⟨A', c', rfl⟩ := own_slice hown
      exact ⟨A', c', rfl, own_lower hown hb1.size, hb1.trans (hb.mono hb1.size)⟩

theorem own_drewN {w : World} {B e size n : Nat} {v : Value} {xs : List Value} (h : w.ownsRow B e size v n xs) (q : Nat) : (w.drewN q).ownsRow B e size v n xs := h
theorem own_block {w : World} {B e size n : Nat} {A : Option Addr} {c : Nat} {xs : List Value} (h : w.ownsRow B e size (.slice A n c) n xs) : ∀ k, (Value.slice A n c).ownBlock = some k → B ≤ k ∧ k < w.heap.size := h.lt

set_option maxHeartbeats 1600000 in
theorem walk_SplitWords (s : ByteArray) (w : World) :
    Calls Try.prog 4 #[.string s] w fun e w' => e = .returned (.bool true) ∧ Below w.heap.size w w' := by
  by_cases hs : 1048576 < s.size
  · go_enter Try.func4, Try.ntmps4
    go_wp2
    go_ret
    exact ⟨rfl, Below.refl _ _⟩
  · have C1 := Lib.hid (specSplitWords_any s w (by omega))
    have C2 := Lib.hid (fun w => implSplitWords_any s w (by omega))
    have hn : (keepB (parts s)).length ≤ 1048577 := Nat.le_trans (keepB_len _) (Nat.le_trans (parts_len s) (by omega))
    generalize keepB (parts s) = L at C1 C2 hn
    have C3 := Lib.hid (fun (A A' : Option Addr) (c c' B B' : Nat) (w : World) => eqStringS_same L L.length A A' c c' B B' w (by omega))
    have C4 := Lib.hid (fun (A : Option Addr) (c base : Nat) (xs : List Value) (w : World) => markStringS_any 1 L.length A c base xs w (by omega) (by omega))
    have C5 := Lib.hid (fun (A : Option Addr) (c : Nat) (w : World) => heldStringS_any 1 L.length A c w (by omega) (by omega))
    unfold NewStrs at C1 C2
    generalize strs L = X at C1 C2 C3
    generalize L.length = n at hn C1 C2 C3 C4 C5
    generalize strs (marks 1 n) = Y at C4 C5
    obtain ⟨z, hz⟩ : ∃ z : Nat, z = 1 + n := ⟨_, rfl⟩
    rw [← hz] at C4 C5
    have hz0 : 1 ≤ z := by omega
    have hz1 : z ≤ 1048578 := by omega
    have e1 : ((z : Int) != (z : Int)) = false := by simp
    clear hz
    go_enter Try.func4, Try.ntmps4
    go_wp2_with fail
    refine C1.out.mono ?_
    rintro e w1 ⟨A0, c0, rfl, hown0, hb1⟩
    go_wp2_with fail
    refine (C2.out _).mono ?_
    rintro e w2 ⟨A, c, rfl, hown, hb2⟩
    have hown0b := own_stays hown0 hb2
    go_wp2_with fail
    refine (C3.out _ _ _ _ _ _ _ (Reads.of_own hown) (Reads.of_own hown0b)).mono ?_
    rintro e w3 ⟨rfl, q, rfl⟩
    go_wp2_with fail
    refine (C4.out _ _ _ _ _ (own_drewN hown q)).mono ?_
    rintro e w4 ⟨rfl, hown4, hg4⟩
    have hown0c : w4.ownsRow w.heap.size 9 1 (.slice A0 n c0) n X := (own_drewN hown0b q).kept hg4 (by
      cases h : (Value.slice A0 n c0).ownBlock with
      | none => exact .inl rfl
      | some g => exact .inr (fun h2 => by have h3 := (own_block hown g h2.symm).1; have h4 := (own_block hown0 g h).2; omega))
    have B4 : Below w.heap.size w w4 := ((hb1.trans (hb2.mono hb1.size)).trans (Joins.below_draws _ _ q)).grown hg4 (by have h3 := hb1.size; have h4 := hb2.size; exact Nat.le_trans h3 h4) (fun k hk => by have h3 := (own_block hown k hk).1; have h4 := hb1.size; omega)
    clear hown hown0 hown0b hg4 hb1 hb2
    go_wp2_with fail
    refine (C5.out _ _ _ (Reads.of_own hown4)).mono ?_
    rintro e w5 ⟨rfl, hb5⟩
    have hown5 := own_stays hown4 hb5
    have hown0d := own_stays hown0c hb5
    have B5 := B4.trans (hb5.mono B4.size)
    clear hown4 hown0c B4 hb5
    go_wp2_with fail
    refine (C2.out _).mono ?_
    rintro e w6 ⟨A2, c2, rfl, hown6, hb6⟩
    have hown0e := own_stays hown0d hb6
    have hown5b := own_stays hown5 hb6
    have B6 := B5.trans (hb6.mono B5.size)
    clear hown0d hown5 hb6 B5
    go_wp2_with fail
    refine (C3.out _ _ _ _ _ _ _ (Reads.of_own hown6) (Reads.of_own hown0e)).mono ?_
    rintro e w7 ⟨rfl, q2, rfl⟩
    go_wp2_with fail
    refine (C5.out _ _ _ (Reads.of_own (own_drewN hown5b q2))).mono ?_
    rintro e w8 ⟨rfl, hb8⟩
    go_wp2
    go_ret
    exact ⟨rfl, (B6.trans (Joins.below_draws _ _ q2)).trans (hb8.mono B6.size)⟩

end Go.Proofs.Ytaphkogdcmnnbaa
