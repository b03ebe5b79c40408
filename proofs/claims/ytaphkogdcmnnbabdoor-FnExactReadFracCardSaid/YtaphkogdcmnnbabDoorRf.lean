/- The fraction with a text form: plain functions of bytes. -/
import Derived.Test.YtaphkogdcmnnbabDoorRd
import Derived.Test.YtaphkogdcmnnbabDoorWTx
import Derived.Lib.IndexBytes
import Derived.Lib.IndexMore
namespace Go.Proofs.YtaphkogdcmnnbabDoor

/-- The number of at most ten digits. -/
def int10 (l : List UInt8) : Option Int :=
  if 1 ≤ (unsign l).length ∧ (unsign l).length ≤ 10 then
    match Lib.decFrom 0 (unsign l) with
    | some u => some (signOf l u)
    | none => none
  else none
theorem int10_itoa (n : Int) (h0 : -1000000000 ≤ n) (h1 : n ≤ 1000000000) : int10 (Lib.itoa n) = some n := by
  by_cases hn : n < 0
  · obtain ⟨m, hm⟩ := Int.eq_ofNat_of_zero_le (show 0 ≤ -n by omega)
    obtain rfl : n = -(m : Int) := by omega
    have e : Lib.itoa (-(m : Int)) = 45 :: Lib.decDigits m := Lib.itoa_neg m (by omega)
    have hl : (Lib.decDigits m).length ≤ 10 ∧ 1 ≤ (Lib.decDigits m).length := by
      rw [Lib.decDigits_length]
      exact ⟨nDigits_le (by omega), Lib.nDigits_pos m⟩
    have hu : unsign (45 :: Lib.decDigits m) = Lib.decDigits m := rfl
    have hs : signOf (45 :: Lib.decDigits m) m = -(m : Int) := rfl
    unfold int10
    rw [e, hu, if_pos ⟨hl.2, hl.1⟩, decFrom_decDigits]
    simp only
    rw [hs]
  · obtain ⟨m, rfl⟩ := Int.eq_ofNat_of_zero_le (show 0 ≤ n by omega)
    have e : Lib.itoa (m : Int) = Lib.decDigits m := Lib.itoa_nonneg m
    have hl : (Lib.decDigits m).length ≤ 10 ∧ 1 ≤ (Lib.decDigits m).length := by
      rw [Lib.decDigits_length]
      exact ⟨nDigits_le (by omega), Lib.nDigits_pos m⟩
    obtain ⟨d, r, hd, hr⟩ := decDigits_head m
    have hh : ¬ (Lib.decDigits m).head? = some 45 := by rw [hr]; simpa using (digit_ne d hd).1
    have hu : unsign (Lib.decDigits m) = Lib.decDigits m := by unfold unsign; rw [if_neg hh]
    have hs : signOf (Lib.decDigits m) m = (m : Int) := by unfold signOf; rw [if_neg hh]
    unfold int10
    rw [e, hu, if_pos ⟨hl.2, hl.1⟩, decFrom_decDigits]
    simp only
    rw [hs]
theorem digs_no47 (u : Nat) : (47 : UInt8) ∉ Lib.decDigits u := by
  induction u using Nat.strongRecOn with
  | ind u ih =>
    have hd : ∀ d : Nat, d < 10 → (47 : UInt8) ≠ UInt8.ofNat (48 + d) := by
      intro d hd e
      have := congrArg UInt8.toNat e
      simp at this
      omega
    by_cases h : u < 10
    · rw [Lib.decDigits_one h]
      simpa using hd u h
    · rw [Lib.decDigits, dif_neg h, List.mem_append]
      rintro (h2 | h2)
      · exact ih (u / 10) (by omega) h2
      · exact hd (u % 10) (by omega) (by simpa using h2)
theorem itoa_no47 (n : Int) : (47 : UInt8) ∉ Lib.itoa n := by
  by_cases hn : n < 0
  · obtain ⟨m, hm⟩ := Int.eq_ofNat_of_zero_le (show 0 ≤ -n by omega)
    obtain rfl : n = -(m : Int) := by omega
    rw [Lib.itoa_neg m (by omega)]
    simpa using digs_no47 m
  · obtain ⟨m, rfl⟩ := Int.eq_ofNat_of_zero_le (show 0 ≤ n by omega)
    rw [Lib.itoa_nonneg]
    exact digs_no47 m
theorem index_mid : ∀ (x y : List UInt8), (47 : UInt8) ∉ x → Lib.indexByte (x ++ 47 :: y) 47 = x.length
  | [], y, _ => by simp [Lib.indexByte]
  | b :: x, y, h => by
    have hb : ¬ b = 47 := fun e => h (by simp [e])
    have ih := index_mid x y (fun h2 => h (by simp [h2]))
    rw [List.cons_append]
    unfold Lib.indexByte
    rw [ih, if_neg (by simpa using hb), if_neg (by simp)]
    simp
theorem index_none47 : ∀ (x : List UInt8), (47 : UInt8) ∉ x → Lib.indexByte x 47 = -1
  | [], _ => rfl
  | b :: x, h => by
    have hb : ¬ b = 47 := fun e => h (by simp [e])
    have ih := index_none47 x (fun h2 => h (by simp [h2]))
    unfold Lib.indexByte
    rw [ih, if_neg (by simpa using hb), if_pos (by decide)]
theorem cut_mid (x y : List UInt8) (h : (47 : UInt8) ∉ x) : Lib.cut (x ++ 47 :: y) [47] = (x, y, true) := by
  unfold Lib.cut
  rw [Lib.index_one, index_mid x y h, if_pos (by omega)]
  simp
theorem cut_none47 (x : List UInt8) (h : (47 : UInt8) ∉ x) : Lib.cut x [47] = (x, [], false) := by
  unfold Lib.cut
  rw [Lib.index_one, index_none47 x h, if_neg (by omega)]
theorem cut_cases : ∀ l : List UInt8, (∃ x y, (47 : UInt8) ∉ x ∧ l = x ++ 47 :: y) ∨ (47 : UInt8) ∉ l
  | [] => .inr (by simp)
  | b :: l => by
    by_cases hb : b = 47
    · exact .inl ⟨[], l, by simp, by simp [hb]⟩
    · rcases cut_cases l with ⟨x, y, hx, rfl⟩ | h
      · exact .inl ⟨b :: x, y, by simp [hx]; exact fun e => hb e.symm, rfl⟩
      · exact .inr (by simp [h]; exact fun e => hb e.symm)

/-- The last step on the reference's side. -/
def finS (l a : List UInt8) (d : Int) : Option (Int × Int) := (int10 a).bind fun n => if (textOf n d).data.toList = l then some (n, d) else none
def ansS (l : List UInt8) : Option (Int × Int) :=
  if (Lib.cut l [47]).2.2 = true then (int10 (Lib.cut l [47]).2.1).bind fun d => finS l (Lib.cut l [47]).1 d else finS l (Lib.cut l [47]).1 1
def finI (n d : Int) : Option (Int × Int) := if validB n d = true then some (n, d) else none
def ansI (l : List UInt8) : Option (Int × Int) :=
  (numL (Lib.cut l [47]).1).bind fun n => if (Lib.cut l [47]).2.2 = true then (numL (Lib.cut l [47]).2.1).bind fun d => if d = 1 then none else finI n d else finI n 1

theorem valid_bds {n d : Int} (h : validB n d = true) : 1 ≤ d ∧ d ≤ 1000000 ∧ -1000000000 ≤ n ∧ n ≤ 1000000000 := by
  simp [validB] at h
  omega
theorem frac_one (n : Int) : (fracB n 1).data.toList = Lib.itoa n := rfl
theorem frac_more (n : Int) {d : Int} (h : ¬ d = 1) : (fracB n d).data.toList = Lib.itoa n ++ 47 :: Lib.itoa d := by
  rw [fracB_more h]
  simp [decB]
theorem finS_some {l a : List UInt8} {d n' d' : Int} (hl : l ≠ []) (h : finS l a d = some (n', d')) : d' = d ∧ validB n' d' = true ∧ (fracB n' d').data.toList = l := by
  unfold finS at h
  cases ha : int10 a with
  | none => rw [ha] at h; cases h
  | some n =>
    rw [ha] at h
    simp only [Option.bind_some] at h
    split at h
    · rename_i ht
      injection h with h
      injection h with h1 h2
      subst h1 h2
      refine ⟨rfl, ?_⟩
      cases hv : validB n d with
      | true => rw [textOf_yes hv] at ht; exact ⟨rfl, ht⟩
      | false => rw [textOf_no hv] at ht; exact absurd ht.symm hl
    · cases h
theorem finS_mk {l a : List UInt8} {n d : Int} (ha : int10 a = some n) (hv : validB n d = true) (ht : (fracB n d).data.toList = l) : finS l a d = some (n, d) := by
  unfold finS
  rw [ha]
  simp only [Option.bind_some]
  rw [textOf_yes hv, if_pos ht]
theorem ansS_iff (l : List UInt8) (n d : Int) : ansS l = some (n, d) ↔ validB n d = true ∧ (fracB n d).data.toList = l := by
  constructor
  · intro h
    have hl : l ≠ [] := by
      rintro rfl
      rw [show ansS [] = none from rfl] at h
      cases h
    unfold ansS at h
    split at h
    · cases hb : int10 (Lib.cut l [47]).2.1 with
      | none => rw [hb] at h; cases h
      | some d0 =>
        rw [hb] at h
        exact (finS_some hl h).2
    · exact (finS_some hl h).2
  · rintro ⟨hv, rfl⟩
    obtain ⟨b1, b2, b3, b4⟩ := valid_bds hv
    by_cases h1 : d = 1
    · subst h1
      have hc : Lib.cut (fracB n 1).data.toList [47] = (Lib.itoa n, [], false) := by rw [frac_one]; exact cut_none47 _ (itoa_no47 n)
      unfold ansS
      rw [hc, if_neg (by simp)]
      exact finS_mk (int10_itoa n b3 b4) hv rfl
    · have hc : Lib.cut (fracB n d).data.toList [47] = (Lib.itoa n, Lib.itoa d, true) := by rw [frac_more n h1]; exact cut_mid _ _ (itoa_no47 n)
      unfold ansS
      rw [hc, if_pos rfl]
      simp only
      rw [int10_itoa d (by omega) (by omega)]
      exact finS_mk (int10_itoa n b3 b4) hv rfl
theorem finI_some {n d n' d' : Int} (h : finI n d = some (n', d')) : n' = n ∧ d' = d ∧ validB n d = true := by
  unfold finI at h
  split at h
  · injection h with h
    injection h with h1 h2
    exact ⟨h1.symm, h2.symm, ‹_›⟩
  · cases h
theorem ansI_iff (l : List UInt8) (n d : Int) : ansI l = some (n, d) ↔ validB n d = true ∧ (fracB n d).data.toList = l := by
  constructor
  · intro h
    unfold ansI at h
    rcases cut_cases l with ⟨x, y, hx, rfl⟩ | hl
    · rw [cut_mid x y hx] at h
      simp only [if_true] at h
      cases ha : numL x with
      | none => rw [ha] at h; cases h
      | some n0 =>
        rw [ha] at h
        simp only [Option.bind_some] at h
        cases hb : numL y with
        | none => rw [hb] at h; cases h
        | some d0 =>
          rw [hb] at h
          simp only [Option.bind_some] at h
          split at h
          · cases h
          · rename_i h1
            obtain ⟨rfl, rfl, hv⟩ := finI_some h
            exact ⟨hv, by rw [frac_more _ h1, (numL_some ha).1, (numL_some hb).1]⟩
    · rw [cut_none47 l hl] at h
      cases ha : numL l with
      | none => simp only [ha] at h; cases h
      | some n0 =>
        simp only [ha, Option.bind_some, Bool.false_eq_true, if_false] at h
        obtain ⟨rfl, rfl, hv⟩ := finI_some h
        exact ⟨hv, by rw [frac_one, (numL_some ha).1]⟩
  · rintro ⟨hv, rfl⟩
    obtain ⟨b1, b2, b3, b4⟩ := valid_bds hv
    by_cases h1 : d = 1
    · subst h1
      have hc : Lib.cut (fracB n 1).data.toList [47] = (Lib.itoa n, [], false) := by rw [frac_one]; exact cut_none47 _ (itoa_no47 n)
      unfold ansI
      rw [hc]
      simp only [numL_itoa n (by omega) (by omega), Option.bind_some, Bool.false_eq_true, if_false]
      unfold finI
      rw [if_pos hv]
    · have hc : Lib.cut (fracB n d).data.toList [47] = (Lib.itoa n, Lib.itoa d, true) := by rw [frac_more n h1]; exact cut_mid _ _ (itoa_no47 n)
      unfold ansI
      rw [hc]
      simp only [numL_itoa n (by omega) (by omega), numL_itoa d (by omega) (by omega), Option.bind_some, if_true]
      rw [if_neg h1]
      unfold finI
      rw [if_pos hv]
theorem ans_eq (l : List UInt8) : ansS l = ansI l :=
  Option.ext fun p => by
    obtain ⟨n, d⟩ := p
    rw [ansS_iff, ansI_iff]
end Go.Proofs.YtaphkogdcmnnbabDoor
