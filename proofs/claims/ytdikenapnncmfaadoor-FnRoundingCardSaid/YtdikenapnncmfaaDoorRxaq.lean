/- Parts of a pixel read from a text: plain facts on both sides' ways. -/
import Derived.Test.YtdikenapnncmfaaDoorPxq
import Derived.Test.YtdikenapnncmfaaDoorRdnq
import Derived.Test.YtdikenapnncmfaaDoorSpcq
import Derived.Lib.IndexBytes
import Derived.Lib.IndexMore
namespace Go.Proofs.YtdikenapnncmfaaDoor.Pix
open Go.RowKit
set_option linter.unusedVariables false
theorem digs_no58 (u : Nat) : (58 : UInt8) ∉ Lib.decDigits u := by
  induction u using Nat.strongRecOn with
  | ind u ih =>
    have hd : ∀ d : Nat, d < 10 → (58 : UInt8) ≠ UInt8.ofNat (48 + d) := by
      intro d hd e
      have := congrArg UInt8.toNat e
      simp at this
      omega
    by_cases h : u < 10
    · rw [Lib.decDigits_one h]
      simpa using hd u h
    · rw [Lib.decDigits, dif_neg h, List.mem_append]
      rintro (h2 | h2)
      · exact ih (u / 10) (by omega) h2
      · exact hd (u % 10) (by omega) (by simpa using h2)
theorem index_mid58 : ∀ (x y : List UInt8), (58 : UInt8) ∉ x → Lib.indexByte (x ++ 58 :: y) 58 = x.length
  | [], y, _ => by simp [Lib.indexByte]
  | b :: x, y, h => by
    have hb : ¬ b = 58 := fun e => h (by simp [e])
    have ih := index_mid58 x y (fun h2 => h (by simp [h2]))
    rw [List.cons_append]
    unfold Lib.indexByte
    rw [ih, if_neg (by simpa using hb), if_neg (by simp)]
    simp
theorem index_none58 : ∀ (x : List UInt8), (58 : UInt8) ∉ x → Lib.indexByte x 58 = -1
  | [], _ => rfl
  | b :: x, h => by
    have hb : ¬ b = 58 := fun e => h (by simp [e])
    have ih := index_none58 x (fun h2 => h (by simp [h2]))
    unfold Lib.indexByte
    rw [ih, if_neg (by simpa using hb), if_pos (by decide)]
theorem cut_mid58 (x y : List UInt8) (h : (58 : UInt8) ∉ x) : Lib.cut (x ++ 58 :: y) [58] = (x, y, true) := by
  unfold Lib.cut
  rw [Lib.index_one, index_mid58 x y h, if_pos (by omega)]
  simp
theorem cut_none58 (x : List UInt8) (h : (58 : UInt8) ∉ x) : Lib.cut x [58] = (x, [], false) := by
  unfold Lib.cut
  rw [Lib.index_one, index_none58 x h, if_neg (by omega)]
theorem cut_cases58 : ∀ l : List UInt8, (∃ x y, (58 : UInt8) ∉ x ∧ l = x ++ 58 :: y) ∨ (58 : UInt8) ∉ l
  | [] => .inr (by simp)
  | b :: l => by
    by_cases hb : b = 58
    · exact .inl ⟨[], l, by simp, by simp [hb]⟩
    · rcases cut_cases58 l with ⟨x, y, h1, h2⟩ | h
      · exact .inl ⟨b :: x, y, by simp only [List.mem_cons, not_or]; exact ⟨fun e => hb e.symm, h1⟩, by rw [h2]; rfl⟩
      · exact .inr (by simp only [List.mem_cons, not_or]; exact ⟨fun e => hb e.symm, h⟩)
theorem cut_lens58 (l : List UInt8) : (Lib.cut l [58]).1.length ≤ l.length ∧ (Lib.cut l [58]).2.1.length ≤ l.length := by
  rcases cut_cases58 l with ⟨x, y, h1, rfl⟩ | h
  · rw [cut_mid58 x y h1]; simp; omega
  · rw [cut_none58 l h]; simp
/-- The number that bytes spell, digits or not. -/
def hB (l : List UInt8) : Int := l.foldl (fun n b => 10 * n + (b.toNat : Int) - 48) 0
theorem hB_snoc (l : List UInt8) (b : UInt8) : hB (l ++ [b]) = 10 * hB l + (b.toNat : Int) - 48 := by simp [hB]
theorem hB_bound : ∀ (k : Nat) (l : List UInt8), l.length = k → -(23 * (10 ^ k - 1 : Int)) ≤ hB l ∧ hB l ≤ 23 * (10 ^ k - 1) := by
  intro k
  induction k with
  | zero =>
    intro l h
    obtain rfl : l = [] := List.eq_nil_of_length_eq_zero h
    simp [hB]
  | succ k ih =>
    intro l h
    rcases List.eq_nil_or_concat l with rfl | ⟨L, b, rfl⟩
    · simp at h
    · rw [List.concat_eq_append] at h ⊢
      have ih := ih L (by simpa using h)
      have hb : (b.toNat : Int) ≤ 255 := by have := b.toNat_lt; omega
      have hb0 : (0 : Int) ≤ b.toNat := by omega
      rw [hB_snoc, Int.pow_succ]
      generalize (10 : Int) ^ k = p at *
      omega
theorem hB_in {l : List UInt8} (h : l.length ≤ 12) : -100000000000000 ≤ hB l ∧ hB l ≤ 100000000000000 := by
  have := hB_bound _ l rfl
  have h2 : (10 : Int) ^ l.length ≤ 10 ^ 12 := by
    have : (10 : Nat) ^ l.length ≤ 10 ^ 12 := Nat.pow_le_pow_right (by omega) h
    exact_mod_cast this
  have h3 : (10 : Int) ^ 12 = 1000000000000 := by decide
  omega
theorem hB_dec : ∀ u : Nat, hB (Lib.decDigits u) = (u : Int) := by
  intro u
  induction u using Nat.strongRecOn with
  | ind u ih =>
    have hd : ∀ d : Nat, d < 10 → ((UInt8.ofNat (48 + d)).toNat : Int) = 48 + d := by
      intro d hd
      have : (UInt8.ofNat (48 + d)).toNat = (48 + d) % 256 := by simp
      omega
    by_cases h : u < 10
    · rw [Lib.decDigits_one h]
      have := hd u h
      simp only [hB, List.foldl_cons, List.foldl_nil]
      omega
    · rw [Lib.decDigits, dif_neg h, hB_snoc, ih (u / 10) (by omega), hd _ (by omega)]
      omega
/-- The two digits of what is left. -/
def dg (r : Nat) : List UInt8 := [UInt8.ofNat (48 + r / 10), UInt8.ofNat (48 + r % 10)]
theorem dg_num {r : Nat} (h : r < 64) : ((UInt8.ofNat (48 + r / 10)).toNat : Int) = 48 + ((r / 10 : Nat) : Int) ∧ ((UInt8.ofNat (48 + r % 10)).toNat : Int) = 48 + ((r % 10 : Nat) : Int) := by
  have h1 : (UInt8.ofNat (48 + r / 10)).toNat = (48 + r / 10) % 256 := by simp
  have h2 : (UInt8.ofNat (48 + r % 10)).toNat = (48 + r % 10) % 256 := by simp
  omega
theorem num_dg : ∀ r : Fin 64, numL (49 :: dg r.val) = some (100 + (r.val : Int)) := by decide +kernel
theorem dcB_list (n : Int) : (dcB n).data.toList = Lib.itoa n := by simp [dcB]
/-- The bytes of a text of parts. -/
theorem pxB_list (a : Nat) : (pxB (a : Int)).data.toList = Lib.decDigits (a / 64) ++ 58 :: dg (a % 64) := by
  have h1 : ((a : Int) / 64) = ((a / 64 : Nat) : Int) := by omega
  have h2 : ((a : Int) % 64 / 10) = ((a % 64 / 10 : Nat) : Int) := by omega
  have h3 : ((a : Int) % 64 % 10) = ((a % 64 % 10 : Nat) : Int) := by omega
  unfold pxB
  simp only [ByteArray.data_append, Array.toList_append, dcB_list, h1, h2, h3, Lib.itoa_nonneg]
  rw [Lib.decDigits_one (show a % 64 / 10 < 10 by omega), Lib.decDigits_one (show a % 64 % 10 < 10 by omega)]
  simp [dg]
theorem pxT_nn {a : Nat} (h : ptI (a : Int)) : (pxT (a : Int)).data.toList = Lib.decDigits (a / 64) ++ 58 :: dg (a % 64) := by
  unfold pxT
  rw [if_pos h, if_neg (by omega), pxB_list]
theorem pxT_ng {a : Nat} (h : ptI (-(a : Int))) (h0 : 0 < a) : (pxT (-(a : Int))).data.toList = 45 :: (Lib.decDigits (a / 64) ++ 58 :: dg (a % 64)) := by
  unfold pxT
  rw [if_pos h, if_pos (by omega), Int.neg_neg]
  simp only [ByteArray.data_append, Array.toList_append, pxB_list]
  rfl
theorem pxT_out {v : Int} (h : ¬ ptI v) : pxT v = ⟨#[]⟩ := by unfold pxT; rw [if_neg h]
theorem dig_head (u : Nat) (y : List UInt8) : ¬ (Lib.decDigits u ++ y).head? = some 45 := by
  obtain ⟨d, r, hd, hr⟩ := decDigits_head u
  rw [hr]
  simpa using (digit_ne d hd).1
/-- Every text of parts: a sign or none, then the parts of a number. -/
theorem pxT_cases {v : Int} {l : List UInt8} (hv : ptI v) (h : (pxT v).data.toList = l) :
    ∃ a : Nat, a ≤ 1099511627776 ∧ ((v = a ∧ l = Lib.decDigits (a / 64) ++ 58 :: dg (a % 64)) ∨ (v = -(a : Int) ∧ l = 45 :: (Lib.decDigits (a / 64) ++ 58 :: dg (a % 64)))) := by
  by_cases hn : v < 0
  · obtain ⟨a, ha⟩ := Int.eq_ofNat_of_zero_le (show 0 ≤ -v by omega)
    obtain rfl : v = -(a : Int) := by omega
    exact ⟨a, by unfold ptI at hv; omega, .inr ⟨rfl, by rw [← h, pxT_ng hv (by omega)]⟩⟩
  · obtain ⟨a, rfl⟩ := Int.eq_ofNat_of_zero_le (show 0 ≤ v by omega)
    exact ⟨a, by unfold ptI at hv; omega, .inl ⟨rfl, by rw [← h, pxT_nn hv]⟩⟩
/-- The number that the program makes of the bytes. -/
def n0 (l : List UInt8) : Int := (numL l).getD 0
def unL (l : List UInt8) : List UInt8 := Lib.trimPrefix l [45]
def rdV (l : List UInt8) : Int := n0 (Lib.cut (unL l) [58]).1 * 64 + n0 (49 :: (Lib.cut (unL l) [58]).2.1) - 100
theorem n0_in (l : List UInt8) : -999999999999999999 ≤ n0 l ∧ n0 l ≤ 999999999999999999 := by
  unfold n0
  cases h : numL l with
  | none => simp
  | some n => have := numL_some h; simp; omega
theorem unL_neg (l : List UInt8) : unL (45 :: l) = l ∧ Lib.hasPrefix (45 :: l) [45] = true := by
  simp [unL, Lib.trimPrefix, Lib.hasPrefix]
theorem unL_no {l : List UInt8} (h : ¬ l.head? = some 45) : unL l = l ∧ Lib.hasPrefix l [45] = false := by
  have : Lib.hasPrefix l [45] = false := by
    cases l with
    | nil => rfl
    | cons b l =>
      have hb : ¬ (45 : UInt8) = b := fun e => h (by rw [← e]; rfl)
      unfold Lib.hasPrefix
      simp [List.isPrefixOf, hb]
  exact ⟨by unfold unL Lib.trimPrefix; rw [this]; simp, this⟩
theorem read_a {a : Nat} (h : a ≤ 1099511627776) : Lib.cut (Lib.decDigits (a / 64) ++ 58 :: dg (a % 64)) [58] = (Lib.decDigits (a / 64), dg (a % 64), true) ∧ n0 (Lib.decDigits (a / 64)) = ((a / 64 : Nat) : Int) ∧ n0 (49 :: dg (a % 64)) = 100 + ((a % 64 : Nat) : Int) := by
  refine ⟨cut_mid58 _ _ (digs_no58 _), ?_, ?_⟩
  · unfold n0
    rw [← Lib.itoa_nonneg, numL_itoa _ (by omega) (by omega)]; rfl
  · unfold n0
    rw [num_dg ⟨a % 64, by omega⟩]; rfl
theorem split_a {a : Nat} (h : a ≤ 1099511627776) : splitL 58 (Lib.decDigits (a / 64) ++ 58 :: dg (a % 64)) = [Lib.decDigits (a / 64), dg (a % 64)] := by
  rw [splitL_mid _ (digs_no58 _), splitL_none]
  have h1 := dg_num (r := a % 64) (by omega)
  unfold dg
  simp only [List.mem_cons, List.not_mem_nil, or_false, not_or]
  constructor
  · intro e
    have := congrArg UInt8.toNat e
    simp at this h1; omega
  · intro e
    have := congrArg UInt8.toNat e
    simp at this h1; omega
theorem len_a {a : Nat} (h : a ≤ 1099511627776) : (Lib.decDigits (a / 64)).length ≤ 12 ∧ (dg (a % 64)).length = 2 := by
  refine ⟨?_, rfl⟩
  rw [Lib.decDigits_length]
  exact nDigits_le (k := 11) (by omega)
/-- What a reading answers. -/
def Rp (s : ByteArray) (n : Int) (b : Bool) : Prop := (b = true ∧ ptI n ∧ pxT n = s) ∨ (b = false ∧ n = 0 ∧ ∀ m, ptI m → ¬ pxT m = s)
theorem pxT_inj {m n : Int} (hm : ptI m) (hn : ptI n) (h : pxT m = pxT n) : m = n := by
  obtain ⟨a, ha, hA⟩ := pxT_cases hm rfl
  obtain ⟨b, hb, hB⟩ := pxT_cases hn rfl
  rw [h] at hA
  have k : ∀ {x y : Nat}, x ≤ 1099511627776 → y ≤ 1099511627776 → Lib.decDigits (x / 64) ++ 58 :: dg (x % 64) = Lib.decDigits (y / 64) ++ 58 :: dg (y % 64) → x = y := by
    intro x y hx hy e
    obtain ⟨x1, x2, x3⟩ := read_a hx
    obtain ⟨y1, y2, y3⟩ := read_a hy
    rw [e, y1] at x1
    obtain ⟨e1, e2, _⟩ : Lib.decDigits (y / 64) = Lib.decDigits (x / 64) ∧ dg (y % 64) = dg (x % 64) ∧ true = true := by simpa using x1
    rw [← e1, y2] at x2
    rw [← e2, y3] at x3
    omega
  rcases hA with ⟨v1, l1⟩ | ⟨v1, l1⟩ <;> rcases hB with ⟨v2, l2⟩ | ⟨v2, l2⟩
  · have := k ha hb (l1.symm.trans l2); omega
  · exact absurd (congrArg List.head? (l1.symm.trans l2)) (by intro e; exact dig_head _ _ (by rw [e]; rfl))
  · exact absurd (congrArg List.head? (l1.symm.trans l2)) (by intro e; exact dig_head _ _ (by rw [← e]; rfl))
  · have := k ha hb (List.cons.inj (l1.symm.trans l2)).2; omega
theorem Rp_same {s : ByteArray} {n m : Int} {b c : Bool} (h1 : Rp s n b) (h2 : Rp s m c) : n = m ∧ b = c := by
  rcases h1 with ⟨rfl, i1, e1⟩ | ⟨rfl, rfl, e1⟩ <;> rcases h2 with ⟨rfl, i2, e2⟩ | ⟨rfl, rfl, e2⟩
  · exact ⟨pxT_inj i1 i2 (e1.trans e2.symm), rfl⟩
  · exact absurd e1 (e2 _ i1)
  · exact absurd e2 (e1 _ i2)
  · exact ⟨rfl, rfl⟩
theorem px_ne {n : Int} (h : ptI n) : ¬ pxT n = ⟨#[]⟩ := by
  intro e
  obtain ⟨a, _, h1⟩ := pxT_cases h rfl
  rw [e] at h1
  rcases h1 with ⟨_, l⟩ | ⟨_, l⟩
  · have := congrArg List.length l
    simp at this
  · cases l
end Go.Proofs.YtdikenapnncmfaaDoor.Pix
