/- The number with a decimal form: plain functions of bytes. -/
import Derived.Lib.ItoaNum
import Derived.Lib.ItoaMem
import Derived.Lib.ItoaLen
import Derived.Lib.AtoiTie
import Derived.Lib.ParseIntBTie
namespace Go.Proofs.YtdikenapnncmfaaDoor.Pix

/-- The bytes behind a sign. -/
def unsign (l : List UInt8) : List UInt8 := if l.head? = some 45 then l.tail else l
/-- A number with the sign of the bytes. -/
def signOf (l : List UInt8) (u : Nat) : Int := if l.head? = some 45 then -(u : Int) else (u : Int)
/-- The number whose decimal form the bytes are, of at most 18 digits. -/
def numL (l : List UInt8) : Option Int :=
  if 1 ≤ (unsign l).length ∧ (unsign l).length ≤ 18 then
    match Lib.decFrom 0 (unsign l) with
    | some u => if Lib.itoa (signOf l u) = l then some (signOf l u) else none
    | none => none
  else none

theorem decFrom_append : ∀ (xs ys : List UInt8) (acc : Nat), Lib.decFrom acc (xs ++ ys) = (Lib.decFrom acc xs).bind fun a => Lib.decFrom a ys
  | [], _, _ => rfl
  | x :: xs, ys, acc => by
    simp only [List.cons_append, Lib.decFrom]
    cases h : Lib.digitVal x with
    | none => rfl
    | some d => exact decFrom_append xs ys _
theorem digitVal_of (d : Nat) (h : d < 10) : Lib.digitVal (UInt8.ofNat (48 + d)) = some d := by
  have : (UInt8.ofNat (48 + d)).toNat = 48 + d := by
    have : (UInt8.ofNat (48 + d)).toNat = (48 + d) % 256 := by simp
    omega
  unfold Lib.digitVal
  rw [this, if_pos (by omega)]
  congr 1
  omega
theorem decFrom_decDigits : ∀ (u : Nat), Lib.decFrom 0 (Lib.decDigits u) = some u := by
  intro u
  induction u using Nat.strongRecOn with
  | ind u ih =>
    by_cases h : u < 10
    · rw [Lib.decDigits_one h]
      simp only [Lib.decFrom, digitVal_of u h, Nat.zero_mul, Nat.zero_add]
    · rw [Lib.decDigits, dif_neg h, decFrom_append, ih (u / 10) (by omega)]
      simp only [Option.bind_some, Lib.decFrom, digitVal_of (u % 10) (by omega)]
      congr 1
      omega
theorem decDigits_head (u : Nat) : ∃ d r, d < 10 ∧ Lib.decDigits u = UInt8.ofNat (48 + d) :: r := by
  induction u using Nat.strongRecOn with
  | ind u ih =>
    by_cases h : u < 10
    · exact ⟨u, [], h, Lib.decDigits_one h⟩
    · obtain ⟨d, r, hd, e⟩ := ih (u / 10) (by omega)
      exact ⟨d, r ++ [UInt8.ofNat (48 + u % 10)], hd, by rw [Lib.decDigits, dif_neg h, e]; rfl⟩
theorem digit_ne (d : Nat) (h : d < 10) : UInt8.ofNat (48 + d) ≠ 45 ∧ UInt8.ofNat (48 + d) ≠ 43 := by
  have e : (UInt8.ofNat (48 + d)).toNat = 48 + d := by
    have : (UInt8.ofNat (48 + d)).toNat = (48 + d) % 256 := by simp
    omega
  constructor <;> intro h2 <;> rw [h2] at e <;> simp at e <;> omega
theorem nDigits_le {k : Nat} : ∀ {u : Nat}, u < 10 ^ (k + 1) → Lib.nDigits u ≤ k + 1 := by
  induction k with
  | zero => intro u h; rw [Lib.nDigits_small (by simpa using h)]; omega
  | succ k ih =>
    intro u h
    by_cases h0 : u < 10
    · rw [Lib.nDigits_small h0]; omega
    · rw [Lib.nDigits_big h0]
      have := ih (u := u / 10) (by rw [Nat.pow_succ] at h; omega)
      omega

theorem numL_itoa (n : Int) (h0 : -999999999999999999 ≤ n) (h1 : n ≤ 999999999999999999) : numL (Lib.itoa n) = some n := by
  by_cases hn : n < 0
  · obtain ⟨m, hm⟩ := Int.eq_ofNat_of_zero_le (show 0 ≤ -n by omega)
    obtain rfl : n = -(m : Int) := by omega
    have e : Lib.itoa (-(m : Int)) = 45 :: Lib.decDigits m := Lib.itoa_neg m (by omega)
    have hl : (Lib.decDigits m).length ≤ 18 ∧ 1 ≤ (Lib.decDigits m).length := by
      rw [Lib.decDigits_length]
      exact ⟨nDigits_le (by omega), Lib.nDigits_pos m⟩
    have hu : unsign (45 :: Lib.decDigits m) = Lib.decDigits m := rfl
    have hs : signOf (45 :: Lib.decDigits m) m = -(m : Int) := rfl
    unfold numL
    rw [e, hu, if_pos ⟨hl.2, hl.1⟩, decFrom_decDigits]
    simp only
    rw [hs, if_pos e]
  · obtain ⟨m, rfl⟩ := Int.eq_ofNat_of_zero_le (show 0 ≤ n by omega)
    have e : Lib.itoa (m : Int) = Lib.decDigits m := Lib.itoa_nonneg m
    have hl : (Lib.decDigits m).length ≤ 18 ∧ 1 ≤ (Lib.decDigits m).length := by
      rw [Lib.decDigits_length]
      exact ⟨nDigits_le (by omega), Lib.nDigits_pos m⟩
    obtain ⟨d, r, hd, hr⟩ := decDigits_head m
    have hh : ¬ (Lib.decDigits m).head? = some 45 := by rw [hr]; simpa using (digit_ne d hd).1
    have hu : unsign (Lib.decDigits m) = Lib.decDigits m := by unfold unsign; rw [if_neg hh]
    have hs : signOf (Lib.decDigits m) m = (m : Int) := by unfold signOf; rw [if_neg hh]
    unfold numL
    rw [e, hu, if_pos ⟨hl.2, hl.1⟩, decFrom_decDigits]
    simp only
    rw [hs, if_pos e]
theorem numL_some {l : List UInt8} {n : Int} (h : numL l = some n) : Lib.itoa n = l ∧ -999999999999999999 ≤ n ∧ n ≤ 999999999999999999 := by
  unfold numL at h
  split at h
  · rename_i hl
    split at h
    · rename_i u hu
      split at h
      · rename_i hi
        injection h with h
        subst h
        have := Lib.decFrom_lt18 hu hl.2
        refine ⟨hi, ?_⟩
        unfold signOf
        split <;> omega
      · cases h
    · cases h
  · cases h
theorem parse_itoa (n : Int) (h0 : -999999999999999999 ≤ n) (h1 : n ≤ 999999999999999999) : Lib.parseIntB 64 (Lib.itoa n) = .ok n := by
  rw [Lib.parseIntB_64]
  have hd : ∀ m : Nat, (m : Int) ≤ 999999999999999999 → (Lib.decDigits m).length ≤ 18 ∧ Lib.decNat (Lib.decDigits m) = some m := by
    intro m hm
    obtain ⟨d, r, hd, hr⟩ := decDigits_head m
    refine ⟨by rw [Lib.decDigits_length]; exact nDigits_le (by omega), ?_⟩
    unfold Lib.decNat
    rw [if_neg (by rw [hr]; simp), decFrom_decDigits]
  by_cases hn : n < 0
  · obtain ⟨m, hm⟩ := Int.eq_ofNat_of_zero_le (show 0 ≤ -n by omega)
    obtain rfl : n = -(m : Int) := by omega
    rw [Lib.itoa_neg m (by omega), Lib.atoiAll_minus, Lib.signed_short (hd m (by omega)).1, (hd m (by omega)).2]
    rfl
  · obtain ⟨m, rfl⟩ := Int.eq_ofNat_of_zero_le (show 0 ≤ n by omega)
    obtain ⟨d, r, hd', hr⟩ := decDigits_head m
    have h2 := hd m (by omega)
    rw [Lib.itoa_nonneg, hr, Lib.atoiAll_plain _ _ (fun e => (digit_ne d hd').2 (UInt8.toNat_inj.1 e)) (fun e => (digit_ne d hd').1 (UInt8.toNat_inj.1 e)), ← hr, Lib.signless_short h2.1, h2.2]
    rfl
/-- What the program's reading says of a numeral that the library takes. -/
theorem numL_ok {l : List UInt8} {v : Int} (h : Lib.parseIntB 64 l = .ok v) : numL l = if -999999999999999999 ≤ v ∧ v ≤ 999999999999999999 ∧ Lib.itoa v = l then some v else none := by
  split
  · rename_i hc
    obtain ⟨a, b, e⟩ := hc
    rw [← e]
    exact numL_itoa v a b
  · rename_i hc
    cases hn : numL l with
    | none => rfl
    | some n =>
      obtain ⟨e, a, b⟩ := numL_some hn
      have h2 := parse_itoa n a b
      rw [e, h] at h2
      injection h2 with h2
      subst h2
      exact absurd ⟨a, b, e⟩ hc
theorem numL_bad {l : List UInt8} (h : ∀ v, Lib.parseIntB 64 l ≠ .ok v) : numL l = none := by
  cases hn : numL l with
  | none => rfl
  | some n =>
    obtain ⟨e, a, b⟩ := numL_some hn
    have h2 := parse_itoa n a b
    rw [e] at h2
    exact absurd h2 (h n)

end Go.Proofs.YtdikenapnncmfaaDoor.Pix
