/- The point with a text form: plain functions of bytes. -/
import Derived.Test.YtiljdnfhojpgnaaDoorRd
import Derived.Test.YtiljdnfhojpgnaaDoorSpc
import Derived.Test.YtiljdnfhojpgnaaDoorPn
import Derived.Lib.IndexBytes
import Derived.Lib.IndexMore
namespace Go.Proofs.YtiljdnfhojpgnaaDoor

theorem digs_no44 (u : Nat) : (44 : UInt8) ∉ Lib.decDigits u := by
  induction u using Nat.strongRecOn with
  | ind u ih =>
    have hd : ∀ d : Nat, d < 10 → (44 : UInt8) ≠ UInt8.ofNat (48 + d) := by
      intro d hd e
      have := congrArg UInt8.toNat e
      simp at this
      omega
    by_cases h : u < 10
    · rw [Lib.decDigits_one h]
      simpa using hd u h
    · rw [Lib.decDigits, dif_neg h, List.mem_append]
      rintro (h2 | h2)
      · exact ih (u / 10) (by omega) h2
      · exact hd (u % 10) (by omega) (by simpa using h2)
theorem itoa_no44 (n : Int) : (44 : UInt8) ∉ Lib.itoa n := by
  by_cases hn : n < 0
  · obtain ⟨m, hm⟩ := Int.eq_ofNat_of_zero_le (show 0 ≤ -n by omega)
    obtain rfl : n = -(m : Int) := by omega
    rw [Lib.itoa_neg m (by omega)]
    simpa using digs_no44 m
  · obtain ⟨m, rfl⟩ := Int.eq_ofNat_of_zero_le (show 0 ≤ n by omega)
    rw [Lib.itoa_nonneg]
    exact digs_no44 m
theorem index_mid : ∀ (x y : List UInt8), (44 : UInt8) ∉ x → Lib.indexByte (x ++ 44 :: y) 44 = x.length
  | [], y, _ => by simp [Lib.indexByte]
  | b :: x, y, h => by
    have hb : ¬ b = 44 := fun e => h (by simp [e])
    have ih := index_mid x y (fun h2 => h (by simp [h2]))
    rw [List.cons_append]
    unfold Lib.indexByte
    rw [ih, if_neg (by simpa using hb), if_neg (by simp)]
    simp
theorem index_none44 : ∀ (x : List UInt8), (44 : UInt8) ∉ x → Lib.indexByte x 44 = -1
  | [], _ => rfl
  | b :: x, h => by
    have hb : ¬ b = 44 := fun e => h (by simp [e])
    have ih := index_none44 x (fun h2 => h (by simp [h2]))
    unfold Lib.indexByte
    rw [ih, if_neg (by simpa using hb), if_pos (by decide)]
theorem cut_mid (x y : List UInt8) (h : (44 : UInt8) ∉ x) : Lib.cut (x ++ 44 :: y) [44] = (x, y, true) := by
  unfold Lib.cut
  rw [Lib.index_one, index_mid x y h, if_pos (by omega)]
  simp
theorem cut_none44 (x : List UInt8) (h : (44 : UInt8) ∉ x) : Lib.cut x [44] = (x, [], false) := by
  unfold Lib.cut
  rw [Lib.index_one, index_none44 x h, if_neg (by omega)]
theorem cut_cases : ∀ l : List UInt8, (∃ x y, (44 : UInt8) ∉ x ∧ l = x ++ 44 :: y) ∨ (44 : UInt8) ∉ l
  | [] => .inr (by simp)
  | b :: l => by
    by_cases hb : b = 44
    · exact .inl ⟨[], l, by simp, by simp [hb]⟩
    · rcases cut_cases l with ⟨x, y, hx, rfl⟩ | h
      · exact .inl ⟨b :: x, y, by simp [hx]; exact fun e => hb e.symm, rfl⟩
      · exact .inr (by simp [h]; exact fun e => hb e.symm)

theorem splitL_le (c : UInt8) : ∀ (l x : List UInt8), x ∈ splitL c l → x.length ≤ l.length
  | [], x, h => by simp [splitL] at h; simp [h]
  | a :: l, x, h => by
    unfold splitL at h
    split at h
    · rcases List.mem_cons.1 h with e | e
      · simp [e]
      · have := splitL_le c l x e; simp; omega
    · cases hs : splitL c l with
      | nil => exact absurd hs (splitL_ne c l)
      | cons z zs =>
        rw [hs] at h
        rcases List.mem_cons.1 h with e | e
        · have := splitL_le c l z (by rw [hs]; simp); subst e; simp; omega
        · have := splitL_le c l x (by rw [hs]; simp [e]); simp; omega

/-- The point of two texts of numbers. -/
def comb (x y : List UInt8) : Option (Int × Int) := match numL x, numL y with | some a, some b => if okB a b then some (a, b) else none | _, _ => none
def ptA (l : List UInt8) : Option (Int × Int) := match splitL 44 l with | [x, y] => comb x y | _ => none
theorem ptA_len {l : List UInt8} (h : ¬ (splitL 44 l).length = 2) : ptA l = none := by
  unfold ptA
  split
  · rename_i x y e; rw [e] at h; simp at h
  · rfl
theorem ptA_two {l x y : List UInt8} (h : splitL 44 l = [x, y]) : ptA l = comb x y := by unfold ptA; rw [h]
theorem comb_n1 {x y : List UInt8} (h : numL x = none) : comb x y = none := by unfold comb; rw [h]
theorem comb_n2 {x y : List UInt8} (h : numL y = none) : comb x y = none := by unfold comb; rw [h]; cases numL x <;> rfl
theorem comb_no {x y : List UInt8} {a b : Int} (h1 : numL x = some a) (h2 : numL y = some b) (h : okB a b = false) : comb x y = none := by unfold comb; rw [h1, h2]; simp [h]
theorem comb_yes {x y : List UInt8} {a b : Int} (h1 : numL x = some a) (h2 : numL y = some b) (h : okB a b = true) : comb x y = some (a, b) := by unfold comb; rw [h1, h2]; simp [h]
theorem numL_no44 {l : List UInt8} (h : (44 : UInt8) ∈ l) : numL l = none := by
  cases hn : numL l with
  | none => rfl
  | some n => exact absurd (by rw [(numL_some hn).1]; exact h) (itoa_no44 n)
theorem numL_nil : numL [] = none := by simp [numL, unsign]
theorem ptA_cut (l : List UInt8) : ptA l = comb (Lib.cut l [44]).1 (Lib.cut l [44]).2.1 := by
  rcases cut_cases l with ⟨x, y, hx, rfl⟩ | h
  · rw [cut_mid x y hx]
    have hs := splitL_mid (c := 44) (x := x) y hx
    by_cases hy : (44 : UInt8) ∈ y
    · rw [comb_n2 (numL_no44 hy)]
      apply ptA_len
      have := splitL_two hy
      rw [hs]; simp; omega
    · exact ptA_two (by rw [hs, splitL_none hy])
  · rw [cut_none44 l h, comb_n2 numL_nil]
    apply ptA_len
    rw [splitL_none h]; simp
theorem cut_lens44 (l : List UInt8) : (Lib.cut l [44]).1.length ≤ l.length ∧ (Lib.cut l [44]).2.1.length ≤ l.length := by
  rcases cut_cases l with ⟨x, y, hx, rfl⟩ | h
  · rw [cut_mid x y hx]; simp; omega
  · rw [cut_none44 l h]; simp
end Go.Proofs.YtiljdnfhojpgnaaDoor
