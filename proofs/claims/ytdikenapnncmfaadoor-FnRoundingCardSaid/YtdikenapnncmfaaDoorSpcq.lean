/- The parts of a text between separators: plain functions of bytes. -/
import Derived.Lib.Strings
namespace Go.Proofs.YtdikenapnncmfaaDoor.Pix

def splitL (c : UInt8) : List UInt8 → List (List UInt8)
  | [] => [[]]
  | a :: l => if a = c then [] :: splitL c l else match splitL c l with | [] => [[a]] | x :: xs => (a :: x) :: xs
theorem splitL_ne (c : UInt8) : ∀ l, splitL c l ≠ []
  | [] => by simp [splitL]
  | a :: l => by
    unfold splitL
    split
    · simp
    · split <;> simp
theorem splitL_none {c : UInt8} : ∀ {l : List UInt8}, c ∉ l → splitL c l = [l]
  | [], _ => rfl
  | a :: l, h => by
    have h1 : ¬ a = c := fun e => h (by simp [e])
    have h2 := splitL_none (c := c) (l := l) (fun e => h (List.mem_cons_of_mem _ e))
    unfold splitL
    rw [if_neg h1, h2]
theorem splitL_mid {c : UInt8} : ∀ {x : List UInt8} (y : List UInt8), c ∉ x → splitL c (x ++ c :: y) = x :: splitL c y
  | [], y, _ => by simp [splitL]
  | a :: x, y, h => by
    have h1 : ¬ a = c := fun e => h (by simp [e])
    have h2 := splitL_mid (c := c) (x := x) y (fun e => h (List.mem_cons_of_mem _ e))
    rw [List.cons_append, splitL, if_neg h1, h2]
theorem splitL_two {c : UInt8} {l : List UInt8} (h : c ∈ l) : 2 ≤ (splitL c l).length := by
  induction l with
  | nil => simp at h
  | cons a l ih =>
    unfold splitL
    split
    · have := splitL_ne c l
      cases hs : splitL c l with
      | nil => exact absurd hs this
      | cons x xs => simp
    · rename_i hne
      have hm : c ∈ l := by
        rcases List.mem_cons.1 h with e | e
        · exact absurd e.symm hne
        · exact e
      have := ih hm
      cases hs : splitL c l with
      | nil => rw [hs] at this; simp at this
      | cons x xs => rw [hs] at this; simpa using this
theorem splitL_hit (c : UInt8) : ∀ l : List UInt8, splitL c (l ++ [c]) = splitL c l ++ [[]]
  | [] => by simp [splitL]
  | a :: l => by
    have ih := splitL_hit c l
    rw [List.cons_append]
    unfold splitL
    rw [ih]
    split
    · rfl
    · have := splitL_ne c l
      cases hs : splitL c l with
      | nil => exact absurd hs this
      | cons x xs => rfl
theorem splitL_miss {c b : UInt8} (hb : ¬ b = c) : ∀ (l : List UInt8) (L : List (List UInt8)) (x : List UInt8), splitL c l = L ++ [x] → splitL c (l ++ [b]) = L ++ [x ++ [b]]
  | [], L, x, h => by
    have h1 : L = [] ∧ x = [] := by
      cases L with
      | nil => simpa [splitL] using h.symm
      | cons y ys =>
        have := congrArg List.length h
        simp [splitL] at this
    obtain ⟨rfl, rfl⟩ := h1
    simp [splitL, hb]
  | a :: l, L, x, h => by
    rw [List.cons_append]
    unfold splitL at h ⊢
    by_cases ha : a = c
    · rw [if_pos ha] at h ⊢
      cases L with
      | nil =>
        simp at h
        exact absurd h.2 (splitL_ne c l)
      | cons y ys =>
        rw [List.cons_append] at h ⊢
        injection h with h1 h2
        rw [← h1, splitL_miss hb l ys x h2]
    · rw [if_neg ha] at h ⊢
      cases hs : splitL c l with
      | nil => exact absurd hs (splitL_ne c l)
      | cons z zs =>
        rw [hs] at h
        cases L with
        | nil =>
          simp at h
          obtain ⟨h1, h2⟩ := h
          have := splitL_miss hb l [] z (by rw [hs, h2]; rfl)
          rw [this, ← h1]; rfl
        | cons y ys =>
          simp at h
          obtain ⟨h1, h2⟩ := h
          have := splitL_miss hb l (z :: ys) x (by rw [hs, h2]; rfl)
          rw [this, ← h1]; rfl

/-- What is laid down after i bytes: the parts between separators, and where the next one begins. -/
def cutc (s : ByteArray) (c : UInt8) : Nat → List ByteArray × Nat
  | 0 => ([], 0)
  | i + 1 => if s.data.toList.getD i 0 = c then ((cutc s c i).1 ++ [s.extract (cutc s c i).2 i], i + 1) else cutc s c i
def partsc (s : ByteArray) (c : UInt8) : List ByteArray := (cutc s c s.size).1 ++ [s.extract (cutc s c s.size).2 s.size]
theorem cutc_le (s : ByteArray) (c : UInt8) : ∀ i, (cutc s c i).2 ≤ i
  | 0 => Nat.le_refl _
  | i + 1 => by
    have := cutc_le s c i
    unfold cutc
    split
    · exact Nat.le_refl _
    · omega
theorem cutc_len (s : ByteArray) (c : UInt8) : ∀ i, (cutc s c i).1.length ≤ i
  | 0 => Nat.le_refl _
  | i + 1 => by
    have := cutc_len s c i
    unfold cutc
    split
    · simp; omega
    · omega
theorem partsc_len (s : ByteArray) (c : UInt8) : (partsc s c).length ≤ s.size + 1 := by
  have := cutc_len s c s.size
  simp [partsc]; omega
theorem cutc_hit (s : ByteArray) (c : UInt8) (k : Nat) (h : k < s.size) (hc : s[k] = c) : cutc s c (k + 1) = ((cutc s c k).1 ++ [s.extract (cutc s c k).2 k], k + 1) := by
  have e : s.data.toList.getD k 0 = s[k] := by rw [List.getD_eq_getElem?_getD, List.getElem?_eq_getElem (by simpa using h)]; rfl
  rw [cutc, e, if_pos hc]
theorem cutc_miss (s : ByteArray) (c : UInt8) (k : Nat) (h : k < s.size) (hc : ¬ s[k] = c) : cutc s c (k + 1) = cutc s c k := by
  have e : s.data.toList.getD k 0 = s[k] := by rw [List.getD_eq_getElem?_getD, List.getElem?_eq_getElem (by simpa using h)]; rfl
  rw [cutc, e, if_neg hc]
theorem ext_list (s : ByteArray) (a b : Nat) : (s.extract a b).data.toList = (s.data.toList.take b).drop a := by
  rw [ByteArray.data_extract, Array.toList_extract, List.extract_eq_take_drop, List.drop_take]
theorem len_list (s : ByteArray) : s.data.toList.length = s.size := by simp
theorem cutc_split (s : ByteArray) (c : UInt8) : ∀ i, i ≤ s.size → splitL c (s.data.toList.take i) = (cutc s c i).1.map (·.data.toList) ++ [(s.data.toList.take i).drop (cutc s c i).2]
  | 0, _ => by simp [cutc, splitL]
  | i + 1, h => by
    have ih := cutc_split s c i (by omega)
    have hlt : i < s.data.toList.length := by rw [len_list]; omega
    have ht : s.data.toList.take (i + 1) = s.data.toList.take i ++ [s[i]] := by
      rw [List.take_succ_eq_append_getElem hlt]; rfl
    by_cases hc : s[i] = c
    · rw [cutc_hit s c i (by omega) hc, ht, hc, splitL_hit, ih]
      simp only [List.map_append, List.map_cons, List.map_nil, ext_list]
      have e2 : List.drop (i + 1) (s.data.toList.take i ++ [c]) = [] := List.drop_of_length_le (by rw [List.length_append, List.length_take, len_list]; simp; omega)
      rw [e2]
    · rw [cutc_miss s c i (by omega) hc, ht, splitL_miss hc _ _ _ ih]
      have hle := cutc_le s c i
      rw [List.drop_append_of_le_length (by rw [List.length_take, len_list]; omega)]
theorem partsc_split (s : ByteArray) (c : UInt8) : (partsc s c).map (·.data.toList) = splitL c s.data.toList := by
  have h := cutc_split s c s.size (Nat.le_refl _)
  have e : s.data.toList.take s.size = s.data.toList := List.take_of_length_le (by simp)
  rw [e] at h
  rw [h, partsc, List.map_append, List.map_cons, List.map_nil, ext_list, e]
end Go.Proofs.YtdikenapnncmfaaDoor.Pix
