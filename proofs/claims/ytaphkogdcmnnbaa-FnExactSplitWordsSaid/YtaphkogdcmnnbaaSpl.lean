/- The words of a text: plain functions of bytes. -/
import Derived.Lib.FieldsP
import Derived.Lib.SpaceUEq
import Derived.Lib.Strings
namespace Go.Proofs.Ytaphkogdcmnnbaa

def isB (r : Nat) : Bool := decide (r = 32)
/-- What is laid down after i bytes: the parts between blanks, and where the next one begins. -/
def cut (s : ByteArray) : Nat → List ByteArray × Nat
  | 0 => ([], 0)
  | i + 1 => if s.data.toList.getD i 0 = 32 then ((cut s i).1 ++ [s.extract (cut s i).2 i], i + 1) else cut s i
def parts (s : ByteArray) : List ByteArray := (cut s s.size).1 ++ [s.extract (cut s s.size).2 s.size]
def keepB (l : List ByteArray) : List ByteArray := l.filter fun x => decide (x.size ≠ 0)

theorem cut_le (s : ByteArray) : ∀ i, (cut s i).2 ≤ i
  | 0 => Nat.le_refl _
  | i + 1 => by
    have := cut_le s i
    unfold cut
    split
    · exact Nat.le_refl _
    · omega
theorem cut_len (s : ByteArray) : ∀ i, (cut s i).1.length ≤ i
  | 0 => Nat.le_refl _
  | i + 1 => by
    have := cut_len s i
    unfold cut
    split
    · simp; omega
    · omega
theorem cut_skip (s : ByteArray) (pos : Nat) : ∀ k, (∀ j, j < k → s.data.toList.getD (pos + j) 0 ≠ 32) → cut s (pos + k) = cut s pos
  | 0, _ => rfl
  | k + 1, h => by
    have e : cut s (pos + (k + 1)) = if s.data.toList.getD (pos + k) 0 = 32 then ((cut s (pos + k)).1 ++ [s.extract (cut s (pos + k)).2 (pos + k)], pos + k + 1) else cut s (pos + k) := rfl
    rw [e, if_neg (h k (by omega)), cut_skip s pos k fun j hj => h j (by omega)]
theorem keepB_snoc (l : List ByteArray) (x : ByteArray) : keepB (l ++ [x]) = keepB l ++ (if x.size = 0 then [] else [x]) := by
  unfold keepB
  rw [List.filter_append, List.filter_cons, List.filter_nil]
  by_cases h : x.size = 0
  · rw [if_pos h, if_neg (by rw [decide_eq_true_eq]; exact fun h2 => h2 h)]
  · rw [if_neg h, if_pos (by rw [decide_eq_true_eq]; exact h)]
theorem size_extract (s : ByteArray) (a b : Nat) (h : b ≤ s.size) : (s.extract a b).size = b - a := by
  rw [Lib.size_eq, Lib.extract_data, List.length_take, List.length_drop, ← Lib.size_eq]
  omega
set_option maxRecDepth 100000 in
theorem decodeN_32 (n b0 b1 b2 b3 : Nat) (h : (Lib.decodeN n b0 b1 b2 b3).1 = 32) : b0 = 32 ∧ (Lib.decodeN n b0 b1 b2 b3).2 = 1 := by
  by_cases h0 : b0 < 128
  · rw [Lib.decodeN_ascii _ _ _ _ _ h0] at h ⊢
    exact ⟨h, rfl⟩
  · exfalso
    revert h
    unfold Lib.decodeN
    rw [if_neg h0]
    repeat' split
    all_goals (intro h; simp only at h; omega)

theorem fields_from (s : ByteArray) : ∀ (f pos : Nat) (st : Option Nat) (acc : List (Nat × Nat)), s.size ≤ pos + f → pos ≤ s.size →
    (acc.map fun x => s.extract x.1 x.2) = keepB (cut s pos).1 → (∀ a, st = some a → a = (cut s pos).2 ∧ a < pos) → (st = none → (cut s pos).2 = pos) →
    ((Lib.closeSpans s (Lib.spansFromP isB s f pos st acc)).map fun x => s.extract x.1 x.2) = keepB (parts s) := by
  intro f
  induction f with
  | zero =>
    intro pos st acc hf hp ha hs hn
    obtain rfl : pos = s.size := by omega
    unfold parts
    rw [keepB_snoc, size_extract s _ _ (Nat.le_refl _), ← ha]
    cases st with
    | none =>
      have := hn rfl
      rw [if_pos (by omega)]
      simp [Lib.closeSpans, Lib.spansFromP]
    | some a =>
      obtain ⟨e, hlt⟩ := hs a rfl
      rw [if_neg (by omega)]
      simp [Lib.closeSpans, Lib.spansFromP, e]
  | succ f ih =>
    intro pos st acc hf hp ha hs hn
    by_cases hlt : pos < s.size
    · unfold Lib.spansFromP
      rw [if_pos hlt]
      have hN := Lib.decode_N s pos
      by_cases hr : (Utf8.decode s pos).1 = 32
      · obtain ⟨e0, e1⟩ := decodeN_32 _ _ _ _ _ (by rw [← hN]; exact hr)
        rw [← hN] at e1
        have hb : s.data.toList.getD pos 0 = 32 := UInt8.toNat_inj.1 e0
        have hc : cut s (pos + 1) = ((cut s pos).1 ++ [s.extract (cut s pos).2 pos], pos + 1) := by
          show (if s.data.toList.getD pos 0 = 32 then _ else _) = _
          rw [if_pos hb]
        rw [if_pos (by simp [isB, hr]), e1]
        cases st with
        | none =>
          have h2 := hn rfl
          refine ih (pos + 1) none acc (by omega) (by omega) ?_ (fun a h => by cases h) (fun _ => by rw [hc])
          rw [hc, keepB_snoc, size_extract s _ _ hp, if_pos (by omega), ha]
          simp
        | some a =>
          obtain ⟨e, hl⟩ := hs a rfl
          refine ih (pos + 1) none _ (by omega) (by omega) ?_ (fun a h => by cases h) (fun _ => by rw [hc])
          rw [hc, keepB_snoc, size_extract s _ _ hp, if_neg (by omega), List.map_append, ha, e]
          rfl
      · rw [if_neg (by simp [isB, hr])]
        have hc4 := Lib.decodeN_conts (s.data.toList.length - pos) (s.data.toList.getD pos 0).toNat (s.data.toList.getD (pos + 1) 0).toNat (s.data.toList.getD (pos + 2) 0).toNat (s.data.toList.getD (pos + 3) 0).toNat
        have hle := Lib.decodeN_le_n' (s.data.toList.length - pos) (s.data.toList.getD pos 0).toNat (s.data.toList.getD (pos + 1) 0).toNat (s.data.toList.getD (pos + 2) 0).toNat (s.data.toList.getD (pos + 3) 0).toNat (by rw [← Lib.size_eq]; omega)
        have hge := Lib.width_pos s pos
        rw [← hN] at hc4 hle
        rw [← Lib.size_eq] at hle
        obtain ⟨c2, c3, c4, c5⟩ := hc4
        have h0 : s.data.toList.getD pos 0 ≠ 32 := by
          intro h
          apply hr
          rw [hN, h, Lib.decodeN_ascii _ _ _ _ _ (by decide)]
          rfl
        have hnb : ∀ i, (s.data.toList.getD i 0).toNat / 64 = 2 → s.data.toList.getD i 0 ≠ 32 := by
          intro i h e
          rw [e] at h
          revert h
          decide
        have hk := cut_skip s pos (Utf8.decode s pos).2 (by
          intro j hj
          rcases (show j = 0 ∨ j = 1 ∨ j = 2 ∨ j = 3 by omega) with rfl | rfl | rfl | rfl
          · exact h0
          · exact hnb _ (c2 (by omega)).1
          · exact hnb _ (c3 (by omega)).1
          · exact hnb _ (c4 (by omega)).1)
        cases st with
        | none =>
          have h2 := hn rfl
          refine ih _ (some pos) acc (by omega) (by omega) (by rw [hk]; exact ha) (fun a h => ?_) (fun h => by cases h)
          injection h with h
          subst h
          rw [hk]
          exact ⟨h2.symm, by omega⟩
        | some a =>
          obtain ⟨e, hl⟩ := hs a rfl
          refine ih _ (some a) acc (by omega) (by omega) (by rw [hk]; exact ha) (fun b h => ?_) (fun h => by cases h)
          injection h with h
          subst h
          rw [hk]
          exact ⟨e, by omega⟩
    · rw [Lib.spansFromP_end isB s (f + 1) pos st acc hlt]
      obtain rfl : pos = s.size := by omega
      unfold parts
      rw [keepB_snoc, size_extract s _ _ (Nat.le_refl _), ← ha]
      cases st with
      | none =>
        have := hn rfl
        rw [if_pos (by omega)]
        simp [Lib.closeSpans]
      | some a =>
        obtain ⟨e, hlt⟩ := hs a rfl
        rw [if_neg (by omega)]
        simp [Lib.closeSpans, e]

theorem words_eq (s : ByteArray) : Lib.goFieldsP isB s = keepB (parts s) :=
  fields_from s s.size 0 none [] (by omega) (Nat.zero_le _) rfl (fun a h => by cases h) (fun _ => rfl)
theorem parts_len (s : ByteArray) : (parts s).length ≤ s.size + 1 := by
  have := cut_len s s.size
  unfold parts
  simp
  omega
theorem keepB_len (l : List ByteArray) : (keepB l).length ≤ l.length := List.length_filter_le _ _
end Go.Proofs.Ytaphkogdcmnnbaa
