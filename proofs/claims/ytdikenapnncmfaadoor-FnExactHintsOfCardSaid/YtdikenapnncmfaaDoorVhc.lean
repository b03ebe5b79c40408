/- The instructions that a string's bytes stand for: plain facts. -/
import Derived.Test.YtdikenapnncmfaaDoorVhb
import Derived.Test.YtdikenapnncmfaaDoorPoc
namespace Go.Proofs.YtdikenapnncmfaaDoor
open Go.RowKit
set_option linter.unusedVariables false
abbrev U8L : Type := List UInt8
def iOf (u : UInt8) : Int := (u.toNat : Int)
def nbO (c : UInt8) : Nat := (fmB (iOf c)).toNat
theorem fmB_cases (c : Int) : fmB c = 0 ∨ fmB c = 1 ∨ fmB c = 2 := by
  rcases fm_cases c with ⟨-, h⟩ | ⟨-, h⟩ | ⟨-, h⟩ <;> simp [h]
theorem nbO_int (c : UInt8) : ((nbO c : Nat) : Int) = fmB (iOf c) := by
  unfold nbO
  rcases fmB_cases (iOf c) with h | h | h <;> rw [h] <;> rfl
/-- The operand behind the code c. -/
def opV (c : UInt8) (r : U8L) : Int :=
  if fmB (iOf c) = 1 then (match r with | a :: _ => sgI (iOf a) 1 | _ => 0)
  else if fmB (iOf c) = 2 then (match r with | a :: b :: _ => sgI (256 * iOf a + iOf b) 2 | _ => 0) else 0
def decW : U8L → List AHint
  | [] => []
  | c :: r => (iOf c, opV c r) :: decW (r.drop (nbO c))
termination_by l => l.length
decreasing_by simp only [List.length_cons, List.length_drop]; omega
def spcW : U8L → Option (List AHint)
  | [] => some []
  | c :: r => if r.length < nbO c then none else if hvB (iOf c) (opV c r) = true then (spcW (r.drop (nbO c))).map (fun l => (iOf c, opV c r) :: l) else none
termination_by l => l.length
decreasing_by simp only [List.length_cons, List.length_drop]; omega
theorem decW_nil : decW [] = [] := by rw [decW]
theorem decW_cons (c : UInt8) (r : U8L) : decW (c :: r) = (iOf c, opV c r) :: decW (r.drop (nbO c)) := by rw [decW]
theorem spcW_nil : spcW [] = some [] := by rw [spcW]
theorem spcW_cons (c : UInt8) (r : U8L) : spcW (c :: r) = if r.length < nbO c then none else if hvB (iOf c) (opV c r) = true then (spcW (r.drop (nbO c))).map (fun l => (iOf c, opV c r) :: l) else none := by rw [spcW]
theorem iOf_lt (u : UInt8) : 0 ≤ iOf u ∧ iOf u < 256 := by unfold iOf; have := u.toNat_lt; omega
theorem sg1_mod {n : Int} (h0 : 0 ≤ n) (h1 : n < 256) : sgI n 1 % 256 = n := by unfold sgI; rw [if_pos rfl]; split <;> omega
theorem sg2_mod {a b : Int} (h0 : 0 ≤ a) (h1 : a < 256) (h2 : 0 ≤ b) (h3 : b < 256) : sgI (256 * a + b) 2 / 256 % 256 = a ∧ sgI (256 * a + b) 2 % 256 = b := by
  unfold sgI; rw [if_neg (by decide), if_pos rfl]; split <;> omega
theorem biL_size (c : UInt8) (x : Int) : (biL (iOf c, x)).length = 1 + nbO c := by
  have h := nbO_int c
  rcases fmB_cases (iOf c) with e | e | e
  · rw [biL_0 (by omega) (by omega)]; simp; omega
  · rw [biL_1 e]; simp; omega
  · rw [biL_2 e]; simp; omega
theorem biL_dec (c : UInt8) (r : U8L) (h : ¬ r.length < nbO c) : biL (iOf c, opV c r) = (c :: r.take (nbO c)).map iOf := by
  have hn := nbO_int c
  have hc := iOf_lt c
  rcases fmB_cases (iOf c) with e | e | e
  · have h0 : nbO c = 0 := by omega
    rw [biL_0 (by omega) (by omega), h0]; simp; omega
  · have h0 : nbO c = 1 := by omega
    rw [biL_1 e, h0]
    rw [h0] at h
    match r, h with
    | a :: r, h =>
      have := iOf_lt a
      have hv : opV c (a :: r) = sgI (iOf a) 1 := by unfold opV; rw [if_pos e]
      rw [hv, sg1_mod this.1 this.2]; simp; omega
    | [], h => simp at h
  · have h0 : nbO c = 2 := by omega
    rw [biL_2 e, h0]
    rw [h0] at h
    match r, h with
    | a :: b :: r, h =>
      have ha := iOf_lt a
      have hb := iOf_lt b
      have hv : opV c (a :: b :: r) = sgI (256 * iOf a + iOf b) 2 := by unfold opV; rw [if_neg (by omega), if_pos e]
      have hs := sg2_mod ha.1 ha.2 hb.1 hb.2
      rw [hv, hs.1, hs.2]; simp; omega
    | [a], h => simp at h
    | [], h => simp at h
theorem pgI_cons (a : AHint) (t : List AHint) : pgI (a :: t) = biL a ++ pgI t := rfl
theorem alB_cons (a : AHint) (t : List AHint) : alB (a :: t) = (hvB a.1 a.2 && alB t) := rfl
theorem spcW_eq (l : U8L) : spcW l = if alB (decW l) = true ∧ pgI (decW l) = l.map iOf then some (decW l) else none := by
  induction l using decW.induct with
  | case1 => rw [spcW_nil, decW_nil, if_pos ⟨rfl, rfl⟩]
  | case2 c r ih =>
    rw [spcW_cons, decW_cons, pgI_cons, alB_cons]
    by_cases h1 : r.length < nbO c
    · rw [if_pos h1, if_neg]
      rintro ⟨-, h⟩
      have h2 := congrArg List.length h
      rw [List.length_append, biL_size, List.length_map, List.length_cons] at h2
      omega
    · rw [if_neg h1]
      by_cases h2 : hvB (iOf c) (opV c r) = true
      · rw [if_pos h2, ih]
        have hs : (c :: r).map iOf = (c :: r.take (nbO c)).map iOf ++ (r.drop (nbO c)).map iOf := by
          rw [← List.map_append, List.cons_append, List.take_append_drop]
        rw [biL_dec c r h1, hs]
        simp only [List.append_cancel_left_eq, h2, Bool.true_and]
        split <;> rfl
      · rw [if_neg h2, if_neg]
        rintro ⟨h, -⟩
        simp [h2] at h
theorem decW_len (l : U8L) : (decW l).length ≤ l.length := by
  induction l using decW.induct with
  | case1 => rw [decW_nil]; simp
  | case2 c r ih =>
    rw [decW_cons]
    simp only [List.length_cons, List.length_drop] at *
    omega
theorem toU8_iOf (u : UInt8) : toU8 (iOf u) = u := by
  unfold toU8 iOf; simp
theorem pgT_is (l : List AHint) (s : ByteArray) : pgT l = s ↔ pgI l = s.data.toList.map iOf := by
  constructor
  · intro h
    rw [← h]
    unfold pgT
    simp only [List.map_map]
    symm
    have : ∀ x ∈ pgI l, (iOf ∘ toU8) x = x := fun x hx => by
      have hb := pgI_in l x hx
      show ((toU8 x).toNat : Int) = x
      exact toU8_nat hb.1 hb.2
    rw [List.map_congr_left this]; simp
  · intro h
    unfold pgT
    rw [h, List.map_map]
    have : ∀ u ∈ s.data.toList, (toU8 ∘ iOf) u = u := fun u _ => toU8_iOf u
    rw [List.map_congr_left this]; simp
/-- Whether a string is a program. -/
def hoB (s : ByteArray) : Bool := match spcW s.data.toList with | some l => decide (s.size ≤ 400) && ntB l | none => false
def hoL (s : ByteArray) : List AHint := if hoB s = true then decW s.data.toList else []
theorem size_list (s : ByteArray) : s.data.toList.length = s.size := by rw [Array.length_toList]; rfl
theorem ho_none {s : ByteArray} (h : spcW s.data.toList = none) : hoB s = false ∧ hoL s = [] := by
  have : hoB s = false := by unfold hoB; rw [h]
  exact ⟨this, by unfold hoL; rw [this]; rfl⟩
theorem ho_long {s : ByteArray} {l : List AHint} (h : spcW s.data.toList = some l) (h2 : 400 < s.size) : hoB s = false ∧ hoL s = [] := by
  have : hoB s = false := by unfold hoB; rw [h]; show (decide (s.size ≤ 400) && ntB l) = false; rw [decide_eq_false (by omega)]; rfl
  exact ⟨this, by unfold hoL; rw [this]; rfl⟩
theorem ho_nest {s : ByteArray} {l : List AHint} (h : spcW s.data.toList = some l) (h2 : ntB l = false) : hoB s = false ∧ hoL s = [] := by
  have : hoB s = false := by unfold hoB; rw [h]; show (decide (s.size ≤ 400) && ntB l) = false; rw [h2, Bool.and_false]
  exact ⟨this, by unfold hoL; rw [this]; rfl⟩
theorem spcW_dec {l : U8L} {d : List AHint} (h : spcW l = some d) : d = decW l := by
  rw [spcW_eq] at h
  split at h
  · exact (Option.some.inj h).symm
  · cases h
theorem ho_yes {s : ByteArray} {l : List AHint} (h : spcW s.data.toList = some l) (h1 : s.size ≤ 400) (h2 : ntB l = true) : hoB s = true ∧ hoL s = l := by
  have : hoB s = true := by unfold hoB; rw [h]; show (decide (s.size ≤ 400) && ntB l) = true; rw [h2, decide_eq_true h1]; rfl
  exact ⟨this, by unfold hoL; rw [if_pos this, spcW_dec h]⟩
/-- The program's own test. -/
theorem ho_made {s : ByteArray} (h : pgC (decW s.data.toList) = 0) (h2 : pgV (decW s.data.toList) = s) : hoB s = true ∧ hoL s = decW s.data.toList := by
  unfold pgV at h2
  rw [if_pos h, pgT_is] at h2
  unfold pgC at h
  split at h
  · rename_i ha
    split at h
    · rename_i hn
      split at h
      · cases h
      · rename_i hl
        rw [h2, List.length_map, size_list] at hl
        have hs : spcW s.data.toList = some (decW s.data.toList) := by rw [spcW_eq, if_pos ⟨ha, h2⟩]
        exact ho_yes hs (by omega) hn
    · cases h
  · cases h
theorem ho_not {s : ByteArray} (h : ¬ (pgC (decW s.data.toList) = 0 ∧ pgV (decW s.data.toList) = s)) : hoB s = false ∧ hoL s = [] := by
  rcases hs : spcW s.data.toList with _ | l
  · exact ho_none hs
  · by_cases h1 : s.size ≤ 400
    · rcases h2 : ntB l with _ | _
      · exact ho_nest hs h2
      · exfalso
        apply h
        have hd := spcW_dec hs
        rw [spcW_eq] at hs
        split at hs
        · rename_i hx
          rw [hd] at h2
          have hl : ¬ 400 < (pgI (decW s.data.toList)).length := by rw [hx.2, List.length_map, size_list]; omega
          have hc : pgC (decW s.data.toList) = 0 := by unfold pgC; rw [if_pos hx.1, if_pos h2, if_neg hl]
          refine ⟨hc, ?_⟩
          unfold pgV
          rw [if_pos hc, pgT_is]
          exact hx.2
        · cases hs
    · exact ho_long hs (by omega)
/-- Ahead of the byte at a place. -/
theorem drop_at (s : ByteArray) (a : Nat) (h : a < s.size) : s.data.toList.drop a = s[a] :: s.data.toList.drop (a + 1) := by
  rw [List.drop_eq_getElem_cons (by rw [size_list]; exact h)]
  rfl
theorem decW_at (s : ByteArray) (a : Nat) (h : a < s.size) : decW (s.data.toList.drop a) = (iOf s[a], opV s[a] (s.data.toList.drop (a + 1))) :: decW (s.data.toList.drop (a + 1 + nbO s[a])) := by
  rw [drop_at s a h, decW_cons, List.drop_drop]
theorem opV_1 (s : ByteArray) (a : Nat) (h : a < s.size) (hf : fmB (iOf s[a]) = 1) (h1 : a + 1 < s.size) : opV s[a] (s.data.toList.drop (a + 1)) = sgI (iOf s[a + 1]) 1 := by
  rw [drop_at s (a + 1) h1]; unfold opV; rw [if_pos hf]
theorem opV_2 (s : ByteArray) (a : Nat) (h : a < s.size) (hf : fmB (iOf s[a]) = 2) (h1 : a + 2 < s.size) : opV s[a] (s.data.toList.drop (a + 1)) = sgI (256 * iOf s[a + 1] + iOf s[a + 2]) 2 := by
  rw [drop_at s (a + 1) (by omega), drop_at s (a + 1 + 1) (by omega)]; unfold opV; rw [if_neg (by omega), if_pos hf]
theorem opV_0 (s : ByteArray) (a : Nat) (h : a < s.size) (hf : fmB (iOf s[a]) = 0) : opV s[a] (s.data.toList.drop (a + 1)) = 0 := by
  unfold opV; rw [if_neg (by omega), if_neg (by omega)]
theorem opV_short (s : ByteArray) (a : Nat) (h : a < s.size) (h1 : (s.size : Int) < a + 1 + fmB (iOf s[a])) : opV s[a] (s.data.toList.drop (a + 1)) = 0 := by
  rcases fmB_cases (iOf s[a]) with e | e | e
  · exact opV_0 s a h e
  · rw [List.drop_eq_nil_of_le (by rw [size_list]; omega)]; unfold opV; rw [if_pos e]
  · by_cases h2 : a + 1 < s.size
    · rw [drop_at s (a + 1) h2, List.drop_eq_nil_of_le (by rw [size_list]; omega)]; unfold opV; rw [if_neg (by omega), if_pos e]
    · rw [List.drop_eq_nil_of_le (by rw [size_list]; omega)]; unfold opV; rw [if_neg (by omega), if_pos e]
theorem spcW_at (s : ByteArray) (a : Nat) (h : a < s.size) : spcW (s.data.toList.drop a) = if (s.size : Int) < a + 1 + fmB (iOf s[a]) then none else if hvB (iOf s[a]) (opV s[a] (s.data.toList.drop (a + 1))) = true then (spcW (s.data.toList.drop (a + 1 + nbO s[a]))).map (fun l => (iOf s[a], opV s[a] (s.data.toList.drop (a + 1))) :: l) else none := by
  rw [drop_at s a h, spcW_cons, List.drop_drop]
  have hn := nbO_int s[a]
  have hl : (s.data.toList.drop (a + 1)).length = s.size - (a + 1) := by rw [List.length_drop, size_list]
  rw [hl]
  by_cases hq : s.size - (a + 1) < nbO s[a]
  · rw [if_pos hq, if_pos (show (s.size : Int) < a + 1 + fmB (iOf s[a]) by omega)]
  · rw [if_neg hq, if_neg (show ¬ (s.size : Int) < a + 1 + fmB (iOf s[a]) by omega)]
end Go.Proofs.YtdikenapnncmfaaDoor
