/- Which statements are valid: both sides ask the same. -/
import Derived.Test.YtjpadamlfhceaaaHv7
namespace Go.Proofs.Ytjpadamlfhceaaa
open Go.RowKit
set_option linter.unusedVariables false
set_option linter.unusedSimpArgs false
theorem e0 : (ByteArray.mk #[]).toList = [] := by
  unfold ByteArray.toList
  unfold ByteArray.toList.loop
  rfl
theorem loop_len (s : ByteArray) : ∀ (n i : Nat) (acc : List UInt8), n = s.size - i → (ByteArray.toList.loop s i acc).length = acc.length + n := by
  intro n
  induction n with
  | zero => intro i acc h; unfold ByteArray.toList.loop; rw [if_neg (by omega)]; simp
  | succ n ih => intro i acc h; unfold ByteArray.toList.loop; rw [if_pos (by omega), ih _ _ (by omega)]; simp; omega
theorem bytes_nil {s : ByteArray} (h : s.toList = []) : s.data.toList = [] := by
  have h2 := loop_len s (s.size - 0) 0 [] rfl
  unfold ByteArray.toList at h
  rw [h] at h2
  have h3 : s.data.size = 0 := by
    have : s.size = s.data.size := rfl
    simp at h2; omega
  apply List.eq_nil_of_length_eq_zero
  rw [Array.length_toList]; exact h3
theorem fnB_empty {s : ByteArray} (h : s.toList = []) : fnB s = false := by
  unfold fnB nameB
  rw [bytes_nil h]; rfl
theorem names_0 (nm ot : ByteArray) : namesB 0 nm ot = (decide (nm.toList = []) && decide (ot.toList = [])) := by
  unfold namesB
  by_cases h1 : nm.toList = []
  · by_cases h2 : ot.toList = []
    · rw [fnB_empty h1, fnB_empty h2]; simp [h1, h2]
    · simp [h2]
  · simp [h1]
theorem names_1 (nm ot : ByteArray) : namesB 1 nm ot = (fnB nm && decide (ot.toList = [])) := by
  unfold namesB
  by_cases h2 : ot.toList = []
  · rw [fnB_empty h2]; simp [h2]
  · simp [h2]
theorem names_2 (nm ot : ByteArray) : namesB 2 nm ot = (fnB nm && fnB ot) := by
  unfold namesB; simp
theorem sLin_same (n d : Int) (l : List DTerm) : sLin n d l n d l = true := by unfold sLin eqG; simp
theorem sLin_none (n d : Int) (l : List DTerm) : sLin n d l 0 0 [] = noneB n d l := by
  unfold sLin eqG noneB
  rcases l with _ | ⟨a, l⟩
  · simp
  · have : ¬ ((l.length : Int) + 1 = 0) := by omega
    simp [this]
theorem eqS_same (l : List DString) : eqG kS l l = true := by unfold eqG; simp
theorem eqI_same (l : List DInt64) : eqG kI l l = true := by unfold eqG; simp
theorem eqS_none (l : List DString) : eqG kS l [] = (inB l.length 0 0 && l.all ptB) := by
  unfold eqG inB
  rcases l with _ | ⟨a, l⟩
  · simp
  · have : ¬ ((l.length : Int) + 1 ≤ 0) := by omega
    simp [this]
theorem eqI_none (l : List DInt64) : eqG kI l [] = (inB l.length 0 0 && l.all numB) := by
  unfold eqG inB
  rcases l with _ | ⟨a, l⟩
  · simp
  · have : ¬ ((l.length : Int) + 1 ≤ 0) := by omega
    simp [this]
theorem least_in (np : Int) (cl : Bool) : inB np (if cl = true then 3 else 2) 10 = (inB np 2 10 && (!cl || decide (2 < np))) := by
  cases cl
  · simp [inB]
  · have : decide ((3 : Int) ≤ np) = (decide ((2 : Int) ≤ np) && decide (2 < np)) := by
      rw [Bool.eq_iff_iff]; simp; omega
    simp only [inB, if_true, this]
    cases decide ((2 : Int) ≤ np) <;> cases decide ((2 : Int) < np) <;> simp
theorem same_0 (a0 : Int) (a1 : ByteArray) (a2 : ByteArray) (a3 : Int) (a4 : Int) (a5A : Option Addr) (a5c : Nat) (a5l : List DTerm) (a6 : Int) (a7 : Int) (a8A : Option Addr) (a8c : Nat) (a8l : List DTerm) (a9A : Option Addr) (a9c : Nat) (a9l : List DString) (a10A : Option Addr) (a10c : Nat) (a10l : List DInt64) (a11 : Bool) (a12 : Bool) (h : ¬ a0 = 1 ∧ ¬ a0 = 2 ∧ ¬ a0 = 3 ∧ ¬ a0 = 4 ∧ ¬ a0 = 5 ∧ ¬ a0 = 6 ∧ ¬ a0 = 7 ∧ ¬ a0 = 8 ∧ ¬ a0 = 9 ∧ ¬ a0 = 10 ∧ ¬ a0 = 11) : (smV (a0, a1, a2, a3, a4, a5l, a6, a7, a8l, a9l, a10l, a11, a12) (a0, a1, (ByteArray.mk #[]), 0, 0, [], 0, 0, [], [], [], false, false) && false) = vStB a0 a1 a2 a3 a4 a5A a5c a5l a6 a7 a8A a8c a8l a9A a9c a9l a10A a10c a10l a11 a12 := by
  unfold vStB; rw [shp_none h]; simp [shOk]
theorem same_1 (a1 : ByteArray) (a2 : ByteArray) (a3 : Int) (a4 : Int) (a5A : Option Addr) (a5c : Nat) (a5l : List DTerm) (a6 : Int) (a7 : Int) (a8A : Option Addr) (a8c : Nat) (a8l : List DTerm) (a9A : Option Addr) (a9c : Nat) (a9l : List DString) (a10A : Option Addr) (a10c : Nat) (a10l : List DInt64) (a11 : Bool) (a12 : Bool) : (smV ((1 : Int), a1, a2, a3, a4, a5l, a6, a7, a8l, a9l, a10l, a11, a12) ((1 : Int), a1, (ByteArray.mk #[]), a3, a4, a5l, 0, 0, [], [], [], false, false) && (fnB a1 && (frLin a3 a4 a5l && decide ((a5l.length : Int) = 0)))) = vStB 1 a1 a2 a3 a4 a5A a5c a5l a6 a7 a8A a8c a8l a9A a9c a9l a10A a10c a10l a11 a12 := by
  unfold vStB smV
  rw [show shp 1 = some (1, 0, 0, 0, 0) from rfl]
  simp only [shOk, names_0, names_1, names_2, sLin_same, sLin_none, eqS_same, eqI_same, eqS_none, eqI_none, least_in, tailB, sidesB, e0, Bool.decide_eq_false]
  simp (decide := true) only [if_true, if_false, decide_true, Bool.true_and, Bool.and_true, Bool.and_assoc]
  ac_rfl
theorem same_2 (a1 : ByteArray) (a2 : ByteArray) (a3 : Int) (a4 : Int) (a5A : Option Addr) (a5c : Nat) (a5l : List DTerm) (a6 : Int) (a7 : Int) (a8A : Option Addr) (a8c : Nat) (a8l : List DTerm) (a9A : Option Addr) (a9c : Nat) (a9l : List DString) (a10A : Option Addr) (a10c : Nat) (a10l : List DInt64) (a11 : Bool) (a12 : Bool) : (smV ((2 : Int), a1, a2, a3, a4, a5l, a6, a7, a8l, a9l, a10l, a11, a12) ((2 : Int), (ByteArray.mk #[]), (ByteArray.mk #[]), a3, a4, a5l, a6, a7, a8l, [], [], false, false) && (frLin a3 a4 a5l && frLin a6 a7 a8l)) = vStB 2 a1 a2 a3 a4 a5A a5c a5l a6 a7 a8A a8c a8l a9A a9c a9l a10A a10c a10l a11 a12 := by
  unfold vStB smV
  rw [show shp 2 = some (0, 0, 0, 0, 0) from rfl]
  simp only [shOk, names_0, names_1, names_2, sLin_same, sLin_none, eqS_same, eqI_same, eqS_none, eqI_none, least_in, tailB, sidesB, e0, Bool.decide_eq_false]
  simp (decide := true) only [if_true, if_false, decide_true, Bool.true_and, Bool.and_true, Bool.and_assoc]
  ac_rfl
theorem same_3 (a1 : ByteArray) (a2 : ByteArray) (a3 : Int) (a4 : Int) (a5A : Option Addr) (a5c : Nat) (a5l : List DTerm) (a6 : Int) (a7 : Int) (a8A : Option Addr) (a8c : Nat) (a8l : List DTerm) (a9A : Option Addr) (a9c : Nat) (a9l : List DString) (a10A : Option Addr) (a10c : Nat) (a10l : List DInt64) (a11 : Bool) (a12 : Bool) : (smV ((3 : Int), a1, a2, a3, a4, a5l, a6, a7, a8l, a9l, a10l, a11, a12) ((3 : Int), a1, (ByteArray.mk #[]), 0, 0, [], 0, 0, [], [], a10l, false, false) && (fnB a1 && (inB a10l.length 1 2 && a10l.all numB))) = vStB 3 a1 a2 a3 a4 a5A a5c a5l a6 a7 a8A a8c a8l a9A a9c a9l a10A a10c a10l a11 a12 := by
  unfold vStB smV
  rw [show shp 3 = some (1, 0, 0, 1, 2) from rfl]
  simp only [shOk, names_0, names_1, names_2, sLin_same, sLin_none, eqS_same, eqI_same, eqS_none, eqI_none, least_in, tailB, sidesB, e0, Bool.decide_eq_false]
  simp (decide := true) only [if_true, if_false, decide_true, Bool.true_and, Bool.and_true, Bool.and_assoc]
  ac_rfl
theorem same_4 (a1 : ByteArray) (a2 : ByteArray) (a3 : Int) (a4 : Int) (a5A : Option Addr) (a5c : Nat) (a5l : List DTerm) (a6 : Int) (a7 : Int) (a8A : Option Addr) (a8c : Nat) (a8l : List DTerm) (a9A : Option Addr) (a9c : Nat) (a9l : List DString) (a10A : Option Addr) (a10c : Nat) (a10l : List DInt64) (a11 : Bool) (a12 : Bool) : (smV ((4 : Int), a1, a2, a3, a4, a5l, a6, a7, a8l, a9l, a10l, a11, a12) ((4 : Int), a1, (ByteArray.mk #[]), 0, 0, [], 0, 0, [], a9l, [], a11, a12) && (fnB a1 && (inB a9l.length (if a12 = true then 3 else 2) 10 && a9l.all ptB))) = vStB 4 a1 a2 a3 a4 a5A a5c a5l a6 a7 a8A a8c a8l a9A a9c a9l a10A a10c a10l a11 a12 := by
  unfold vStB smV
  rw [show shp 4 = some (1, 2, 10, 0, 0) from rfl]
  simp only [shOk, names_0, names_1, names_2, sLin_same, sLin_none, eqS_same, eqI_same, eqS_none, eqI_none, least_in, tailB, sidesB, e0, Bool.decide_eq_false]
  simp (decide := true) only [if_true, if_false, decide_true, Bool.true_and, Bool.and_true, Bool.and_assoc]
  ac_rfl
theorem same_5 (a1 : ByteArray) (a2 : ByteArray) (a3 : Int) (a4 : Int) (a5A : Option Addr) (a5c : Nat) (a5l : List DTerm) (a6 : Int) (a7 : Int) (a8A : Option Addr) (a8c : Nat) (a8l : List DTerm) (a9A : Option Addr) (a9c : Nat) (a9l : List DString) (a10A : Option Addr) (a10c : Nat) (a10l : List DInt64) (a11 : Bool) (a12 : Bool) : (smV ((5 : Int), a1, a2, a3, a4, a5l, a6, a7, a8l, a9l, a10l, a11, a12) ((5 : Int), a1, (ByteArray.mk #[]), 0, 0, [], 0, 0, [], [], [], false, false) && (fnB a1)) = vStB 5 a1 a2 a3 a4 a5A a5c a5l a6 a7 a8A a8c a8l a9A a9c a9l a10A a10c a10l a11 a12 := by
  unfold vStB smV
  rw [show shp 5 = some (1, 0, 0, 0, 0) from rfl]
  simp only [shOk, names_0, names_1, names_2, sLin_same, sLin_none, eqS_same, eqI_same, eqS_none, eqI_none, least_in, tailB, sidesB, e0, Bool.decide_eq_false]
  simp (decide := true) only [if_true, if_false, decide_true, Bool.true_and, Bool.and_true, Bool.and_assoc]
  ac_rfl
theorem same_6 (a1 : ByteArray) (a2 : ByteArray) (a3 : Int) (a4 : Int) (a5A : Option Addr) (a5c : Nat) (a5l : List DTerm) (a6 : Int) (a7 : Int) (a8A : Option Addr) (a8c : Nat) (a8l : List DTerm) (a9A : Option Addr) (a9c : Nat) (a9l : List DString) (a10A : Option Addr) (a10c : Nat) (a10l : List DInt64) (a11 : Bool) (a12 : Bool) : (smV ((6 : Int), a1, a2, a3, a4, a5l, a6, a7, a8l, a9l, a10l, a11, a12) ((6 : Int), a1, (ByteArray.mk #[]), 0, 0, [], 0, 0, [], [], [], false, false) && (fnB a1)) = vStB 6 a1 a2 a3 a4 a5A a5c a5l a6 a7 a8A a8c a8l a9A a9c a9l a10A a10c a10l a11 a12 := by
  unfold vStB smV
  rw [show shp 6 = some (1, 0, 0, 0, 0) from rfl]
  simp only [shOk, names_0, names_1, names_2, sLin_same, sLin_none, eqS_same, eqI_same, eqS_none, eqI_none, least_in, tailB, sidesB, e0, Bool.decide_eq_false]
  simp (decide := true) only [if_true, if_false, decide_true, Bool.true_and, Bool.and_true, Bool.and_assoc]
  ac_rfl
theorem same_7 (a1 : ByteArray) (a2 : ByteArray) (a3 : Int) (a4 : Int) (a5A : Option Addr) (a5c : Nat) (a5l : List DTerm) (a6 : Int) (a7 : Int) (a8A : Option Addr) (a8c : Nat) (a8l : List DTerm) (a9A : Option Addr) (a9c : Nat) (a9l : List DString) (a10A : Option Addr) (a10c : Nat) (a10l : List DInt64) (a11 : Bool) (a12 : Bool) : (smV ((7 : Int), a1, a2, a3, a4, a5l, a6, a7, a8l, a9l, a10l, a11, a12) ((7 : Int), a1, a2, 0, 0, [], 0, 0, [], [], [], false, false) && (fnB a1 && fnB a2)) = vStB 7 a1 a2 a3 a4 a5A a5c a5l a6 a7 a8A a8c a8l a9A a9c a9l a10A a10c a10l a11 a12 := by
  unfold vStB smV
  rw [show shp 7 = some (2, 0, 0, 0, 0) from rfl]
  simp only [shOk, names_0, names_1, names_2, sLin_same, sLin_none, eqS_same, eqI_same, eqS_none, eqI_none, least_in, tailB, sidesB, e0, Bool.decide_eq_false]
  simp (decide := true) only [if_true, if_false, decide_true, Bool.true_and, Bool.and_true, Bool.and_assoc]
  ac_rfl
theorem same_8 (a1 : ByteArray) (a2 : ByteArray) (a3 : Int) (a4 : Int) (a5A : Option Addr) (a5c : Nat) (a5l : List DTerm) (a6 : Int) (a7 : Int) (a8A : Option Addr) (a8c : Nat) (a8l : List DTerm) (a9A : Option Addr) (a9c : Nat) (a9l : List DString) (a10A : Option Addr) (a10c : Nat) (a10l : List DInt64) (a11 : Bool) (a12 : Bool) : (smV ((8 : Int), a1, a2, a3, a4, a5l, a6, a7, a8l, a9l, a10l, a11, a12) ((8 : Int), a1, (ByteArray.mk #[]), 0, 0, [], 0, 0, [], [], a10l, false, false) && (fnB a1 && (inB a10l.length 2 2 && a10l.all numB))) = vStB 8 a1 a2 a3 a4 a5A a5c a5l a6 a7 a8A a8c a8l a9A a9c a9l a10A a10c a10l a11 a12 := by
  unfold vStB smV
  rw [show shp 8 = some (1, 0, 0, 2, 2) from rfl]
  simp only [shOk, names_0, names_1, names_2, sLin_same, sLin_none, eqS_same, eqI_same, eqS_none, eqI_none, least_in, tailB, sidesB, e0, Bool.decide_eq_false]
  simp (decide := true) only [if_true, if_false, decide_true, Bool.true_and, Bool.and_true, Bool.and_assoc]
  ac_rfl
theorem same_9 (a1 : ByteArray) (a2 : ByteArray) (a3 : Int) (a4 : Int) (a5A : Option Addr) (a5c : Nat) (a5l : List DTerm) (a6 : Int) (a7 : Int) (a8A : Option Addr) (a8c : Nat) (a8l : List DTerm) (a9A : Option Addr) (a9c : Nat) (a9l : List DString) (a10A : Option Addr) (a10c : Nat) (a10l : List DInt64) (a11 : Bool) (a12 : Bool) : (smV ((9 : Int), a1, a2, a3, a4, a5l, a6, a7, a8l, a9l, a10l, a11, a12) ((9 : Int), a1, (ByteArray.mk #[]), 0, 0, [], 0, 0, [], a9l, [], false, false) && (fnB a1 && (inB a9l.length 1 1 && a9l.all ptB))) = vStB 9 a1 a2 a3 a4 a5A a5c a5l a6 a7 a8A a8c a8l a9A a9c a9l a10A a10c a10l a11 a12 := by
  unfold vStB smV
  rw [show shp 9 = some (1, 1, 1, 0, 0) from rfl]
  simp only [shOk, names_0, names_1, names_2, sLin_same, sLin_none, eqS_same, eqI_same, eqS_none, eqI_none, least_in, tailB, sidesB, e0, Bool.decide_eq_false]
  simp (decide := true) only [if_true, if_false, decide_true, Bool.true_and, Bool.and_true, Bool.and_assoc]
  ac_rfl
theorem same_10 (a1 : ByteArray) (a2 : ByteArray) (a3 : Int) (a4 : Int) (a5A : Option Addr) (a5c : Nat) (a5l : List DTerm) (a6 : Int) (a7 : Int) (a8A : Option Addr) (a8c : Nat) (a8l : List DTerm) (a9A : Option Addr) (a9c : Nat) (a9l : List DString) (a10A : Option Addr) (a10c : Nat) (a10l : List DInt64) (a11 : Bool) (a12 : Bool) : (smV ((10 : Int), a1, a2, a3, a4, a5l, a6, a7, a8l, a9l, a10l, a11, a12) ((10 : Int), a1, (ByteArray.mk #[]), 0, 0, [], 0, 0, [], [], a10l, false, false) && (fnB a1 && (inB a10l.length 2 2 && a10l.all numB))) = vStB 10 a1 a2 a3 a4 a5A a5c a5l a6 a7 a8A a8c a8l a9A a9c a9l a10A a10c a10l a11 a12 := by
  unfold vStB smV
  rw [show shp 10 = some (1, 0, 0, 2, 2) from rfl]
  simp only [shOk, names_0, names_1, names_2, sLin_same, sLin_none, eqS_same, eqI_same, eqS_none, eqI_none, least_in, tailB, sidesB, e0, Bool.decide_eq_false]
  simp (decide := true) only [if_true, if_false, decide_true, Bool.true_and, Bool.and_true, Bool.and_assoc]
  ac_rfl
theorem same_11 (a1 : ByteArray) (a2 : ByteArray) (a3 : Int) (a4 : Int) (a5A : Option Addr) (a5c : Nat) (a5l : List DTerm) (a6 : Int) (a7 : Int) (a8A : Option Addr) (a8c : Nat) (a8l : List DTerm) (a9A : Option Addr) (a9c : Nat) (a9l : List DString) (a10A : Option Addr) (a10c : Nat) (a10l : List DInt64) (a11 : Bool) (a12 : Bool) : (smV ((11 : Int), a1, a2, a3, a4, a5l, a6, a7, a8l, a9l, a10l, a11, a12) ((11 : Int), (ByteArray.mk #[]), (ByteArray.mk #[]), 0, 0, [], 0, 0, [], [], [], false, false) && true) = vStB 11 a1 a2 a3 a4 a5A a5c a5l a6 a7 a8A a8c a8l a9A a9c a9l a10A a10c a10l a11 a12 := by
  unfold vStB smV
  rw [show shp 11 = some (0, 0, 0, 0, 0) from rfl]
  simp only [shOk, names_0, names_1, names_2, sLin_same, sLin_none, eqS_same, eqI_same, eqS_none, eqI_none, least_in, tailB, sidesB, e0, Bool.decide_eq_false]
  simp (decide := true) only [if_true, if_false, decide_true, Bool.true_and, Bool.and_true, Bool.and_assoc]
  ac_rfl
end Go.Proofs.Ytjpadamlfhceaaa
