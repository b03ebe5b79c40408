/- Pairs of instructions: plain facts: the stack of those begun, the partners. -/
import Derived.Test.YtdikenapnncmfaaDoorPha
import Derived.Test.YtdikenapnncmfaaDoorHta0
namespace Go.Proofs.YtdikenapnncmfaaDoor
open Go.RowKit
set_option linter.unusedVariables false
abbrev St : Type := List (Nat × Int)
/-- What an instruction makes of those begun, the last one first. -/
def stp (c : Int) (i : Nat) (st : St) : Option St :=
  if c = 35 ∨ c = 44 then some ((i, c) :: st) else
  if c = 36 then (match st with | [] => none | p :: r => if p.2 = 35 then some ((i, 36) :: r) else none) else
  if c = 37 then (match st with | [] => none | p :: r => if p.2 = 44 then none else some r) else
  if c = 38 then (match st with | [] => none | p :: r => if p.2 = 44 then some r else none) else some st
def chk (s : Option St) : Option St := match s with | some st => if st.length ≤ 6 then some st else none | none => none
def rn (l : List AHint) : Nat → Option St
  | 0 => some []
  | k + 1 => match rn l k, l[k]? with | some st, some a => chk (stp a.1 k st) | _, _ => none
def ntB (l : List AHint) : Bool := decide (rn l l.length = some [])
def alB (l : List AHint) : Bool := l.all fun a => hvB a.1 a.2
def pstp (c : Int) (i : Nat) (st : St) (ps : List Int) : List Int :=
  if c = 36 ∨ c = 37 ∨ c = 38 then (match st with | [] => ps | p :: _ => ps.set p.1 (i : Int)) else ps
def pr (l : List AHint) : Nat → List Int
  | 0 => List.replicate l.length 0
  | k + 1 => match rn l k, l[k]? with | some st, some a => pstp a.1 k st (pr l k) | _, _ => pr l k
def ptV (l : List AHint) (a : Nat) : Int := ((pr l l.length)[a]?).getD 0
def isOp (c : Int) : Prop := c = 35 ∨ c = 36 ∨ c = 44
section
variable {l : List AHint} {k i : Nat} {st st' : St} {a : AHint}
theorem rn_succ (h : rn l k = some st) (ha : l[k]? = some a) : rn l (k + 1) = chk (stp a.1 k st) := by
  show (match rn l k, l[k]? with | some st, some a => chk (stp a.1 k st) | _, _ => none) = _
  rw [h, ha]
theorem rn_none (h : rn l k = none) : ∀ m, k ≤ m → rn l m = none := by
  intro m hm
  obtain ⟨d, rfl⟩ := Nat.exists_eq_add_of_le hm
  induction d with
  | zero => exact h
  | succ d ih =>
    show (match rn l (k + d), l[k + d]? with | some st, some a => chk (stp a.1 (k + d) st) | _, _ => none) = none
    rw [ih (by omega)]
theorem rn_some {n : Nat} (h : rn l n = some st) (hk : k ≤ n) : ∃ s, rn l k = some s := by
  rcases hr : rn l k with _ | s
  · rw [rn_none hr n hk] at h; cases h
  · exact ⟨s, rfl⟩
theorem pr_succ (h : rn l k = some st) (ha : l[k]? = some a) : pr l (k + 1) = pstp a.1 k st (pr l k) := by
  show (match rn l k, l[k]? with | some st, some a => pstp a.1 k st (pr l k) | _, _ => pr l k) = _
  rw [h, ha]
theorem pstp_len {c : Int} {ps : List Int} : (pstp c i st ps).length = ps.length := by
  unfold pstp; split
  · split
    · rfl
    · exact List.length_set
  · rfl
theorem pr_len : ∀ k, (pr l k).length = l.length
  | 0 => List.length_replicate
  | k + 1 => by
    show (match rn l k, l[k]? with | some st, some a => pstp a.1 k st (pr l k) | _, _ => pr l k).length = _
    split
    · rw [pstp_len]; exact pr_len k
    · exact pr_len k
/-- What those begun are. -/
def Inv (l : List AHint) (k : Nat) (st : St) : Prop := st.length ≤ 6 ∧ (∀ p ∈ st, p.1 < k ∧ (∃ a, l[p.1]? = some a ∧ a.1 = p.2) ∧ isOp p.2) ∧ st.Pairwise (fun p q => q.1 < p.1)
theorem chk_some {s : Option St} (h : chk s = some st) : s = some st ∧ st.length ≤ 6 := by
  unfold chk at h
  split at h
  · split at h
    · rename_i h2; obtain rfl := Option.some.inj h; exact ⟨rfl, h2⟩
    · cases h
  · cases h
theorem inv_push {c : Int} (hI : ∀ p ∈ st, p.1 < k ∧ (∃ a, l[p.1]? = some a ∧ a.1 = p.2) ∧ isOp p.2) (hP : st.Pairwise (fun p q => q.1 < p.1)) (ha : l[k]? = some a) (hc : a.1 = c) (ho : isOp c) :
    (∀ p ∈ (k, c) :: st, p.1 < k + 1 ∧ (∃ a, l[p.1]? = some a ∧ a.1 = p.2) ∧ isOp p.2) ∧ ((k, c) :: st).Pairwise (fun p q => q.1 < p.1) := by
  refine ⟨fun p hp => ?_, List.pairwise_cons.2 ⟨fun q hq => (hI q hq).1, hP⟩⟩
  rcases List.mem_cons.1 hp with rfl | hp
  · exact ⟨Nat.lt_succ_self _, ⟨a, ha, hc⟩, ho⟩
  · exact ⟨Nat.lt_succ_of_lt (hI p hp).1, (hI p hp).2⟩
theorem inv_keep (hI : ∀ p ∈ st, p.1 < k ∧ (∃ a, l[p.1]? = some a ∧ a.1 = p.2) ∧ isOp p.2) : ∀ p ∈ st, p.1 < k + 1 ∧ (∃ a, l[p.1]? = some a ∧ a.1 = p.2) ∧ isOp p.2 :=
  fun p hp => ⟨Nat.lt_succ_of_lt (hI p hp).1, (hI p hp).2⟩
theorem inv_step (hi : Inv l k st) (ha : l[k]? = some a) (h : chk (stp a.1 k st) = some st') : Inv l (k + 1) st' := by
  obtain ⟨h, h6⟩ := chk_some h
  obtain ⟨-, hI, hP⟩ := hi
  refine ⟨h6, ?_⟩
  unfold stp at h
  split at h
  · rename_i hc
    obtain rfl := Option.some.inj h
    exact inv_push hI hP ha rfl (by rcases hc with h | h <;> rw [h] <;> simp [isOp])
  split at h
  · rename_i hc
    cases st with
    | nil => cases h
    | cons p r =>
      simp only at h
      split at h
      · obtain rfl := Option.some.inj h
        exact inv_push (fun q hq => hI q (List.mem_cons_of_mem _ hq)) (List.pairwise_cons.1 hP).2 ha hc (by simp [isOp])
      · cases h
  have pop : ∀ {p : Nat × Int} {r : St}, st = p :: r → (∀ q ∈ r, q.1 < k + 1 ∧ (∃ a, l[q.1]? = some a ∧ a.1 = q.2) ∧ isOp q.2) ∧ r.Pairwise (fun p q => q.1 < p.1) := by
    rintro p r rfl
    exact ⟨inv_keep fun q hq => hI q (List.mem_cons_of_mem _ hq), (List.pairwise_cons.1 hP).2⟩
  split at h
  · cases st with
    | nil => cases h
    | cons p r =>
      simp only at h
      split at h
      · cases h
      · obtain rfl := Option.some.inj h; exact pop rfl
  split at h
  · cases st with
    | nil => cases h
    | cons p r =>
      simp only at h
      split at h
      · obtain rfl := Option.some.inj h; exact pop rfl
      · cases h
  · obtain rfl := Option.some.inj h
    exact ⟨inv_keep hI, hP⟩
theorem rn_inv : ∀ {k : Nat} {st : St}, rn l k = some st → Inv l k st
  | 0, st, h => by
    obtain rfl : [] = st := Option.some.inj h
    exact ⟨by simp, fun p hp => absurd hp (List.not_mem_nil), List.Pairwise.nil⟩
  | k + 1, st, h => by
    have h2 := h
    simp only [rn] at h2
    split at h2
    · rename_i s x hs hx
      exact inv_step (rn_inv hs) hx h2
    · cases h2
/-- A pair that is not begun any more is never changed again. -/
theorem stay_step {b : Nat} (hi : Inv l k st) (ha : l[k]? = some a) (h : chk (stp a.1 k st) = some st') (hb : b < k) (hn : ∀ p ∈ st, p.1 ≠ b) : (∀ p ∈ st', p.1 ≠ b) ∧ (pstp a.1 k st (pr l k))[b]? = (pr l k)[b]? := by
  obtain ⟨h, -⟩ := chk_some h
  constructor
  · intro p hp
    unfold stp at h
    split at h
    · obtain rfl := Option.some.inj h
      rcases List.mem_cons.1 hp with rfl | hp
      · exact fun e => by simp only at e; omega
      · exact hn p hp
    split at h
    · cases st with
      | nil => cases h
      | cons q r =>
        simp only at h
        split at h
        · obtain rfl := Option.some.inj h
          rcases List.mem_cons.1 hp with rfl | hp
          · exact fun e => by simp only at e; omega
          · exact hn p (List.mem_cons_of_mem _ hp)
        · cases h
    split at h
    · cases st with
      | nil => cases h
      | cons q r =>
        simp only at h
        split at h
        · cases h
        · obtain rfl := Option.some.inj h; exact hn p (List.mem_cons_of_mem _ hp)
    split at h
    · cases st with
      | nil => cases h
      | cons q r =>
        simp only at h
        split at h
        · obtain rfl := Option.some.inj h; exact hn p (List.mem_cons_of_mem _ hp)
        · cases h
    · obtain rfl := Option.some.inj h; exact hn p hp
  · unfold pstp
    split
    · cases st with
      | nil => rfl
      | cons q r => exact List.getElem?_set_ne (hn q (List.mem_cons_self))
    · rfl
theorem stay {b n : Nat} (hr : rn l k = some st) (hb : b < k) (hn : ∀ p ∈ st, p.1 ≠ b) {s : St} (h : rn l n = some s) (hk : k ≤ n) : (pr l n)[b]? = (pr l k)[b]? := by
  have key : ∀ d, k + d ≤ n → ∃ s, rn l (k + d) = some s ∧ (∀ p ∈ s, p.1 ≠ b) ∧ (pr l (k + d))[b]? = (pr l k)[b]? := by
    intro d
    induction d with
    | zero => intro _; exact ⟨st, hr, hn, rfl⟩
    | succ d ih =>
      intro hd
      obtain ⟨s1, h1, h2, h3⟩ := ih (by omega)
      obtain ⟨s2, h4⟩ := rn_some h (show k + (d + 1) ≤ n from hd)
      have h5 := h4
      rw [show k + (d + 1) = (k + d) + 1 from rfl] at h5 ⊢
      simp only [rn, h1] at h5
      split at h5
      · rename_i x y e1 e2
        obtain rfl := Option.some.inj e1
        obtain ⟨h6, h7⟩ := stay_step (rn_inv h1) e2 h5 (by omega) h2
        exact ⟨s2, h4, h6, by rw [pr_succ h1 e2, h7, h3]⟩
      · cases h5
  obtain ⟨d, rfl⟩ := Nat.exists_eq_add_of_le hk
  obtain ⟨_, _, _, h⟩ := key d (Nat.le_refl _)
  exact h
/-- One who begins nothing has no partner. -/
theorem pr_zero {b : Nat} {x : AHint} (hx : l[b]? = some x) (ho : ¬ isOp x.1) : ∀ {k : Nat} {st : St}, rn l k = some st → (pr l k)[b]? = some 0
  | 0, st, h => by
    show (List.replicate l.length (0 : Int))[b]? = some 0
    rw [List.getElem?_replicate, if_pos (List.getElem?_eq_some_iff.1 hx).1]
  | k + 1, st, h => by
    simp only [rn] at h
    split at h
    · rename_i s y hs hy
      have ih := pr_zero hx ho hs
      rw [pr_succ hs hy]
      unfold pstp
      split
      · cases s with
        | nil => exact ih
        | cons q r =>
          obtain ⟨-, ⟨a, h1, h2⟩, h3⟩ := (rn_inv hs).2.1 q (List.mem_cons_self)
          show ((pr l k).set q.1 (k : Int))[b]? = some 0
          rw [List.getElem?_set_ne (fun e => ho (by rw [e, hx] at h1; obtain rfl := Option.some.inj h1; rw [h2]; exact h3))]
          exact ih
      · exact ih
    · cases h
theorem ntB_rn (h : ntB l = true) : rn l l.length = some [] := by unfold ntB at h; exact of_decide_eq_true h
theorem pt_zero {b : Nat} {x : AHint} (h : ntB l = true) (hx : l[b]? = some x) (ho : ¬ isOp x.1) : ptV l b = 0 := by
  unfold ptV; rw [pr_zero hx ho (ntB_rn h)]; rfl
/-- The one begun at b is ended at k. -/
theorem pt_here {b : Nat} {c : Int} {r : St} (h : ntB l = true) (hr : rn l k = some ((b, c) :: r)) (ha : l[k]? = some a) (hc : a.1 = 36 ∨ a.1 = 37 ∨ a.1 = 38) : ptV l b = (k : Int) := by
  have hk : k < l.length := (List.getElem?_eq_some_iff.1 ha).1
  obtain ⟨s, hs⟩ := rn_some (ntB_rn h) (show k + 1 ≤ l.length by omega)
  have hi := rn_inv hr
  have hbk : b < k := (hi.2.1 (b, c) (List.mem_cons_self)).1
  have hps : pr l (k + 1) = (pr l k).set b (k : Int) := by rw [pr_succ hr ha]; unfold pstp; rw [if_pos hc]
  have h1 : (pr l (k + 1))[b]? = some (k : Int) := by rw [hps, List.getElem?_set_self (by rw [pr_len]; omega)]
  have hpw := (List.pairwise_cons.1 hi.2.2).1
  have hsr : ∀ p ∈ s, p.1 ≠ b := by
    have h2 := hs
    rw [rn_succ hr ha] at h2
    obtain ⟨h2, -⟩ := chk_some h2
    have hrb : ∀ p ∈ r, p.1 ≠ b := fun p hp e => by have := hpw p hp; simp only at this; omega
    unfold stp at h2
    rw [if_neg (by rcases hc with h | h | h <;> rw [h] <;> decide)] at h2
    split at h2
    · simp only at h2
      split at h2
      · obtain rfl := Option.some.inj h2
        intro p hp
        rcases List.mem_cons.1 hp with rfl | hp
        · exact fun e => by simp only at e; omega
        · exact hrb p hp
      · cases h2
    split at h2
    · simp only at h2
      split at h2
      · cases h2
      · obtain rfl := Option.some.inj h2; exact hrb
    split at h2
    · simp only at h2
      split at h2
      · obtain rfl := Option.some.inj h2; exact hrb
      · cases h2
    · rename_i n1 n2 n3
      rcases hc with h | h | h
      · exact absurd h n1
      · exact absurd h n2
      · exact absurd h n3
  unfold ptV
  rw [stay hs (by omega) hsr (ntB_rn h) (by omega), h1]; rfl
end
end Go.Proofs.YtdikenapnncmfaaDoor
