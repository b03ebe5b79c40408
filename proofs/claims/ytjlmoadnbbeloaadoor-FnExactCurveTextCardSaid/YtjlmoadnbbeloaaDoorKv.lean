/- Which curves are valid, which are the same: plain facts. -/
import Derived.Test.YtjlmoadnbbeloaaDoorKo
import Derived.Test.YtjlmoadnbbeloaaDoorPn
namespace Go.Proofs.YtjlmoadnbbeloaaDoor
set_option linter.unusedVariables false
def pOk (l : List APt) (k : Nat) : Bool := match l[k]? with | none => true | some a => okB a.1 a.2
def dOk (l : List APt) (k : Nat) : Bool := decide (¬ l[k]? = l[(k + 1) % l.length]?)
def ptsUp (l : List APt) (k : Nat) : Bool := (List.range k).all (pOk l)
def apartUp (l : List APt) (k : Nat) : Bool := (List.range k).all (dOk l)
def pcs (cl : Bool) (n : Nat) : Nat := if cl then n else n - 1
def lenB (cl : Bool) (n : Nat) : Bool := decide ((if cl then 3 else 2) ≤ n ∧ n ≤ 10)
def tenB (t : Int) : Bool := decide (3 ≤ t ∧ t ≤ 12)
def fixB (cl ff fl : Bool) : Bool := !(cl && (ff || fl))
def endB (f : Bool) (x y : Int) : Bool := okB x y && (f || decide (x = 0 ∧ y = 0))
/-- Is a curve valid? -/
def vCur (l : List APt) (cl : Bool) (t : Int) (ff fl : Bool) (fx fy lx ly : Int) : Bool :=
  lenB cl l.length && (ptsUp l l.length && (tenB t && (fixB cl ff fl && (endB ff fx fy && (endB fl lx ly && apartUp l (pcs cl l.length))))))
section
variable {l : List APt} {cl ff fl : Bool} {t fx fy lx ly : Int}
theorem vC_1 (h : lenB cl l.length = false) : false = vCur l cl t ff fl fx fy lx ly := by unfold vCur; rw [h]; rfl
theorem vC_2 (h : ptsUp l l.length = false) : false = vCur l cl t ff fl fx fy lx ly := by unfold vCur; rw [h]; simp
theorem vC_3 (h : tenB t = false) : false = vCur l cl t ff fl fx fy lx ly := by unfold vCur; rw [h]; simp
theorem vC_4 (h : fixB cl ff fl = false) : false = vCur l cl t ff fl fx fy lx ly := by unfold vCur; rw [h]; simp
theorem vC_5 (h : endB ff fx fy = false) : false = vCur l cl t ff fl fx fy lx ly := by unfold vCur; rw [h]; simp
theorem vC_6 (h : endB fl lx ly = false) : false = vCur l cl t ff fl fx fy lx ly := by unfold vCur; rw [h]; simp
theorem vC_7 (h : apartUp l (pcs cl l.length) = false) : false = vCur l cl t ff fl fx fy lx ly := by unfold vCur; rw [h]; simp
theorem vC_yes (h1 : lenB cl l.length = true) (h2 : ptsUp l l.length = true) (h3 : tenB t = true) (h4 : fixB cl ff fl = true) (h5 : endB ff fx fy = true) (h6 : endB fl lx ly = true) (h7 : apartUp l (pcs cl l.length) = true) : true = vCur l cl t ff fl fx fy lx ly := by
  unfold vCur; rw [h1, h2, h3, h4, h5, h6, h7]; rfl
theorem vC_parts (h : vCur l cl t ff fl fx fy lx ly = true) : lenB cl l.length = true ∧ ptsUp l l.length = true ∧ tenB t = true ∧ fixB cl ff fl = true ∧ endB ff fx fy = true ∧ endB fl lx ly = true ∧ apartUp l (pcs cl l.length) = true := by
  unfold vCur at h; simpa [Bool.and_eq_true] using h
theorem up_zero (f : Nat → Bool) : (List.range 0).all f = true := rfl
theorem pts_zero : ptsUp l 0 = true := rfl
theorem apart_zero : apartUp l 0 = true := rfl
theorem pts_succ {k : Nat} (h : ptsUp l k = true) (h2 : pOk l k = true) : ptsUp l (k + 1) = true := by
  unfold ptsUp at *; rw [List.range_succ, List.all_append, h]; simp [h2]
theorem apart_succ {k : Nat} (h : apartUp l k = true) (h2 : dOk l k = true) : apartUp l (k + 1) = true := by
  unfold apartUp at *; rw [List.range_succ, List.all_append, h]; simp [h2]
theorem pts_bad {k n : Nat} (hk : k < n) (h2 : pOk l k = false) : ptsUp l n = false := by
  unfold ptsUp; rw [List.all_eq_false]; exact ⟨k, by simpa using hk, by simp [h2]⟩
theorem apart_bad {k n : Nat} (hk : k < n) (h2 : dOk l k = false) : apartUp l n = false := by
  unfold apartUp; rw [List.all_eq_false]; exact ⟨k, by simpa using hk, by simp [h2]⟩
theorem p_yes {k : Nat} {x y : Int} (ha : l[k]? = some (x, y)) (h : okB x y = true) : pOk l k = true := by unfold pOk; rw [ha]; exact h
theorem p_no {k : Nat} {x y : Int} (ha : l[k]? = some (x, y)) (h : okB x y = false) : pOk l k = false := by unfold pOk; rw [ha]; exact h
theorem d_yes {k j : Nat} {x y u v : Int} (ha : l[k]? = some (x, y)) (hj : (k + 1) % l.length = j) (hb : l[j]? = some (u, v)) (h : ¬ (x = u ∧ y = v)) : dOk l k = true := by
  unfold dOk; rw [ha, hj, hb]; simp only [decide_eq_true_eq, Option.some.injEq, Prod.mk.injEq]; exact h
theorem d_no {k j : Nat} {x y u v : Int} (ha : l[k]? = some (x, y)) (hj : (k + 1) % l.length = j) (hb : l[j]? = some (u, v)) (h : x = u ∧ y = v) : dOk l k = false := by
  unfold dOk; rw [ha, hj, hb]; simp [h.1, h.2]
theorem pts_all (h : ptsUp l l.length = true) {k : Nat} {x y : Int} (ha : l[k]? = some (x, y)) : okB x y = true := by
  have hk : k < l.length := by
    rcases Nat.lt_or_ge k l.length with q | q
    · exact q
    · rw [List.getElem?_eq_none q] at ha; cases ha
  unfold ptsUp at h
  simp only [List.all_eq_true, List.mem_range] at h
  have := h k hk
  unfold pOk at this
  rw [ha] at this
  exact this
theorem len_yes (h : lenB cl l.length = true) : 2 ≤ l.length ∧ l.length ≤ 10 := by
  unfold lenB at h; simp only [decide_eq_true_eq] at h; split at h <;> omega
theorem len_cl (h : lenB true l.length = true) : 3 ≤ l.length := by
  unfold lenB at h; simp only [decide_eq_true_eq, if_true] at h; omega
end
/-- Are two curves the same? -/
def sCur (l : List APt) (cl : Bool) (t : Int) (ff fl : Bool) (fx fy lx ly : Int) (l' : List APt) (cl' : Bool) (t' : Int) (ff' fl' : Bool) (fx' fy' lx' ly' : Int) : Bool :=
  decide (cl = cl' ∧ t = t' ∧ l = l' ∧ (ff = ff' ∧ fx = fx' ∧ fy = fy') ∧ (fl = fl' ∧ lx = lx' ∧ ly = ly'))
end Go.Proofs.YtjlmoadnbbeloaaDoor
