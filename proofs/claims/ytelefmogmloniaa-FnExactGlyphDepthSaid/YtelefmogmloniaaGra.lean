/- Values of glyphs that follow from those of their parts: plain facts; whether a glyph is one of a set, on both sides. -/
import Derived.Test.YtelefmogmloniaaGqa
namespace Go.Proofs.Ytelefmogmloniaa
open Go.RowKit
set_option linter.unusedVariables false
abbrev ptsOf (d : DGlyph) : List DPart := d.2.2.2.2.1
def gv (vals : List Int) (g : Int) : Int := vals.getD g.toNat 0
def pv (vals : List Int) (d : DGlyph) : List Int := (ptsOf d).map fun a : DPart => gv vals a.1
def vStep (ov : DGlyph → List Int → Int) (l : List DGlyph) (vals : List Int) (x : Int) : List Int := match l[x.toNat]? with | some d => vals.set x.toNat (ov d (pv vals d)) | none => vals
def vRun (ov : DGlyph → List Int → Int) (l : List DGlyph) (ord : List Int) (k : Nat) : List Int := (ord.take k).foldl (vStep ov l) (List.replicate l.length 0)
def vAll (ov : DGlyph → List Int → Int) (l : List DGlyph) : List Int := vRun ov l (ordL (psOf l)) (ordL (psOf l)).length
def dU (ps : List Int) (j : Nat) : Int := (ps.take j).foldl (fun m v => max m (v + 1)) 0
def ovD (d : DGlyph) (ps : List Int) : Int := dU ps ps.length
def ovC (d : DGlyph) (ps : List Int) : Int := min ((d.2.2.2.1.length : Int) + ps.sum) 13
section
variable {ov : DGlyph → List Int → Int} {l : List DGlyph} {ord : List Int} {k : Nat} {x : Int}
theorem vRun_zero : vRun ov l ord 0 = List.replicate l.length 0 := by simp [vRun]
theorem vRun_succ (h : ord[k]? = some x) : vRun ov l ord (k + 1) = vStep ov l (vRun ov l ord k) x := by
  unfold vRun
  rw [List.take_add_one, h, Option.toList_some, List.foldl_append]; rfl
theorem vStep_len {vals : List Int} : (vStep ov l vals x).length = vals.length := by
  unfold vStep
  split
  · rw [List.length_set]
  · rfl
theorem vRun_len : ∀ k, (vRun ov l ord k).length = l.length
  | 0 => by rw [vRun_zero, List.length_replicate]
  | k + 1 => by
    cases h : ord[k]? with
    | none =>
      have : vRun ov l ord (k + 1) = vRun ov l ord k := by unfold vRun; rw [List.take_add_one, h]; simp
      rw [this]; exact vRun_len k
    | some x => rw [vRun_succ h, vStep_len]; exact vRun_len k
theorem vStep_at {vals : List Int} {d : DGlyph} {i : Nat} (h : l[i]? = some d) : vStep ov l vals (i : Int) = vals.set i (ov d (pv vals d)) := by
  unfold vStep
  rw [Int.toNat_natCast, h]
/-- What has not been reckoned is nought. -/
theorem vRun_rest {i : Nat} (h : ¬ (i : Int) ∈ ord.take k) (hp : ∀ y ∈ ord, 0 ≤ y) : gv (vRun ov l ord k) (i : Int) = 0 := by
  induction k with
  | zero => rw [vRun_zero]; unfold gv; rw [Int.toNat_natCast, List.getD_eq_getElem?_getD, List.getElem?_replicate]; split <;> rfl
  | succ k ih =>
    cases hx : ord[k]? with
    | none =>
      have e : vRun ov l ord (k + 1) = vRun ov l ord k := by unfold vRun; rw [List.take_add_one, hx]; simp
      rw [e]
      exact ih (fun h2 => h (by rw [List.take_add_one, hx]; simpa using h2))
    | some x =>
      rw [List.take_add_one, hx] at h
      simp at h
      rw [vRun_succ hx]
      have h0 := hp x (List.mem_of_getElem? hx)
      obtain ⟨q, rfl⟩ : ∃ q : Nat, x = (q : Int) := ⟨x.toNat, by omega⟩
      have hne : ¬ q = i := fun e => h.2 (by rw [e])
      unfold vStep
      split
      · unfold gv
        rw [Int.toNat_natCast, Int.toNat_natCast, List.getD_eq_getElem?_getD, List.getElem?_set, if_neg hne, ← List.getD_eq_getElem?_getD]
        have := ih h.1
        unfold gv at this
        rw [Int.toNat_natCast] at this
        exact this
      · exact ih h.1
/-- Bounds of the values after k steps. -/
def vB (k : Nat) (vals : List Int) : Prop := ∀ v ∈ vals, 0 ≤ v ∧ v ≤ 13 + (k : Int)
theorem gv_in {vals : List Int} (h : vB k vals) (g : Int) : 0 ≤ gv vals g ∧ gv vals g ≤ 13 + (k : Int) := by
  unfold gv
  rw [List.getD_eq_getElem?_getD]
  cases hx : vals[g.toNat]? with
  | none => simp; omega
  | some v => exact h v (List.mem_of_getElem? hx)
theorem pv_in {vals : List Int} {d : DGlyph} (h : vB k vals) : vB k (pv vals d) := by
  intro v hv
  obtain ⟨a, _, rfl⟩ := List.mem_map.1 hv
  exact gv_in h a.1
theorem vB_zero {n : Nat} : vB 0 (List.replicate n 0) := by
  intro v hv
  rw [List.mem_replicate] at hv
  omega
theorem vB_run (ho : ∀ k d ps, vB k ps → 0 ≤ ov d ps ∧ ov d ps ≤ 13 + ((k + 1 : Nat) : Int)) : ∀ k, vB k (vRun ov l ord k)
  | 0 => by rw [vRun_zero]; exact vB_zero
  | k + 1 => by
    have ih := vB_run ho k
    have up : vB (k + 1) (vRun ov l ord k) := fun v hv => by have := ih v hv; omega
    cases hx : ord[k]? with
    | none =>
      have e : vRun ov l ord (k + 1) = vRun ov l ord k := by unfold vRun; rw [List.take_add_one, hx]; simp
      rw [e]; exact up
    | some x =>
      rw [vRun_succ hx]
      unfold vStep
      split
      · intro v hv
        rcases List.mem_or_eq_of_mem_set hv with h | h
        · exact up v h
        · rw [h]; exact ho k _ _ (pv_in ih)
      · exact up
end
theorem dU_zero {ps : List Int} : dU ps 0 = 0 := by simp [dU]
theorem dU_succ {ps : List Int} {j : Nat} {v : Int} (h : ps[j]? = some v) : dU ps (j + 1) = max (dU ps j) (v + 1) := by
  unfold dU
  rw [List.take_add_one, h, Option.toList_some, List.foldl_append]; rfl
theorem dU_in {ps : List Int} {k : Nat} (h : vB k ps) : ∀ j, 0 ≤ dU ps j ∧ dU ps j ≤ 13 + ((k + 1 : Nat) : Int)
  | 0 => by rw [dU_zero]; omega
  | j + 1 => by
    have ih := dU_in h j
    cases hx : ps[j]? with
    | none =>
      have e : dU ps (j + 1) = dU ps j := by unfold dU; rw [List.take_add_one, hx]; simp
      rw [e]; exact ih
    | some v =>
      have := h v (List.mem_of_getElem? hx)
      rw [dU_succ hx]; omega
theorem ovD_in (k : Nat) (d : DGlyph) (ps : List Int) (h : vB k ps) : 0 ≤ ovD d ps ∧ ovD d ps ≤ 13 + ((k + 1 : Nat) : Int) := dU_in h _
theorem sum_nn : ∀ {ps : List Int}, (∀ v ∈ ps, 0 ≤ v) → 0 ≤ ps.sum
  | [], _ => by simp
  | a :: l, h => by
    have h1 := h a (by simp)
    have h2 := sum_nn (ps := l) (fun v hv => h v (by simp [hv]))
    rw [List.sum_cons]; omega
theorem ovC_in (k : Nat) (d : DGlyph) (ps : List Int) (h : vB k ps) : 0 ≤ ovC d ps ∧ ovC d ps ≤ 13 + ((k + 1 : Nat) : Int) := by
  have h2 := sum_nn (fun v hv => (h v hv).1)
  unfold ovC; omega
/-- The greatest of the first j, and of all. -/
def mU (ps : List Int) (j : Nat) : Int := (ps.take j).foldl max (ps.headD 0)
theorem mU_succ {ps : List Int} {j : Nat} {v : Int} (h : ps[j]? = some v) : mU ps (j + 1) = max (mU ps j) v := by
  unfold mU
  rw [List.take_add_one, h, Option.toList_some, List.foldl_append]; rfl
theorem mU_one {ps : List Int} {v : Int} (h : ps[0]? = some v) : mU ps 1 = v := by
  cases ps with
  | nil => simp at h
  | cons a l => simp at h; subst h; simp [mU]
theorem mU_dU {ps : List Int} (h : ∀ v ∈ ps, 0 ≤ v) (h0 : 0 < ps.length) : ∀ j, 1 ≤ j → j ≤ ps.length → dU ps j = 1 + mU ps j
  | 0, h1, _ => by omega
  | 1, _, _ => by
    obtain ⟨v, hv⟩ : ∃ v, ps[0]? = some v := ⟨ps[0], List.getElem?_eq_getElem h0⟩
    have := h v (List.mem_of_getElem? hv)
    rw [dU_succ hv, dU_zero, mU_one hv]; omega
  | j + 2, _, hj => by
    obtain ⟨v, hv⟩ : ∃ v, ps[j + 1]? = some v := ⟨ps[j + 1], List.getElem?_eq_getElem (by omega)⟩
    rw [dU_succ hv, mU_succ hv, mU_dU h h0 (j + 1) (by omega) (by omega)]; omega
/-- In an order in which parts come first, the parts of the k-th are among the ones before it. -/
def oOk (ps : PT) (out : List Int) : Prop := ∀ k x, out[k]? = some x → ∀ g ∈ ps.getD x.toNat [], g ∈ out.take k
theorem oOk_step {ps : PT} {out : List Int} {i : Nat} (h : oOk ps out) : oOk ps (oStep ps out i) := by
  unfold oStep
  split
  · exact h
  · split
    · rename_i h2
      intro k x hx g hg
      rw [List.getElem?_append] at hx
      split at hx
      · rename_i hk
        rw [List.take_append_of_le_length (by omega)]
        exact h k x hx g hg
      · rename_i hk
        have hk0 : k - out.length = 0 := by
          rcases Nat.eq_zero_or_pos (k - out.length) with e | e
          · exact e
          · rw [List.getElem?_eq_none (by simp; omega)] at hx; cases hx
        rw [hk0] at hx
        simp at hx
        subst hx
        rw [Int.toNat_natCast] at hg
        have : k = out.length := by omega
        subst this
        rw [List.take_left]
        exact h2 g hg
    · exact h
theorem oOk_up {ps : PT} {out : List Int} (h : oOk ps out) : ∀ k, oOk ps (oUp ps out k)
  | 0 => h
  | k + 1 => by rw [oUp_succ]; exact oOk_step (oOk_up h k)
theorem oOk_it {ps : PT} : ∀ m, oOk ps (oIt ps m)
  | 0 => by intro k x hx; simp [oIt] at hx
  | m + 1 => oOk_up (oOk_it m) _
theorem oOk_ord {ps : PT} : oOk ps (ordL ps) := oOk_it _
theorem nodup_take {out : List Int} (h : out.Nodup) {k : Nat} {x : Int} (hx : out[k]? = some x) : ¬ x ∈ out.take k := by
  obtain ⟨hk, he⟩ := List.getElem?_eq_some_iff.1 hx
  intro hm
  rw [← List.take_append_drop k out, List.nodup_append] at h
  refine h.2.2 x hm x ?_ rfl
  rw [List.drop_eq_getElem_cons hk, he]; simp
def askV (d : DGlyphSet) (g : Int) : Int := if vS d = true then (if 0 ≤ g ∧ g < (d.2.length : Int) then 0 else 2) else 1
def iArr (vals : List Int) : Array Value := (vals.map fun v : Int => Value.int .i64 v).toArray
theorem iArr_at {vals : List Int} {j : Nat} {v : Int} (h : vals[j]? = some v) : (iArr vals)[j]? = some (.int .i64 v) := by unfold iArr; simp [h]
theorem iArr_set {vals : List Int} {j : Nat} {v : Int} : (iArr vals).setIfInBounds j (.int .i64 v) = iArr (vals.set j v) := by
  unfold iArr
  rw [List.setIfInBounds_toArray, List.map_set]
theorem iArr_made (n : Nat) : madeCells (Value.cells (.int .i64 0)) (n * 1) = iArr (List.replicate n 0) := by
  apply Array.ext'
  have h : Value.cells (.int .i64 0) = #[.int .i64 0] := rfl
  rw [h, toList_madeCells_one, Nat.mul_one]
  unfold iArr
  rw [List.toList_toArray, List.map_replicate]
theorem gv_get {vals : List Int} {j : Nat} (h : j < vals.length) : vals[j]? = some (gv vals (j : Int)) := by
  unfold gv
  rw [Int.toNat_natCast, List.getD_eq_getElem?_getD, List.getElem?_eq_getElem h]; rfl
theorem set_gv {vals : List Int} {j : Nat} : vals.set j (gv vals (j : Int)) = vals := by
  apply List.ext_getElem?
  intro i
  rw [List.getElem?_set]
  split
  · rename_i e
    subst e
    split
    · rename_i h; exact (gv_get h).symm
    · rename_i h; rw [List.getElem?_eq_none (by omega)]
  · rfl
theorem gv_set_same {vals : List Int} {j : Nat} {v : Int} (h : j < vals.length) : gv (vals.set j v) (j : Int) = v := by
  unfold gv; rw [Int.toNat_natCast, List.getD_eq_getElem?_getD, List.getElem?_set_self h]; rfl
theorem gv_set_other {vals : List Int} {j : Nat} {g v : Int} (h : ¬ g.toNat = j) : gv (vals.set j v) g = gv vals g := by
  unfold gv; rw [List.getD_eq_getElem?_getD, List.getElem?_set_ne (fun e => h e.symm), List.getD_eq_getElem?_getD]
set_option maxHeartbeats 3200000 in
theorem l17Ask_any (u : Int) (l : List DGlyph) (A : Option Addr) (c b p : Nat) (g : Int) (w : World) (ht : totRow totGlyph l ≤ 1048576) (hb : b < w.heap.size) (s0 : w.cell? ⟨b, p, none⟩ = some (.int .i64 u)) (s1 : w.cell? ⟨b, p + 1, none⟩ = some (.slice A l.length c)) (r : Row RvGlyph 7 w w.heap.size A l) :
    Calls Try.prog 100 #[.pointer (some ⟨b, p, none⟩), .int .i64 g] w fun e w' => e = .returned (.int .i64 (askV (u, l) g)) ∧ Below w.heap.size w w' := by
  have hll := Nat.le_trans (totRow_len totGlyph l) ht
  have CV := Lib.hid (l17Ok_any u l A c b p w ht hb s0 s1 r)
  have hv : askV (u, l) g = if vS (u, l) = true then (if 0 ≤ g ∧ g < (l.length : Int) then 0 else 2) else 1 := rfl
  obtain ⟨R, hR⟩ : ∃ R, R = askV (u, l) g := ⟨_, rfl⟩
  rw [← hR]
  rw [hv] at hR
  clear hv
  generalize vS (u, l) = v at CV hR
  generalize l.length = n at *
  have HR := Lib.hid hR
  clear hR
  go_enter Try.func100, Try.ntmps100
  go_wp2_with fail
  refine CV.out.mono ?_
  rintro e w1 ⟨rfl, hb1⟩
  cases v
  case false =>
    go_wp2_with fail
    go_ret
    exact ⟨ret_i (by have h := HR.out; simpa using h.symm), by repeat' (first | with_reducible assumption | with_reducible exact Below.refl _ _ | (with_reducible refine Below.setCell ?_ ?_ _) | (with_reducible refine Below.alloc ?_ ?_ _) | (with_reducible refine Below.drew ?_) | (with_reducible refine below_dr ?_ _) | (with_reducible refine Below.trans ?_ (Below.mono (by with_reducible assumption) ?_)) | omega | (simp; done) | (simp; omega))⟩
  case true =>
    have s1z : w1.cell? ⟨b, p + 1, none⟩ = some (.slice A n c) := (hb1.cell (p := ⟨b, p + 1, none⟩) hb).trans s1
    have hw : IntKind.i64.wrap ((n : Int) - 1) = (n : Int) - 1 := IntWalk.i64_in _ (by omega)
    by_cases hg : 0 ≤ g ∧ g < (n : Int)
    · obtain ⟨h0, h1⟩ := hg
      have HH := Lib.hid (show (if 0 ≤ g ∧ g < (n : Int) then (0 : Int) else 2) = 0 from if_pos ⟨h0, h1⟩)
      go_wp2_with fail
      refine (l00In_yes _ _ _ _ h0 (by omega)).mono ?_
      rintro e wI ⟨rfl, rfl⟩
      clear h0 h1
      go_wp2_with fail
      go_ret
      exact ⟨ret_i (by have h := HR.out; first | rw [if_pos rfl, HH.out] at h | rw [if_pos trivial, HH.out] at h; exact h.symm), by repeat' (first | with_reducible assumption | with_reducible exact Below.refl _ _ | (with_reducible refine Below.setCell ?_ ?_ _) | (with_reducible refine Below.alloc ?_ ?_ _) | (with_reducible refine Below.drew ?_) | (with_reducible refine below_dr ?_ _) | (with_reducible refine Below.trans ?_ (Below.mono (by with_reducible assumption) ?_)) | omega | (simp; done) | (simp; omega))⟩
    · have HH := Lib.hid (show (if 0 ≤ g ∧ g < (n : Int) then (0 : Int) else 2) = 2 from if_neg hg)
      go_wp2_with fail
      refine (l00In_no _ _ _ _ (by omega)).mono ?_
      rintro e wI ⟨rfl, rfl⟩
      clear hg
      go_wp2_with fail
      go_ret
      exact ⟨ret_i (by have h := HR.out; first | rw [if_pos rfl, HH.out] at h | rw [if_pos trivial, HH.out] at h; exact h.symm), by repeat' (first | with_reducible assumption | with_reducible exact Below.refl _ _ | (with_reducible refine Below.setCell ?_ ?_ _) | (with_reducible refine Below.alloc ?_ ?_ _) | (with_reducible refine Below.drew ?_) | (with_reducible refine below_dr ?_ _) | (with_reducible refine Below.trans ?_ (Below.mono (by with_reducible assumption) ?_)) | omega | (simp; done) | (simp; omega))⟩
set_option maxHeartbeats 3200000 in
theorem check_any (u : Int) (l : List DGlyph) (A : Option Addr) (c : Nat) (g : Int) (w : World) (ht : totRow totGlyph l ≤ 1048576) (r : Row RvGlyph 7 w w.heap.size A l) :
    Calls Try.prog 102 #[.agg #[.int .i64 u, .slice A l.length c], .int .i64 g] w fun e w' => e = .returned (.int .i64 (askV (u, l) g)) ∧ Below w.heap.size w w' := by
  have hll := Nat.le_trans (totRow_len totGlyph l) ht
  have CV := Lib.hid (fun w1 q => implValidGlyphSet_any u l A c w1 ht q)
  have hv : askV (u, l) g = if vS (u, l) = true then (if 0 ≤ g ∧ g < (l.length : Int) then 0 else 2) else 1 := rfl
  obtain ⟨R, hR⟩ : ∃ R, R = askV (u, l) g := ⟨_, rfl⟩
  rw [← hR]
  rw [hv] at hR
  clear hv
  generalize vS (u, l) = v at CV hR
  generalize l.length = n at *
  have HR := Lib.hid hR
  clear hR
  go_enter Try.func102, Try.ntmps102
  go_wp2_with fail
  refine (CV.out _ ?_).mono ?_
  · exact (Row.alloc r (Nat.le_refl _) _).more (by simp)
  rintro e w1 ⟨rfl, hb1⟩
  cases v
  case false =>
    go_wp2_with fail
    go_ret
    exact ⟨ret_i (by have h := HR.out; simpa using h.symm), by repeat' (first | with_reducible assumption | with_reducible exact Below.refl _ _ | (with_reducible refine Below.setCell ?_ ?_ _) | (with_reducible refine Below.alloc ?_ ?_ _) | (with_reducible refine Below.drew ?_) | (with_reducible refine below_dr ?_ _) | (with_reducible refine Below.trans ?_ (Below.mono (by with_reducible assumption) ?_)) | omega | (simp; done) | (simp; omega))⟩
  case true =>
    have s1z : w1.cell? ⟨w.heap.size, 1, none⟩ = some (.slice A n c) := (hb1.cell (p := ⟨w.heap.size, 1, none⟩) (by simp)).trans (by simp [go_sem])
    by_cases hg : 0 ≤ g ∧ g < (n : Int)
    · obtain ⟨h0, h1⟩ := hg
      have HH := Lib.hid (show (if 0 ≤ g ∧ g < (n : Int) then (0 : Int) else 2) = 0 from if_pos ⟨h0, h1⟩)
      have q1 : decide (g < 0) = false := by simp; omega
      have q2 : decide (g ≥ (n : Int)) = false := by simp; omega
      go_wp2_with fail
      go_ret
      exact ⟨ret_i (by have h := HR.out; first | rw [if_pos rfl, HH.out] at h | rw [if_pos trivial, HH.out] at h; exact h.symm), by repeat' (first | with_reducible assumption | with_reducible exact Below.refl _ _ | (with_reducible refine Below.setCell ?_ ?_ _) | (with_reducible refine Below.alloc ?_ ?_ _) | (with_reducible refine Below.drew ?_) | (with_reducible refine below_dr ?_ _) | (with_reducible refine Below.trans ?_ (Below.mono (by with_reducible assumption) ?_)) | omega | (simp; done) | (simp; omega))⟩
    · have HH := Lib.hid (show (if 0 ≤ g ∧ g < (n : Int) then (0 : Int) else 2) = 2 from if_neg hg)
      by_cases h0 : g < 0
      · have q1 : decide (g < 0) = true := by simpa using h0
        clear hg
        go_wp2_with fail
        go_ret
        exact ⟨ret_i (by have h := HR.out; first | rw [if_pos rfl, HH.out] at h | rw [if_pos trivial, HH.out] at h; exact h.symm), by repeat' (first | with_reducible assumption | with_reducible exact Below.refl _ _ | (with_reducible refine Below.setCell ?_ ?_ _) | (with_reducible refine Below.alloc ?_ ?_ _) | (with_reducible refine Below.drew ?_) | (with_reducible refine below_dr ?_ _) | (with_reducible refine Below.trans ?_ (Below.mono (by with_reducible assumption) ?_)) | omega | (simp; done) | (simp; omega))⟩
      · have q1 : decide (g < 0) = false := by simpa using h0
        have q2 : decide (g ≥ (n : Int)) = true := by simp; omega
        clear hg
        go_wp2_with fail
        go_ret
        exact ⟨ret_i (by have h := HR.out; first | rw [if_pos rfl, HH.out] at h | rw [if_pos trivial, HH.out] at h; exact h.symm), by repeat' (first | with_reducible assumption | with_reducible exact Below.refl _ _ | (with_reducible refine Below.setCell ?_ ?_ _) | (with_reducible refine Below.alloc ?_ ?_ _) | (with_reducible refine Below.drew ?_) | (with_reducible refine below_dr ?_ _) | (with_reducible refine Below.trans ?_ (Below.mono (by with_reducible assumption) ?_)) | omega | (simp; done) | (simp; omega))⟩
end Go.Proofs.Ytelefmogmloniaa
