/- How values read that hold slices to any depth: plain facts. -/
import Derived.Test.YtdikenapnncmfaaDoorHo
namespace Go.Proofs.YtdikenapnncmfaaDoor
open Go.RowKit
set_option linter.unusedVariables false
theorem ret_i {a b : Int} (h : a = b) : Ending.returned (.int .i64 a) = .returned (.int .i64 b) := by rw [h]
abbrev Rv (D : Type) : Type := World → Nat → List Value → D → Prop
class Nice {D : Type} (R : Rv D) (s : outParam Nat) : Prop where
  len : ∀ {w : World} {B : Nat} {row : List Value} {d : D}, R w B row d → row.length = s
  one : ∀ {w : World} {B : Nat} {row : List Value} {d : D}, R w B row d → ∀ u ∈ row, u.oneCell' = true
  keep : ∀ {w w' : World} {B : Nat} {row : List Value} {d : D}, (∀ p : Addr, p.block < B → w'.cell? p = w.cell? p) → R w B row d → R w' B row d
  more : ∀ {w : World} {B B' : Nat} {row : List Value} {d : D}, B ≤ B' → R w B row d → R w B' row d
/-- A slice at A that reads as the list l: each element lies in s cells that read as it. -/
def Row {D : Type} (R : Rv D) (s : Nat) (w : World) (B : Nat) (A : Option Addr) (l : List D) : Prop :=
  l = [] ∨ ∃ g o, A = some ⟨g, o, none⟩ ∧ g < B ∧ ∀ k d, l[k]? = some d → ∃ row, R w B row d ∧ ∀ i u, row[i]? = some u → w.cell? ⟨g, o + k * s + i, none⟩ = some u
section
variable {D : Type} {R : Rv D} {s : Nat} {w w' : World} {B B' lo lo' : Nat} {A : Option Addr} {l : List D}
theorem Row.keep [n : Nice R s] (h : Row R s w B A l) (hk : ∀ p : Addr, p.block < B → w'.cell? p = w.cell? p) : Row R s w' B A l := by
  rcases h with rfl | ⟨g, o, hA, hg, h⟩
  · exact .inl rfl
  · exact .inr ⟨g, o, hA, hg, fun k d hd => by
      obtain ⟨row, hR, hc⟩ := h k d hd
      exact ⟨row, n.keep hk hR, fun i u hu => (hk _ hg).trans (hc i u hu)⟩⟩
theorem Row.more [n : Nice R s] (h : Row R s w B A l) (hB : B ≤ B') : Row R s w B' A l := by
  rcases h with rfl | ⟨g, o, hA, hg, h⟩
  · exact .inl rfl
  · exact .inr ⟨g, o, hA, Nat.lt_of_lt_of_le hg hB, fun k d hd => by
      obtain ⟨row, hR, hc⟩ := h k d hd
      exact ⟨row, n.more hB hR, hc⟩⟩
theorem Row.carry [Nice R s] (h : Row R s w B A l) (hb : Below w.heap.size w w') (hB : B ≤ w.heap.size) : Row R s w' B A l := h.keep fun p hp => hb.cell (by omega)
theorem Row.drew (h : Row R s w B A l) [Nice R s] : Row R s w.drew B A l := h.keep fun _ _ => rfl
theorem Row.alloc [Nice R s] (h : Row R s w B A l) (hB : B ≤ w.heap.size) (o : Obj) : Row R s (w.alloc o) B A l := h.carry ((Below.refl _ _).alloc (Nat.le_refl _) o) hB
theorem Row.setCell [Nice R s] (h : Row R s w B A l) {p : Addr} (hB : B ≤ p.block) (u : Value) : Row R s (w.setCell p u) B A l :=
  h.keep fun q hq => World.cell?_setCell_other w p q u (fun e => by subst e; omega)
theorem Row.elem (h : Row R s w B A l) {k : Nat} {d : D} (hd : l[k]? = some d) : ∃ g o row, A = some ⟨g, o, none⟩ ∧ g < B ∧ R w B row d ∧ ∀ i u, row[i]? = some u → w.cell? ⟨g, o + k * s + i, none⟩ = some u := by
  rcases h with rfl | ⟨g, o, hA, hg, h⟩
  · simp at hd
  · obtain ⟨row, hR, hc⟩ := h k d hd
    exact ⟨g, o, row, hA, hg, hR, hc⟩
theorem Row.of {α : Type} {f : α → List Value} {g : α → D} {l : List α} (h : Rd f s w B A l) (hR : ∀ (i : Nat) (a : α), l[i]? = some a → R w B (f a) (g a)) : Row R s w B A (l.map g) := by
  rcases h with rfl | ⟨q, o, hA, hg, h⟩
  · exact .inl rfl
  · refine .inr ⟨q, o, hA, hg, fun k d hd => ?_⟩
    rw [List.getElem?_map] at hd
    cases ha : l[k]? with
    | none => rw [ha] at hd; cases hd
    | some a => rw [ha] at hd; obtain rfl := Option.some.inj hd; exact ⟨f a, hR k a ha, fun i u hu => h k a ha i u hu⟩
/-- As R and as Row, whatever happens below block lo. -/
def RvIn (R : Rv D) (w : World) (lo B : Nat) (row : List Value) (d : D) : Prop := ∀ w2 : World, (∀ p : Addr, lo ≤ p.block → p.block < B → w2.cell? p = w.cell? p) → R w2 B row d
def RowIn (R : Rv D) (s : Nat) (w : World) (lo B : Nat) (A : Option Addr) (l : List D) : Prop := ∀ w2 : World, (∀ p : Addr, lo ≤ p.block → p.block < B → w2.cell? p = w.cell? p) → Row R s w2 B A l
theorem RowIn.here (h : RowIn R s w lo B A l) : Row R s w B A l := h w fun _ _ _ => rfl
theorem RowIn.down (h : RowIn R s w lo B A l) (hl : lo' ≤ lo) : RowIn R s w lo' B A l := fun w2 ha => h w2 fun p h1 h2 => ha p (by omega) h2
theorem RowIn.far (h : RowIn R s w lo B A l) {p : Addr} (hp : p.block < lo) (u : Value) : RowIn R s (w.setCell p u) lo B A l := fun w2 ha => h w2 fun q h1 h2 => (ha q h1 h2).trans (World.cell?_setCell_other w p q u (fun e => by subst e; omega))
theorem RowIn.stays (h : RowIn R s w lo B A l) (hb : Below w.heap.size w w') (hB : B ≤ w.heap.size) : RowIn R s w' lo B A l := fun w2 ha => h w2 fun q h1 h2 => (ha q h1 h2).trans (hb.cell (by omega))
theorem RowIn.drew (h : RowIn R s w lo B A l) : RowIn R s w.drew lo B A l := h
theorem RowIn.alloc (h : RowIn R s w lo B A l) (hB : B ≤ w.heap.size) (o : Obj) : RowIn R s (w.alloc o) lo B A l := h.stays ((Below.refl _ _).alloc (Nat.le_refl _) o) hB
theorem RowIn.wide [Nice R s] (h : RowIn R s w lo B A l) (hB : B ≤ B') : RowIn R s w lo B' A l := fun w2 ha => (h w2 fun p h1 h2 => ha p h1 (by omega)).more hB
theorem RvIn.on [n : Nice R s] {row : List Value} {d : D} (h : RvIn R w lo B row d) (hw : ∀ p : Addr, lo ≤ p.block → p.block < B → w'.cell? p = w.cell? p) (hB : B ≤ B') (hl : lo' ≤ lo) : RvIn R w' lo' B' row d :=
  fun w2 ha => n.more hB (h w2 fun p h1 h2 => (ha p (by omega) (by omega)).trans (hw p h1 h2))
def setRun (xs : List Value) : Nat → List Value → List Value
  | _, [] => xs
  | p, u :: r => setRun (xs.set p u) (p + 1) r
theorem setRun_out : ∀ (row : List Value) (xs : List Value) (p j : Nat), (j < p ∨ p + row.length ≤ j) → (setRun xs p row)[j]? = xs[j]?
  | [], _, _, _, _ => rfl
  | u :: r, xs, p, j, h => by
    simp only [List.length_cons] at h
    rw [setRun, setRun_out r _ _ _ (by omega), List.getElem?_set_ne (by omega)]
theorem setRun_in : ∀ (row : List Value) (xs : List Value) (p i : Nat), i < row.length → p + row.length ≤ xs.length → (setRun xs p row)[p + i]? = row[i]?
  | [], _, _, _, h, _ => by simp at h
  | u :: r, xs, p, 0, h, h2 => by
    simp only [List.length_cons] at h2
    rw [setRun, setRun_out r _ _ _ (by omega), Nat.add_zero, List.getElem?_set_self (by omega)]
    rfl
  | u :: r, xs, p, i + 1, h, h2 => by
    simp only [List.length_cons] at h h2
    rw [setRun, show p + (i + 1) = p + 1 + i by omega, setRun_in r _ _ _ (by omega) (by simp; omega)]
    rfl
/-- The first k elements stand. -/
def Fill (R : Rv D) (s : Nat) (w : World) (lo B : Nat) (l : List D) (k : Nat) (xs : List Value) : Prop := ∀ j d, j < k → l[j]? = some d → ∃ row, RvIn R w lo B row d ∧ ∀ i u, row[i]? = some u → xs[j * s + i]? = some u
theorem Fill.zero {xs : List Value} : Fill R s w lo B l 0 xs := fun j d h => by omega
theorem Fill.step [n : Nice R s] {k : Nat} {xs xs' row : List Value} {d : D} (h : Fill R s w lo B l k xs) (hw : ∀ p : Addr, lo ≤ p.block → p.block < B → w'.cell? p = w.cell? p) (hB : B ≤ B') (ha : l[k]? = some d) (hrow : RvIn R w' lo B' row d)
    (hxl : k * s + s ≤ xs.length) (hx : xs' = setRun xs (k * s) row) : Fill R s w' lo B' l (k + 1) xs' := by
  have hs : row.length = s := n.len (hrow w' fun _ _ _ => rfl)
  intro j b hj hb
  rcases Nat.lt_or_ge j k with hlt | hge
  · obtain ⟨r2, h2, h3⟩ := h j b hlt hb
    refine ⟨r2, h2.on hw hB (Nat.le_refl _), fun i u hu => ?_⟩
    have hi : i < s := by rw [← n.len (h2 w fun _ _ _ => rfl)]; exact (List.getElem?_eq_some_iff.1 hu).1
    have h4 : j * s + s ≤ k * s := by have := Nat.mul_le_mul_right s (show j + 1 ≤ k from hlt); rwa [Nat.succ_mul] at this
    rw [hx, setRun_out _ _ _ _ (.inl (by omega))]
    exact h3 i u hu
  · obtain rfl : j = k := by omega
    obtain rfl := Option.some.inj (ha.symm.trans hb)
    refine ⟨row, hrow, fun i u hu => ?_⟩
    rw [hx, setRun_in _ _ _ _ (List.getElem?_eq_some_iff.1 hu).1 (by omega)]
    exact hu
theorem Fill.done {g n base : Nat} {T : TypeId} {xs : List Value} [m : Nice R s] (h : Fill R s w (g + 1) B l n xs) (ho : w.ownsRow base T s (.slice (some ⟨g, 0, none⟩) n n) n xs) (hn : n = l.length) (hg : g < B) : RowIn R s w g B (some ⟨g, 0, none⟩) l := by
  intro w2 hag
  refine .inr ⟨g, 0, rfl, hg, fun k d hd => ?_⟩
  have hk : k < n := by rw [hn]; exact (List.getElem?_eq_some_iff.1 hd).1
  obtain ⟨row, h2, h3⟩ := h k d hk hd
  refine ⟨row, h2 w2 fun p h4 h5 => hag p (by omega) h5, fun i u hu => ?_⟩
  have hi : i < s := by rw [← m.len (h2 w fun _ _ _ => rfl)]; exact (List.getElem?_eq_some_iff.1 hu).1
  have h4 : k * s + s ≤ n * s := by have := Nat.mul_le_mul_right s (show k + 1 ≤ n from hk); rwa [Nat.succ_mul] at this
  rw [hag _ (Nat.le_refl _) hg, Nat.zero_add]
  exact (ho.cellAt (k * s + i) (by omega)).trans (h3 i u hu)
end
def szV (t : Nat) (left : Int) : Int := if (t : Int) ≤ left then left - t else -1
theorem szV_yes {t : Nat} {left : Int} (h : (t : Int) ≤ left) : szV t left = left - t := if_pos h
theorem szV_no {t : Nat} {left : Int} (h : ¬ (t : Int) ≤ left) : szV t left = -1 := if_neg h
def totRow {D : Type} (f : D → Nat) (l : List D) : Nat := l.length + (l.map f).sum
def szRow {D : Type} (P : D → Prop) (l : List D) : Prop := l.length ≤ maxLen ∧ ∀ (i : Nat) (d : D), l[i]? = some d → P d
theorem totRow_len {D : Type} (f : D → Nat) (l : List D) : l.length ≤ totRow f l := Nat.le_add_right _ _
def totUp {D : Type} (f : D → Nat) (l : List D) (k : Nat) : Nat := ((l.take k).map f).sum
theorem totUp_snoc {D : Type} {f : D → Nat} {l : List D} {k : Nat} {d : D} (h : l[k]? = some d) : totUp f l (k + 1) = totUp f l k + f d := by
  unfold totUp; rw [List.take_add_one, h]; simp
theorem totUp_le {D : Type} (f : D → Nat) (l : List D) (k : Nat) : l.length + totUp f l k ≤ totRow f l := by
  have h := List.take_append_drop k l
  have : (l.map f).sum = totUp f l k + ((l.drop k).map f).sum := by unfold totUp; rw [← List.sum_append, ← List.map_append, h]
  unfold totRow; omega
theorem totUp_all {D : Type} (f : D → Nat) (l : List D) : l.length + totUp f l l.length = totRow f l := by unfold totRow totUp; rw [List.take_length]
theorem totRow_at {D : Type} {f : D → Nat} {l : List D} {k : Nat} {d : D} (h : l[k]? = some d) : f d ≤ totRow f l := by
  have := totUp_snoc (f := f) h; have := totUp_le f l (k + 1); omega
theorem totRow_flat {D : Type} {f : D → Nat} {l : List D} (h : ∀ d, f d = 0) : totRow f l = l.length := by
  unfold totRow
  have : (l.map f).sum = 0 := by
    induction l with
    | nil => rfl
    | cons a l ih => simp only [List.map_cons, List.sum_cons, h a, ih]
  omega
end Go.Proofs.YtdikenapnncmfaaDoor
