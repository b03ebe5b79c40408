/- Walks: rows of a system and systems are measured, copied, compared. -/
import Derived.Test.YtmlhchiinlnfpaaHa
namespace Go.Proofs.Ytmlhchiinlnfpaa
open Go.RowKit
set_option linter.unusedVariables false
abbrev DRow : Type := ByteArray × Int × Int × List ATerm
def dRow (a : ARow) : DRow := (a.1, a.2.1, a.2.2.1, a.2.2.2.2.2)
def xRow (d : DRow) (A' : Option Addr) (c' : Nat) : ARow := (d.1, d.2.1, d.2.2.1, (A', c', d.2.2.2))
theorem xRow_d (a : ARow) : xRow (dRow a) a.2.2.2.1 a.2.2.2.2.1 = a := rfl
/-- A slice at A whose elements are these, each with its own slice. -/
def RdRow (w : World) (B : Nat) (A : Option Addr) (ds : List DRow) : Prop := ∃ rows : List ARow, rows.map dRow = ds ∧ Rd cRow 4 w B A rows ∧ ∀ (i : Nat) (a : ARow), rows[i]? = some a → Rd cTerm 3 w B a.2.2.2.1 a.2.2.2.2.2
section
variable {w w' : World} {B B' : Nat} {A : Option Addr} {ds : List DRow}
theorem RdRow.carry (h : RdRow w B A ds) (hb : Below w.heap.size w w') (hB : B ≤ w.heap.size) : RdRow w' B A ds := by
  obtain ⟨rows, h1, h2, h3⟩ := h
  exact ⟨rows, h1, h2.carry hb hB, fun i a ha => (h3 i a ha).carry hb hB⟩
theorem RdRow.more (h : RdRow w B A ds) (hB : B ≤ B') : RdRow w B' A ds := by
  obtain ⟨rows, h1, h2, h3⟩ := h
  exact ⟨rows, h1, h2.more hB, fun i a ha => (h3 i a ha).more hB⟩
theorem RdRow.drew (h : RdRow w B A ds) : RdRow w.drew B A ds := h
theorem RdRow.drewN (h : RdRow w B A ds) (k : Nat) : RdRow (w.drewN k) B A ds := h
theorem RdRow.alloc (h : RdRow w B A ds) (hB : B ≤ w.heap.size) (o : Obj) : RdRow (w.alloc o) B A ds := h.carry ((Below.refl _ _).alloc (Nat.le_refl _) o) hB
theorem RdRow.setCell (h : RdRow w B A ds) {p : Addr} (hB : B ≤ p.block) (u : Value) : RdRow (w.setCell p u) B A ds := by
  obtain ⟨rows, h1, h2, h3⟩ := h
  exact ⟨rows, h1, h2.setCell hB u, fun i a ha => (h3 i a ha).setCell hB u⟩
theorem RdRow.elem (h : RdRow w B A ds) {k : Nat} {d : DRow} (hd : ds[k]? = some d) : ∃ (g o : Nat) (A' : Option Addr) (c' : Nat), A = some ⟨g, o, none⟩ ∧ g < B ∧ (∀ i u, (cRow (xRow d A' c'))[i]? = some u → w.cell? ⟨g, o + k * 4 + i, none⟩ = some u) ∧ Rd cTerm 3 w B A' d.2.2.2 := by
  obtain ⟨rows, rfl, h2, h3⟩ := h
  rw [List.getElem?_map] at hd
  obtain ⟨a, ha, rfl⟩ : ∃ a, rows[k]? = some a ∧ dRow a = d := by
    cases hr : rows[k]? with
    | none => rw [hr] at hd; cases hd
    | some a => rw [hr] at hd; exact ⟨a, rfl, Option.some.inj hd⟩
  obtain ⟨g, o, rfl, hg, hc⟩ := h2.elem ha
  exact ⟨g, o, a.2.2.2.1, a.2.2.2.2.1, rfl, hg, hc, h3 k a ha⟩
/-- As RdRow, whatever happens below block lo. -/
def RdRowIn (w : World) (lo B : Nat) (A : Option Addr) (ds : List DRow) : Prop := ∀ w2 : World, (∀ p : Addr, lo ≤ p.block → p.block < B → w2.cell? p = w.cell? p) → RdRow w2 B A ds
theorem RdRowIn.here {lo : Nat} (h : RdRowIn w lo B A ds) : RdRow w B A ds := h w fun _ _ _ => rfl
theorem RdRowIn.down {lo lo' : Nat} (h : RdRowIn w lo B A ds) (hl : lo' ≤ lo) : RdRowIn w lo' B A ds := fun w2 ha => h w2 fun p h1 h2 => ha p (by omega) h2
theorem RdRowIn.far {lo : Nat} (h : RdRowIn w lo B A ds) {p : Addr} (hp : p.block < lo) (u : Value) : RdRowIn (w.setCell p u) lo B A ds := fun w2 ha => h w2 fun q h1 h2 => (ha q h1 h2).trans (World.cell?_setCell_other w p q u (fun e => by subst e; omega))
theorem RdRow.of (l : List ARow) (h : Rd cRow 4 w B A l) (hok : ∀ (i : Nat) (a : ARow), l[i]? = some a → okRow w B a) : RdRow w B A (l.map dRow) := by
  refine ⟨l, rfl, h, fun i a ha => ?_⟩
  have := hok i a ha
  simp only [okRow] at this
  exact this.2.2.2.2.2.1
end
def ToRow (x0 : ByteArray) (x1 : Int) (x2 : Int) (x3A : Option Addr) (x3c : Nat) (x3l : List ATerm) (w : World) (e : Ending) (w' : World) : Prop := ∃ gx3 : Nat, e = .returned (.agg #[.string x0, .int .i64 x1, .int .i64 x2, .slice (some ⟨gx3, 0, none⟩) x3l.length x3l.length]) ∧ w'.ownsRow w.heap.size 74 3 (.slice (some ⟨gx3, 0, none⟩) x3l.length x3l.length) x3l.length (cellsF cTerm x3l) ∧ Below w.heap.size w w'
set_option maxHeartbeats 1600000 in
theorem toRow_any (x0 : ByteArray) (x1 : Int) (x2 : Int) (x3A : Option Addr) (x3c : Nat) (x3l : List ATerm) (w : World) (hl_x3 : x3l.length ≤ 1048576) (r_x3 : Rd cTerm 3 w w.heap.size x3A x3l) :
    Calls Try.prog 107 #[.agg #[.string x0, .int .i64 x1, .int .i64 x2, .slice x3A x3l.length x3c]] w (ToRow x0 x1 x2 x3A x3c x3l w) := by
  go_enter Try.func107, Try.ntmps107
  go_wp2_with fail
  refine (toLinear_any x1 x2 x3A x3c x3l _ hl_x3 ?_).mono ?_
  · exact (r_x3.below (by repeat' (first | with_reducible assumption | with_reducible exact Below.refl _ _ | (with_reducible refine Below.setCell ?_ ?_ _) | (with_reducible refine Below.alloc ?_ ?_ _) | (with_reducible refine Below.drew ?_) | (with_reducible refine below_dr ?_ _) | (with_reducible refine Below.trans ?_ (Below.mono (by with_reducible assumption) ?_)) | omega | (simp; done) | (simp; omega)))).more (by (try simp only [World.size_setCell]); (try simp only [World.size_drew]); (try simp only [World.size_alloc]); omega)
  intro e wZ0 hq
  obtain ⟨gx3, rfl, own_x3, hbwZ0⟩ := hq
  replace own_x3 := own_base (base := w.heap.size + 1 + 1 + 1) own_x3 (by (try simp only [World.size_setCell]); (try simp only [World.size_alloc]); omega)
  obtain ⟨hcwZ0, hfwZ0⟩ := bcell hbwZ0
  have hzwZ0 := hbwZ0.size
  (try simp only [World.size_setCell] at hcwZ0 hfwZ0 hzwZ0)
  (try simp only [World.size_drew] at hcwZ0 hfwZ0 hzwZ0)
  (try simp only [World.size_alloc] at hcwZ0 hfwZ0 hzwZ0)
  have qwZ00 : w.heap.size < wZ0.heap.size := by omega
  have qwZ01 : w.heap.size + 1 < wZ0.heap.size := by omega
  have qwZ02 : w.heap.size + 1 + 1 < wZ0.heap.size := by omega
  go_wp2_with fail
  refine bodyPost_ret (v := .agg #[.string x0, .int .i64 x1, .int .i64 x2, .slice (some ⟨gx3, 0, none⟩) x3l.length x3l.length]) (by simp [results, Try.results107, go_sem, *]) rfl ⟨_, rfl, ?_, ?_⟩
  · repeat (first | with_reducible exact own_base own_x3 (by omega) | (with_reducible refine own_drew ?_) | (with_reducible refine own_far (b2 := w.heap.size + 1 + 1 + 1) ?_ (by simp only; omega) (by omega) _))
  · repeat' (first | with_reducible assumption | with_reducible exact Below.refl _ _ | (with_reducible refine Below.setCell ?_ ?_ _) | (with_reducible refine Below.alloc ?_ ?_ _) | (with_reducible refine Below.drew ?_) | (with_reducible refine below_dr ?_ _) | (with_reducible refine Below.trans ?_ (Below.mono (by with_reducible assumption) ?_)) | omega | (simp; done) | (simp; omega))
set_option maxHeartbeats 1600000 in
theorem eqRow_same (x0 : ByteArray) (x1 : Int) (x2 : Int) (x3A : Option Addr) (x3c : Nat) (x3l : List ATerm) (x3A' : Option Addr) (x3c' : Nat) (w : World) (hl_x3 : x3l.length ≤ 4611686018427387904) (r_x3 : Rd cTerm 3 w w.heap.size x3A x3l) (r'_x3 : Rd cTerm 3 w w.heap.size x3A' x3l) :
    Calls Try.prog 108 #[.agg #[.string x0, .int .i64 x1, .int .i64 x2, .slice x3A x3l.length x3c], .agg #[.string x0, .int .i64 x1, .int .i64 x2, .slice x3A' x3l.length x3c']] w fun e w' => e = .returned (.bool true) ∧ Below w.heap.size w w' := by
  have e_x0 : (x0.toList == x0.toList) = true := by simp
  have d_x0 : (x0.toList != x0.toList) = false := by simp
  go_enter Try.func108, Try.ntmps108
  go_wp2_with fail
  refine (eqLinear_same x1 x2 x3A x3c x3l x3A' x3c' _ hl_x3 ?_ ?_).mono ?_
  · exact (r_x3.below (by repeat' (first | with_reducible assumption | with_reducible exact Below.refl _ _ | (with_reducible refine Below.setCell ?_ ?_ _) | (with_reducible refine Below.alloc ?_ ?_ _) | (with_reducible refine Below.drew ?_) | (with_reducible refine below_dr ?_ _) | (with_reducible refine Below.trans ?_ (Below.mono (by with_reducible assumption) ?_)) | omega | (simp; done) | (simp; omega)))).more (by (try simp only [World.size_setCell]); (try simp only [World.size_drew]); (try simp only [World.size_alloc]); omega)
  · exact (r'_x3.below (by repeat' (first | with_reducible assumption | with_reducible exact Below.refl _ _ | (with_reducible refine Below.setCell ?_ ?_ _) | (with_reducible refine Below.alloc ?_ ?_ _) | (with_reducible refine Below.drew ?_) | (with_reducible refine below_dr ?_ _) | (with_reducible refine Below.trans ?_ (Below.mono (by with_reducible assumption) ?_)) | omega | (simp; done) | (simp; omega)))).more (by (try simp only [World.size_setCell]); (try simp only [World.size_drew]); (try simp only [World.size_alloc]); omega)
  rintro e wZ0 ⟨rfl, hbwZ0⟩
  obtain ⟨hcwZ0, hfwZ0⟩ := bcell hbwZ0
  have hzwZ0 := hbwZ0.size
  (try simp only [World.size_setCell] at hcwZ0 hfwZ0 hzwZ0)
  (try simp only [World.size_drew] at hcwZ0 hfwZ0 hzwZ0)
  (try simp only [World.size_alloc] at hcwZ0 hfwZ0 hzwZ0)
  have qwZ00 : w.heap.size < wZ0.heap.size := by omega
  have qwZ01 : w.heap.size + 1 < wZ0.heap.size := by omega
  go_wp2_with fail
  go_ret
  exact ⟨rfl, by repeat' (first | with_reducible assumption | with_reducible exact Below.refl _ _ | (with_reducible refine Below.setCell ?_ ?_ _) | (with_reducible refine Below.alloc ?_ ?_ _) | (with_reducible refine Below.drew ?_) | (with_reducible refine below_dr ?_ _) | (with_reducible refine Below.trans ?_ (Below.mono (by with_reducible assumption) ?_)) | omega | (simp; done) | (simp; omega))⟩
end Go.Proofs.Ytmlhchiinlnfpaa
