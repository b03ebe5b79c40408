/- Rows of points of one's own. -/
import Derived.Test.YticgomikfleabaaVm
namespace Go.Proofs.Yticgomikfleabaa
open Go.RowKit
set_option linter.unusedVariables false
def OwP (t : TypeId) (w : World) (base : Nat) (A : Option Addr) (n c : Nat) (es : List APt) : Prop := n = es.length ∧ w.ownsRow base t 2 (.slice A n c) n (cellsF cPt es)
section
variable {t : TypeId} {w w' : World} {base n c : Nat} {A : Option Addr} {es : List APt}
theorem OwP.stays (h : OwP t w base A n c es) (hb : Below w.heap.size w w') : OwP t w' base A n c es := ⟨h.1, eown_stays h.2 hb⟩
theorem OwP.drew (h : OwP t w base A n c es) : OwP t w.drew base A n c es := h
theorem OwP.alloc (h : OwP t w base A n c es) (o : Obj) : OwP t (w.alloc o) base A n c es := ⟨h.1, h.2.alloc o⟩
theorem OwP.block (h : OwP t w base A n c es) : ∀ q, (Value.slice A n c).ownBlock = some q → base ≤ q ∧ q < w.heap.size := fun q hq => own_block h.2 hq
theorem OwP.base_ {base' : Nat} (h : OwP t w base A n c es) (hb : base' ≤ base) : OwP t w base' A n c es := ⟨h.1, eown_base h.2 hb⟩
theorem OwP.nil (w : World) (base : Nat) : OwP t w base none 0 0 [] := ⟨rfl, World.ownsRow_nil _ _ _ _⟩
theorem OwP.new (w : World) (base : Nat) (hb : base ≤ w.heap.size) : OwP t (w.alloc (.cells #[] t)) base (some ⟨w.heap.size, 0, none⟩) 0 0 [] :=
  ⟨rfl, rfl, .inr ⟨w.heap.size, 0, #[], rfl, hb, Blk.new w t #[], by omega, by unfold maxLen; omega, rfl, rfl⟩⟩
theorem OwP.grown {n2 c2 : Nat} {A2 : Option Addr} {vs : List APt} (hn : n2 = es.length + vs.length) (h : w'.ownsRow base t 2 (.slice A2 n2 c2) n2 (cellsF cPt es ++ cellsF cPt vs)) : OwP t w' base A2 n2 c2 (es ++ vs) := by
  refine ⟨by rw [List.length_append]; exact hn, ?_⟩
  have : cellsF cPt (es ++ vs) = cellsF cPt es ++ cellsF cPt vs := by unfold cellsF; exact List.flatMap_append
  rw [this]; exact h
theorem OwP.rd (h : OwP t w base A n c es) {B : Nat} (hB : w.heap.size ≤ B) : Rd cPt 2 w B A es := Rd.of_own (fun a => cPt_len a) (by omega) h.2 hB
theorem OwP.reads (h : OwP t w base A n c es) : Reads w w.heap.size 2 A n (cellsF cPt es) := by
  obtain ⟨rfl, ho⟩ := h
  refine ⟨by rw [cellsF_len (fun a => cPt_len a)], fun hn => ?_⟩
  obtain ⟨g, cap, hv, _, hlt⟩ := ho.form hn
  obtain ⟨rfl, rfl⟩ : A = some ⟨g, 0, none⟩ ∧ c = cap := by injection hv with a b c; exact ⟨a, c⟩
  refine ⟨_, rfl, hlt, fun j u hu => ?_⟩
  have hj : j < es.length * 2 := by
    rcases Nat.lt_or_ge j (es.length * 2) with q | q
    · exact q
    · rw [List.getElem?_eq_none (by rw [cellsF_len (fun a => cPt_len a)]; exact q)] at hu; cases hu
  have h2 := ho.cellAt j hj
  rw [Addr.add_lit, Nat.zero_add]
  exact h2.trans hu
end
theorem preads_new (w : World) (x y : Int) (t : TypeId) : Reads (w.alloc (.cells #[.int .i64 x, .int .i64 y] t)) (w.alloc (.cells #[.int .i64 x, .int .i64 y] t)).heap.size 2 (some ⟨w.heap.size, 0, none⟩) 1 [.int .i64 x, .int .i64 y] := by
  refine ⟨rfl, fun _ => ⟨_, rfl, by simp, fun j z hz => ?_⟩⟩
  rw [Addr.add_lit]
  have := (AtL.new w [.int .i64 x, .int .i64 y] t).cell j hz
  simpa using this
theorem one_p (x y : Int) : ∀ z ∈ ([.int .i64 x, .int .i64 y] : List Value), z.oneCell' = true := cPt_one (x, y)
theorem infoIP : (Try.prog.info? 29).map (fun i => (i.zero, i.size, i.bytes)) = some (some (.agg #[.int .i64 0, .int .i64 0]), 2, 16) := by kernel_rfl
/-- What comes of a function that hands back points of its own and a code (or nothing and a code). -/
def PtsRet (l : Option (List APt)) (v c : Value) (w : World) (e : Ending) (w' : World) : Prop := match l with
  | none => e = .returned (.tuple #[.slice none 0 0, c]) ∧ Below w.heap.size w w'
  | some l => ∃ (A : Option Addr) (k : Nat), e = .returned (.tuple #[.slice A l.length k, v]) ∧ OwP 29 w' w.heap.size A l.length k l ∧ Below w.heap.size w w'
end Go.Proofs.Yticgomikfleabaa
