/- Edges of rings: plain facts, and rows of edges of one's own. -/
import Derived.Test.YticgomikfleabaaVd
import Derived.Laws.MakeOwn
namespace Go.Proofs.Yticgomikfleabaa
open Go.RowKit
set_option linter.unusedVariables false
abbrev AEdge : Type := Int × Int × Int × Int
def cE (a : AEdge) : List Value := [.int .i64 a.1, .int .i64 a.2.1, .int .i64 a.2.2.1, .int .i64 a.2.2.2]
theorem cE_len (a : AEdge) : (cE a).length = 4 := rfl
theorem cE_one (a : AEdge) : ∀ u ∈ cE a, u.oneCell' = true := by
  intro u hu
  simp only [cE, List.mem_cons, List.not_mem_nil, or_false] at hu
  rcases hu with rfl | rfl | rfl | rfl <;> rfl
def edgeAt (l : List APt) (k : Nat) : List AEdge :=
  match l[k]?, l[(k + 1) % l.length]? with
  | some a, some b => if a.1 = b.1 ∧ a.2 = b.2 then [] else [(a.1, a.2, b.1, b.2)]
  | _, _ => []
def edUp (l : List APt) (k : Nat) : List AEdge := (List.range k).flatMap (edgeAt l)
/-- The edges of a ring. -/
def edL (l : List APt) : List AEdge := edUp l l.length
theorem edgeAt_no {l : List APt} {k j : Nat} {x y u v : Int} (ha : l[k]? = some (x, y)) (hj : (k + 1) % l.length = j) (hb : l[j]? = some (u, v)) (h : x = u ∧ y = v) : edgeAt l k = [] := by
  unfold edgeAt; rw [ha, hj, hb]; simp [h.1, h.2]
theorem edgeAt_yes {l : List APt} {k j : Nat} {x y u v : Int} (ha : l[k]? = some (x, y)) (hj : (k + 1) % l.length = j) (hb : l[j]? = some (u, v)) (h : ¬ (x = u ∧ y = v)) : edgeAt l k = [(x, y, u, v)] := by
  unfold edgeAt; rw [ha, hj, hb]; simp only [if_neg h]
theorem edUp_succ (l : List APt) (k : Nat) : edUp l (k + 1) = edUp l k ++ edgeAt l k := by
  unfold edUp; rw [List.range_succ, List.flatMap_append]; simp
theorem edUp_no {l : List APt} {k j : Nat} {x y u v : Int} (ha : l[k]? = some (x, y)) (hj : (k + 1) % l.length = j) (hb : l[j]? = some (u, v)) (h : x = u ∧ y = v) : edUp l k = edUp l (k + 1) := by
  rw [edUp_succ, edgeAt_no ha hj hb h, List.append_nil]
theorem edUp_yes {l : List APt} {k j : Nat} {x y u v : Int} (ha : l[k]? = some (x, y)) (hj : (k + 1) % l.length = j) (hb : l[j]? = some (u, v)) (h : ¬ (x = u ∧ y = v)) : edUp l k ++ [(x, y, u, v)] = edUp l (k + 1) := by
  rw [edUp_succ, edgeAt_yes ha hj hb h]
theorem edgeAt_len (l : List APt) (k : Nat) : (edgeAt l k).length ≤ 1 := by
  unfold edgeAt
  split
  · split <;> simp
  · simp
theorem edUp_len (l : List APt) : ∀ k, (edUp l k).length ≤ k
  | 0 => by simp [edUp]
  | k + 1 => by
    rw [edUp_succ, List.length_append]
    have := edUp_len l k
    have := edgeAt_len l k
    omega
theorem edL_len (l : List APt) : (edL l).length ≤ l.length := edUp_len l _
/-- A row of edges of one's own. -/
def OwE (t : TypeId) (w : World) (base : Nat) (A : Option Addr) (n c : Nat) (es : List AEdge) : Prop := n = es.length ∧ w.ownsRow base t 4 (.slice A n c) n (cellsF cE es)
theorem eown_stays {W W' : World} {B e size n : Nat} {v : Value} {xs : List Value} (h : W.ownsRow B e size v n xs) (hb : Below W.heap.size W W') : W'.ownsRow B e size v n xs :=
  ⟨h.1, h.2.imp id fun ⟨g, cap, cur, h1, h2, h3, h4⟩ => ⟨g, cap, cur, h1, h2, (hb.block g (by rcases Nat.lt_or_ge g W.heap.size with k | k; exact k; rw [Array.getElem?_eq_none k] at h3; cases h3)).trans h3, h4⟩⟩
theorem eown_base {w : World} {base base' e s n : Nat} {v : Value} {xs : List Value} (h : w.ownsRow base' e s v n xs) (hb : base ≤ base') : w.ownsRow base e s v n xs :=
  ⟨h.1, h.2.imp id fun ⟨g, cap, cur, h1, h2, h3⟩ => ⟨g, cap, cur, h1, Nat.le_trans hb h2, h3⟩⟩
section
variable {t : TypeId} {w w' : World} {base n c : Nat} {A : Option Addr} {es : List AEdge}
theorem OwE.stays (h : OwE t w base A n c es) (hb : Below w.heap.size w w') : OwE t w' base A n c es := ⟨h.1, eown_stays h.2 hb⟩
theorem OwE.drew (h : OwE t w base A n c es) : OwE t w.drew base A n c es := h
theorem OwE.alloc (h : OwE t w base A n c es) (o : Obj) : OwE t (w.alloc o) base A n c es := ⟨h.1, h.2.alloc o⟩
theorem OwE.block (h : OwE t w base A n c es) : ∀ q, (Value.slice A n c).ownBlock = some q → base ≤ q ∧ q < w.heap.size := fun q hq => own_block h.2 hq
theorem OwE.base_ {base' : Nat} (h : OwE t w base A n c es) (hb : base' ≤ base) : OwE t w base' A n c es := ⟨h.1, eown_base h.2 hb⟩
theorem OwE.nil (w : World) (base : Nat) : OwE t w base none 0 0 [] := ⟨rfl, World.ownsRow_nil _ _ _ _⟩
theorem OwE.new (w : World) (base : Nat) (hb : base ≤ w.heap.size) : OwE t (w.alloc (.cells #[] t)) base (some ⟨w.heap.size, 0, none⟩) 0 0 [] :=
  ⟨rfl, rfl, .inr ⟨w.heap.size, 0, #[], rfl, hb, Blk.new w t #[], by omega, by unfold maxLen; omega, rfl, rfl⟩⟩
theorem OwE.grown {n2 c2 : Nat} {A2 : Option Addr} {vs : List AEdge} (hn : n2 = es.length + vs.length) (h : w'.ownsRow base t 4 (.slice A2 n2 c2) n2 (cellsF cE es ++ cellsF cE vs)) : OwE t w' base A2 n2 c2 (es ++ vs) := by
  refine ⟨by rw [List.length_append]; exact hn, ?_⟩
  have : cellsF cE (es ++ vs) = cellsF cE es ++ cellsF cE vs := by unfold cellsF; exact List.flatMap_append
  rw [this]; exact h
theorem OwE.rd (h : OwE t w base A n c es) {B : Nat} (hB : w.heap.size ≤ B) : Rd cE 4 w B A es := Rd.of_own (fun a => cE_len a) (by omega) h.2 hB
theorem OwE.reads (h : OwE t w base A n c es) : Reads w w.heap.size 4 A n (cellsF cE es) := by
  obtain ⟨rfl, ho⟩ := h
  refine ⟨by rw [cellsF_len (fun a => cE_len a)], fun hn => ?_⟩
  obtain ⟨g, cap, hv, _, hlt⟩ := ho.form hn
  obtain ⟨rfl, rfl⟩ : A = some ⟨g, 0, none⟩ ∧ c = cap := by injection hv with a b c; exact ⟨a, c⟩
  refine ⟨_, rfl, hlt, fun j u hu => ?_⟩
  have hj : j < es.length * 4 := by
    rcases Nat.lt_or_ge j (es.length * 4) with q | q
    · exact q
    · rw [List.getElem?_eq_none (by rw [cellsF_len (fun a => cE_len a)]; exact q)] at hu; cases hu
  have h2 := ho.cellAt j hj
  rw [Addr.add_lit, Nat.zero_add]
  exact h2.trans hu
end
theorem ereads_new (w : World) (x y u v : Int) (t : TypeId) : Reads (w.alloc (.cells #[.int .i64 x, .int .i64 y, .int .i64 u, .int .i64 v] t)) (w.alloc (.cells #[.int .i64 x, .int .i64 y, .int .i64 u, .int .i64 v] t)).heap.size 4 (some ⟨w.heap.size, 0, none⟩) 1 [.int .i64 x, .int .i64 y, .int .i64 u, .int .i64 v] := by
  refine ⟨rfl, fun _ => ⟨_, rfl, by simp, fun j z hz => ?_⟩⟩
  rw [Addr.add_lit]
  have := (AtL.new w [.int .i64 x, .int .i64 y, .int .i64 u, .int .i64 v] t).cell j hz
  simpa using this
theorem one_e (x y u v : Int) : ∀ z ∈ ([.int .i64 x, .int .i64 y, .int .i64 u, .int .i64 v] : List Value), z.oneCell' = true := cE_one (x, y, u, v)
theorem Blk.set2 {w : World} {g : Nat} {t : TypeId} {x y a b : Value} (h : Blk w g t #[x, y]) : Blk ((w.setCell ⟨g, 0, none⟩ a).setCell ⟨g, 1, none⟩ b) g t #[a, b] := (h.set_ 0 a).set_ 1 b
theorem Blk.set4 {w : World} {g : Nat} {t : TypeId} {x y z u a b c d : Value} (h : Blk w g t #[x, y, z, u]) : Blk ((((w.setCell ⟨g, 0, none⟩ a).setCell ⟨g, 1, none⟩ b).setCell ⟨g, 2, none⟩ c).setCell ⟨g, 3, none⟩ d) g t #[a, b, c, d] := (((h.set_ 0 a).set_ 1 b).set_ 2 c).set_ 3 d
theorem einfo_parts {o : Option TypeInfo} {z : Option Value} {a b : Nat} (h : o.map (fun i => (i.zero, i.size, i.bytes)) = some (z, a, b)) : ∃ i, o = some i ∧ i.zero = z ∧ i.size = a ∧ i.bytes = b := by
  cases o with
  | none => cases h
  | some i => simp only [Option.map_some, Option.some.injEq, Prod.mk.injEq] at h; exact ⟨i, rfl, h.1, h.2.1, h.2.2⟩
end Go.Proofs.Yticgomikfleabaa
