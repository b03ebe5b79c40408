/- Rows of numbers of one's own: plain facts. -/
import Derived.Test.YtdikenapnncmfaaDoorPha
namespace Go.Proofs.YtdikenapnncmfaaDoor
open Go.RowKit
set_option linter.unusedVariables false
def cInt (a : Int) : List Value := [.int .i64 a]
theorem cInt_len (a : Int) : (cInt a).length = 1 := rfl
theorem cInt_one (a : Int) : ∀ u ∈ cInt a, u.oneCell' = true := by
  intro u hu
  simp only [cInt, List.mem_cons, List.not_mem_nil, or_false] at hu
  subst hu; rfl
theorem eown_stays {W W' : World} {B e size n : Nat} {v : Value} {xs : List Value} (h : W.ownsRow B e size v n xs) (hb : Below W.heap.size W W') : W'.ownsRow B e size v n xs :=
  ⟨h.1, h.2.imp id fun ⟨g, cap, cur, h1, h2, h3, h4⟩ => ⟨g, cap, cur, h1, h2, (hb.block g (by rcases Nat.lt_or_ge g W.heap.size with k | k; exact k; rw [Array.getElem?_eq_none k] at h3; cases h3)).trans h3, h4⟩⟩
theorem eown_base {w : World} {base base' e s n : Nat} {v : Value} {xs : List Value} (h : w.ownsRow base' e s v n xs) (hb : base ≤ base') : w.ownsRow base e s v n xs :=
  ⟨h.1, h.2.imp id fun ⟨g, cap, cur, h1, h2, h3⟩ => ⟨g, cap, cur, h1, Nat.le_trans hb h2, h3⟩⟩
def OwI (t : TypeId) (w : World) (base : Nat) (A : Option Addr) (n c : Nat) (es : List Int) : Prop := n = es.length ∧ w.ownsRow base t 1 (.slice A n c) n (cellsF cInt es)
section
variable {t : TypeId} {w w' : World} {base n c : Nat} {A : Option Addr} {es : List Int}
theorem OwI.stays (h : OwI t w base A n c es) (hb : Below w.heap.size w w') : OwI t w' base A n c es := ⟨h.1, eown_stays h.2 hb⟩
theorem OwI.drew (h : OwI t w base A n c es) : OwI t w.drew base A n c es := h
theorem OwI.alloc (h : OwI t w base A n c es) (o : Obj) : OwI t (w.alloc o) base A n c es := ⟨h.1, h.2.alloc o⟩
theorem OwI.block (h : OwI t w base A n c es) : ∀ q, (Value.slice A n c).ownBlock = some q → base ≤ q ∧ q < w.heap.size := fun q hq => own_block h.2 hq
theorem OwI.base_ {base' : Nat} (h : OwI t w base A n c es) (hb : base' ≤ base) : OwI t w base' A n c es := ⟨h.1, eown_base h.2 hb⟩
theorem OwI.nil (w : World) (base : Nat) : OwI t w base none 0 0 [] := ⟨rfl, World.ownsRow_nil _ _ _ _⟩
theorem OwI.new (w : World) (base : Nat) (hb : base ≤ w.heap.size) : OwI t (w.alloc (.cells #[] t)) base (some ⟨w.heap.size, 0, none⟩) 0 0 [] :=
  ⟨rfl, rfl, .inr ⟨w.heap.size, 0, #[], rfl, hb, Blk.new w t #[], by omega, by unfold maxLen; omega, rfl, rfl⟩⟩
theorem OwI.grown {n2 c2 : Nat} {A2 : Option Addr} {vs : List Int} (hn : n2 = es.length + vs.length) (h : w'.ownsRow base t 1 (.slice A2 n2 c2) n2 (cellsF cInt es ++ cellsF cInt vs)) : OwI t w' base A2 n2 c2 (es ++ vs) := by
  refine ⟨by rw [List.length_append]; exact hn, ?_⟩
  have : cellsF cInt (es ++ vs) = cellsF cInt es ++ cellsF cInt vs := by unfold cellsF; exact List.flatMap_append
  rw [this]; exact h
theorem OwI.rd (h : OwI t w base A n c es) {B : Nat} (hB : w.heap.size ≤ B) : Rd cInt 1 w B A es := Rd.of_own (fun a => cInt_len a) (by omega) h.2 hB
theorem OwI.reads (h : OwI t w base A n c es) : Reads w w.heap.size 1 A n (cellsF cInt es) := by
  obtain ⟨rfl, ho⟩ := h
  refine ⟨by rw [cellsF_len (fun a => cInt_len a)], fun hn => ?_⟩
  obtain ⟨g, cap, hv, _, hlt⟩ := ho.form hn
  obtain ⟨rfl, rfl⟩ : A = some ⟨g, 0, none⟩ ∧ c = cap := by injection hv with a b c; exact ⟨a, c⟩
  refine ⟨_, rfl, hlt, fun j u hu => ?_⟩
  have hj : j < es.length * 1 := by
    rcases Nat.lt_or_ge j (es.length * 1) with q | q
    · exact q
    · rw [List.getElem?_eq_none (by rw [cellsF_len (fun a => cInt_len a)]; exact q)] at hu; cases hu
  have h2 := ho.cellAt j hj
  rw [Addr.add_lit, Nat.zero_add]
  exact h2.trans hu
end
theorem ireads_new (w : World) (x : Int) (t : TypeId) : Reads (w.alloc (.cells #[.int .i64 x] t)) (w.alloc (.cells #[.int .i64 x] t)).heap.size 1 (some ⟨w.heap.size, 0, none⟩) 1 [.int .i64 x] := by
  refine ⟨rfl, fun _ => ⟨_, rfl, by simp, fun j z hz => ?_⟩⟩
  rw [Addr.add_lit]
  have := (AtL.new w [.int .i64 x] t).cell j hz
  simpa using this
theorem infoInt : (Tryd.prog.info? 3).map (fun i => (i.zero, i.size, i.bytes)) = some (some (.int .i64 0), 1, 8) := by kernel_rfl
theorem infoI64 : (Tryd.prog.info? 2).map (fun i => (i.zero, i.size, i.bytes)) = some (some (.int .i64 0), 1, 8) := by kernel_rfl
theorem oinfo_parts {x : Option TypeInfo} {a : Option Value} {b c : Nat} (h : x.map (fun i => (i.zero, i.size, i.bytes)) = some (a, b, c)) : ∃ i, x = some i ∧ i.zero = a ∧ i.size = b ∧ i.bytes = c := by
  cases x with
  | none => cases h
  | some i => simp only [Option.map_some, Option.some.injEq, Prod.mk.injEq] at h; exact ⟨i, rfl, h.1, h.2.1, h.2.2⟩
def iArr (vals : List Int) : Array Value := (vals.map fun v : Int => Value.int .i64 v).toArray
theorem iArr_at {vals : List Int} {j : Nat} {v : Int} (h : vals[j]? = some v) : (iArr vals)[j]? = some (.int .i64 v) := by unfold iArr; simp [h]
theorem iArr_set {vals : List Int} {j : Nat} {v : Int} : (iArr vals).setIfInBounds j (.int .i64 v) = iArr (vals.set j v) := by
  unfold iArr
  rw [List.setIfInBounds_toArray, List.map_set]
theorem cInts {es : List Int} : cellsF cInt es = es.map (Value.int .i64) := by
  unfold cellsF cInt
  induction es with
  | nil => rfl
  | cons a r ih => rw [List.flatMap_cons, ih]; rfl
theorem OwI.pop {t : TypeId} {w : World} {base n c : Nat} {A : Option Addr} {es : List Int} (h : OwI t w base A (n + 1) c es) : OwI t w base A n c (es.take n) := by
  obtain ⟨hn, h1, h2⟩ := h
  rcases h2 with ⟨-, h2⟩ | ⟨g, cap, cur, hv, hb, hc, hle, hcm, hs, ht⟩
  · omega
  · injection hv with e1 e2 e3
    subst e1 e3
    refine ⟨by rw [List.length_take]; omega, ?_, .inr ⟨g, c, cur, rfl, hb, hc, by omega, hcm, hs, ?_⟩⟩
    · rw [cInts, List.length_map, List.length_take]; omega
    · rw [cInts, List.map_take, ← cInts, ← ht, List.take_take]
      congr 1; omega
theorem OwI.form {t : TypeId} {w : World} {base n c : Nat} {A : Option Addr} {es : List Int} (h : OwI t w base A n c es) (hn : 0 < n) : ∃ g, A = some ⟨g, 0, none⟩ ∧ base ≤ g ∧ g < w.heap.size ∧ n ≤ c ∧ c ≤ maxLen := by
  obtain ⟨-, -, h2⟩ := h
  rcases h2 with ⟨-, h2⟩ | ⟨g, cap, cur, hv, hb, hc, hle, hcm, hs, ht⟩
  · omega
  · injection hv with e1 e2 e3
    subst e1 e3
    refine ⟨g, rfl, hb, ?_, hle, hcm⟩
    rcases Nat.lt_or_ge g w.heap.size with k | k
    · exact k
    · rw [Array.getElem?_eq_none k] at hc; cases hc
theorem OwI.at_ {t : TypeId} {w : World} {base n c g : Nat} {es : List Int} (h : OwI t w base (some ⟨g, 0, none⟩) n c es) {k : Nat} {v : Int} (hk : es[k]? = some v) : w.cell? ⟨g, k, none⟩ = some (.int .i64 v) := by
  have hkn : k < n := by rw [h.1]; exact (List.getElem?_eq_some_iff.1 hk).1
  have h2 := h.2.cellAt k (by omega)
  rw [h2, cInts, List.getElem?_map, hk]; rfl
theorem OwI.frozen {t : TypeId} {w : World} {base n c g : Nat} {es : List Int} (h : OwI t w base (some ⟨g, 0, none⟩) n c es) (k : Nat) : w.frozen? ⟨g, k, none⟩ = false := h.2.frozenAt k
theorem OwI.set_ {t : TypeId} {w : World} {base n c g : Nat} {es : List Int} (h : OwI t w base (some ⟨g, 0, none⟩) n c es) (k : Nat) (v : Int) : OwI t (w.setCell ⟨g, k, none⟩ (.int .i64 v)) base (some ⟨g, 0, none⟩) n c (es.set k v) := by
  refine ⟨by rw [List.length_set]; exact h.1, ?_⟩
  have h2 := h.2.stored k (.int .i64 v)
  rw [cInts, List.map_set, ← cInts]
  exact h2.1
theorem OwI.far {t : TypeId} {w : World} {base n c g : Nat} {A : Option Addr} {es : List Int} (h : OwI t w base A n c es) (hg : ∀ q, (Value.slice A n c).ownBlock = some q → ¬ q = g) (o : Nat) (u : Value) : OwI t (w.setCell ⟨g, o, none⟩ u) base A n c es := by
  refine ⟨h.1, h.2.1, ?_⟩
  rcases h.2.2 with h2 | ⟨g', cap, cur, hv, hb, hc, h4⟩
  · exact .inl h2
  · refine .inr ⟨g', cap, cur, hv, hb, ?_, h4⟩
    have hne : ¬ g' = g := hg g' (by rw [hv]; rfl)
    exact (Blk.far (show Blk w g' t cur from hc) (p := ⟨g, o, none⟩) (show ¬ g' = g from hne) u)
end Go.Proofs.YtdikenapnncmfaaDoor
