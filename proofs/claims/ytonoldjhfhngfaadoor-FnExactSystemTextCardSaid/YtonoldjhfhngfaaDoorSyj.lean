/- Rows of texts of one's own: plain facts; joined by the library. -/
import Derived.Test.YtonoldjhfhngfaaDoorJj
import Derived.Test.YtonoldjhfhngfaaDoorSy4
import Derived.Test.YtonoldjhfhngfaaDoorBl
namespace Go.Proofs.YtonoldjhfhngfaaDoor
open Go.RowKit
set_option linter.unusedVariables false
theorem infoStr : (Tryd.prog.info? 9).map (fun i => (i.zero, i.size, i.bytes)) = some (some (.string ⟨#[]⟩), 1, 16) := by kernel_rfl
def cS (s : ByteArray) : List Value := [.string s]
theorem cS_len (s : ByteArray) : (cS s).length = 1 := rfl
theorem cS_one (s : ByteArray) : ∀ u ∈ cS s, u.oneCell' = true := by
  intro u hu
  simp only [cS, List.mem_cons, List.not_mem_nil, or_false] at hu
  rw [hu]; rfl
theorem cellsS_at (l : List ByteArray) (j : Nat) : (cellsF cS l)[j]? = (l[j]?).map (fun x => Value.string x) := by
  rcases Nat.lt_or_ge j l.length with h | h
  · have h2 := cellsF_at (fun a => cS_len a) l j _ (List.getElem?_eq_getElem h) 0 (by omega)
    rw [show j * 1 + 0 = j by omega] at h2
    rw [h2, List.getElem?_eq_getElem h]; rfl
  · rw [List.getElem?_eq_none h, List.getElem?_eq_none (by rw [cellsF_len (fun a => cS_len a)]; omega)]; rfl
/-- A row of texts of one's own. -/
def OwS (w : World) (base : Nat) (A : Option Addr) (n c : Nat) (ws : List ByteArray) : Prop := n = ws.length ∧ w.ownsRow base 9 1 (.slice A n c) n (cellsF cS ws)
theorem OwS.stays {w w' : World} {base n c : Nat} {A : Option Addr} {ws : List ByteArray} (h : OwS w base A n c ws) (hb : Below w.heap.size w w') : OwS w' base A n c ws := ⟨h.1, own_stays h.2 hb⟩
theorem OwS.drew {w : World} {base n c : Nat} {A : Option Addr} {ws : List ByteArray} (h : OwS w base A n c ws) : OwS w.drew base A n c ws := h
theorem OwS.alloc {w : World} {base n c : Nat} {A : Option Addr} {ws : List ByteArray} (h : OwS w base A n c ws) (o : Obj) : OwS (w.alloc o) base A n c ws := ⟨h.1, h.2.alloc o⟩
theorem OwS.block {w : World} {base n c : Nat} {A : Option Addr} {ws : List ByteArray} (h : OwS w base A n c ws) : ∀ q, (Value.slice A n c).ownBlock = some q → base ≤ q ∧ q < w.heap.size := fun q hq => own_block h.2 hq
theorem OwS.of_blk {w : World} {g : Nat} {cs : Array Value} {ws : List ByteArray} (h : Blk w g 9 cs) (hc : cs.toList = cellsF cS ws) (hn : ws.length ≤ 1000) (base : Nat) (hb : base ≤ g) : OwS w base (some ⟨g, 0, none⟩) ws.length ws.length ws := by
  have hl := cellsF_len (fun a => cS_len a) ws
  have hs : cs.size = ws.length * 1 := by rw [← hl, ← hc, Array.length_toList]
  exact ⟨rfl, hl, .inr ⟨g, ws.length, cs, rfl, hb, h, Nat.le_refl _, by unfold maxLen; omega, hs, by rw [hc, List.take_of_length_le]; omega⟩⟩
theorem reads_new (w : World) (vs : List Value) (t : TypeId) : Reads (w.alloc (.cells vs.toArray t)) (w.alloc (.cells vs.toArray t)).heap.size 1 (some ⟨w.heap.size, 0, none⟩) vs.length vs := by
  refine ⟨by omega, fun _ => ⟨_, rfl, by simp, fun j u hu => ?_⟩⟩
  rw [Addr.add_lit]
  have := (AtL.new w vs t).cell j hu
  simpa using this
theorem OwS.grown {w' : World} {base n2 c2 : Nat} {A2 : Option Addr} {ws vs : List ByteArray} (hn : n2 = ws.length + vs.length) (h : w'.ownsRow base 9 1 (.slice A2 n2 c2) n2 (cellsF cS ws ++ cellsF cS vs)) : OwS w' base A2 n2 c2 (ws ++ vs) := by
  refine ⟨by rw [List.length_append]; exact hn, ?_⟩
  have : cellsF cS (ws ++ vs) = cellsF cS ws ++ cellsF cS vs := by unfold cellsF; exact List.flatMap_append
  rw [this]; exact h
theorem joinOw_any {ws : List ByteArray} {A : Option Addr} {n c base m : Nat} {w : World} (h : OwS w base A n c ws) (h1 : 0 < ws.length) (hm : ∀ y, y ∈ ws → y.size ≤ m) (hN : ws.length * (1 + m) ≤ 140737488355328) (sep : ByteArray) (hsep : sep.size = 1) :
    Calls Tryd.prog 46 #[.slice A n c, .string sep] w fun e w' => e = .returned (.string (joinB sep ws)) ∧ Below w.heap.size w w' := by
  obtain ⟨rfl, ho⟩ := h
  obtain ⟨g, cap, hv, hcap, hlt⟩ := ho.form h1
  obtain ⟨rfl, rfl⟩ : A = some ⟨g, 0, none⟩ ∧ c = cap := by injection hv with a b c; exact ⟨a, c⟩
  have hn2 : ws.length ≤ ws.length * (1 + m) := Nat.le_mul_of_pos_right _ (by omega)
  have hcc : ws.length ≤ c := by
    rcases ho.2 with ⟨h, _⟩ | ⟨g', cap', cur, hv', _, _, hnc, _⟩
    · cases h
    · obtain ⟨_, _, rfl⟩ : some (⟨g, 0, none⟩ : Addr) = some ⟨g', 0, none⟩ ∧ ws.length = ws.length ∧ c = cap' := by injection hv' with a b c; exact ⟨a, b, c⟩
      exact hnc
  refine joinS_any ws g c m sep w (fun j x hx => ?_) hlt hcc hm (by rw [hsep]; exact hN) (by omega)
  have hj : j < ws.length := (List.getElem?_eq_some_iff.1 hx).1
  have h2 := ho.cellAt j (by omega)
  rw [h2, cellsS_at, hx]; rfl
end Go.Proofs.YtonoldjhfhngfaaDoor
