/- Walks: a region turned round, the reference's side. -/
import Derived.Test.YtdeemhfhmgnbgaaYd
namespace Go.Proofs.Ytdeemhfhmgnbgaa
open Go.RowKit
set_option linter.unusedVariables false
theorem AtL.mid {lo hi g : Nat} {vs : List Value} {w w' : World} (h : AtL g vs w) (hm : Mid lo hi w w') (hg : g < lo ∨ hi ≤ g) : AtL g vs w' :=
  ⟨fun i v hv => (World.cell?_of_block (hm.block g h.2 hg)).trans (h.1 i v hv), Nat.lt_of_lt_of_le h.2 hm.size⟩
theorem RdRing.mid {lo hi B : Nat} {w w' : World} {A : Option Addr} {ds : List DRing} (h : RdRing w B A ds) (hm : Mid lo hi w w') (hB : B ≤ lo) (hw : B ≤ w.heap.size) : RdRing w' B A ds := by
  have hk : ∀ p : Addr, p.block < B → w'.cell? p = w.cell? p := fun p hp => World.cell?_of_block (hm.block p.block (by omega) (.inl (by omega)))
  obtain ⟨rows, h1, h2, h3⟩ := h
  exact ⟨rows, h1, h2.keep hk, fun i a ha => (h3 i a ha).keep hk⟩
theorem Below.mid {lo hi b : Nat} {w0 w w' : World} (h : Below b w0 w) (hm : Mid lo hi w w') (hb : b ≤ lo) (hw : b ≤ w.heap.size) : Below b w0 w' :=
  h.trans ⟨hm.os, hm.tape, hm.output, hm.size, fun k hk => hm.block k (by omega) (.inl (by omega))⟩
theorem OwnRing.alloc {lo hi : Nat} {w : World} {A : Option Addr} {c : Nat} {ds : List DRing} (h : OwnRing w lo hi A c ds) (o : Obj) : OwnRing (w.alloc o) lo hi A c ds := h.carry ((Below.refl _ _).alloc (Nat.le_refl _) o)
theorem OwnRing.set_far {lo hi p i : Nat} {w : World} {A : Option Addr} {c : Nat} {ds : List DRing} (h : OwnRing w lo hi A c ds) (hx : p < lo ∨ hi ≤ p) (u : Value) : OwnRing (w.setCell ⟨p, i, none⟩ u) lo hi A c ds := h.mid (Mid.of_set w p i u) (by omega)

/-- A ring of the call's own is laid behind the others. -/
theorem ring_put {b : Nat} {w wr wM w9 : World} {es : List DRing} {k P g9 cap9 c' c2 : Nat} {A' A2 : Option Addr} {d : DRing} {TB TC : TypeId}
    (hk : es.length = k) (bo1 : Blk wr P TB #[.slice A' k c']) (hP : b ≤ P) (g1 : Below b w wr) (hbw : b ≤ wr.heap.size)
    (ow2 : wM.ownsRow wr.heap.size 26 2 (.slice A2 d.length c2) d.length (cellsF cPt d)) (hb3 : Below wr.heap.size wr wM)
    {rows : List ARing} (hrows : rows.map dRing = es) (h2 : wr.ownsRow (P + 1) 55 1 (.slice A' k c') k (cellsF cRing rows)) (h3 : ∀ q, (Value.slice A' k c').ownBlock = some q → q < wr.heap.size)
    (h4 : ∀ (i : Nat) (a : ARing), rows[i]? = some a → wr.ownsRow (P + 1) 26 2 (hdL a) a.2.2.length (cellsF cPt a.2.2) ∧ ∀ q, (hdL a).ownBlock = some q → q < wr.heap.size ∧ ¬ (Value.slice A' k c').ownBlock = some q)
    (h5 : ∀ (i j : Nat) (a b : ARing), i ≠ j → rows[i]? = some a → rows[j]? = some b → ∀ q, (hdL a).ownBlock = some q → ¬ (hdL b).ownBlock = some q)
    (hown9 : w9.ownsRow (P + 1) 55 1 (.slice (some ⟨g9, 0, none⟩) (k + 1) cap9) (k + 1) (cellsF cRing rows ++ [.slice A2 d.length c2]))
    (hg9 : (wM.alloc (.cells #[.slice A2 d.length c2] TC)).grownBy w9 (Value.slice A' k c').ownBlock)
    (hat : (Value.slice (some ⟨g9, 0, none⟩) (k + 1) cap9).ownBlock = (Value.slice A' k c').ownBlock ∨ (Value.slice (some ⟨g9, 0, none⟩) (k + 1) cap9).ownBlock = some (wM.alloc (.cells #[.slice A2 d.length c2] TC)).heap.size) :
    let w8 := w9.setCell ⟨P, 0, none⟩ (.slice (some ⟨g9, 0, none⟩) (k + 1) cap9)
    (∀ (g : Nat) (t : TypeId) (cs : Array Value), g < P → Blk wr g t cs → Blk w8 g t cs) ∧ Blk w8 P TB #[.slice (some ⟨g9, 0, none⟩) (k + 1) cap9] ∧
      OwnRing w8 (P + 1) w8.heap.size (some ⟨g9, 0, none⟩) cap9 (es ++ [d]) ∧ Below b w w8 := by
  intro w8
  have zo := bo1.lt
  have zb : wr.heap.size ≤ wM.heap.size := hb3.size
  have z9 := hg9.size
  rw [World.size_alloc] at z9
  have hob : ∀ q, (Value.slice A' k c').ownBlock = some q → P + 1 ≤ q ∧ q < wr.heap.size := fun q hq => own_block h2 hq
  have kb : ∀ {g : Nat} {t : TypeId} {cs : Array Value}, Blk wr g t cs → g ≤ P → Blk w9 g t cs := fun {g t cs} hbk hgp => Blk.grown ((hbk.carry hb3).alloc _) hg9 (fun q hq => by have := hob q hq; omega)
  have hh4 : ∀ (i : Nat) (a : ARing), rows[i]? = some a → (wM.alloc (.cells #[.slice A2 d.length c2] TC)).ownsRow (P + 1) 26 2 (hdL a) a.2.2.length (cellsF cPt a.2.2) ∧ ∀ q, (hdL a).ownBlock = some q → q < wr.heap.size ∧ ¬ (Value.slice A' k c').ownBlock = some q :=
    fun i a ha => ⟨World.ownsRow.alloc (own_stays (h4 i a ha).1 hb3) _, (h4 i a ha).2⟩
  have hlen : rows.length = k := by
    have := congrArg List.length hrows
    rw [List.length_map] at this
    omega
  have own := own_snoc (lo := P + 1) (hi := wr.heap.size) (a := (A2, c2, d)) (ds := es ++ [d]) hlen (World.ownsRow.alloc (own_stays h2 hb3) _) h3 hh4 h5 (World.ownsRow.alloc ow2 _) (by rw [World.size_alloc]; omega) (by omega) hg9 hown9 hat
    (by rw [List.map_append, hrows]; rfl)
  refine ⟨fun g t cs hgp hbk => Blk.far (kb hbk (by omega)) (by simp only; omega) _, (kb bo1 (Nat.le_refl _)).set_ 0 _, ?_, ?_⟩
  · exact (own.mid (Mid.of_set w9 P 0 _) (.inr (Nat.le_refl _))).wide (Nat.le_refl _) (by simp [w8])
  · exact (below_of_grown (((g1.trans (hb3.mono hbw)).alloc (by omega) _)) hg9 (by rw [World.size_alloc]; omega) (fun q hq => by have := hob q hq; omega)).setCell (by simp only; omega) _
theorem rev_take {l : List APt} {p q : Nat} {a : APt} (h : p + (q + 1) = l.length) (ha : l[q]? = some a) : l.reverse.take p ++ [a] = l.reverse.take (p + 1) := by
  rw [List.take_add_one, List.getElem?_reverse (by omega), show l.length - 1 - p = q by omega, ha]; rfl
theorem revs_take {ds : List DRing} {k : Nat} {d : DRing} (h : ds[k]? = some d) : (ds.take k).map List.reverse ++ [d.reverse] = (ds.take (k + 1)).map List.reverse := by
  rw [List.take_add_one, h, List.map_append]; rfl
end Go.Proofs.Ytdeemhfhmgnbgaa
