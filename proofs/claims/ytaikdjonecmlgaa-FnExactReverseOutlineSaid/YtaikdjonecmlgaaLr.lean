/- Walks: an outline turned round, the reference's side. -/
import Derived.Test.YtaikdjonecmlgaaLq
namespace Go.Proofs.Ytaikdjonecmlgaa
open Go.RowKit
set_option linter.unusedVariables false
set_option maxHeartbeats 1600000 in
theorem specReverseOutline_bad (ds : List DLoop) (A : Option Addr) (c : Nat) (w : World) (hv : vOl ds = false) (hl : ds.length ≤ 1048576) (hin : ∀ (i : Nat) (d : DLoop), ds[i]? = some d → d.length ≤ 1048576) (r : RdLoop w w.heap.size A ds) :
    Calls Try.prog 14 #[.agg #[.slice A ds.length c]] w (OutRet 1 [] w) := by
  have HIN := Lib.hid hin
  have CV := Lib.hid (fun A c b w hb c0 r => l10Ok_any ds A c b w hb c0 hl hin r)
  simp only [hv] at CV
  clear hin hv
  unfold OutRet
  go_enter Try.func14, Try.ntmps14
  go_wp2_with fail
  refine (CV.out A c _ _ (by simp; omega) (by simp [go_sem]) (((r.alloc (Nat.le_refl _) _).alloc (by simp) _).more (by simp; omega))).mono ?_
  rintro e w1 ⟨rfl, hb⟩
  have bk2 : Blk w1 (w.heap.size + 1) 28 #[.slice none 0 0] := (Blk.newAt _ _ _ (by simp)).carry hb
  have v0 := bk2.cell 0 rfl
  have u0 := bk2.frozen 0
  have z0 := bk2.lt
  go_wp2_with fail
  refine bodyPost_ret (v := .tuple #[.agg #[.slice none 0 0], .int .i64 1]) (by simp [results, Try.results14, go_sem, *]) rfl ⟨none, 0, rfl, OwnLoop.nil _ _ _, by repeat' (first | with_reducible assumption | with_reducible exact Below.refl _ _ | (with_reducible refine Below.setCell ?_ ?_ _) | (with_reducible refine Below.alloc ?_ ?_ _) | (with_reducible refine Below.drew ?_) | (with_reducible refine below_dr ?_ _) | (with_reducible refine Below.trans ?_ (Below.mono (by with_reducible assumption) ?_)) | omega | (simp; done) | (simp; omega))⟩
/-- One round: the loop that is turned and laid behind the others. -/
theorem ro_round {w wr wM w9 : World} {ds : List DLoop} {n k P g9 cap9 c c' c2 : Nat} {A A' A2 : Option Addr} {dl : DLoop}
    (hn : n = ds.length) (hk : k < n) (ha : ds[k]? = some dl) (bk1 : Blk wr w.heap.size 28 #[.slice A n c]) (bk2 : Blk wr (w.heap.size + 1) 28 #[.slice none 0 0])
    (bo1 : Blk wr P 28 #[.slice A' k c']) (hP : w.heap.size + 2 ≤ P) (ow : OwnLoop wr (P + 1) wr.heap.size A' c' ((ds.take k).map revK)) (g1 : Below w.heap.size w wr)
    (ow2 : wM.ownsRow wr.heap.size 69 3 (.slice A2 (revK dl).length c2) (revK dl).length (cellsF cKnot (revK dl))) (hb2 : Below wr.heap.size wr.drew wM)
    {rows : List ALoop} (hrows : rows.map dLoop = (ds.take k).map revK) (h2 : wr.ownsRow (P + 1) 62 1 (.slice A' k c') k (cellsF cLoop rows)) (h3 : ∀ q, (Value.slice A' k c').ownBlock = some q → q < wr.heap.size)
    (h4 : ∀ (i : Nat) (a : ALoop), rows[i]? = some a → wr.ownsRow (P + 1) 69 3 (hdL a) a.2.2.length (cellsF cKnot a.2.2) ∧ ∀ q, (hdL a).ownBlock = some q → q < wr.heap.size ∧ ¬ (Value.slice A' k c').ownBlock = some q)
    (h5 : ∀ (i j : Nat) (a b : ALoop), i ≠ j → rows[i]? = some a → rows[j]? = some b → ∀ q, (hdL a).ownBlock = some q → ¬ (hdL b).ownBlock = some q)
    (hown9 : w9.ownsRow (P + 1) 62 1 (.slice (some ⟨g9, 0, none⟩) (k + 1) cap9) (k + 1) (cellsF cLoop rows ++ [.slice A2 (revK dl).length c2]))
    (hg9 : (wM.alloc (.cells #[.slice A2 (revK dl).length c2] 62)).grownBy w9 (Value.slice A' k c').ownBlock)
    (hat : (Value.slice (some ⟨g9, 0, none⟩) (k + 1) cap9).ownBlock = (Value.slice A' k c').ownBlock ∨ (Value.slice (some ⟨g9, 0, none⟩) (k + 1) cap9).ownBlock = some (wM.alloc (.cells #[.slice A2 (revK dl).length c2] 62)).heap.size) :
    let w8 := w9.setCell ⟨P, 0, none⟩ (.slice (some ⟨g9, 0, none⟩) (k + 1) cap9)
    Blk w8 w.heap.size 28 #[.slice A n c] ∧ Blk w8 (w.heap.size + 1) 28 #[.slice none 0 0] ∧ Blk w8 P 28 #[.slice (some ⟨g9, 0, none⟩) (k + 1) cap9] ∧
      OwnLoop w8 (P + 1) w8.heap.size (some ⟨g9, 0, none⟩) cap9 ((ds.take (k + 1)).map revK) ∧ Below w.heap.size w w8 := by
  intro w8
  have zg := g1.size
  have zo := bo1.lt
  have zb : wr.heap.size ≤ wM.heap.size := hb2.size
  have z9 := hg9.size
  rw [World.size_alloc] at z9
  have hb3 : Below wr.heap.size wr wM := ⟨hb2.os, hb2.tape, hb2.output, hb2.size, hb2.block⟩
  have hob : ∀ q, (Value.slice A' k c').ownBlock = some q → P + 1 ≤ q ∧ q < wr.heap.size := fun q hq => own_block h2 hq
  have kb : ∀ {g : Nat} {cs : Array Value}, Blk wr g 28 cs → g ≤ P → Blk w9 g 28 cs := fun {g cs} hbk hgp => Blk.grown ((hbk.carry hb3).alloc _) hg9 (fun q hq => by have := hob q hq; omega)
  have hh4 : ∀ (i : Nat) (a : ALoop), rows[i]? = some a → (wM.alloc (.cells #[.slice A2 (revK dl).length c2] 62)).ownsRow (P + 1) 69 3 (hdL a) a.2.2.length (cellsF cKnot a.2.2) ∧ ∀ q, (hdL a).ownBlock = some q → q < wr.heap.size ∧ ¬ (Value.slice A' k c').ownBlock = some q :=
    fun i a ha => ⟨World.ownsRow.alloc (own_stays (h4 i a ha).1 hb3) _, (h4 i a ha).2⟩
  have hlen : rows.length = k := by
    have := congrArg List.length hrows
    simpa [Nat.min_eq_left (show k ≤ ds.length by omega)] using this
  have own := own_snoc (lo := P + 1) (hi := wr.heap.size) (a := (A2, c2, revK dl)) (ds := (ds.take (k + 1)).map revK) hlen (World.ownsRow.alloc (own_stays h2 hb3) _) h3 hh4 h5 (World.ownsRow.alloc ow2 _) (by rw [World.size_alloc]; omega) (by omega) hg9 hown9 hat
    (by rw [List.take_add_one, ha, List.map_append, List.map_append, hrows]; rfl)
  refine ⟨Blk.far (kb bk1 (by omega)) (by simp only; omega) _, Blk.far (kb bk2 (by omega)) (by simp only; omega) _, (kb bo1 (Nat.le_refl _)).set_ 0 _, ?_, ?_⟩
  · exact (own.mid (Mid.of_set w9 P 0 _) (.inr (Nat.le_refl _))).wide (Nat.le_refl _) (by simp [w8])
  · exact (below_of_grown (((g1.trans (hb3.mono (by omega))).alloc (by omega) _)) hg9 (by rw [World.size_alloc]; omega) (fun q hq => by have := hob q hq; omega)).setCell (by simp only; omega) _
end Go.Proofs.Ytaikdjonecmlgaa
