/- What the program's side of a turned outline wants: makes, a copy in a plain region, the cell of a row. -/
import Derived.Test.YtaikdjonecmlgaaLv
import Derived.Laws.MakeOwn
namespace Go.Proofs.Ytaikdjonecmlgaa
open Go.RowKit
set_option linter.unusedVariables false
theorem wpList_copy_full {P : Program} {ops : Array Oper} {rest : List Oper} {o : Oper} {a : Act} {w : World} {Q : Exit → Act → World → Prop} (hgd : o.guard = none) (d s : Operand) (dT sT : TypeId)
    (ho : o.op = .call { callee := .builtin .copy, args := #[d, s], argTypes := #[dT, sT] }) (elem : TypeId) (hu : P.underlying dT = some (.slice elem)) (size : Nat) (hsz : (P.info? elem).map (·.size) = some size)
    (g n dCap sCap : Nat) (ad : Addr) (hd : a.eval d = .slice (some ⟨g, 0, none⟩) n dCap) (hs : a.eval s = .slice (some ad) n sCap) (base : Nat) (cur : List Value)
    (ow : w.ownsRow base elem size (.slice (some ⟨g, 0, none⟩) n dCap) n cur) (cs : List Value) (hn : cs.length = n * size) (hsrc : ∀ j v, cs[j]? = some v → w.cell? (ad.add j) = some v) (h1 : ∀ v ∈ cs, v.oneCell' = true)
    (h : ∀ w', w'.ownsRow base elem size (.slice (some ⟨g, 0, none⟩) n dCap) n cs → w.grownBy w' (some g) → wpList P ops Q rest (a.put o.dst (goInt n)) w') :
    wpList P ops Q (o :: rest) a w := by
  refine wpList_plain hgd fun K hK => ?_
  have := step_copy_full (P := P) (ops := ops) (o := o) (a := a) (w := w) (K := K) (Q := Q) (E := True) hgd d s dT sT ho elem hu size hsz g n dCap sCap ad hd hs base cur ow cs hn hsrc h1 (fun w' h1 h2 => hK _ _ (h w' h1 h2))
  rw [if_pos (by simp [Region.wanted, hgd])] at this
  exact this
set_option maxRecDepth 100000 in
theorem mkLoops (n : Nat) (h : n ≤ 12) : ∀ w : World, (Instr.makeSlice 26 (.int .i64 (n : Int)) (.int .i64 (n : Int))).run Try.prog w = .ok (.slice (some ⟨w.heap.size, 0, none⟩) n n) (w.alloc (.cells (Array.replicate n (.slice none 0 0)) 62)) := by
  intro w
  obtain ⟨i0, hi0, hz0, hz1, hz2⟩ := info_parts infoLoop
  have hr := run_makeSlice (P := Try.prog) w 26 62 i0 _ Try.underlying26 hi0 hz0 .i64 .i64 n n (by omega) (Int.le_refl _) (by rw [hz1]; simp; omega) (by rw [hz2]; omega) (by omega)
  rw [hr, hz1]
  simp only [Int.toNat_natCast, Nat.mul_one]
  congr 3
  apply Array.ext
  · simp [madeCells]
  · intro k h1 h2
    simp [madeCells, Value.cells, Nat.mod_one]
set_option maxRecDepth 100000 in
theorem mkKnots (n : Nat) (h : n ≤ 60) : ∃ Z : Array Value, Z.size = n * 3 ∧ ∀ w : World, (Instr.makeSlice 60 (.int .i64 (n : Int)) (.int .i64 (n : Int))).run Try.prog w = .ok (.slice (some ⟨w.heap.size, 0, none⟩) n n) (w.alloc (.cells Z 69)) := by
  obtain ⟨i0, hi0, hz0, hz1, hz2⟩ := info_parts infoKnot
  refine ⟨madeCells (Value.agg #[.int .i64 0, .int .i64 0, .bool false]).cells (n * 3), by simp [madeCells], fun w => ?_⟩
  have hr := run_makeSlice (P := Try.prog) w 60 69 i0 _ Try.underlying60 hi0 hz0 .i64 .i64 n n (by omega) (Int.le_refl _) (by rw [hz1]; simp; omega) (by rw [hz2]; omega) (by omega)
  rw [hr, hz1]
  simp only [Int.toNat_natCast]
theorem OwnLoop.at {w : World} {lo hi g c k : Nat} {ds : List DLoop} (h : OwnLoop w lo hi (some ⟨g, 0, none⟩) c ds) (hk : k < ds.length) : ∃ v, w.cell? ⟨g, k, none⟩ = some v ∧ w.frozen? ⟨g, k, none⟩ = false ∧ g < hi ∧ lo ≤ g ∧ g < w.heap.size := by
  obtain ⟨rows, h1, h2, h3, h4, h5⟩ := h
  have hg := own_block h2 (q := g) rfl
  obtain ⟨hl, h | ⟨g', cap, cur, hv, hb, hh, hnc, hcm, hcs, htk⟩⟩ := h2
  · exact absurd h.1 (by simp)
  · obtain ⟨rfl, rfl⟩ : g = g' ∧ c = cap := by injection hv with a b c; injection a with a; injection a with a; exact ⟨a, c⟩
    have hblk : Blk w g 62 cur := hh
    exact ⟨cur[k]'(by omega), hblk.cell k (Array.getElem?_eq_getElem (by omega)), hblk.frozen k, h3 g rfl, hg.1, hg.2⟩
theorem rep_set {ds : List DLoop} {k n : Nat} {dl : DLoop} (hn : n = ds.length) (hk : k < n) (ha : ds[k]? = some dl) : ((ds.take k).map revK ++ List.replicate (n - k) []).set k (revK dl) = (ds.take (k + 1)).map revK ++ List.replicate (n - (k + 1)) [] := by
  have hl : ((ds.take k).map revK).length = k := by simp; omega
  rw [List.set_append_right _ _ (by omega), hl, Nat.sub_self, show n - k = (n - (k + 1)) + 1 by omega, List.replicate_succ, List.set_cons_zero, List.take_add_one, ha, List.map_append]
  simp
end Go.Proofs.Ytaikdjonecmlgaa
