/- A law for 'copy' onto a whole row of one's own, elements of any size. -/
import Derived.Test.YtaikdjonecmlgaaLu
import Derived.Laws.CopyOwn
namespace Go.Proofs.Ytaikdjonecmlgaa
open Go.RowKit
set_option linter.unusedVariables false
theorem step_copy_full {P : Program} {ops : Array Oper} {o : Oper} {a : Act} {w : World} {K : Act → World → Prop} {Q : Exit → Act → World → Prop} {E : Prop} (hgd : o.guard = none) (d s : Operand) (dT sT : TypeId)
    (ho : o.op = .call { callee := .builtin .copy, args := #[d, s], argTypes := #[dT, sT] }) (elem : TypeId) (hu : P.underlying dT = some (.slice elem)) (size : Nat) (hsz : (P.info? elem).map (·.size) = some size)
    (g n dCap sCap : Nat) (ad : Addr) (hd : a.eval d = .slice (some ⟨g, 0, none⟩) n dCap) (hs : a.eval s = .slice (some ad) n sCap) (base : Nat) (cur : List Value)
    (ow : w.ownsRow base elem size (.slice (some ⟨g, 0, none⟩) n dCap) n cur) (cs : List Value) (hn : cs.length = n * size) (hsrc : ∀ j v, cs[j]? = some v → w.cell? (ad.add j) = some v) (h1 : ∀ v ∈ cs, v.oneCell' = true)
    (h : ∀ w', w'.ownsRow base elem size (.slice (some ⟨g, 0, none⟩) n dCap) n cs → w.grownBy w' (some g) → K (a.put o.dst (goInt n)) w') :
    if Region.wanted o (yielded ops a.tmps) = true then Oper.wp P o a w K Q else E := by
  have hw : Region.wanted o (yielded ops a.tmps) = true := by simp [Region.wanted, hgd]
  rw [if_pos hw]
  obtain ⟨hl, hx | ⟨g', cap, c0, hv, hb, hh, hnc, hcm, hcs, htk⟩⟩ := ow
  · exact absurd hx.1 (by simp)
  · obtain ⟨rfl, rfl⟩ : g = g' ∧ dCap = cap := by injection hv with a b c; injection a with a; injection a with a; exact ⟨a, c⟩
    have hle : n * size ≤ c0.size := by rw [hcs]; exact Nat.mul_le_mul_right size hnc
    have hl := run_loadCells_list (P := P) w ad cs hsrc
    have hst := run_storeCells_at P g 0 elem cs 0 c0 w hh (by simpa [hn] using hle) h1
    have hrun : (Builtin.copy_ #[dT, sT] o.type #[.slice (some ⟨g, 0, none⟩) n dCap, .slice (some ad) n sCap]).run P w = .ok (goInt n) (w.setRow g (c0.toList.take (0 + 0) ++ cs ++ c0.toList.drop (0 + 0 + cs.length)).toArray) := by
      cases hq : P.info? elem with
      | none => simp [hq] at hsz
      | some i =>
        have hi : i.size = size := by simpa [hq] using hsz
        simp [Builtin.copy_, run_underlying hu, Builtin.lenOf, Builtin.firstCells, sizeOf, typeInfo, hq, hi, ← hn, hl, hst]
    unfold Oper.wp
    simp only [execOp, ho, resolve, invoke, builtin]
    simp [hd, hs, hrun, Result.andThen]
    refine h _ ⟨hn, .inr ⟨g, dCap, _, rfl, hb, setRow_heap w g _ _ elem _ hh, hnc, hcm, ?_, ?_⟩⟩ ?_
    · simp [hcs, hn]; rw [hcs] at hle; omega
    · simp [← hn]
    · exact ⟨rfl, rfl, rfl, by simp [World.setRow], fun k hk hne => setRow_other w g k _ (fun e => hne (by rw [e]))⟩
end Go.Proofs.Ytaikdjonecmlgaa
