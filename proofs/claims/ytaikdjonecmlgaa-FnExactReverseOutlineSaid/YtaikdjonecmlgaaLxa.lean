/- Walks: an outline turned round, the program's side. -/
import Derived.Test.YtaikdjonecmlgaaLw
namespace Go.Proofs.Ytaikdjonecmlgaa
open Go.RowKit
set_option linter.unusedVariables false
theorem run_copy_full {P : Program} {w : World} (dT sT ty elem : TypeId) (hu : P.underlying dT = some (.slice elem)) (size : Nat) (hsz : (P.info? elem).map (·.size) = some size)
    (g n dCap sCap : Nat) (ad : Addr) (base : Nat) (cur : List Value)
    (ow : w.ownsRow base elem size (.slice (some ⟨g, 0, none⟩) n dCap) n cur) (cs : List Value) (hn : cs.length = n * size) (hsrc : ∀ j v, cs[j]? = some v → w.cell? (ad.add j) = some v) (h1 : ∀ v ∈ cs, v.oneCell' = true) :
    ∃ w', (Builtin.copy_ #[dT, sT] ty #[.slice (some ⟨g, 0, none⟩) n dCap, .slice (some ad) n sCap]).run P w = .ok (goInt n) w' ∧ w'.ownsRow base elem size (.slice (some ⟨g, 0, none⟩) n dCap) n cs ∧ w.grownBy w' (some g) := by
  obtain ⟨hl, hx | ⟨g', cap, c0, hv, hb, hh, hnc, hcm, hcs, htk⟩⟩ := ow
  · exact absurd hx.1 (by simp)
  · obtain ⟨rfl, rfl⟩ : g = g' ∧ dCap = cap := by injection hv with a b c; injection a with a; injection a with a; exact ⟨a, c⟩
    have hle : n * size ≤ c0.size := by rw [hcs]; exact Nat.mul_le_mul_right size hnc
    have hl := run_loadCells_list (P := P) w ad cs hsrc
    have hst := run_storeCells_at P g 0 elem cs 0 c0 w hh (by simpa [hn] using hle) h1
    refine ⟨w.setRow g (c0.toList.take (0 + 0) ++ cs ++ c0.toList.drop (0 + 0 + cs.length)).toArray, ?_, ⟨hn, .inr ⟨g, dCap, _, rfl, hb, setRow_heap w g _ _ elem _ hh, hnc, hcm, ?_, ?_⟩⟩, ?_⟩
    · cases hq : P.info? elem with
      | none => simp [hq] at hsz
      | some i =>
        have hi : i.size = size := by simpa [hq] using hsz
        simp [Builtin.copy_, run_underlying hu, Builtin.lenOf, Builtin.firstCells, sizeOf, typeInfo, hq, hi, ← hn, hl, hst]
    · simp [hcs, hn]; rw [hcs] at hle; omega
    · simp [← hn]
    · exact ⟨rfl, rfl, rfl, by simp [World.setRow], fun k hk hne => setRow_other w g k _ (fun e => hne (by rw [e]))⟩
theorem rd_add {w : World} {B g o : Nat} {l : List AKnot} (h : Rd cKnot 3 w B (some ⟨g, o, none⟩) l) (j : Nat) (v : Value) (hv : (cellsF cKnot l)[j]? = some v) : w.cell? ((⟨g, o, none⟩ : Addr).add j) = some v := by
  have hadd : (⟨g, o, none⟩ : Addr).add j = ⟨g, o + j, none⟩ := by unfold Addr.add; split <;> simp_all
  have hj : j < l.length * 3 := by
    rcases Nat.lt_or_ge j (l.length * 3) with h | h
    · exact h
    · rw [List.getElem?_eq_none (by rw [cellsF_len (fun a => cKnot_len a)]; exact h)] at hv; cases hv
  have hk : j / 3 < l.length := by omega
  obtain ⟨g', o', hA, _, hc⟩ := h.elem (List.getElem?_eq_getElem hk)
  have h2 := cellsF_at (fun a => cKnot_len a) l (j / 3) _ (List.getElem?_eq_getElem hk) (j % 3) (Nat.mod_lt _ (by omega))
  rw [show j / 3 * 3 + j % 3 = j by omega, hv] at h2
  have h3 := hc (j % 3) v h2.symm
  injection hA with hA
  injection hA with e1 e2
  subst e1 e2
  rw [hadd, show o + j = o + j / 3 * 3 + j % 3 by omega]
  exact h3
theorem revTail_own2 (dl : List AKnot) (m g base : Nat) (w : World) (hm : m = dl.length) (h1 : 1 ≤ m) (h2 : m ≤ 60) (ho : w.ownsRow base 69 3 (.slice (some ⟨g, 0, none⟩) m m) m (cellsF cKnot dl)) :
    Calls Try.prog 49 #[.slice (some ⟨g, 3, none⟩) (m - 1) (m - 1)] w fun e w' => e = .returned (.tuple #[]) ∧ w'.ownsRow base 69 3 (.slice (some ⟨g, 0, none⟩) m m) m (cellsF cKnot (revK dl)) ∧ Below base w w' ∧ ∀ q, ¬ q = g → w'.heap[q]? = w.heap[q]? := by
  cases dl with
  | nil => simp at hm; omega
  | cons a t =>
    simp only [List.length_cons] at hm
    subst hm
    rw [Nat.add_sub_cancel]
    exact revTail_own a t g _ base w (by omega) ho
theorem rev_none (g o c : Nat) (w : World) :
    Calls Try.prog 49 #[.slice (some ⟨g, o, none⟩) 0 c] w fun e w' => e = .returned (.tuple #[]) ∧ Below w.heap.size w w' := by
  have hH : Go.Sort.HoldsK cKnot 3 w g o #[] := fun j hj => absurd hj (by simp [Go.Sort.flatK])
  have hc := AnyQ.slices_Reverse revLaysK 3 Try.isAgg69 Try.sizeOf69 cKnot (fun a => cKnot_len a) (fun a => cKnot_one a) g o c #[] w hH (by simp)
  refine hc.mono ?_
  rintro e w' ⟨rfl, n, rfl⟩
  refine ⟨rfl, ?_⟩
  rw [show (#[] : Array AKnot).reverse = #[] from rfl, Go.Sort.putRowK_self cKnot 3 _ g o #[] (Go.Sort.holdsK_ahead _ _ _ _ _ _ _ hH)]
  exact ⟨rfl, rfl, rfl, Nat.le_refl _, fun _ _ => rfl⟩
set_option maxHeartbeats 1600000 in
theorem implReverseOutline_bad (ds : List DLoop) (A : Option Addr) (c : Nat) (w : World) (hv : vOl ds = false) (hl : ds.length ≤ 1048576) (hin : ∀ (i : Nat) (d : DLoop), ds[i]? = some d → d.length ≤ 1048576) (r : RdLoop w w.heap.size A ds) :
    Calls Try.prog 16 #[.agg #[.slice A ds.length c]] w (OutRet 1 [] w) := by
  have HIN := Lib.hid hin
  have CV := Lib.hid (fun A c w r => implValidOutline_any ds A c w hl hin r)
  simp only [hv] at CV
  clear hin hv
  unfold OutRet
  go_enter Try.func16, Try.ntmps16
  go_wp2_with fail
  refine (CV.out A c _ (((r.alloc (Nat.le_refl _) _).alloc (by simp) _).more (by simp; omega))).mono ?_
  rintro e w1 ⟨rfl, hb⟩
  have bk2 : Blk w1 (w.heap.size + 1) 28 #[.slice none 0 0] := (Blk.newAt _ _ _ (by simp)).carry hb
  have v0 := bk2.cell 0 rfl
  have u0 := bk2.frozen 0
  have z0 := bk2.lt
  go_wp2_with fail
  refine bodyPost_ret (v := .tuple #[.agg #[.slice none 0 0], .int .i64 1]) (by simp [results, Try.results16, go_sem, *]) rfl ⟨none, 0, rfl, OwnLoop.nil _ _ _, by repeat' (first | with_reducible assumption | with_reducible exact Below.refl _ _ | (with_reducible refine Below.setCell ?_ ?_ _) | (with_reducible refine Below.alloc ?_ ?_ _) | (with_reducible refine Below.drew ?_) | (with_reducible refine below_dr ?_ _) | (with_reducible refine Below.trans ?_ (Below.mono (by with_reducible assumption) ?_)) | omega | (simp; done) | (simp; omega))⟩
end Go.Proofs.Ytaikdjonecmlgaa
