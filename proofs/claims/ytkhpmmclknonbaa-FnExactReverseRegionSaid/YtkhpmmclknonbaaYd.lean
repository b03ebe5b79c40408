/- Walks: a list of points is copied, and turned in its place, by the library. -/
import Derived.Test.YtkhpmmclknonbaaYc
import Derived.Lib.SliceRun
import Derived.Shelf.SlicesQ.Reverse
import Derived.Deep.RegionLaw
namespace Go.Proofs.Ytkhpmmclknonbaa
open Go.RowKit Go.Sort
set_option linter.unusedVariables false
theorem reads_rd {w : World} {A : Option Addr} {l : List APt} (h1 : 1 ≤ l.length) (r : Rd cPt 2 w w.heap.size A l) : ∃ g o, A = some ⟨g, o, none⟩ ∧ g < w.heap.size ∧ ∀ j u, (cellsF cPt l)[j]? = some u → w.cell? ⟨g, o + j, none⟩ = some u := by
  obtain ⟨g, o, hA, hg, -⟩ := r.elem (k := 0) (List.getElem?_eq_getElem (by omega))
  refine ⟨g, o, hA, hg, fun j u hu => ?_⟩
  have hj : j < l.length * 2 := by
    rcases Nat.lt_or_ge j (l.length * 2) with h | h
    · exact h
    · rw [List.getElem?_eq_none (by rw [cellsF_len (fun a => cPt_len a)]; omega)] at hu; cases hu
  obtain ⟨g', o', hA', _, hc⟩ := r.elem (k := j / 2) (List.getElem?_eq_getElem (by omega))
  obtain ⟨rfl, rfl⟩ : g = g' ∧ o = o' := by rw [hA] at hA'; injection hA' with h; injection h with h1 h2; exact ⟨h1, h2⟩
  have h2 := cellsF_at (fun a => cPt_len a) l (j / 2) _ (List.getElem?_eq_getElem (by omega)) (j % 2) (Nat.mod_lt _ (by omega))
  have h3 : j / 2 * 2 + j % 2 = j := by omega
  rw [h3, hu] at h2
  have h4 := hc (j % 2) u h2.symm
  rw [show o + j / 2 * 2 + j % 2 = o + j by omega] at h4
  exact h4
theorem reads_pts {w : World} {A : Option Addr} {l : List APt} (h1 : 1 ≤ l.length) (r : Rd cPt 2 w w.heap.size A l) : Reads w w.heap.size 2 A l.length (cellsF cPt l) := by
  obtain ⟨g, o, hA, hg, hc⟩ := reads_rd h1 r
  exact ⟨cellsF_len (fun a => cPt_len a) l, fun _ => ⟨⟨g, o, none⟩, hA, hg, fun j u hu => by rw [Addr.add_lit]; exact hc j u hu⟩⟩
set_option maxRecDepth 100000 in
set_option maxHeartbeats 1600000 in
theorem clone_any (l : List APt) (A : Option Addr) (c : Nat) (w : World) (h1 : 1 ≤ l.length) (h2 : l.length ≤ 400) (r : Rd cPt 2 w w.heap.size A l) :
    Calls Try.prog 62 #[.slice A l.length c] w fun e w' =>
      ∃ (A' : Option Addr) (c' : Nat), e = .returned (.slice A' l.length c') ∧ w'.ownsRow w.heap.size 25 2 (.slice A' l.length c') l.length (cellsF cPt l) ∧ Below w.heap.size w w' := by
  obtain ⟨i0, hi0, hz0', hz1', hz2'⟩ := info_parts infoPt
  have HI0 := Lib.hid hi0
  have HZ0 := Lib.hid hz0'
  have HZ1 := Lib.hid hz1'
  have HZ2 := Lib.hid hz2'
  clear hi0 hz0' hz1' hz2'
  have hrd := reads_pts h1 r
  obtain ⟨g, o, rfl, hg, -⟩ := reads_rd h1 r
  have H1C := Lib.hid (fun (u : Value) (hu : u ∈ cellsF cPt l) => cellsF_one (fun a => cPt_one a) l u hu)
  have HLL := Lib.hid (cellsF_len (fun a => cPt_len a) l)
  generalize cellsF cPt l = xs at hrd H1C HLL ⊢
  generalize l.length = n at hrd h1 h2 HLL ⊢
  have HRD := Lib.hid ((hrd.alloc (Nat.le_refl _) (.cells #[] 25)).more (B' := (w.alloc (.cells #[] 25)).heap.size) (by simp))
  have HOW := Lib.hid (own_made w w.heap.size 25 2 0 #[] (Nat.le_refl _) (Nat.zero_le _) (by simp))
  have HMX := Lib.hid (show 0 + n ≤ maxLen by unfold maxLen; omega)
  have HBY := Lib.hid (show (0 + n) * 16 ≤ 140737488355328 by omega)
  have HBS := Lib.hid (show w.heap.size ≤ (w.alloc (.cells #[] 25)).heap.size by simp)
  have q22 : ∀ w : World, (Go.binOp .eql 89 (.slice (some ⟨g, o, none⟩) n c) (.slice none 0 0)).run Try.prog w = .ok (.bool false) w := fun w => Lib.run_eql_slice_nil w _ _ (some ⟨g, o, none⟩) n c 0 0 Try.underlying89
  clear hrd r
  go_enter Try.func62, Try.ntmps62
  go_wp2_with (at_builtin; refine wpList_append_any _ rfl (.tmp 5) (.tmp 6) _ rfl w.heap.size 25 i0 _ 2 16 Try.underlying89 HI0.out HZ0.out HZ1.out HZ2.out rfl (by omega) _ 0 [] rfl HOW.out _ (some ⟨g, o, none⟩) n c xs rfl HRD.out H1C.out HMX.out HBY.out HBS.out ?_; intro v' w9 hown9 hg9 hat9; rw [Nat.zero_add] at hown9; obtain ⟨g9, cap9, rfl, _, _⟩ := hown9.form (by omega); have HOWN9 := Lib.hid hown9; have HG9 := Lib.hid hg9; clear hown9 hg9 hat9)
  go_ret
  refine ⟨_, _, rfl, ?_, ?_⟩
  · have := HOWN9.out; simpa using this
  · exact below_of_grown (by repeat' (first | with_reducible assumption | with_reducible exact Below.refl _ _ | (with_reducible refine Below.setCell ?_ ?_ _) | (with_reducible refine Below.alloc ?_ ?_ _) | (with_reducible refine Below.drew ?_) | (with_reducible refine below_dr ?_ _) | (with_reducible refine Below.trans ?_ (Below.mono (by with_reducible assumption) ?_)) | omega | (simp; done) | (simp; omega))) HG9.out (by simp) (fun q hq => by have h : w.heap.size = q := Option.some.inj hq; omega)

def revRen : Go.Shelf.Ren := ⟨fun | 35 => 63 | n => n, fun | 22 => 89 | 23 => 25 | n => n, fun n => n⟩
theorem revLays : Go.Proofs.SlLaysE0.n35 Try.prog revRen := {
  mixed := by kernel_rfl
  f35 := ⟨Try.f63.name, by decide, Try.func63.trans (congrArg some (by kernel_rfl))⟩
  t0 := Try.underlying0
  a0 := Try.isAgg0
  z0 := Try.sizeOf0
  v0 := Try.zeroValue0
  t3 := Try.underlying3
  a3 := Try.isAgg3
  z3 := Try.sizeOf3
  v3 := Try.zeroValue3
  t4 := Try.underlying4
  a4 := Try.isAgg4
  z4 := Try.sizeOf4
  v4 := Try.zeroValue4
  t22 := Try.underlying89
  a22 := Try.isAgg89
  z22 := Try.sizeOf89
  v22 := Try.zeroValue89 }
theorem flat_at (l : List APt) (j : Nat) (h : j < l.length * 2) : (cellsF cPt l)[j]? = some ((flatK cPt 2 l.toArray)[j]!) := by
  have hk : j / 2 < l.length := by omega
  have h2 := cellsF_at (fun a => cPt_len a) l (j / 2) _ (List.getElem?_eq_getElem hk) (j % 2) (Nat.mod_lt _ (by omega))
  rw [show j / 2 * 2 + j % 2 = j by omega] at h2
  rw [h2, get_flatK _ _ _ _ (by simpa using h), getElem!_pos l.toArray (j / 2) (by simpa using hk)]
  have h3 : j % 2 < (cPt (l.toArray[j / 2]'(by simpa using hk))).length := by rw [cPt_len]; exact Nat.mod_lt _ (by omega)
  rw [getElem!_pos (cPt (l.toArray[j / 2]'(by simpa using hk))) (j % 2) h3]
  simp only [List.getElem_toArray]
  exact List.getElem?_eq_getElem _
set_option maxRecDepth 100000 in
theorem reverse_own (l : List APt) (A : Option Addr) (c base : Nat) (w : World) (h1 : 1 ≤ l.length) (h2 : l.length ≤ 400) (ho : w.ownsRow base 25 2 (.slice A l.length c) l.length (cellsF cPt l)) :
    Calls Try.prog 63 #[.slice A l.length c] w fun e w' => e = .returned (.tuple #[]) ∧ w'.ownsRow base 25 2 (.slice A l.length c) l.length (cellsF cPt l.reverse) ∧ Below base w w' ∧ ∀ g, (∀ q, (Value.slice A l.length c).ownBlock = some q → ¬ g = q) → w'.heap[g]? = w.heap[g]? := by
  obtain ⟨hl, h | ⟨g, cap, cur, hv, hb, hh, hnc, hcm, hcs, htk⟩⟩ := ho
  · omega
  · obtain ⟨rfl, rfl⟩ : A = some ⟨g, 0, none⟩ ∧ c = cap := by injection hv with a b c; exact ⟨a, c⟩
    have hcell : ∀ j, j < l.length * 2 → cur[j]? = some ((flatK cPt 2 l.toArray)[j]!) := by
      intro j hj
      rw [← flat_at l j hj, ← htk, List.getElem?_take_of_lt hj, Array.getElem?_toList]
    have hblk : Blk w g 25 cur := hh
    have hH : HoldsK cPt 2 w g 0 l.toArray := by
      intro j hj
      have hj' : j < l.length * 2 := by simpa using hj
      rw [Nat.zero_add]
      exact ⟨hblk.cell j (hcell j hj'), hblk.frozen j⟩
    have hc := AnyQ.slices_Reverse revLays 2 Try.isAgg25 Try.sizeOf25 cPt (fun a => cPt_len a) (fun a => cPt_one a) g 0 c l.toArray w hH (by simp; omega)
    simp only [List.size_toArray, List.reverse_toArray] at hc
    refine hc.mono ?_
    rintro e w' ⟨rfl, n, rfl⟩
    have hheap : (putRowK cPt 2 (Go.Sort.ahead w n) g 0 l.reverse.toArray).heap[g]? = some (.cells (putCells id 0 (flatK cPt 2 l.reverse.toArray) cur) 25 (0, 0)) := by
      simp [putRowK, putRow, mapBlock, Go.Sort.ahead, Array.getElem?_modify, hh, onCells]
    have hoth : ∀ q, ¬ q = g → (putRowK cPt 2 (Go.Sort.ahead w n) g 0 l.reverse.toArray).heap[q]? = w.heap[q]? := by
      intro q hq
      simp [putRowK, putRow, mapBlock, Go.Sort.ahead, Array.getElem?_modify, Ne.symm hq]
    refine ⟨rfl, ⟨by rw [cellsF_len (fun a => cPt_len a)]; simp, .inr ⟨g, c, _, rfl, hb, hheap, hnc, hcm, by simp [putCells, hcs], ?_⟩⟩, ⟨rfl, rfl, rfl, ?_, ?_⟩, fun q hq => hoth q (hq g rfl)⟩
    · apply List.ext_getElem?
      intro j
      by_cases hj : j < l.length * 2
      · rw [List.getElem?_take_of_lt hj, flat_at l.reverse j (by simpa using hj)]
        have hcj : j < cur.size := by rw [hcs]; have := Nat.mul_le_mul_right 2 hnc; omega
        simp only [putCells, Array.getElem?_toList, Array.getElem?_mapIdx, Array.getElem?_eq_getElem hcj, Option.map_some]
        rw [if_pos ⟨Nat.zero_le _, by rw [size_flatK]; simp; omega⟩]
        simp
      · rw [List.getElem?_eq_none (by simp; omega), List.getElem?_eq_none (by rw [cellsF_len (fun a => cPt_len a)]; simp; omega)]
    · simp [putRowK, putRow, mapBlock, Go.Sort.ahead]
    · intro k hk
      exact hoth k (by omega)

theorem own_one {w : World} {base e s : Nat} {cs : Array Value} (hb : base ≤ w.heap.size) (hs : cs.size = s) : (w.alloc (.cells cs e)).ownsRow base e s (.slice (some ⟨w.heap.size, 0, none⟩) 1 1) 1 cs.toList :=
  ⟨by rw [Array.length_toList, hs]; omega, .inr ⟨w.heap.size, 1, cs, rfl, hb, heap_alloc_new w _, by omega, by unfold maxLen; omega, by omega, by rw [List.take_of_length_le]; rw [Array.length_toList, hs]; omega⟩⟩
end Go.Proofs.Ytkhpmmclknonbaa
