/- Walks: a list of points is copied, and turned in its place, by the library. -/
import Derived.Test.YtdeemhfhmgnbgaaYc
import Derived.Lib.SliceRun
import Derived.Shelf.SlicesQ.Reverse
import Derived.Deep.RegionLaw
namespace Go.Proofs.Ytdeemhfhmgnbgaa
open Go.RowKit Go.Sort
set_option linter.unusedVariables false
theorem reads_rd {w : World} {A : Option Addr} {l : List APt} (h1 : 1 ≤ l.length) (r : Rd cPt 2 w w.heap.size A l) : ∃ g o, A = some ⟨g, o, none⟩ ∧ g < w.heap.size ∧ ∀ j u, (cellsF cPt l)[j]? = some u → w.cell? ⟨g, o + j, none⟩ = some u := by
  obtain ⟨g, o, hA, hg, -⟩ := r.elem (k := 0) (List.getElem?_eq_getElem (by omega))
  refine ⟨g, o, hA, hg, fun j u hu => ?_⟩
  have hj : j < l.length * 2 := by
    rcases Nat.lt_or_ge j (l.length * 2) with h | h
    · exact h
    · rw [List.getElem?_eq_none (by rw [cellsF_len (fun a => cPt_len a)]; omega)] at hu; cases hu
  obtain ⟨g', o', hA', _, hc⟩ := r.elem (k := j / 2) (List.getElem?_eq_getElem (by omega))
  obtain ⟨rfl, rfl⟩ : g = g' ∧ o = o' := by rw [hA] at hA'; injection hA' with h; injection h with h1 h2; exact ⟨h1, h2⟩
  have h2 := cellsF_at (fun a => cPt_len a) l (j / 2) _ (List.getElem?_eq_getElem (by omega)) (j % 2) (Nat.mod_lt _ (by omega))
  have h3 : j / 2 * 2 + j % 2 = j := by omega
  rw [h3, hu] at h2
  have h4 := hc (j % 2) u h2.symm
  rw [show o + j / 2 * 2 + j % 2 = o + j by omega] at h4
  exact h4
theorem reads_pts {w : World} {A : Option Addr} {l : List APt} (h1 : 1 ≤ l.length) (r : Rd cPt 2 w w.heap.size A l) : Reads w w.heap.size 2 A l.length (cellsF cPt l) := by
  obtain ⟨g, o, hA, hg, hc⟩ := reads_rd h1 r
  exact ⟨cellsF_len (fun a => cPt_len a) l, fun _ => ⟨⟨g, o, none⟩, hA, hg, fun j u hu => by rw [Addr.add_lit]; exact hc j u hu⟩⟩
set_option maxRecDepth 100000 in
set_option maxHeartbeats 1600000 in
theorem clone_any (l : List APt) (A : Option Addr) (c : Nat) (w : World) (h1 : 1 ≤ l.length) (h2 : l.length ≤ 400) (r : Rd cPt 2 w w.heap.size A l) :
    Calls Try.prog 48 #[.slice A l.length c] w fun e w' =>
      ∃ (A' : Option Addr) (c' : Nat), e = .returned (.slice A' l.length c') ∧ w'.ownsRow w.heap.size 26 2 (.slice A' l.length c') l.length (cellsF cPt l) ∧ Below w.heap.size w w' := by
  obtain ⟨i0, hi0, hz0', hz1', hz2'⟩ := info_parts infoPt
  have HI0 := Lib.hid hi0
  have HZ0 := Lib.hid hz0'
  have HZ1 := Lib.hid hz1'
  have HZ2 := Lib.hid hz2'
  clear hi0 hz0' hz1' hz2'
  have hrd := reads_pts h1 r
  obtain ⟨g, o, rfl, hg, -⟩ := reads_rd h1 r
  have H1C := Lib.hid (fun (u : Value) (hu : u ∈ cellsF cPt l) => cellsF_one (fun a => cPt_one a) l u hu)
  have HLL := Lib.hid (cellsF_len (fun a => cPt_len a) l)
  generalize cellsF cPt l = xs at hrd H1C HLL ⊢
  generalize l.length = n at hrd h1 h2 HLL ⊢
  have HRD := Lib.hid ((hrd.alloc (Nat.le_refl _) (.cells #[] 26)).more (B' := (w.alloc (.cells #[] 26)).heap.size) (by simp))
  have HOW := Lib.hid (own_made w w.heap.size 26 2 0 #[] (Nat.le_refl _) (Nat.zero_le _) (by simp))
  have HMX := Lib.hid (show 0 + n ≤ maxLen by unfold maxLen; omega)
  have HBY := Lib.hid (show (0 + n) * 16 ≤ 140737488355328 by omega)
  have HBS := Lib.hid (show w.heap.size ≤ (w.alloc (.cells #[] 26)).heap.size by simp)
  have q22 : ∀ w : World, (Go.binOp .eql 53 (.slice (some ⟨g, o, none⟩) n c) (.slice none 0 0)).run Try.prog w = .ok (.bool false) w := fun w => Lib.run_eql_slice_nil w _ _ (some ⟨g, o, none⟩) n c 0 0 Try.underlying53
  clear hrd r
  go_enter Try.func48, Try.ntmps48
  go_wp2_with (at_builtin; refine wpList_append_any _ rfl (.tmp 5) (.tmp 6) _ rfl w.heap.size 26 i0 _ 2 16 Try.underlying53 HI0.out HZ0.out HZ1.out HZ2.out rfl (by omega) _ 0 [] rfl HOW.out _ (some ⟨g, o, none⟩) n c xs rfl HRD.out H1C.out HMX.out HBY.out HBS.out ?_; intro v' w9 hown9 hg9 hat9; rw [Nat.zero_add] at hown9; obtain ⟨g9, cap9, rfl, _, _⟩ := hown9.form (by omega); have HOWN9 := Lib.hid hown9; have HG9 := Lib.hid hg9; clear hown9 hg9 hat9)
  go_ret
  refine ⟨_, _, rfl, ?_, ?_⟩
  · have := HOWN9.out; simpa using this
  · exact below_of_grown (by repeat' (first | with_reducible assumption | with_reducible exact Below.refl _ _ | (with_reducible refine Below.setCell ?_ ?_ _) | (with_reducible refine Below.alloc ?_ ?_ _) | (with_reducible refine Below.drew ?_) | (with_reducible refine below_dr ?_ _) | (with_reducible refine Below.trans ?_ (Below.mono (by with_reducible assumption) ?_)) | omega | (simp; done) | (simp; omega))) HG9.out (by simp) (fun q hq => by have h : w.heap.size = q := Option.some.inj hq; omega)

theorem flat_at (l : List APt) (j : Nat) (h : j < l.length * 2) : (cellsF cPt l)[j]? = some ((flatK cPt 2 l.toArray)[j]!) := by
  have hk : j / 2 < l.length := by omega
  have h2 := cellsF_at (fun a => cPt_len a) l (j / 2) _ (List.getElem?_eq_getElem hk) (j % 2) (Nat.mod_lt _ (by omega))
  rw [show j / 2 * 2 + j % 2 = j by omega] at h2
  rw [h2, get_flatK _ _ _ _ (by simpa using h), getElem!_pos l.toArray (j / 2) (by simpa using hk)]
  have h3 : j % 2 < (cPt (l.toArray[j / 2]'(by simpa using hk))).length := by rw [cPt_len]; exact Nat.mod_lt _ (by omega)
  rw [getElem!_pos (cPt (l.toArray[j / 2]'(by simpa using hk))) (j % 2) h3]
  simp only [List.getElem_toArray]
  exact List.getElem?_eq_getElem _
theorem own_one {w : World} {base e s : Nat} {cs : Array Value} (hb : base ≤ w.heap.size) (hs : cs.size = s) : (w.alloc (.cells cs e)).ownsRow base e s (.slice (some ⟨w.heap.size, 0, none⟩) 1 1) 1 cs.toList :=
  ⟨by rw [Array.length_toList, hs]; omega, .inr ⟨w.heap.size, 1, cs, rfl, hb, heap_alloc_new w _, by omega, by unfold maxLen; omega, by omega, by rw [List.take_of_length_le]; rw [Array.length_toList, hs]; omega⟩⟩
end Go.Proofs.Ytdeemhfhmgnbgaa
