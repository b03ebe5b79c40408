/- Walks: words on parts of lists of points. -/
import Derived.Test.YtdeemhfhmgnbgaaDoorSmb
import Derived.Lib.SliceRun
import Derived.Laws.MakeOwn
import Derived.Laws.OwnMore
namespace Go.Proofs.YtdeemhfhmgnbgaaDoor
open Go.RowKit Go.Sort
set_option linter.unusedVariables false
theorem reads_rd {w : World} {A : Option Addr} {l : List APt} (h1 : 1 ≤ l.length) (r : Rd cPt 2 w w.heap.size A l) : ∃ g o, A = some ⟨g, o, none⟩ ∧ g < w.heap.size ∧ ∀ j u, (cellsF cPt l)[j]? = some u → w.cell? ⟨g, o + j, none⟩ = some u := by
  obtain ⟨g, o, hA, hg, -⟩ := r.elem (k := 0) (List.getElem?_eq_getElem (by omega))
  refine ⟨g, o, hA, hg, fun j u hu => ?_⟩
  have hj : j < l.length * 2 := by
    rcases Nat.lt_or_ge j (l.length * 2) with h | h
    · exact h
    · rw [List.getElem?_eq_none (by rw [cellsF_len (fun a => cPt_len a)]; omega)] at hu; cases hu
  obtain ⟨g', o', hA', _, hc⟩ := r.elem (k := j / 2) (List.getElem?_eq_getElem (by omega))
  obtain ⟨rfl, rfl⟩ : g = g' ∧ o = o' := by rw [hA] at hA'; injection hA' with h; injection h with h1 h2; exact ⟨h1, h2⟩
  have h2 := cellsF_at (fun a => cPt_len a) l (j / 2) _ (List.getElem?_eq_getElem (by omega)) (j % 2) (Nat.mod_lt _ (by omega))
  have h3 : j / 2 * 2 + j % 2 = j := by omega
  rw [h3, hu] at h2
  have h4 := hc (j % 2) u h2.symm
  rw [show o + j / 2 * 2 + j % 2 = o + j by omega] at h4
  exact h4
theorem reads_pts {w : World} {A : Option Addr} {l : List APt} (h1 : 1 ≤ l.length) (r : Rd cPt 2 w w.heap.size A l) : Reads w w.heap.size 2 A l.length (cellsF cPt l) := by
  obtain ⟨g, o, hA, hg, hc⟩ := reads_rd h1 r
  exact ⟨cellsF_len (fun a => cPt_len a) l, fun _ => ⟨⟨g, o, none⟩, hA, hg, fun j u hu => by rw [Addr.add_lit]; exact hc j u hu⟩⟩
set_option maxRecDepth 100000 in
set_option maxHeartbeats 1600000 in
theorem clone_any (l : List APt) (A : Option Addr) (c : Nat) (w : World) (h1 : 1 ≤ l.length) (h2 : l.length ≤ 400) (r : Rd cPt 2 w w.heap.size A l) :
    Calls Tryd.prog 27 #[.slice A l.length c] w fun e w' =>
      ∃ (A' : Option Addr) (c' : Nat), e = .returned (.slice A' l.length c') ∧ w'.ownsRow w.heap.size 52 2 (.slice A' l.length c') l.length (cellsF cPt l) ∧ Below w.heap.size w w' := by
  obtain ⟨i0, hi0, hz0', hz1', hz2'⟩ := info_parts infoPt
  have HI0 := Lib.hid hi0
  have HZ0 := Lib.hid hz0'
  have HZ1 := Lib.hid hz1'
  have HZ2 := Lib.hid hz2'
  clear hi0 hz0' hz1' hz2'
  have hrd := reads_pts h1 r
  obtain ⟨g, o, rfl, hg, -⟩ := reads_rd h1 r
  have H1C := Lib.hid (fun (u : Value) (hu : u ∈ cellsF cPt l) => cellsF_one (fun a => cPt_one a) l u hu)
  have HLL := Lib.hid (cellsF_len (fun a => cPt_len a) l)
  generalize cellsF cPt l = xs at hrd H1C HLL ⊢
  generalize l.length = n at hrd h1 h2 HLL ⊢
  have HRD := Lib.hid ((hrd.alloc (Nat.le_refl _) (.cells #[] 52)).more (B' := (w.alloc (.cells #[] 52)).heap.size) (by simp))
  have HOW := Lib.hid (own_made w w.heap.size 52 2 0 #[] (Nat.le_refl _) (Nat.zero_le _) (by simp))
  have HMX := Lib.hid (show 0 + n ≤ maxLen by unfold maxLen; omega)
  have HBY := Lib.hid (show (0 + n) * 16 ≤ 140737488355328 by omega)
  have HBS := Lib.hid (show w.heap.size ≤ (w.alloc (.cells #[] 52)).heap.size by simp)
  have q22 : ∀ w : World, (Go.binOp .eql 26 (.slice (some ⟨g, o, none⟩) n c) (.slice none 0 0)).run Tryd.prog w = .ok (.bool false) w := fun w => Lib.run_eql_slice_nil w _ _ (some ⟨g, o, none⟩) n c 0 0 Tryd.underlying26
  clear hrd r
  go_enter Tryd.func27, Tryd.ntmps27
  go_wp2_with (at_builtin; refine wpList_append_any _ rfl (.tmp 5) (.tmp 6) _ rfl w.heap.size 52 i0 _ 2 16 Tryd.underlying26 HI0.out HZ0.out HZ1.out HZ2.out rfl (by omega) _ 0 [] rfl HOW.out _ (some ⟨g, o, none⟩) n c xs rfl HRD.out H1C.out HMX.out HBY.out HBS.out ?_; intro v' w9 hown9 hg9 hat9; rw [Nat.zero_add] at hown9; obtain ⟨g9, cap9, rfl, _, _⟩ := hown9.form (by omega); have HOWN9 := Lib.hid hown9; have HG9 := Lib.hid hg9; clear hown9 hg9 hat9)
  go_ret
  refine ⟨_, _, rfl, ?_, ?_⟩
  · have := HOWN9.out; simpa using this
  · exact below_of_grown (by repeat' (first | with_reducible assumption | with_reducible exact Below.refl _ _ | (with_reducible refine Below.setCell ?_ ?_ _) | (with_reducible refine Below.alloc ?_ ?_ _) | (with_reducible refine Below.drew ?_) | (with_reducible refine below_dr ?_ _) | (with_reducible refine Below.trans ?_ (Below.mono (by with_reducible assumption) ?_)) | omega | (simp; done) | (simp; omega))) HG9.out (by simp) (fun q hq => by have h : w.heap.size = q := Option.some.inj hq; omega)

theorem pslice_of {t : TypeId} {w : World} {base s n : Nat} {v : Value} {xs : List Value} (h : w.ownsRow base t s v n xs) : ∃ ao cap, v = .slice ao n cap := by
  rcases h.2 with ⟨rfl, rfl⟩ | ⟨g, cap, cur, rfl, _⟩
  · exact ⟨none, 0, rfl⟩
  · exact ⟨_, _, rfl⟩
theorem pall_one (es : List APt) : ∀ z ∈ cellsF cPt es, z.oneCell' = true := cellsF_one (fun a => cPt_one a) es
theorem reads_pts0 {w : World} {A : Option Addr} {l : List APt} (r : Rd cPt 2 w w.heap.size A l) : Reads w w.heap.size 2 A l.length (cellsF cPt l) := by
  rcases l with _ | ⟨a, l⟩
  · exact ⟨rfl, fun h => absurd h (by simp)⟩
  · exact reads_pts (by simp) r
theorem pts_take {l : List APt} (h : ptsUp l l.length = true) (j : Nat) : ptsUp (l.take j) (l.take j).length = true :=
  pts_of fun k x y hk => by
    rw [List.getElem?_take] at hk
    split at hk
    · exact pts_all h hk
    · cases hk
theorem pts_drop {l : List APt} (h : ptsUp l l.length = true) (j : Nat) : ptsUp (l.drop j) (l.drop j).length = true :=
  pts_of fun k x y hk => by rw [List.getElem?_drop] at hk; exact pts_all h hk
theorem rd_take {w : World} {B g o : Nat} {l : List APt} (r : Rd cPt 2 w B (some ⟨g, o, none⟩) l) (j : Nat) : Rd cPt 2 w B (some ⟨g, o, none⟩) (l.take j) := by
  rcases r with rfl | ⟨g', o', hA, hg, h⟩
  · left; simp
  · refine .inr ⟨g', o', hA, hg, fun k a hk => h k a ?_⟩
    rw [List.getElem?_take] at hk
    split at hk
    · exact hk
    · cases hk
theorem rd_drop {w : World} {B g o : Nat} {l : List APt} (r : Rd cPt 2 w B (some ⟨g, o, none⟩) l) (j : Nat) : Rd cPt 2 w B (some ⟨g, o + j * 2, none⟩) (l.drop j) := by
  rcases r with rfl | ⟨g', o', hA, hg, h⟩
  · left; simp
  · obtain ⟨rfl, rfl⟩ : g = g' ∧ o = o' := by injection hA with h; injection h with h1 h2; exact ⟨h1, h2⟩
    refine .inr ⟨g, o + j * 2, rfl, hg, fun k a hk i u hu => ?_⟩
    rw [List.getElem?_drop] at hk
    have h2 := h (j + k) a hk i u hu
    rw [show o + (j + k) * 2 + i = o + j * 2 + k * 2 + i by omega] at h2
    exact h2
theorem cells_app (a b : List APt) : cellsF cPt a ++ cellsF cPt b = cellsF cPt (a ++ b) := by unfold cellsF; exact List.flatMap_append.symm
def lenOf : Value → Nat | .slice _ n _ => n | _ => 0
theorem erase_len {l : List APt} {k : Nat} (h : k < l.length) : (l.eraseIdx k).length = l.length - 1 := by rw [List.length_eraseIdx, if_pos h]
theorem own_drop_app {l : List APt} {k : Nat} : cellsF cPt (l.take k) ++ cellsF cPt (l.drop (k + 1)) = cellsF cPt (l.eraseIdx k) := by rw [cells_app, ← erase_parts]
end Go.Proofs.YtdeemhfhmgnbgaaDoor
