/- Walks: the code of a fault; ProgramOf, the program's side. -/
import Derived.Test.YtdikenapnncmfaaDoorPoh
namespace Go.Proofs.YtdikenapnncmfaaDoor
open Go.RowKit Go.Extern.Stop Go.Stop Go.Extern
set_option linter.unusedVariables false
theorem as_nil (t : Value) (w : World) : Calls Tryd.prog 80 #[.nilIface, t] w fun e w' => e = .returned (.bool false) ∧ w' = w := by
  go_enter Tryd.func80, Tryd.ntmps80
  go_wp2
  go_ret
  exact ⟨rfl, rfl⟩
/-- The library's variable holds the handle of the type of errors. -/
def HandIs (w : World) : Prop := w.cell? ⟨2, 0, none⟩ = some (.iface 159 (.agg #[.pointer (some ⟨9, 74, none⟩)]))
theorem HandIs.pos {w : World} (h : HandIs w) : 2 < w.heap.size := by
  rcases Nat.lt_or_ge 2 w.heap.size with h1 | h0
  · exact h1
  · unfold HandIs at h; simp [World.cell?, Array.getElem?_eq_none h0] at h
theorem HandIs.stay {w w' : World} (h : HandIs w) (hb : Below w.heap.size w w') : HandIs w' := (hb.cell h.pos).trans h
theorem as_fault (C : Int) (w : World) (h : HandIs w) (g : Nat) (hg : g < w.heap.size) (ht : w.cell? ⟨g, 0, none⟩ = some (.int .i64 0)) (hf : w.frozen? ⟨g, 0, none⟩ = false) :
    Calls Tryd.prog 80 #[.iface 105 (.agg #[.int .i64 C]), .iface 108 (.pointer (some ⟨g, 0, none⟩))] w fun e w' => e = .returned (.bool true) ∧ w'.cell? ⟨g, 0, none⟩ = some (.int .i64 C) ∧ (∀ b, b ≤ g → Below b w w') := by
  refine (as_hit C ⟨g, 0, none⟩ _ w h ht hf).mono ?_
  rintro e w' ⟨rfl, hw⟩
  refine ⟨rfl, ?_, ?_⟩
  · rw [hw]
    refine World.cell?_setCell_same _ _ _ (u := .int .i64 0) ?_
    rw [World.cell?_alloc_lt _ _ ⟨g, 0, none⟩ (by simp; omega), World.cell?_alloc_lt _ _ ⟨g, 0, none⟩ (by simp; omega), World.cell?_alloc_lt _ _ ⟨g, 0, none⟩ (by simp; omega), World.cell?_alloc_lt _ _ ⟨g, 0, none⟩ hg]
    exact ht
  · intro b hb
    rw [hw]
    exact Below.setCell (p := ⟨g, 0, none⟩) (((((Below.refl b w).alloc (by omega) _).alloc (by simp; omega) _).alloc (by simp; omega) _).alloc (by simp; omega) _) hb _
set_option maxHeartbeats 3200000 in
theorem faultCode_any (C : Int) (w : World) (h : HandIs w) : Calls Tryd.prog 64 #[erV C] w fun e w' => e = .returned (.int .i64 C) ∧ Below w.heap.size w w' := by
  unfold erV
  by_cases h0 : C = 0
  · subst h0
    rw [if_pos rfl]
    clear h
    go_enter Tryd.func64, Tryd.ntmps64
    go_wp2_with (go_at_call 80; refine (as_nil _ _).mono ?_; rintro e w1 ⟨rfl, rfl⟩)
    go_ret
    exact ⟨rfl, by repeat' (first | with_reducible assumption | with_reducible exact Below.refl _ _ | (with_reducible refine Below.setCell ?_ ?_ _) | (with_reducible refine Below.alloc ?_ ?_ _) | (with_reducible refine Below.drew ?_) | (with_reducible refine below_dr ?_ _) | (with_reducible refine Below.trans ?_ (Below.mono (by with_reducible assumption) ?_)) | omega | (simp; done) | (simp; omega))⟩
  · rw [if_neg h0]
    have CA := Lib.hid (as_fault C (w.alloc (.cells #[.int .i64 0] 105)) (h.stay ((Below.refl _ _).alloc (Nat.le_refl _) _)) w.heap.size (by simp) (by simp [go_sem]) (by simp [go_sem]))
    clear h h0
    go_enter Tryd.func64, Tryd.ntmps64
    go_wp2_with (go_at_call 80; (with_reducible refine (CA.out).mono ?_); rintro e w1 ⟨rfl, y1, b1⟩; have b2 := b1 w.heap.size (Nat.le_refl _); clear b1)
    go_ret
    exact ⟨rfl, ((Below.refl _ _).alloc (Nat.le_refl _) _).trans b2⟩
set_option maxRecDepth 100000 in
set_option maxHeartbeats 3200000 in
theorem implProgramOf_any (l : List AHint) (A : Option Addr) (c : Nat) (w : World) (hl : l.length ≤ 1048576) (r : Rd cHint 2 w w.heap.size A l) (hH : HandIs w) :
    Calls Tryd.prog 41 #[.slice A l.length c] w fun e w' => e = .returned (.tuple #[.string (pgV l), .int .i64 (pgC l)]) ∧ Below w.heap.size w w' := by
  have C1 := Lib.hid (encoded_any l A c w hl r)
  have C2 := Lib.hid (fun w1 (hb : Below w.heap.size w w1) => faultCode_any (pgC l) w1 (hH.stay hb))
  clear r hH
  generalize pgV l = R at *
  generalize pgC l = C at *
  generalize l.length = n at *
  obtain ⟨E, hE⟩ : ∃ E, E = erV C := ⟨_, rfl⟩
  rw [← hE] at C1 C2
  clear hE
  go_enter Tryd.func41, Tryd.ntmps41
  go_wp2_with (first | (go_at_call 63; (with_reducible refine (C1.out).mono ?_); rintro e w1 ⟨rfl, b1⟩; have hz1 := b1.size) | (go_at_call 64; (with_reducible refine (C2.out _ (by repeat' (first | with_reducible assumption | with_reducible exact Below.refl _ _ | (with_reducible refine Below.setCell ?_ ?_ _) | (with_reducible refine Below.alloc ?_ ?_ _) | (with_reducible refine Below.drew ?_) | (with_reducible refine below_dr ?_ _) | (with_reducible refine Below.trans ?_ (Below.mono (by with_reducible assumption) ?_)) | omega | (simp; done) | (simp; omega)))).mono ?_); rintro e w2 ⟨rfl, b2⟩; have hz2 := b2.size))
  refine bodyPost_ret (v := .tuple #[.string (R), .int .i64 (C)]) (by simp [results, Tryd.results41, go_sem]) rfl ⟨rfl, ?_⟩
  repeat' (first | with_reducible assumption | with_reducible exact Below.refl _ _ | (with_reducible refine Below.setCell ?_ ?_ _) | (with_reducible refine Below.alloc ?_ ?_ _) | (with_reducible refine Below.drew ?_) | (with_reducible refine below_dr ?_ _) | (with_reducible refine Below.trans ?_ (Below.mono (by with_reducible assumption) ?_)) | omega | (simp; done) | (simp; omega))
end Go.Proofs.YtdikenapnncmfaaDoor
