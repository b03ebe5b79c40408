/- Walks: a mapped point, the program's side. -/
import Derived.Test.YtjlmoadnbbeloaaRc
import Derived.Test.YtjlmoadnbbeloaaGr
namespace Go.Proofs.Ytjlmoadnbbeloaa
open Go.RowKit
set_option linter.unusedVariables false
/-- A block of known cells, none of them frozen. -/
def Un (g : Nat) (vs : List Value) (w : World) : Prop := (∀ i v, vs[i]? = some v → w.cell? ⟨g, i, none⟩ = some v ∧ w.frozen? ⟨g, i, none⟩ = false) ∧ g < w.heap.size
theorem Un.at {g : Nat} {vs : List Value} {w : World} (h : Un g vs w) : AtL g vs w := ⟨fun i v hv => (h.1 i v hv).1, h.2⟩
theorem Un.cell {g : Nat} {vs : List Value} {w : World} (h : Un g vs w) (i : Nat) {v : Value} (hv : vs[i]? = some v) : w.cell? ⟨g, i, none⟩ = some v := (h.1 i v hv).1
theorem Un.frozen {g : Nat} {vs : List Value} {w : World} (h : Un g vs w) (i : Nat) {v : Value} (hv : vs[i]? = some v) : w.frozen? ⟨g, i, none⟩ = false := (h.1 i v hv).2
theorem Un.below {g : Nat} {vs : List Value} {w w' : World} (h : Un g vs w) (hb : Below w.heap.size w w') : Un g vs w' :=
  ⟨fun i v hv => ⟨(hb.cell (p := ⟨g, i, none⟩) h.2).trans (h.1 i v hv).1, (hb.frozen (p := ⟨g, i, none⟩) h.2).trans (h.1 i v hv).2⟩, Nat.lt_of_lt_of_le h.2 hb.size⟩
theorem Un.alloc {g : Nat} {vs : List Value} {w : World} (h : Un g vs w) (o : Obj) : Un g vs (w.alloc o) := h.below ((Below.refl _ _).alloc (Nat.le_refl _) o)
theorem Un.drew {g : Nat} {vs : List Value} {w : World} (h : Un g vs w) : Un g vs w.drew := h
theorem Un.newAt {g : Nat} {vs : List Value} {w : World} {t : TypeId} (hg : g = w.heap.size) : Un g vs (w.alloc (.cells vs.toArray t)) := by
  subst hg
  refine ⟨fun i v hv => ⟨(AtL.new w vs t).1 i v hv, ?_⟩, by simp⟩
  simp [go_sem]
theorem Un.set {g : Nat} {vs : List Value} {w : World} (h : Un g vs w) (j : Nat) (u : Value) : Un g (vs.set j u) (w.setCell ⟨g, j, none⟩ u) := by
  refine ⟨fun i v hv => ⟨(h.at.set j u).1 i v hv, ?_⟩, by simpa using h.2⟩
  rw [World.frozen?_setCell]
  have hi : i < vs.length := by
    rcases Nat.lt_or_ge i vs.length with k | k
    · exact k
    · rw [List.getElem?_eq_none (by simpa using k)] at hv; cases hv
  exact (h.1 i _ (List.getElem?_eq_getElem hi)).2
theorem Un.far {g h : Nat} {vs : List Value} {w : World} (k : Un g vs w) (hg : ¬ g = h) (j : Nat) (u : Value) : Un g vs (w.setCell ⟨h, j, none⟩ u) :=
  ⟨fun i v hv => ⟨(k.at.far hg j u).1 i v hv, by rw [World.frozen?_setCell]; exact (k.1 i v hv).2⟩, by simpa using k.2⟩
theorem withFact {p q : Prop} (h : p) (k : p → q) : q := k h
theorem row_is {a b c d e f x y : Int} (h : validB e f = true) : plusF (twoF a b x 1 c d y 1) (mulF e f 1 1) = rowF a b c d e f x y := by
  rw [mulF_one_r h]; rfl
theorem grid_row0 (m0 m1 m2 m3 m4 m5 m6 m7 m8 m9 m10 m11 : Int) : ∀ w, (Instr.index 68 (.agg #[.int .i64 m0, .int .i64 m1, .int .i64 m2, .int .i64 m3, .int .i64 m8, .int .i64 m9, .int .i64 m4, .int .i64 m5, .int .i64 m6, .int .i64 m7, .int .i64 m10, .int .i64 m11, .int .i64 0, .int .i64 1, .int .i64 0, .int .i64 1, .int .i64 1, .int .i64 1]) (.int .i64 0)).run Try.prog w = .ok (.agg #[.int .i64 m0, .int .i64 m1, .int .i64 m2, .int .i64 m3, .int .i64 m8, .int .i64 m9]) w := fun _ => by kernel_rfl
theorem grid_row1 (m0 m1 m2 m3 m4 m5 m6 m7 m8 m9 m10 m11 : Int) : ∀ w, (Instr.index 68 (.agg #[.int .i64 m0, .int .i64 m1, .int .i64 m2, .int .i64 m3, .int .i64 m8, .int .i64 m9, .int .i64 m4, .int .i64 m5, .int .i64 m6, .int .i64 m7, .int .i64 m10, .int .i64 m11, .int .i64 0, .int .i64 1, .int .i64 0, .int .i64 1, .int .i64 1, .int .i64 1]) (.int .i64 1)).run Try.prog w = .ok (.agg #[.int .i64 m4, .int .i64 m5, .int .i64 m6, .int .i64 m7, .int .i64 m10, .int .i64 m11]) w := fun _ => by kernel_rfl
set_option maxRecDepth 100000 in
set_option maxHeartbeats 12800000 in
theorem implApply_any (m0 m1 m2 m3 m4 m5 m6 m7 m8 m9 m10 m11 x y : Int) (w : World) (h0 : -9223372036854775808 ≤ m0 ∧ m0 ≤ 9223372036854775807) (h1 : -9223372036854775808 ≤ m1 ∧ m1 ≤ 9223372036854775807) (h2 : -9223372036854775808 ≤ m2 ∧ m2 ≤ 9223372036854775807) (h3 : -9223372036854775808 ≤ m3 ∧ m3 ≤ 9223372036854775807) (h4 : -9223372036854775808 ≤ m4 ∧ m4 ≤ 9223372036854775807) (h5 : -9223372036854775808 ≤ m5 ∧ m5 ≤ 9223372036854775807) (h6 : -9223372036854775808 ≤ m6 ∧ m6 ≤ 9223372036854775807) (h7 : -9223372036854775808 ≤ m7 ∧ m7 ≤ 9223372036854775807) (h8 : -9223372036854775808 ≤ m8 ∧ m8 ≤ 9223372036854775807) (h9 : -9223372036854775808 ≤ m9 ∧ m9 ≤ 9223372036854775807) (h10 : -9223372036854775808 ≤ m10 ∧ m10 ≤ 9223372036854775807) (h11 : -9223372036854775808 ≤ m11 ∧ m11 ≤ 9223372036854775807) :
    Calls Try.prog 15 #[.agg #[.int .i64 m0, .int .i64 m1, .int .i64 m2, .int .i64 m3, .int .i64 m4, .int .i64 m5, .int .i64 m6, .int .i64 m7, .int .i64 m8, .int .i64 m9, .int .i64 m10, .int .i64 m11], .agg #[.int .i64 x, .int .i64 y]] w (ARet (validA m0 m1 m2 m3 m4 m5 m6 m7 m8 m9 m10 m11 && okB x y) (appK m0 m1 m2 m3 m4 m5 m6 m7 m8 m9 m10 m11 x y) (rowN (rowF m0 m1 m2 m3 m8 m9 x y)) (rowN (rowF m4 m5 m6 m7 m10 m11 x y)) w) := by
  have C := Lib.hid (fun w => implValidAffine_any m0 m1 m2 m3 m4 m5 m6 m7 m8 m9 m10 m11 w h0 h1 h2 h3 h4 h5 h6 h7 h8 h9 h10 h11)
  have CP := Lib.hid (fun w => implValidPt_any x y w)
  clear h0 h1 h2 h3 h4 h5 h6 h7 h8 h9 h10 h11
  rcases hv : validA m0 m1 m2 m3 m4 m5 m6 m7 m8 m9 m10 m11 with _ | _
  · rw [hv] at C
    clear hv CP
    go_enter Try.func15, Try.ntmps15
    go_wp2_with fail
    generalize hW : ((w.alloc (.cells #[.int .i64 m0, .int .i64 m1, .int .i64 m2, .int .i64 m3, .int .i64 m4, .int .i64 m5, .int .i64 m6, .int .i64 m7, .int .i64 m8, .int .i64 m9, .int .i64 m10, .int .i64 m11] 28)).alloc (.cells #[.int .i64 x, .int .i64 y] 38)).alloc (.cells #[.int .i64 0, .int .i64 0] 38) = W0
    have amW0 : AtL w.heap.size [.int .i64 m0, .int .i64 m1, .int .i64 m2, .int .i64 m3, .int .i64 m4, .int .i64 m5, .int .i64 m6, .int .i64 m7, .int .i64 m8, .int .i64 m9, .int .i64 m10, .int .i64 m11] W0 := by rw [← hW]; exact ((AtL.new w _ _).alloc _).alloc _
    have apW0 : AtL (w.heap.size + 1) [.int .i64 x, .int .i64 y] W0 := by rw [← hW]; exact (AtL.newAt (by simp)).alloc _
    have urW0 : Un (w.heap.size + 1 + 1) [.int .i64 0, .int .i64 0] W0 := by rw [← hW]; exact Un.newAt (by simp)
    have gW0 : Below w.heap.size w W0 := by rw [← hW]; repeat' (first | with_reducible assumption | with_reducible exact Below.refl _ _ | (with_reducible refine Below.setCell ?_ ?_ _) | (with_reducible refine Below.alloc ?_ ?_ _) | (with_reducible refine Below.drew ?_) | (with_reducible refine below_dr ?_ _) | (with_reducible refine Below.trans ?_ (Below.mono (by with_reducible assumption) ?_)) | omega | (simp; done) | (simp; omega))
    clear hW
    have zW0 := urW0.2
    refine (C.out _).mono ?_
    rintro e w1 ⟨rfl, hbw1⟩
    have amw1 : AtL w.heap.size [.int .i64 m0, .int .i64 m1, .int .i64 m2, .int .i64 m3, .int .i64 m4, .int .i64 m5, .int .i64 m6, .int .i64 m7, .int .i64 m8, .int .i64 m9, .int .i64 m10, .int .i64 m11] w1 := by repeat' (first | with_reducible assumption | with_reducible exact AtL.new _ _ _ | ((with_reducible refine AtL.newAt ?_); (first | rfl | (simp; done))) | (with_reducible refine AtL.below ?_ (by with_reducible assumption)) | (with_reducible refine AtL.drew ?_) | (with_reducible refine AtL.alloc ?_ _) | ((with_reducible refine AtL.far ?_ ?_ _ _); omega))
    have apw1 : AtL (w.heap.size + 1) [.int .i64 x, .int .i64 y] w1 := by repeat' (first | with_reducible assumption | with_reducible exact AtL.new _ _ _ | ((with_reducible refine AtL.newAt ?_); (first | rfl | (simp; done))) | (with_reducible refine AtL.below ?_ (by with_reducible assumption)) | (with_reducible refine AtL.drew ?_) | (with_reducible refine AtL.alloc ?_ _) | ((with_reducible refine AtL.far ?_ ?_ _ _); omega))
    have urw1 : Un (w.heap.size + 1 + 1) [.int .i64 0, .int .i64 0] w1 := by repeat' (first | with_reducible assumption | ((with_reducible refine Un.newAt ?_); (first | rfl | (simp; done))) | (with_reducible refine Un.below ?_ (by with_reducible assumption)) | (with_reducible refine Un.drew ?_) | (with_reducible refine Un.alloc ?_ _) | ((with_reducible refine Un.far ?_ ?_ _ _); omega))
    have zw1 := urw1.2
    have gw1 : Below w.heap.size w w1 := by repeat' (first | with_reducible assumption | with_reducible exact Below.refl _ _ | (with_reducible refine Below.setCell ?_ ?_ _) | (with_reducible refine Below.alloc ?_ ?_ _) | (with_reducible refine Below.drew ?_) | (with_reducible refine below_dr ?_ _) | (with_reducible refine Below.trans ?_ (Below.mono (by with_reducible assumption) ?_)) | omega | (simp; done) | (simp; omega))
    clear hbw1 amW0 apW0 urW0 gW0
    have curw10 := urw1.cell 0 rfl
    have curw11 := urw1.cell 1 rfl
    have furw10 := urw1.frozen 0 rfl
    have furw11 := urw1.frozen 1 rfl
    go_wp2_with fail
    have rb := (urw1.at).store2 (a := .int .i64 0) (b := .int .i64 0)
    have r0 := rb.cell 0 rfl
    have r1 := rb.cell 1 rfl
    refine bodyPost_ret (v := .tuple #[.agg #[.int .i64 0, .int .i64 0], .int .i64 1]) (by simp [results, Try.results15, go_sem, r0, r1]) rfl (ARet.no rfl ?_)
    repeat' (first | with_reducible assumption | with_reducible exact Below.refl _ _ | (with_reducible refine Below.setCell ?_ ?_ _) | (with_reducible refine Below.alloc ?_ ?_ _) | (with_reducible refine Below.drew ?_) | (with_reducible refine below_dr ?_ _) | (with_reducible refine Below.trans ?_ (Below.mono (by with_reducible assumption) ?_)) | omega | (simp; done) | (simp; omega))
  rcases hp : okB x y with _ | _
  · rw [hv] at C
    rw [hp] at CP
    clear hv hp
    go_enter Try.func15, Try.ntmps15
    go_wp2_with fail
    generalize hW : ((w.alloc (.cells #[.int .i64 m0, .int .i64 m1, .int .i64 m2, .int .i64 m3, .int .i64 m4, .int .i64 m5, .int .i64 m6, .int .i64 m7, .int .i64 m8, .int .i64 m9, .int .i64 m10, .int .i64 m11] 28)).alloc (.cells #[.int .i64 x, .int .i64 y] 38)).alloc (.cells #[.int .i64 0, .int .i64 0] 38) = W0
    have amW0 : AtL w.heap.size [.int .i64 m0, .int .i64 m1, .int .i64 m2, .int .i64 m3, .int .i64 m4, .int .i64 m5, .int .i64 m6, .int .i64 m7, .int .i64 m8, .int .i64 m9, .int .i64 m10, .int .i64 m11] W0 := by rw [← hW]; exact ((AtL.new w _ _).alloc _).alloc _
    have apW0 : AtL (w.heap.size + 1) [.int .i64 x, .int .i64 y] W0 := by rw [← hW]; exact (AtL.newAt (by simp)).alloc _
    have urW0 : Un (w.heap.size + 1 + 1) [.int .i64 0, .int .i64 0] W0 := by rw [← hW]; exact Un.newAt (by simp)
    have gW0 : Below w.heap.size w W0 := by rw [← hW]; repeat' (first | with_reducible assumption | with_reducible exact Below.refl _ _ | (with_reducible refine Below.setCell ?_ ?_ _) | (with_reducible refine Below.alloc ?_ ?_ _) | (with_reducible refine Below.drew ?_) | (with_reducible refine below_dr ?_ _) | (with_reducible refine Below.trans ?_ (Below.mono (by with_reducible assumption) ?_)) | omega | (simp; done) | (simp; omega))
    clear hW
    have zW0 := urW0.2
    refine (C.out _).mono ?_
    rintro e w1 ⟨rfl, hbw1⟩
    have amw1 : AtL w.heap.size [.int .i64 m0, .int .i64 m1, .int .i64 m2, .int .i64 m3, .int .i64 m4, .int .i64 m5, .int .i64 m6, .int .i64 m7, .int .i64 m8, .int .i64 m9, .int .i64 m10, .int .i64 m11] w1 := by repeat' (first | with_reducible assumption | with_reducible exact AtL.new _ _ _ | ((with_reducible refine AtL.newAt ?_); (first | rfl | (simp; done))) | (with_reducible refine AtL.below ?_ (by with_reducible assumption)) | (with_reducible refine AtL.drew ?_) | (with_reducible refine AtL.alloc ?_ _) | ((with_reducible refine AtL.far ?_ ?_ _ _); omega))
    have apw1 : AtL (w.heap.size + 1) [.int .i64 x, .int .i64 y] w1 := by repeat' (first | with_reducible assumption | with_reducible exact AtL.new _ _ _ | ((with_reducible refine AtL.newAt ?_); (first | rfl | (simp; done))) | (with_reducible refine AtL.below ?_ (by with_reducible assumption)) | (with_reducible refine AtL.drew ?_) | (with_reducible refine AtL.alloc ?_ _) | ((with_reducible refine AtL.far ?_ ?_ _ _); omega))
    have urw1 : Un (w.heap.size + 1 + 1) [.int .i64 0, .int .i64 0] w1 := by repeat' (first | with_reducible assumption | ((with_reducible refine Un.newAt ?_); (first | rfl | (simp; done))) | (with_reducible refine Un.below ?_ (by with_reducible assumption)) | (with_reducible refine Un.drew ?_) | (with_reducible refine Un.alloc ?_ _) | ((with_reducible refine Un.far ?_ ?_ _ _); omega))
    have zw1 := urw1.2
    have gw1 : Below w.heap.size w w1 := by repeat' (first | with_reducible assumption | with_reducible exact Below.refl _ _ | (with_reducible refine Below.setCell ?_ ?_ _) | (with_reducible refine Below.alloc ?_ ?_ _) | (with_reducible refine Below.drew ?_) | (with_reducible refine below_dr ?_ _) | (with_reducible refine Below.trans ?_ (Below.mono (by with_reducible assumption) ?_)) | omega | (simp; done) | (simp; omega))
    clear hbw1 amW0 apW0 urW0 gW0
    have curw10 := urw1.cell 0 rfl
    have curw11 := urw1.cell 1 rfl
    have furw10 := urw1.frozen 0 rfl
    have furw11 := urw1.frozen 1 rfl
    have p0 := apw1.cell 0 rfl
    have p1 := apw1.cell 1 rfl
    have lp := apw1.lt
    go_wp2_with fail
    refine (CP.out _).mono ?_
    rintro e w2 ⟨rfl, hbw2⟩
    have amw2 : AtL w.heap.size [.int .i64 m0, .int .i64 m1, .int .i64 m2, .int .i64 m3, .int .i64 m4, .int .i64 m5, .int .i64 m6, .int .i64 m7, .int .i64 m8, .int .i64 m9, .int .i64 m10, .int .i64 m11] w2 := by repeat' (first | with_reducible assumption | with_reducible exact AtL.new _ _ _ | ((with_reducible refine AtL.newAt ?_); (first | rfl | (simp; done))) | (with_reducible refine AtL.below ?_ (by with_reducible assumption)) | (with_reducible refine AtL.drew ?_) | (with_reducible refine AtL.alloc ?_ _) | ((with_reducible refine AtL.far ?_ ?_ _ _); omega))
    have apw2 : AtL (w.heap.size + 1) [.int .i64 x, .int .i64 y] w2 := by repeat' (first | with_reducible assumption | with_reducible exact AtL.new _ _ _ | ((with_reducible refine AtL.newAt ?_); (first | rfl | (simp; done))) | (with_reducible refine AtL.below ?_ (by with_reducible assumption)) | (with_reducible refine AtL.drew ?_) | (with_reducible refine AtL.alloc ?_ _) | ((with_reducible refine AtL.far ?_ ?_ _ _); omega))
    have urw2 : Un (w.heap.size + 1 + 1) [.int .i64 0, .int .i64 0] w2 := by repeat' (first | with_reducible assumption | ((with_reducible refine Un.newAt ?_); (first | rfl | (simp; done))) | (with_reducible refine Un.below ?_ (by with_reducible assumption)) | (with_reducible refine Un.drew ?_) | (with_reducible refine Un.alloc ?_ _) | ((with_reducible refine Un.far ?_ ?_ _ _); omega))
    have zw2 := urw2.2
    have gw2 : Below w.heap.size w w2 := by repeat' (first | with_reducible assumption | with_reducible exact Below.refl _ _ | (with_reducible refine Below.setCell ?_ ?_ _) | (with_reducible refine Below.alloc ?_ ?_ _) | (with_reducible refine Below.drew ?_) | (with_reducible refine below_dr ?_ _) | (with_reducible refine Below.trans ?_ (Below.mono (by with_reducible assumption) ?_)) | omega | (simp; done) | (simp; omega))
    clear hbw2 amw1 apw1 urw1 gw1 p0 p1 lp curw10 furw10 curw11 furw11
    have curw20 := urw2.cell 0 rfl
    have curw21 := urw2.cell 1 rfl
    have furw20 := urw2.frozen 0 rfl
    have furw21 := urw2.frozen 1 rfl
    go_wp2_with fail
    have rb := (urw2.at).store2 (a := .int .i64 0) (b := .int .i64 0)
    have r0 := rb.cell 0 rfl
    have r1 := rb.cell 1 rfl
    refine bodyPost_ret (v := .tuple #[.agg #[.int .i64 0, .int .i64 0], .int .i64 1]) (by simp [results, Try.results15, go_sem, r0, r1]) rfl (ARet.no rfl ?_)
    repeat' (first | with_reducible assumption | with_reducible exact Below.refl _ _ | (with_reducible refine Below.setCell ?_ ?_ _) | (with_reducible refine Below.alloc ?_ ?_ _) | (with_reducible refine Below.drew ?_) | (with_reducible refine below_dr ?_ _) | (with_reducible refine Below.trans ?_ (Below.mono (by with_reducible assumption) ?_)) | omega | (simp; done) | (simp; omega))
  have hpp := okB_bounds hp
  obtain ⟨k1, k2, k3, k4⟩ := hpp
  obtain ⟨v0, v1, v2, v3, v4, v5⟩ := validA_parts hv
  have CG := Lib.hid (fun w => grid_any m0 m1 m2 m3 m4 m5 m6 m7 m8 m9 m10 m11 w)
  have CO0 := fun rb w (at0 : AtL rb [.int .i64 m0, .int .i64 m1, .int .i64 m2, .int .i64 m3, .int .i64 m8, .int .i64 m9] w) => over1_v m0 m1 m2 m3 m8 m9 x 1 y 1 1 1 rb w v0 v1 v4 (whole_valid k1 k2) (whole_valid k3 k4) (by decide) at0.lt (at0.cell 0 rfl) (at0.cell 1 rfl) (at0.cell 2 rfl) (at0.cell 3 rfl) (at0.cell 4 rfl) (at0.cell 5 rfl)
  have CO1 := fun rb w (at0 : AtL rb [.int .i64 m4, .int .i64 m5, .int .i64 m6, .int .i64 m7, .int .i64 m10, .int .i64 m11] w) => over1_v m4 m5 m6 m7 m10 m11 x 1 y 1 1 1 rb w v2 v3 v5 (whole_valid k1 k2) (whole_valid k3 k4) (by decide) at0.lt (at0.cell 0 rfl) (at0.cell 1 rfl) (at0.cell 2 rfl) (at0.cell 3 rfl) (at0.cell 4 rfl) (at0.cell 5 rfl)
  simp only [row_is v4] at CO0
  simp only [row_is v5] at CO1
  have hokX : okF (rowF m0 m1 m2 m3 m8 m9 x y) := plusF_ok
  have hokY : okF (rowF m4 m5 m6 m7 m10 m11 x y) := plusF_ok
  have CRX := Lib.hid (fun w => implRowN hokX w)
  have CRY := Lib.hid (fun w => implRowN hokY w)
  have hkk : appK m0 m1 m2 m3 m4 m5 m6 m7 m8 m9 m10 m11 x y = (decide (oC (rowF m0 m1 m2 m3 m8 m9 x y) = 0) && decide (oC (rowF m4 m5 m6 m7 m10 m11 x y) = 0) && okB (rowN (rowF m0 m1 m2 m3 m8 m9 x y)) (rowN (rowF m4 m5 m6 m7 m10 m11 x y))) := rfl
  rw [hkk]
  clear hkk hokX hokY
  unfold FRet at CO0 CO1
  generalize (rowF m0 m1 m2 m3 m8 m9 x y) = oX at *
  generalize (rowF m4 m5 m6 m7 m10 m11 x y) = oY at *
  rw [hv] at C
  rw [hp] at CP
  clear hv hp v0 v1 v2 v3 v4 v5 k1 k2 k3 k4
  have H0 := Lib.hid CO0
  have H1 := Lib.hid CO1
  clear CO0 CO1
  obtain ⟨X, hX⟩ : ∃ X, X = rowN oX := ⟨_, rfl⟩
  obtain ⟨Y, hY⟩ : ∃ Y, Y = rowN oY := ⟨_, rfl⟩
  rw [← hX] at CRX ⊢
  rw [← hY] at CRY ⊢
  clear hX hY
  obtain ⟨cx, hcx⟩ : ∃ c, c = oC oX := ⟨_, rfl⟩
  obtain ⟨cy, hcy⟩ : ∃ c, c = oC oY := ⟨_, rfl⟩
  have hcx2 := oC_is oX
  have hcy2 := oC_is oY
  rw [← hcx] at H0 hcx2 ⊢
  rw [← hcy] at H1 hcy2 ⊢
  clear hcx hcy
  obtain ⟨nX, hnX⟩ : ∃ c, c = oN oX := ⟨_, rfl⟩
  obtain ⟨dX, hdX⟩ : ∃ c, c = oD oX := ⟨_, rfl⟩
  obtain ⟨nY, hnY⟩ : ∃ c, c = oN oY := ⟨_, rfl⟩
  obtain ⟨dY, hdY⟩ : ∃ c, c = oD oY := ⟨_, rfl⟩
  rw [← hnX, ← hdX] at H0 CRX
  rw [← hnY, ← hdY] at H1 CRY
  clear hnX hdX hnY hdY
  go_enter Try.func15, Try.ntmps15
  go_wp2_with fail
  generalize hW : ((w.alloc (.cells #[.int .i64 m0, .int .i64 m1, .int .i64 m2, .int .i64 m3, .int .i64 m4, .int .i64 m5, .int .i64 m6, .int .i64 m7, .int .i64 m8, .int .i64 m9, .int .i64 m10, .int .i64 m11] 28)).alloc (.cells #[.int .i64 x, .int .i64 y] 38)).alloc (.cells #[.int .i64 0, .int .i64 0] 38) = W0
  have amW0 : AtL w.heap.size [.int .i64 m0, .int .i64 m1, .int .i64 m2, .int .i64 m3, .int .i64 m4, .int .i64 m5, .int .i64 m6, .int .i64 m7, .int .i64 m8, .int .i64 m9, .int .i64 m10, .int .i64 m11] W0 := by rw [← hW]; exact ((AtL.new w _ _).alloc _).alloc _
  have apW0 : AtL (w.heap.size + 1) [.int .i64 x, .int .i64 y] W0 := by rw [← hW]; exact (AtL.newAt (by simp)).alloc _
  have urW0 : Un (w.heap.size + 1 + 1) [.int .i64 0, .int .i64 0] W0 := by rw [← hW]; exact Un.newAt (by simp)
  have gW0 : Below w.heap.size w W0 := by rw [← hW]; repeat' (first | with_reducible assumption | with_reducible exact Below.refl _ _ | (with_reducible refine Below.setCell ?_ ?_ _) | (with_reducible refine Below.alloc ?_ ?_ _) | (with_reducible refine Below.drew ?_) | (with_reducible refine below_dr ?_ _) | (with_reducible refine Below.trans ?_ (Below.mono (by with_reducible assumption) ?_)) | omega | (simp; done) | (simp; omega))
  clear hW
  have zW0 := urW0.2
  refine (C.out _).mono ?_
  rintro e w1 ⟨rfl, hbw1⟩
  have amw1 : AtL w.heap.size [.int .i64 m0, .int .i64 m1, .int .i64 m2, .int .i64 m3, .int .i64 m4, .int .i64 m5, .int .i64 m6, .int .i64 m7, .int .i64 m8, .int .i64 m9, .int .i64 m10, .int .i64 m11] w1 := by repeat' (first | with_reducible assumption | with_reducible exact AtL.new _ _ _ | ((with_reducible refine AtL.newAt ?_); (first | rfl | (simp; done))) | (with_reducible refine AtL.below ?_ (by with_reducible assumption)) | (with_reducible refine AtL.drew ?_) | (with_reducible refine AtL.alloc ?_ _) | ((with_reducible refine AtL.far ?_ ?_ _ _); omega))
  have apw1 : AtL (w.heap.size + 1) [.int .i64 x, .int .i64 y] w1 := by repeat' (first | with_reducible assumption | with_reducible exact AtL.new _ _ _ | ((with_reducible refine AtL.newAt ?_); (first | rfl | (simp; done))) | (with_reducible refine AtL.below ?_ (by with_reducible assumption)) | (with_reducible refine AtL.drew ?_) | (with_reducible refine AtL.alloc ?_ _) | ((with_reducible refine AtL.far ?_ ?_ _ _); omega))
  have urw1 : Un (w.heap.size + 1 + 1) [.int .i64 0, .int .i64 0] w1 := by repeat' (first | with_reducible assumption | ((with_reducible refine Un.newAt ?_); (first | rfl | (simp; done))) | (with_reducible refine Un.below ?_ (by with_reducible assumption)) | (with_reducible refine Un.drew ?_) | (with_reducible refine Un.alloc ?_ _) | ((with_reducible refine Un.far ?_ ?_ _ _); omega))
  have zw1 := urw1.2
  have gw1 : Below w.heap.size w w1 := by repeat' (first | with_reducible assumption | with_reducible exact Below.refl _ _ | (with_reducible refine Below.setCell ?_ ?_ _) | (with_reducible refine Below.alloc ?_ ?_ _) | (with_reducible refine Below.drew ?_) | (with_reducible refine below_dr ?_ _) | (with_reducible refine Below.trans ?_ (Below.mono (by with_reducible assumption) ?_)) | omega | (simp; done) | (simp; omega))
  clear hbw1 amW0 apW0 urW0 gW0
  have curw10 := urw1.cell 0 rfl
  have curw11 := urw1.cell 1 rfl
  have furw10 := urw1.frozen 0 rfl
  have furw11 := urw1.frozen 1 rfl
  have p0 := apw1.cell 0 rfl
  have p1 := apw1.cell 1 rfl
  have lp := apw1.lt
  go_wp2_with fail
  refine (CP.out _).mono ?_
  rintro e w2 ⟨rfl, hbw2⟩
  have amw2 : AtL w.heap.size [.int .i64 m0, .int .i64 m1, .int .i64 m2, .int .i64 m3, .int .i64 m4, .int .i64 m5, .int .i64 m6, .int .i64 m7, .int .i64 m8, .int .i64 m9, .int .i64 m10, .int .i64 m11] w2 := by repeat' (first | with_reducible assumption | with_reducible exact AtL.new _ _ _ | ((with_reducible refine AtL.newAt ?_); (first | rfl | (simp; done))) | (with_reducible refine AtL.below ?_ (by with_reducible assumption)) | (with_reducible refine AtL.drew ?_) | (with_reducible refine AtL.alloc ?_ _) | ((with_reducible refine AtL.far ?_ ?_ _ _); omega))
  have apw2 : AtL (w.heap.size + 1) [.int .i64 x, .int .i64 y] w2 := by repeat' (first | with_reducible assumption | with_reducible exact AtL.new _ _ _ | ((with_reducible refine AtL.newAt ?_); (first | rfl | (simp; done))) | (with_reducible refine AtL.below ?_ (by with_reducible assumption)) | (with_reducible refine AtL.drew ?_) | (with_reducible refine AtL.alloc ?_ _) | ((with_reducible refine AtL.far ?_ ?_ _ _); omega))
  have urw2 : Un (w.heap.size + 1 + 1) [.int .i64 0, .int .i64 0] w2 := by repeat' (first | with_reducible assumption | ((with_reducible refine Un.newAt ?_); (first | rfl | (simp; done))) | (with_reducible refine Un.below ?_ (by with_reducible assumption)) | (with_reducible refine Un.drew ?_) | (with_reducible refine Un.alloc ?_ _) | ((with_reducible refine Un.far ?_ ?_ _ _); omega))
  have zw2 := urw2.2
  have gw2 : Below w.heap.size w w2 := by repeat' (first | with_reducible assumption | with_reducible exact Below.refl _ _ | (with_reducible refine Below.setCell ?_ ?_ _) | (with_reducible refine Below.alloc ?_ ?_ _) | (with_reducible refine Below.drew ?_) | (with_reducible refine below_dr ?_ _) | (with_reducible refine Below.trans ?_ (Below.mono (by with_reducible assumption) ?_)) | omega | (simp; done) | (simp; omega))
  clear hbw2 amw1 apw1 urw1 gw1 p0 p1 lp curw10 furw10 curw11 furw11
  have curw20 := urw2.cell 0 rfl
  have curw21 := urw2.cell 1 rfl
  have furw20 := urw2.frozen 0 rfl
  have furw21 := urw2.frozen 1 rfl
  go_wp2_with fail
  generalize hW : w2.alloc (.cells #[.int .i64 0, .int .i64 0] 93) = WL
  obtain ⟨B6, hB6⟩ : ∃ B6, B6 = w2.heap.size := ⟨_, rfl⟩
  have amWL : AtL w.heap.size [.int .i64 m0, .int .i64 m1, .int .i64 m2, .int .i64 m3, .int .i64 m4, .int .i64 m5, .int .i64 m6, .int .i64 m7, .int .i64 m8, .int .i64 m9, .int .i64 m10, .int .i64 m11] WL := by rw [← hW]; exact amw2.alloc _
  have apWL : AtL (w.heap.size + 1) [.int .i64 x, .int .i64 y] WL := by rw [← hW]; exact apw2.alloc _
  have urWL : Un (w.heap.size + 1 + 1) [.int .i64 0, .int .i64 0] WL := by rw [← hW]; exact urw2.alloc _
  have umWL : Un B6 [.int .i64 0, .int .i64 0] WL := by rw [← hW]; exact Un.newAt hB6
  have gWL : Below w.heap.size w WL := by rw [← hW]; repeat' (first | with_reducible assumption | with_reducible exact Below.refl _ _ | (with_reducible refine Below.setCell ?_ ?_ _) | (with_reducible refine Below.alloc ?_ ?_ _) | (with_reducible refine Below.drew ?_) | (with_reducible refine below_dr ?_ _) | (with_reducible refine Below.trans ?_ (Below.mono (by with_reducible assumption) ?_)) | omega | (simp; done) | (simp; omega))
  have hB6R : w.heap.size + 1 + 1 < B6 := by omega
  rw [← hB6]
  clear hW hB6 amw2 apw2 urw2 gw2 zw2 curw20 curw21 furw20 furw21
  have zWL := urWL.2
  refine wp_loop_rounds 3 ?_
  rw [rounds_succ]
  have qWL0 := amWL.cell 0 rfl
  have qWL1 := amWL.cell 1 rfl
  have qWL2 := amWL.cell 2 rfl
  have qWL3 := amWL.cell 3 rfl
  have qWL4 := amWL.cell 4 rfl
  have qWL5 := amWL.cell 5 rfl
  have qWL6 := amWL.cell 6 rfl
  have qWL7 := amWL.cell 7 rfl
  have qWL8 := amWL.cell 8 rfl
  have qWL9 := amWL.cell 9 rfl
  have qWL10 := amWL.cell 10 rfl
  have qWL11 := amWL.cell 11 rfl
  have eWL0 := apWL.cell 0 rfl
  have eWL1 := apWL.cell 1 rfl
  have lWL := amWL.lt
  have lpWL := apWL.lt
  have hrow := grid_row0 m0 m1 m2 m3 m4 m5 m6 m7 m8 m9 m10 m11
  go_upto_region 7 with fail
  go_cut [8, 9] (fun u8 u9 wx => LeftP [.int .i64 nX, .int .i64 dX] u8 wx ∧ u9 = .int .i64 cx ∧ Below WL.heap.size WL wx)
  case first =>
    go_region_held3 (fun w' => (∀ b o, b < WL.heap.size → w'.cell? ⟨b, o, none⟩ = WL.cell? ⟨b, o, none⟩) ∧ WL.heap.size ≤ w'.heap.size)
      (first | ((try dsimp only); exact ⟨fun b o h => (by (repeat (first | with_reducible exact rfl | (with_reducible refine (cell_drew_at _ _).trans ?_) | (with_reducible refine (cell_set_at _ _ (by first | omega | (simp; done) | (simp; omega))).trans ?_) | (with_reducible refine (cell_alloc_at _ _ (by first | omega | (simp; done) | (simp; omega))).trans ?_) | (with_reducible refine (hcwG b o (by first | omega | (simp; done) | (simp; omega))).trans ?_) | (with_reducible refine (hcwF b o (by first | omega | (simp; done) | (simp; omega))).trans ?_)))), (by first | omega | (simp; done) | (simp; omega))⟩) | fail)
      (first
        | (go_at_call 26; (with_reducible refine (CG.out _).mono ?_); rintro e wG ⟨rfl, hbwG⟩; obtain ⟨hcwG, hfwG⟩ := bcell hbwG; have hzwG := hbwG.size; (try simp only [World.size_drew] at hcwG hfwG hzwG); (try simp only [World.size_alloc] at hcwG hfwG hzwG); (try have qqWLwG : WL.heap.size < wG.heap.size := by omega); (try (refine withFact (p := wG.cell? ⟨WL.heap.size, 0, none⟩ = some (.int .i64 0)) ?_ ?_; (focus ((repeat (first | with_reducible assumption | (with_reducible refine (cell_drew_at _ _).trans ?_) | (with_reducible refine (hcwG _ _ (by first | omega | (simp; done) | (simp; omega))).trans ?_) | (with_reducible refine (cell_alloc_at _ _ (by first | omega | (simp; done) | (simp; omega))).trans ?_))); (try (simp [go_sem]; done)); done)); intro twG0)); (try (refine withFact (p := wG.cell? ⟨WL.heap.size, 1, none⟩ = some (.int .i64 0)) ?_ ?_; (focus ((repeat (first | with_reducible assumption | (with_reducible refine (cell_drew_at _ _).trans ?_) | (with_reducible refine (hcwG _ _ (by first | omega | (simp; done) | (simp; omega))).trans ?_) | (with_reducible refine (cell_alloc_at _ _ (by first | omega | (simp; done) | (simp; omega))).trans ?_))); (try (simp [go_sem]; done)); done)); intro twG1)); (try (refine withFact (p := wG.frozen? ⟨WL.heap.size, 0, none⟩ = false) ?_ ?_; (focus ((repeat (first | with_reducible assumption | (with_reducible refine (frozen_drew_at _ _).trans ?_) | (with_reducible refine (hfwG _ _ (by first | omega | (simp; done) | (simp; omega))).trans ?_) | (with_reducible refine (frozen_alloc_at _ _ (by first | omega | (simp; done) | (simp; omega))).trans ?_))); (try (simp [go_sem]; done)); done)); intro tfwG0)); (try (refine withFact (p := wG.frozen? ⟨WL.heap.size, 1, none⟩ = false) ?_ ?_; (focus ((repeat (first | with_reducible assumption | (with_reducible refine (frozen_drew_at _ _).trans ?_) | (with_reducible refine (hfwG _ _ (by first | omega | (simp; done) | (simp; omega))).trans ?_) | (with_reducible refine (frozen_alloc_at _ _ (by first | omega | (simp; done) | (simp; omega))).trans ?_))); (try (simp [go_sem]; done)); done)); intro tfwG1)))
        | (go_at_call 40; (with_reducible refine (overRow_x _ _ _ _ _ _ _).mono ?_); rintro e wO ⟨rfl, rfl⟩)
        | (go_at_call 36; (with_reducible refine (whole_any _ _).mono ?_); rintro e wW ⟨rfl, rfl⟩)
        | (go_at_call 68; (with_reducible refine (H0.out _ _ ?_).mono ?_); (focus (repeat' (first | with_reducible assumption | with_reducible exact AtL.new _ _ _ | ((with_reducible refine AtL.newAt ?_); (first | rfl | (simp; done))) | (with_reducible refine AtL.below ?_ (by with_reducible assumption)) | (with_reducible refine AtL.drew ?_) | (with_reducible refine AtL.alloc ?_ _) | ((with_reducible refine AtL.far ?_ ?_ _ _); omega)))); rintro e wF ⟨rfl, hbwF⟩; obtain ⟨hcwF, hfwF⟩ := bcell hbwF; have hzwF := hbwF.size; (try simp only [World.size_drew] at hcwF hfwF hzwF); (try simp only [World.size_alloc] at hcwF hfwF hzwF); (try have qqWLwF : WL.heap.size < wF.heap.size := by omega); (try have qqwGwF : wG.heap.size < wF.heap.size := by omega); (try (refine withFact (p := wF.cell? ⟨WL.heap.size, 0, none⟩ = some (.int .i64 0)) ?_ ?_; (focus ((repeat (first | with_reducible assumption | (with_reducible refine (cell_drew_at _ _).trans ?_) | (with_reducible refine (hcwF _ _ (by first | omega | (simp; done) | (simp; omega))).trans ?_) | (with_reducible refine (cell_alloc_at _ _ (by first | omega | (simp; done) | (simp; omega))).trans ?_))); (try (simp [go_sem]; done)); done)); intro twF0)); (try (refine withFact (p := wF.cell? ⟨WL.heap.size, 1, none⟩ = some (.int .i64 0)) ?_ ?_; (focus ((repeat (first | with_reducible assumption | (with_reducible refine (cell_drew_at _ _).trans ?_) | (with_reducible refine (hcwF _ _ (by first | omega | (simp; done) | (simp; omega))).trans ?_) | (with_reducible refine (cell_alloc_at _ _ (by first | omega | (simp; done) | (simp; omega))).trans ?_))); (try (simp [go_sem]; done)); done)); intro twF1)); (try (refine withFact (p := wF.frozen? ⟨WL.heap.size, 0, none⟩ = false) ?_ ?_; (focus ((repeat (first | with_reducible assumption | (with_reducible refine (frozen_drew_at _ _).trans ?_) | (with_reducible refine (hfwF _ _ (by first | omega | (simp; done) | (simp; omega))).trans ?_) | (with_reducible refine (frozen_alloc_at _ _ (by first | omega | (simp; done) | (simp; omega))).trans ?_))); (try (simp [go_sem]; done)); done)); intro tfwF0)); (try (refine withFact (p := wF.frozen? ⟨WL.heap.size, 1, none⟩ = false) ?_ ?_; (focus ((repeat (first | with_reducible assumption | (with_reducible refine (frozen_drew_at _ _).trans ?_) | (with_reducible refine (hfwF _ _ (by first | omega | (simp; done) | (simp; omega))).trans ?_) | (with_reducible refine (frozen_alloc_at _ _ (by first | omega | (simp; done) | (simp; omega))).trans ?_))); (try (simp [go_sem]; done)); done)); intro tfwF1))))
    all_goals
      go_wp2_with fail
      go_meet
    all_goals exact ⟨⟨_, rfl, by repeat' (first | ((with_reducible refine AtL.newAt ?_); (first | rfl | (simp; done))) | with_reducible assumption | with_reducible exact AtL.new _ _ _ | (with_reducible refine AtL.drew ?_) | (with_reducible apply AtL.store2) | (with_reducible refine AtL.alloc ?_ _) | (with_reducible refine AtL.far ?_ ?_ _ _) | (with_reducible refine AtL.below ?_ (by with_reducible assumption)) | omega | (simp; done) | (simp; omega))⟩, rfl, by repeat' (first | with_reducible assumption | with_reducible exact Below.refl _ _ | (with_reducible refine Below.setCell ?_ ?_ _) | (with_reducible refine Below.alloc ?_ ?_ _) | (with_reducible refine Below.drew ?_) | (with_reducible refine below_dr ?_ _) | (with_reducible refine Below.trans ?_ (Below.mono (by with_reducible assumption) ?_)) | omega | (simp; done) | (simp; omega))⟩
  case rest =>
    obtain ⟨⟨g8, rfl, at8⟩, rfl, hbx⟩ := hcut
    have p80 := at8.cell 0 rfl
    have p81 := at8.cell 1 rfl
    have l8 := at8.lt
    have amwc : AtL w.heap.size [.int .i64 m0, .int .i64 m1, .int .i64 m2, .int .i64 m3, .int .i64 m4, .int .i64 m5, .int .i64 m6, .int .i64 m7, .int .i64 m8, .int .i64 m9, .int .i64 m10, .int .i64 m11] wc := by repeat' (first | with_reducible assumption | with_reducible exact AtL.new _ _ _ | ((with_reducible refine AtL.newAt ?_); (first | rfl | (simp; done))) | (with_reducible refine AtL.below ?_ (by with_reducible assumption)) | (with_reducible refine AtL.drew ?_) | (with_reducible refine AtL.alloc ?_ _) | ((with_reducible refine AtL.far ?_ ?_ _ _); omega))
    have apwc : AtL (w.heap.size + 1) [.int .i64 x, .int .i64 y] wc := by repeat' (first | with_reducible assumption | with_reducible exact AtL.new _ _ _ | ((with_reducible refine AtL.newAt ?_); (first | rfl | (simp; done))) | (with_reducible refine AtL.below ?_ (by with_reducible assumption)) | (with_reducible refine AtL.drew ?_) | (with_reducible refine AtL.alloc ?_ _) | ((with_reducible refine AtL.far ?_ ?_ _ _); omega))
    have urwc : Un (w.heap.size + 1 + 1) [.int .i64 0, .int .i64 0] wc := by repeat' (first | with_reducible assumption | ((with_reducible refine Un.newAt ?_); (first | rfl | (simp; done))) | (with_reducible refine Un.below ?_ (by with_reducible assumption)) | (with_reducible refine Un.drew ?_) | (with_reducible refine Un.alloc ?_ _) | ((with_reducible refine Un.far ?_ ?_ _ _); omega))
    have umwc : Un B6 [.int .i64 0, .int .i64 0] wc := by repeat' (first | with_reducible assumption | ((with_reducible refine Un.newAt ?_); (first | rfl | (simp; done))) | (with_reducible refine Un.below ?_ (by with_reducible assumption)) | (with_reducible refine Un.drew ?_) | (with_reducible refine Un.alloc ?_ _) | ((with_reducible refine Un.far ?_ ?_ _ _); omega))
    have zwc := urwc.2
    have gwc : Below w.heap.size w wc := by repeat' (first | with_reducible assumption | with_reducible exact Below.refl _ _ | (with_reducible refine Below.setCell ?_ ?_ _) | (with_reducible refine Below.alloc ?_ ?_ _) | (with_reducible refine Below.drew ?_) | (with_reducible refine below_dr ?_ _) | (with_reducible refine Below.trans ?_ (Below.mono (by with_reducible assumption) ?_)) | omega | (simp; done) | (simp; omega))
    clear hbx hrow amWL apWL urWL umWL gWL zWL lWL lpWL qWL0 qWL1 qWL2 qWL3 qWL4 qWL5 qWL6 qWL7 qWL8 qWL9 qWL10 qWL11 eWL0 eWL1
    have curwc0 := urwc.cell 0 rfl
    have curwc1 := urwc.cell 1 rfl
    have furwc0 := urwc.frozen 0 rfl
    have furwc1 := urwc.frozen 1 rfl
    rcases hcx2 with rfl | ⟨rfl, -⟩
    · have e2 : (0 : Int) = 0 := rfl
      go_wp2_with fail
      refine (CRX.out _).mono ?_
      rintro e w3 ⟨rfl, hbw3⟩
      have amw3 : AtL w.heap.size [.int .i64 m0, .int .i64 m1, .int .i64 m2, .int .i64 m3, .int .i64 m4, .int .i64 m5, .int .i64 m6, .int .i64 m7, .int .i64 m8, .int .i64 m9, .int .i64 m10, .int .i64 m11] w3 := by repeat' (first | with_reducible assumption | with_reducible exact AtL.new _ _ _ | ((with_reducible refine AtL.newAt ?_); (first | rfl | (simp; done))) | (with_reducible refine AtL.below ?_ (by with_reducible assumption)) | (with_reducible refine AtL.drew ?_) | (with_reducible refine AtL.alloc ?_ _) | ((with_reducible refine AtL.far ?_ ?_ _ _); omega))
      have apw3 : AtL (w.heap.size + 1) [.int .i64 x, .int .i64 y] w3 := by repeat' (first | with_reducible assumption | with_reducible exact AtL.new _ _ _ | ((with_reducible refine AtL.newAt ?_); (first | rfl | (simp; done))) | (with_reducible refine AtL.below ?_ (by with_reducible assumption)) | (with_reducible refine AtL.drew ?_) | (with_reducible refine AtL.alloc ?_ _) | ((with_reducible refine AtL.far ?_ ?_ _ _); omega))
      have urw3 : Un (w.heap.size + 1 + 1) [.int .i64 0, .int .i64 0] w3 := by repeat' (first | with_reducible assumption | ((with_reducible refine Un.newAt ?_); (first | rfl | (simp; done))) | (with_reducible refine Un.below ?_ (by with_reducible assumption)) | (with_reducible refine Un.drew ?_) | (with_reducible refine Un.alloc ?_ _) | ((with_reducible refine Un.far ?_ ?_ _ _); omega))
      have umw3 : Un B6 [.int .i64 0, .int .i64 0] w3 := by repeat' (first | with_reducible assumption | ((with_reducible refine Un.newAt ?_); (first | rfl | (simp; done))) | (with_reducible refine Un.below ?_ (by with_reducible assumption)) | (with_reducible refine Un.drew ?_) | (with_reducible refine Un.alloc ?_ _) | ((with_reducible refine Un.far ?_ ?_ _ _); omega))
      have zw3 := urw3.2
      have gw3 : Below w.heap.size w w3 := by repeat' (first | with_reducible assumption | with_reducible exact Below.refl _ _ | (with_reducible refine Below.setCell ?_ ?_ _) | (with_reducible refine Below.alloc ?_ ?_ _) | (with_reducible refine Below.drew ?_) | (with_reducible refine below_dr ?_ _) | (with_reducible refine Below.trans ?_ (Below.mono (by with_reducible assumption) ?_)) | omega | (simp; done) | (simp; omega))
      clear hbw3 amwc apwc urwc umwc gwc zwc at8 p80 p81 l8 curwc0 furwc0 curwc1 furwc1
      have m0c := umw3.cell 0 rfl
      have m0f := umw3.frozen 0 rfl
      have lm := umw3.2
      go_wp2_with fail
      generalize hW : w3.setCell ⟨B6, 0, none⟩ (.int .i64 X) = WM
      have amWM : AtL w.heap.size [.int .i64 m0, .int .i64 m1, .int .i64 m2, .int .i64 m3, .int .i64 m4, .int .i64 m5, .int .i64 m6, .int .i64 m7, .int .i64 m8, .int .i64 m9, .int .i64 m10, .int .i64 m11] WM := by rw [← hW]; exact amw3.far (by omega) _ _
      have apWM : AtL (w.heap.size + 1) [.int .i64 x, .int .i64 y] WM := by rw [← hW]; exact apw3.far (by omega) _ _
      have urWM : Un (w.heap.size + 1 + 1) [.int .i64 0, .int .i64 0] WM := by rw [← hW]; exact urw3.far (by omega) _ _
      have umWM : Un B6 [.int .i64 X, .int .i64 0] WM := by rw [← hW]; exact umw3.set 0 _
      have gWM : Below w.heap.size w WM := by rw [← hW]; repeat' (first | with_reducible assumption | with_reducible exact Below.refl _ _ | (with_reducible refine Below.setCell ?_ ?_ _) | (with_reducible refine Below.alloc ?_ ?_ _) | (with_reducible refine Below.drew ?_) | (with_reducible refine below_dr ?_ _) | (with_reducible refine Below.trans ?_ (Below.mono (by with_reducible assumption) ?_)) | omega | (simp; done) | (simp; omega))
      clear hW m0c m0f lm amw3 apw3 urw3 umw3 gw3 zw3
      have zWM := urWM.2
      rw [rounds_succ]
      have qWM0 := amWM.cell 0 rfl
      have qWM1 := amWM.cell 1 rfl
      have qWM2 := amWM.cell 2 rfl
      have qWM3 := amWM.cell 3 rfl
      have qWM4 := amWM.cell 4 rfl
      have qWM5 := amWM.cell 5 rfl
      have qWM6 := amWM.cell 6 rfl
      have qWM7 := amWM.cell 7 rfl
      have qWM8 := amWM.cell 8 rfl
      have qWM9 := amWM.cell 9 rfl
      have qWM10 := amWM.cell 10 rfl
      have qWM11 := amWM.cell 11 rfl
      have eWM0 := apWM.cell 0 rfl
      have eWM1 := apWM.cell 1 rfl
      have lWM := amWM.lt
      have lpWM := apWM.lt
      have hrow := grid_row1 m0 m1 m2 m3 m4 m5 m6 m7 m8 m9 m10 m11
      go_upto_region 7 with fail
      go_cut [8, 9] (fun u8 u9 wx => LeftP [.int .i64 nY, .int .i64 dY] u8 wx ∧ u9 = .int .i64 cy ∧ Below WM.heap.size WM wx)
      case first =>
        go_region_held3 (fun w' => (∀ b o, b < WM.heap.size → w'.cell? ⟨b, o, none⟩ = WM.cell? ⟨b, o, none⟩) ∧ WM.heap.size ≤ w'.heap.size)
          (first | ((try dsimp only); exact ⟨fun b o h => (by (repeat (first | with_reducible exact rfl | (with_reducible refine (cell_drew_at _ _).trans ?_) | (with_reducible refine (cell_set_at _ _ (by first | omega | (simp; done) | (simp; omega))).trans ?_) | (with_reducible refine (cell_alloc_at _ _ (by first | omega | (simp; done) | (simp; omega))).trans ?_) | (with_reducible refine (hcwG b o (by first | omega | (simp; done) | (simp; omega))).trans ?_) | (with_reducible refine (hcwF b o (by first | omega | (simp; done) | (simp; omega))).trans ?_)))), (by first | omega | (simp; done) | (simp; omega))⟩) | fail)
          (first
            | (go_at_call 26; (with_reducible refine (CG.out _).mono ?_); rintro e wG ⟨rfl, hbwG⟩; obtain ⟨hcwG, hfwG⟩ := bcell hbwG; have hzwG := hbwG.size; (try simp only [World.size_drew] at hcwG hfwG hzwG); (try simp only [World.size_alloc] at hcwG hfwG hzwG); (try have qqWMwG : WM.heap.size < wG.heap.size := by omega); (try (refine withFact (p := wG.cell? ⟨WM.heap.size, 0, none⟩ = some (.int .i64 0)) ?_ ?_; (focus ((repeat (first | with_reducible assumption | (with_reducible refine (cell_drew_at _ _).trans ?_) | (with_reducible refine (hcwG _ _ (by first | omega | (simp; done) | (simp; omega))).trans ?_) | (with_reducible refine (cell_alloc_at _ _ (by first | omega | (simp; done) | (simp; omega))).trans ?_))); (try (simp [go_sem]; done)); done)); intro twG0)); (try (refine withFact (p := wG.cell? ⟨WM.heap.size, 1, none⟩ = some (.int .i64 0)) ?_ ?_; (focus ((repeat (first | with_reducible assumption | (with_reducible refine (cell_drew_at _ _).trans ?_) | (with_reducible refine (hcwG _ _ (by first | omega | (simp; done) | (simp; omega))).trans ?_) | (with_reducible refine (cell_alloc_at _ _ (by first | omega | (simp; done) | (simp; omega))).trans ?_))); (try (simp [go_sem]; done)); done)); intro twG1)); (try (refine withFact (p := wG.frozen? ⟨WM.heap.size, 0, none⟩ = false) ?_ ?_; (focus ((repeat (first | with_reducible assumption | (with_reducible refine (frozen_drew_at _ _).trans ?_) | (with_reducible refine (hfwG _ _ (by first | omega | (simp; done) | (simp; omega))).trans ?_) | (with_reducible refine (frozen_alloc_at _ _ (by first | omega | (simp; done) | (simp; omega))).trans ?_))); (try (simp [go_sem]; done)); done)); intro tfwG0)); (try (refine withFact (p := wG.frozen? ⟨WM.heap.size, 1, none⟩ = false) ?_ ?_; (focus ((repeat (first | with_reducible assumption | (with_reducible refine (frozen_drew_at _ _).trans ?_) | (with_reducible refine (hfwG _ _ (by first | omega | (simp; done) | (simp; omega))).trans ?_) | (with_reducible refine (frozen_alloc_at _ _ (by first | omega | (simp; done) | (simp; omega))).trans ?_))); (try (simp [go_sem]; done)); done)); intro tfwG1)))
            | (go_at_call 40; (with_reducible refine (overRow_x _ _ _ _ _ _ _).mono ?_); rintro e wO ⟨rfl, rfl⟩)
            | (go_at_call 36; (with_reducible refine (whole_any _ _).mono ?_); rintro e wW ⟨rfl, rfl⟩)
            | (go_at_call 68; (with_reducible refine (H1.out _ _ ?_).mono ?_); (focus (repeat' (first | with_reducible assumption | with_reducible exact AtL.new _ _ _ | ((with_reducible refine AtL.newAt ?_); (first | rfl | (simp; done))) | (with_reducible refine AtL.below ?_ (by with_reducible assumption)) | (with_reducible refine AtL.drew ?_) | (with_reducible refine AtL.alloc ?_ _) | ((with_reducible refine AtL.far ?_ ?_ _ _); omega)))); rintro e wF ⟨rfl, hbwF⟩; obtain ⟨hcwF, hfwF⟩ := bcell hbwF; have hzwF := hbwF.size; (try simp only [World.size_drew] at hcwF hfwF hzwF); (try simp only [World.size_alloc] at hcwF hfwF hzwF); (try have qqWMwF : WM.heap.size < wF.heap.size := by omega); (try have qqwGwF : wG.heap.size < wF.heap.size := by omega); (try (refine withFact (p := wF.cell? ⟨WM.heap.size, 0, none⟩ = some (.int .i64 0)) ?_ ?_; (focus ((repeat (first | with_reducible assumption | (with_reducible refine (cell_drew_at _ _).trans ?_) | (with_reducible refine (hcwF _ _ (by first | omega | (simp; done) | (simp; omega))).trans ?_) | (with_reducible refine (cell_alloc_at _ _ (by first | omega | (simp; done) | (simp; omega))).trans ?_))); (try (simp [go_sem]; done)); done)); intro twF0)); (try (refine withFact (p := wF.cell? ⟨WM.heap.size, 1, none⟩ = some (.int .i64 0)) ?_ ?_; (focus ((repeat (first | with_reducible assumption | (with_reducible refine (cell_drew_at _ _).trans ?_) | (with_reducible refine (hcwF _ _ (by first | omega | (simp; done) | (simp; omega))).trans ?_) | (with_reducible refine (cell_alloc_at _ _ (by first | omega | (simp; done) | (simp; omega))).trans ?_))); (try (simp [go_sem]; done)); done)); intro twF1)); (try (refine withFact (p := wF.frozen? ⟨WM.heap.size, 0, none⟩ = false) ?_ ?_; (focus ((repeat (first | with_reducible assumption | (with_reducible refine (frozen_drew_at _ _).trans ?_) | (with_reducible refine (hfwF _ _ (by first | omega | (simp; done) | (simp; omega))).trans ?_) | (with_reducible refine (frozen_alloc_at _ _ (by first | omega | (simp; done) | (simp; omega))).trans ?_))); (try (simp [go_sem]; done)); done)); intro tfwF0)); (try (refine withFact (p := wF.frozen? ⟨WM.heap.size, 1, none⟩ = false) ?_ ?_; (focus ((repeat (first | with_reducible assumption | (with_reducible refine (frozen_drew_at _ _).trans ?_) | (with_reducible refine (hfwF _ _ (by first | omega | (simp; done) | (simp; omega))).trans ?_) | (with_reducible refine (frozen_alloc_at _ _ (by first | omega | (simp; done) | (simp; omega))).trans ?_))); (try (simp [go_sem]; done)); done)); intro tfwF1))))
        all_goals
          go_wp2_with fail
          go_meet
        all_goals exact ⟨⟨_, rfl, by repeat' (first | ((with_reducible refine AtL.newAt ?_); (first | rfl | (simp; done))) | with_reducible assumption | with_reducible exact AtL.new _ _ _ | (with_reducible refine AtL.drew ?_) | (with_reducible apply AtL.store2) | (with_reducible refine AtL.alloc ?_ _) | (with_reducible refine AtL.far ?_ ?_ _ _) | (with_reducible refine AtL.below ?_ (by with_reducible assumption)) | omega | (simp; done) | (simp; omega))⟩, rfl, by repeat' (first | with_reducible assumption | with_reducible exact Below.refl _ _ | (with_reducible refine Below.setCell ?_ ?_ _) | (with_reducible refine Below.alloc ?_ ?_ _) | (with_reducible refine Below.drew ?_) | (with_reducible refine below_dr ?_ _) | (with_reducible refine Below.trans ?_ (Below.mono (by with_reducible assumption) ?_)) | omega | (simp; done) | (simp; omega))⟩
      case rest =>
        obtain ⟨⟨g8, rfl, at8⟩, rfl, hbx⟩ := hcut
        have p80 := at8.cell 0 rfl
        have p81 := at8.cell 1 rfl
        have l8 := at8.lt
        have amwc : AtL w.heap.size [.int .i64 m0, .int .i64 m1, .int .i64 m2, .int .i64 m3, .int .i64 m4, .int .i64 m5, .int .i64 m6, .int .i64 m7, .int .i64 m8, .int .i64 m9, .int .i64 m10, .int .i64 m11] wc := by repeat' (first | with_reducible assumption | with_reducible exact AtL.new _ _ _ | ((with_reducible refine AtL.newAt ?_); (first | rfl | (simp; done))) | (with_reducible refine AtL.below ?_ (by with_reducible assumption)) | (with_reducible refine AtL.drew ?_) | (with_reducible refine AtL.alloc ?_ _) | ((with_reducible refine AtL.far ?_ ?_ _ _); omega))
        have apwc : AtL (w.heap.size + 1) [.int .i64 x, .int .i64 y] wc := by repeat' (first | with_reducible assumption | with_reducible exact AtL.new _ _ _ | ((with_reducible refine AtL.newAt ?_); (first | rfl | (simp; done))) | (with_reducible refine AtL.below ?_ (by with_reducible assumption)) | (with_reducible refine AtL.drew ?_) | (with_reducible refine AtL.alloc ?_ _) | ((with_reducible refine AtL.far ?_ ?_ _ _); omega))
        have urwc : Un (w.heap.size + 1 + 1) [.int .i64 0, .int .i64 0] wc := by repeat' (first | with_reducible assumption | ((with_reducible refine Un.newAt ?_); (first | rfl | (simp; done))) | (with_reducible refine Un.below ?_ (by with_reducible assumption)) | (with_reducible refine Un.drew ?_) | (with_reducible refine Un.alloc ?_ _) | ((with_reducible refine Un.far ?_ ?_ _ _); omega))
        have umwc : Un B6 [.int .i64 X, .int .i64 0] wc := by repeat' (first | with_reducible assumption | ((with_reducible refine Un.newAt ?_); (first | rfl | (simp; done))) | (with_reducible refine Un.below ?_ (by with_reducible assumption)) | (with_reducible refine Un.drew ?_) | (with_reducible refine Un.alloc ?_ _) | ((with_reducible refine Un.far ?_ ?_ _ _); omega))
        have zwc := urwc.2
        have gwc : Below w.heap.size w wc := by repeat' (first | with_reducible assumption | with_reducible exact Below.refl _ _ | (with_reducible refine Below.setCell ?_ ?_ _) | (with_reducible refine Below.alloc ?_ ?_ _) | (with_reducible refine Below.drew ?_) | (with_reducible refine below_dr ?_ _) | (with_reducible refine Below.trans ?_ (Below.mono (by with_reducible assumption) ?_)) | omega | (simp; done) | (simp; omega))
        clear hbx hrow amWM apWM urWM umWM gWM zWM lWM lpWM qWM0 qWM1 qWM2 qWM3 qWM4 qWM5 qWM6 qWM7 qWM8 qWM9 qWM10 qWM11 eWM0 eWM1
        have curwc0 := urwc.cell 0 rfl
        have curwc1 := urwc.cell 1 rfl
        have furwc0 := urwc.frozen 0 rfl
        have furwc1 := urwc.frozen 1 rfl
        rcases hcy2 with rfl | ⟨rfl, -⟩
        · go_wp2_with fail
          refine (CRY.out _).mono ?_
          rintro e w4 ⟨rfl, hbw4⟩
          have amw4 : AtL w.heap.size [.int .i64 m0, .int .i64 m1, .int .i64 m2, .int .i64 m3, .int .i64 m4, .int .i64 m5, .int .i64 m6, .int .i64 m7, .int .i64 m8, .int .i64 m9, .int .i64 m10, .int .i64 m11] w4 := by repeat' (first | with_reducible assumption | with_reducible exact AtL.new _ _ _ | ((with_reducible refine AtL.newAt ?_); (first | rfl | (simp; done))) | (with_reducible refine AtL.below ?_ (by with_reducible assumption)) | (with_reducible refine AtL.drew ?_) | (with_reducible refine AtL.alloc ?_ _) | ((with_reducible refine AtL.far ?_ ?_ _ _); omega))
          have apw4 : AtL (w.heap.size + 1) [.int .i64 x, .int .i64 y] w4 := by repeat' (first | with_reducible assumption | with_reducible exact AtL.new _ _ _ | ((with_reducible refine AtL.newAt ?_); (first | rfl | (simp; done))) | (with_reducible refine AtL.below ?_ (by with_reducible assumption)) | (with_reducible refine AtL.drew ?_) | (with_reducible refine AtL.alloc ?_ _) | ((with_reducible refine AtL.far ?_ ?_ _ _); omega))
          have urw4 : Un (w.heap.size + 1 + 1) [.int .i64 0, .int .i64 0] w4 := by repeat' (first | with_reducible assumption | ((with_reducible refine Un.newAt ?_); (first | rfl | (simp; done))) | (with_reducible refine Un.below ?_ (by with_reducible assumption)) | (with_reducible refine Un.drew ?_) | (with_reducible refine Un.alloc ?_ _) | ((with_reducible refine Un.far ?_ ?_ _ _); omega))
          have umw4 : Un B6 [.int .i64 X, .int .i64 0] w4 := by repeat' (first | with_reducible assumption | ((with_reducible refine Un.newAt ?_); (first | rfl | (simp; done))) | (with_reducible refine Un.below ?_ (by with_reducible assumption)) | (with_reducible refine Un.drew ?_) | (with_reducible refine Un.alloc ?_ _) | ((with_reducible refine Un.far ?_ ?_ _ _); omega))
          have zw4 := urw4.2
          have gw4 : Below w.heap.size w w4 := by repeat' (first | with_reducible assumption | with_reducible exact Below.refl _ _ | (with_reducible refine Below.setCell ?_ ?_ _) | (with_reducible refine Below.alloc ?_ ?_ _) | (with_reducible refine Below.drew ?_) | (with_reducible refine below_dr ?_ _) | (with_reducible refine Below.trans ?_ (Below.mono (by with_reducible assumption) ?_)) | omega | (simp; done) | (simp; omega))
          clear hbw4 amwc apwc urwc umwc gwc zwc at8 p80 p81 l8 curwc0 furwc0 curwc1 furwc1
          have m1c := umw4.cell 1 rfl
          have m1f := umw4.frozen 1 rfl
          have lm := umw4.2
          go_wp2_with fail
          generalize hW : w4.setCell ⟨B6, 1, none⟩ (.int .i64 Y) = WP
          have urWP : Un (w.heap.size + 1 + 1) [.int .i64 0, .int .i64 0] WP := by rw [← hW]; exact urw4.far (by omega) _ _
          have umWP : Un B6 [.int .i64 X, .int .i64 Y] WP := by rw [← hW]; exact umw4.set 1 _
          have gWP : Below w.heap.size w WP := by rw [← hW]; repeat' (first | with_reducible assumption | with_reducible exact Below.refl _ _ | (with_reducible refine Below.setCell ?_ ?_ _) | (with_reducible refine Below.alloc ?_ ?_ _) | (with_reducible refine Below.drew ?_) | (with_reducible refine below_dr ?_ _) | (with_reducible refine Below.trans ?_ (Below.mono (by with_reducible assumption) ?_)) | omega | (simp; done) | (simp; omega))
          clear hW m1c m1f lm amw4 apw4 urw4 umw4 gw4 zw4
          have zWP := urWP.2
          have n0 := umWP.cell 0 rfl
          have n1 := umWP.cell 1 rfl
          have lm := umWP.2
          have CE := Lib.hid (fun w => implValidPt_any X Y w)
          rw [rounds_succ]
          go_wp2_with fail
          refine (CE.out _).mono ?_
          rintro e w5 ⟨rfl, hbw5⟩
          have urw5 : Un (w.heap.size + 1 + 1) [.int .i64 0, .int .i64 0] w5 := by repeat' (first | with_reducible assumption | ((with_reducible refine Un.newAt ?_); (first | rfl | (simp; done))) | (with_reducible refine Un.below ?_ (by with_reducible assumption)) | (with_reducible refine Un.drew ?_) | (with_reducible refine Un.alloc ?_ _) | ((with_reducible refine Un.far ?_ ?_ _ _); omega))
          have pt5 : AtL WP.heap.size [.int .i64 X, .int .i64 Y] w5 := by repeat' (first | with_reducible assumption | with_reducible exact AtL.new _ _ _ | ((with_reducible refine AtL.newAt ?_); (first | rfl | (simp; done))) | (with_reducible refine AtL.below ?_ (by with_reducible assumption)) | (with_reducible refine AtL.drew ?_) | (with_reducible refine AtL.alloc ?_ _) | ((with_reducible refine AtL.far ?_ ?_ _ _); omega))
          have gw5 : Below w.heap.size w w5 := by repeat' (first | with_reducible assumption | with_reducible exact Below.refl _ _ | (with_reducible refine Below.setCell ?_ ?_ _) | (with_reducible refine Below.alloc ?_ ?_ _) | (with_reducible refine Below.drew ?_) | (with_reducible refine below_dr ?_ _) | (with_reducible refine Below.trans ?_ (Below.mono (by with_reducible assumption) ?_)) | omega | (simp; done) | (simp; omega))
          clear hbw5
          have curw50 := urw5.cell 0 rfl
          have curw51 := urw5.cell 1 rfl
          have furw50 := urw5.frozen 0 rfl
          have furw51 := urw5.frozen 1 rfl
          have s50 := pt5.cell 0 rfl
          have s51 := pt5.cell 1 rfl
          have l5 := pt5.lt
          have z5 := urw5.2
          rcases hke : okB X Y with _ | _
          · go_wp2_with fail
            have rb := (urw5.at).store2 (a := .int .i64 0) (b := .int .i64 0)
            have r0 := rb.cell 0 rfl
            have r1 := rb.cell 1 rfl
            refine bodyPost_ret (v := .tuple #[.agg #[.int .i64 0, .int .i64 0], .int .i64 2]) (by simp [results, Try.results15, go_sem, r0, r1]) rfl (ARet.out rfl (by simp [hke]) ?_)
            repeat' (first | with_reducible assumption | with_reducible exact Below.refl _ _ | (with_reducible refine Below.setCell ?_ ?_ _) | (with_reducible refine Below.alloc ?_ ?_ _) | (with_reducible refine Below.drew ?_) | (with_reducible refine below_dr ?_ _) | (with_reducible refine Below.trans ?_ (Below.mono (by with_reducible assumption) ?_)) | omega | (simp; done) | (simp; omega))
          · go_wp2_with fail
            have rb := (urw5.at).store2 (a := .int .i64 X) (b := .int .i64 Y)
            have r0 := rb.cell 0 rfl
            have r1 := rb.cell 1 rfl
            refine bodyPost_ret (v := .tuple #[.agg #[.int .i64 X, .int .i64 Y], .int .i64 0]) (by simp [results, Try.results15, go_sem, r0, r1]) rfl (ARet.yes rfl (by simp [hke]) ?_)
            repeat' (first | with_reducible assumption | with_reducible exact Below.refl _ _ | (with_reducible refine Below.setCell ?_ ?_ _) | (with_reducible refine Below.alloc ?_ ?_ _) | (with_reducible refine Below.drew ?_) | (with_reducible refine below_dr ?_ _) | (with_reducible refine Below.trans ?_ (Below.mono (by with_reducible assumption) ?_)) | omega | (simp; done) | (simp; omega))
        · go_wp2_with fail
          have rb := (urwc.at).store2 (a := .int .i64 0) (b := .int .i64 0)
          have r0 := rb.cell 0 rfl
          have r1 := rb.cell 1 rfl
          refine bodyPost_ret (v := .tuple #[.agg #[.int .i64 0, .int .i64 0], .int .i64 2]) (by simp [results, Try.results15, go_sem, r0, r1]) rfl (ARet.out rfl (by simp) ?_)
          repeat' (first | with_reducible assumption | with_reducible exact Below.refl _ _ | (with_reducible refine Below.setCell ?_ ?_ _) | (with_reducible refine Below.alloc ?_ ?_ _) | (with_reducible refine Below.drew ?_) | (with_reducible refine below_dr ?_ _) | (with_reducible refine Below.trans ?_ (Below.mono (by with_reducible assumption) ?_)) | omega | (simp; done) | (simp; omega))
    · go_wp2_with fail
      have rb := (urwc.at).store2 (a := .int .i64 0) (b := .int .i64 0)
      have r0 := rb.cell 0 rfl
      have r1 := rb.cell 1 rfl
      refine bodyPost_ret (v := .tuple #[.agg #[.int .i64 0, .int .i64 0], .int .i64 2]) (by simp [results, Try.results15, go_sem, r0, r1]) rfl (ARet.out rfl (by simp) ?_)
      repeat' (first | with_reducible assumption | with_reducible exact Below.refl _ _ | (with_reducible refine Below.setCell ?_ ?_ _) | (with_reducible refine Below.alloc ?_ ?_ _) | (with_reducible refine Below.drew ?_) | (with_reducible refine below_dr ?_ _) | (with_reducible refine Below.trans ?_ (Below.mono (by with_reducible assumption) ?_)) | omega | (simp; done) | (simp; omega))
end Go.Proofs.Ytjlmoadnbbeloaa
