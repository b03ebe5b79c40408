/- Walks: the expression of a name, on both sides. -/
import Derived.Test.YtmlhchiinlnfpaaHn
import Derived.Test.YtmlhchiinlnfpaaW1
import Derived.Test.YtmlhchiinlnfpaaAb
import Derived.Deep.DeepCutAuto
namespace Go.Proofs.Ytmlhchiinlnfpaa
open Go.RowKit
set_option linter.unusedVariables false

/-- An expression and a code are handed back, the terms in memory of the call's own. -/
def LinRet (cn cd code : Int) (l : List ATerm) (w : World) (e : Ending) (w' : World) : Prop :=
  ∃ (A : Option Addr) (c : Nat), e = .returned (.tuple #[.agg #[.int .i64 cn, .int .i64 cd, .slice A l.length c], .int .i64 code]) ∧ w'.ownsRow w.heap.size 74 3 (.slice A l.length c) l.length (cellsF cTerm l) ∧ Below w.heap.size w w'
theorem LinRet.none_ {code : Int} {w w' : World} (hb : Below w.heap.size w w') : LinRet 0 0 code [] w (.returned (.tuple #[.agg #[.int .i64 0, .int .i64 0, .slice none 0 0], .int .i64 code])) w' :=
  ⟨none, 0, rfl, ⟨rfl, .inl ⟨rfl, rfl⟩⟩, hb⟩
theorem own_one {w : World} {base e s : Nat} {cs : Array Value} (hb : base ≤ w.heap.size) (hs : cs.size = s) : (w.alloc (.cells cs e)).ownsRow base e s (.slice (some ⟨w.heap.size, 0, none⟩) 1 1) 1 cs.toList :=
  ⟨by rw [Array.length_toList]; omega, .inr ⟨w.heap.size, 1, cs, rfl, hb, heap_alloc_new w _, Nat.le_refl _, by unfold maxLen; omega, by omega, by rw [List.take_of_length_le (by rw [Array.length_toList]; omega)]⟩⟩
theorem own_one' {w : World} {base e s g : Nat} {cs : Array Value} {xs : List Value} (hg : g = w.heap.size) (hb : base ≤ w.heap.size) (hs : cs.size = s) (hx : cs.toList = xs) : (w.alloc (.cells cs e)).ownsRow base e s (.slice (some ⟨g, 0, none⟩) 1 1) 1 xs := by
  subst hg; subst hx; exact own_one hb hs
set_option maxHeartbeats 800000 in
theorem l05One_any (w : World) : Calls Try.prog 56 #[] w fun e w' => e = .returned (.agg #[.int .i64 1, .int .i64 1]) ∧ Below w.heap.size w w' := by
  go_enter Try.func56, Try.ntmps56
  go_wp2
  refine bodyPost_ret (v := .agg #[.int .i64 1, .int .i64 1]) (by simp [results, Try.results56, go_sem]) rfl ⟨rfl, ?_⟩
  repeat' (first | with_reducible assumption | with_reducible exact Below.refl _ _ | (with_reducible refine Below.setCell ?_ ?_ _) | (with_reducible refine Below.alloc ?_ ?_ _) | (with_reducible refine Below.drew ?_) | (with_reducible refine below_dr ?_ _) | (with_reducible refine Below.trans ?_ (Below.mono (by with_reducible assumption) ?_)) | omega | (simp; done) | (simp; omega))
set_option maxHeartbeats 800000 in
theorem wholeFrac_x (n : Int) (w : World) : Calls Try.prog 57 #[.int .i64 n] w fun e w' => e = .returned (.agg #[.int .i64 n, .int .i64 1]) ∧ w.alloc (.cells #[.int .i64 n, .int .i64 1] 29) = w' := by
  go_enter Try.func57, Try.ntmps57
  go_wp2
  exact bodyPost_ret (v := .agg #[.int .i64 n, .int .i64 1]) (by simp [results, Try.results57, go_sem]) rfl ⟨rfl, rfl⟩
/-- What NameLinear hands back. -/
def nameC (l : List UInt8) : Int := if nameB l then 0 else 1
def nameD (l : List UInt8) : Int := if nameB l then 1 else 0
def nameT (s : ByteArray) : List ATerm := if nameB s.data.toList then [(s, 1, 1)] else []
set_option maxHeartbeats 1600000 in
theorem specNameLinear_any (s : ByteArray) (w : World) (hs : s.size ≤ 1048576) : Calls Try.prog 20 #[.string s] w (LinRet 0 (nameD s.data.toList) (nameC s.data.toList) (nameT s) w) := by
  have C := Lib.hid (fun w => specIsName_any s w (by omega))
  unfold nameC nameD nameT
  rcases hn : nameB s.data.toList with _ | _
  · rw [hn] at C
    simp only [Bool.false_eq_true, if_false]
    clear hn
    go_enter Try.func20, Try.ntmps20
    go_wp2_with fail
    refine (C.out _).mono ?_
    rintro e w1 ⟨rfl, rfl⟩
    go_wp2_with fail
    refine bodyPost_ret (v := .tuple #[.agg #[.int .i64 0, .int .i64 0, .slice none 0 0], .int .i64 1]) (by simp [results, Try.results20, go_sem]) rfl (LinRet.none_ ?_)
    repeat' (first | with_reducible assumption | with_reducible exact Below.refl _ _ | (with_reducible refine Below.setCell ?_ ?_ _) | (with_reducible refine Below.alloc ?_ ?_ _) | (with_reducible refine Below.drew ?_) | (with_reducible refine below_dr ?_ _) | (with_reducible refine Below.trans ?_ (Below.mono (by with_reducible assumption) ?_)) | omega | (simp; done) | (simp; omega))
  · rw [hn] at C
    simp only [if_true]
    clear hn
    go_enter Try.func20, Try.ntmps20
    go_wp2_with fail
    refine (C.out _).mono ?_
    rintro e w1 ⟨rfl, rfl⟩
    go_wp2_with fail
    refine (l05One_any _).mono ?_
    rintro e w1 ⟨rfl, hbw1⟩
    obtain ⟨hcw1, hfw1⟩ := bcell hbw1
    have hzw1 := hbw1.size
    (try simp only [World.size_setCell] at hcw1 hfw1 hzw1)
    (try simp only [World.size_drew] at hcw1 hfw1 hzw1)
    (try simp only [World.size_alloc] at hcw1 hfw1 hzw1)
    have hq : w.heap.size < w1.heap.size := by omega
    go_wp2_with fail
    refine bodyPost_ret (v := .tuple #[.agg #[.int .i64 0, .int .i64 1, .slice (some ⟨w1.heap.size, 0, none⟩) 1 1], .int .i64 0]) (by simp [results, Try.results20, go_sem, *]) rfl ⟨some ⟨w1.heap.size, 0, none⟩, 1, rfl, ?_, ?_⟩
    · exact own_one' (by simp) (by simp; omega) rfl rfl
    · repeat' (first | with_reducible assumption | with_reducible exact Below.refl _ _ | (with_reducible refine Below.setCell ?_ ?_ _) | (with_reducible refine Below.alloc ?_ ?_ _) | (with_reducible refine Below.drew ?_) | (with_reducible refine below_dr ?_ _) | (with_reducible refine Below.trans ?_ (Below.mono (by with_reducible assumption) ?_)) | omega | (simp; done) | (simp; omega))
set_option maxHeartbeats 1600000 in
theorem linear_any (s : ByteArray) (n d : Int) (w : World) : Calls Try.prog 58 #[.agg #[.string s, .int .i64 n, .int .i64 d]] w fun e w' =>
    ∃ g, e = .returned (.agg #[.int .i64 0, .int .i64 1, .slice (some ⟨g, 0, none⟩) 1 1]) ∧ w'.ownsRow w.heap.size 74 3 (.slice (some ⟨g, 0, none⟩) 1 1) 1 (cTerm (s, n, d)) ∧ Below w.heap.size w w' := by
  go_enter Try.func58, Try.ntmps58
  go_wp2_with fail
  generalize hW : (w.alloc (.cells #[.string s, .int .i64 n, .int .i64 d] 74)).alloc (.cells #[.int .i64 0, .int .i64 0, .slice none 0 0] 32) = W0
  have g0 : Below w.heap.size w W0 := by rw [← hW]; repeat' (first | with_reducible assumption | with_reducible exact Below.refl _ _ | (with_reducible refine Below.setCell ?_ ?_ _) | (with_reducible refine Below.alloc ?_ ?_ _) | (with_reducible refine Below.drew ?_) | (with_reducible refine below_dr ?_ _) | (with_reducible refine Below.trans ?_ (Below.mono (by with_reducible assumption) ?_)) | omega | (simp; done) | (simp; omega))
  have s0 : W0.cell? ⟨w.heap.size, 0, none⟩ = some (.string s) := by rw [← hW]; simp [go_sem]
  have s1 : W0.cell? ⟨w.heap.size, 1, none⟩ = some (.int .i64 n) := by rw [← hW]; simp [go_sem]
  have s2 : W0.cell? ⟨w.heap.size, 2, none⟩ = some (.int .i64 d) := by rw [← hW]; simp [go_sem]
  have r0 : W0.cell? ⟨w.heap.size + 1, 0, none⟩ = some (.int .i64 0) := by rw [← hW]; simp [go_sem]
  have r1 : W0.cell? ⟨w.heap.size + 1, 1, none⟩ = some (.int .i64 0) := by rw [← hW]; simp [go_sem]
  have r2 : W0.cell? ⟨w.heap.size + 1, 2, none⟩ = some (.slice none 0 0) := by rw [← hW]; simp [go_sem]
  have f0 : W0.frozen? ⟨w.heap.size + 1, 0, none⟩ = false := by rw [← hW]; simp [go_sem]
  have f1 : W0.frozen? ⟨w.heap.size + 1, 1, none⟩ = false := by rw [← hW]; simp [go_sem]
  have f2 : W0.frozen? ⟨w.heap.size + 1, 2, none⟩ = false := by rw [← hW]; simp [go_sem]
  have sz : W0.heap.size = w.heap.size + 1 + 1 := by rw [← hW]; simp
  have SZ := Lib.hid sz
  have sz1 : w.heap.size + 1 < W0.heap.size := by omega
  have sz2 : w.heap.size < W0.heap.size := by omega
  clear hW sz
  go_region_held3 (fun w' => (∀ b o, b < w.heap.size + 1 → w'.cell? ⟨b, o, none⟩ = W0.cell? ⟨b, o, none⟩) ∧ W0.heap.size ≤ w'.heap.size)
    (first | ((try dsimp only); exact ⟨fun b o h => (by (repeat (first | with_reducible exact rfl | (with_reducible refine (cell_drew_at _ _).trans ?_) | (with_reducible refine (cell_set_at _ _ (by first | omega | (simp; done) | (simp; omega))).trans ?_) | (with_reducible refine (cell_alloc_at _ _ (by first | omega | (simp; done) | (simp; omega))).trans ?_)))), (by first | omega | (simp; done) | (simp; omega))⟩) | fail)
    (first
      | (go_at_call 57; (with_reducible refine (wholeFrac_x _ _).mono ?_); rintro e wA ⟨rfl, rfl⟩))
  all_goals go_wp2_with fail
  · refine bodyPost_ret (v := .agg #[.int .i64 0, .int .i64 1, .slice (some ⟨W0.heap.size + 1, 0, none⟩) 1 1]) (by simp [results, Try.results58, go_sem, *]) rfl ⟨W0.heap.size + 1, rfl, ?_, ?_⟩
    · exact own_one' (by simp) (by simp; omega) rfl rfl
    · repeat' (first | with_reducible assumption | with_reducible exact Below.refl _ _ | (with_reducible refine Below.setCell ?_ ?_ _) | (with_reducible refine Below.alloc ?_ ?_ _) | (with_reducible refine Below.drew ?_) | (with_reducible refine below_dr ?_ _) | (with_reducible refine Below.trans ?_ (Below.mono (by with_reducible assumption) ?_)) | omega | (simp; done) | (simp; omega))
  · refine bodyPost_ret (v := .agg #[.int .i64 0, .int .i64 1, .slice (some ⟨W0.heap.size, 0, none⟩) 1 1]) (by simp [results, Try.results58, go_sem, *]) rfl ⟨W0.heap.size, rfl, ?_, ?_⟩
    · exact World.ownsRow.alloc (own_one' (by simp) (by simp; omega) rfl rfl) _
    · repeat' (first | with_reducible assumption | with_reducible exact Below.refl _ _ | (with_reducible refine Below.setCell ?_ ?_ _) | (with_reducible refine Below.alloc ?_ ?_ _) | (with_reducible refine Below.drew ?_) | (with_reducible refine below_dr ?_ _) | (with_reducible refine Below.trans ?_ (Below.mono (by with_reducible assumption) ?_)) | omega | (simp; done) | (simp; omega))
set_option maxHeartbeats 1600000 in
theorem implNameLinear_any (s : ByteArray) (w : World) (hs : s.size ≤ 1048576) : Calls Try.prog 21 #[.string s] w (LinRet 0 (nameD s.data.toList) (nameC s.data.toList) (nameT s) w) := by
  have C := Lib.hid (fun w => implIsName_any s w (by omega))
  unfold nameC nameD nameT
  rcases hn : nameB s.data.toList with _ | _
  · rw [hn] at C
    simp only [Bool.false_eq_true, if_false]
    clear hn
    go_enter Try.func21, Try.ntmps21
    go_wp2_with fail
    refine (C.out _).mono ?_
    rintro e w1 ⟨rfl, rfl⟩
    go_wp2_with fail
    refine bodyPost_ret (v := .tuple #[.agg #[.int .i64 0, .int .i64 0, .slice none 0 0], .int .i64 1]) (by simp [results, Try.results21, go_sem]) rfl (LinRet.none_ ?_)
    repeat' (first | with_reducible assumption | with_reducible exact Below.refl _ _ | (with_reducible refine Below.setCell ?_ ?_ _) | (with_reducible refine Below.alloc ?_ ?_ _) | (with_reducible refine Below.drew ?_) | (with_reducible refine below_dr ?_ _) | (with_reducible refine Below.trans ?_ (Below.mono (by with_reducible assumption) ?_)) | omega | (simp; done) | (simp; omega))
  · rw [hn] at C
    simp only [if_true]
    clear hn
    go_enter Try.func21, Try.ntmps21
    go_wp2_with fail
    refine (C.out _).mono ?_
    rintro e w1 ⟨rfl, rfl⟩
    go_wp2_with fail
    refine (wholeFrac_x _ _).mono ?_
    rintro e w1 ⟨rfl, rfl⟩
    go_wp2_with fail
    refine (linear_any _ _ _ _).mono ?_
    rintro e w1 ⟨g, rfl, hown, hbw1⟩
    obtain ⟨hcw1, hfw1⟩ := bcell hbw1
    have hzw1 := hbw1.size
    (try simp only [World.size_setCell] at hcw1 hfw1 hzw1)
    (try simp only [World.size_drew] at hcw1 hfw1 hzw1)
    (try simp only [World.size_alloc] at hcw1 hfw1 hzw1)
    have hq : w.heap.size < w1.heap.size := by omega
    replace hown := own_base (base := w.heap.size + 1) hown (by simp)
    have y0 : w1.cell? ⟨w.heap.size, 0, none⟩ = some (.int .i64 0) := (hcw1 _ _ (by omega)).trans (by simp [go_sem])
    have y1 : w1.cell? ⟨w.heap.size, 1, none⟩ = some (.int .i64 0) := (hcw1 _ _ (by omega)).trans (by simp [go_sem])
    have y2 : w1.cell? ⟨w.heap.size, 2, none⟩ = some (.slice none 0 0) := (hcw1 _ _ (by omega)).trans (by simp [go_sem])
    have yf0 : w1.frozen? ⟨w.heap.size, 0, none⟩ = false := (hfw1 _ _ (by omega)).trans (by simp [go_sem])
    have yf1 : w1.frozen? ⟨w.heap.size, 1, none⟩ = false := (hfw1 _ _ (by omega)).trans (by simp [go_sem])
    have yf2 : w1.frozen? ⟨w.heap.size, 2, none⟩ = false := (hfw1 _ _ (by omega)).trans (by simp [go_sem])
    clear hcw1 hfw1
    go_wp2_with fail
    refine bodyPost_ret (v := .tuple #[.agg #[.int .i64 0, .int .i64 1, .slice (some ⟨g, 0, none⟩) 1 1], .int .i64 0]) (by simp [results, Try.results21, go_sem, *]) rfl ⟨some ⟨g, 0, none⟩, 1, rfl, ?_, ?_⟩
    · repeat (first | with_reducible exact own_base hown (by omega) | (with_reducible refine own_drew ?_) | (with_reducible refine own_far (b2 := w.heap.size + 1) ?_ (by simp only; omega) (by omega) _))
    · repeat' (first | with_reducible assumption | with_reducible exact Below.refl _ _ | (with_reducible refine Below.setCell ?_ ?_ _) | (with_reducible refine Below.alloc ?_ ?_ _) | (with_reducible refine Below.drew ?_) | (with_reducible refine below_dr ?_ _) | (with_reducible refine Below.trans ?_ (Below.mono (by with_reducible assumption) ?_)) | omega | (simp; done) | (simp; omega))
end Go.Proofs.Ytmlhchiinlnfpaa
