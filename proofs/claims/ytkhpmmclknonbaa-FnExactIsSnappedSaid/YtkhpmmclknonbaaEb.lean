/- Walks: two edges only have an end in common, the program's side. -/
import Derived.Test.YtkhpmmclknonbaaMu2
import Derived.Test.YtkhpmmclknonbaaEa
import Derived.Test.YtkhpmmclknonbaaVo
namespace Go.Proofs.Ytkhpmmclknonbaa
open Go.RowKit
set_option linter.unusedVariables false
/-- Is a point one of an edge's ends? -/
def endE (a b c d x y : Int) : Bool := decide (x = a ∧ y = b) || decide (x = c ∧ y = d)
def apI (a b c d e f g h : Int) : Bool :=
  if meetI a b c d e f g h = 0 then true
  else if meetI a b c d e f g h = 1 then endE a b c d e f || endE a b c d g h
  else if meetI a b c d e f g h = 3 then endE a b c d e f && endE a b c d g h
  else false
theorem eql_ptE {a b c d : Int} (w : World) : (Go.binOp BinOp.eql 25 (.agg #[.int .i64 a, .int .i64 b]) (.agg #[.int .i64 c, .int .i64 d])).run Try.prog w = Result.ok (.bool (decide (a = c ∧ b = d))) w := by
  by_cases h1 : a = c
  · subst h1
    by_cases h2 : b = d
    · subst h2; simp [go_sem]
    · simp [go_sem, h2]
  · simp [go_sem, h1]
set_option maxHeartbeats 1600000 in
theorem hasEnd_any (a b c d x y : Int) (w : World) :
    Calls Try.prog 114 #[.agg #[.int .i64 a, .int .i64 b, .int .i64 c, .int .i64 d], .agg #[.int .i64 x, .int .i64 y]] w fun e w' => e = .returned (.bool (endE a b c d x y)) ∧ Below w.heap.size w w' := by
  have e1 := fun w => eql_ptE (a := x) (b := y) (c := a) (d := b) w
  have e2 := fun w => eql_ptE (a := x) (b := y) (c := c) (d := d) w
  by_cases h1 : x = a ∧ y = b
  · rw [decide_eq_true h1] at e1
    have H := Lib.hid (show true = endE a b c d x y by unfold endE; rw [decide_eq_true h1]; rfl)
    clear h1 e2
    go_enter Try.func114, Try.ntmps114
    go_wp2
    go_ret
    exact ⟨ret_bool H.out, by repeat' (first | with_reducible assumption | with_reducible exact Below.refl _ _ | (with_reducible refine Below.setCell ?_ ?_ _) | (with_reducible refine Below.alloc ?_ ?_ _) | (with_reducible refine Below.drew ?_) | (with_reducible refine below_dr ?_ _) | (with_reducible refine Below.trans ?_ (Below.mono (by with_reducible assumption) ?_)) | omega | (simp; done) | (simp; omega))⟩
  · rw [decide_eq_false h1] at e1
    by_cases h2 : x = c ∧ y = d
    · rw [decide_eq_true h2] at e2
      have H := Lib.hid (show true = endE a b c d x y by unfold endE; rw [decide_eq_true h2]; simp)
      clear h1 h2
      go_enter Try.func114, Try.ntmps114
      go_wp2
      go_ret
      exact ⟨ret_bool H.out, by repeat' (first | with_reducible assumption | with_reducible exact Below.refl _ _ | (with_reducible refine Below.setCell ?_ ?_ _) | (with_reducible refine Below.alloc ?_ ?_ _) | (with_reducible refine Below.drew ?_) | (with_reducible refine below_dr ?_ _) | (with_reducible refine Below.trans ?_ (Below.mono (by with_reducible assumption) ?_)) | omega | (simp; done) | (simp; omega))⟩
    · rw [decide_eq_false h2] at e2
      have H := Lib.hid (show false = endE a b c d x y by unfold endE; rw [decide_eq_false h1, decide_eq_false h2]; rfl)
      clear h1 h2
      go_enter Try.func114, Try.ntmps114
      go_wp2
      go_ret
      exact ⟨ret_bool H.out, by repeat' (first | with_reducible assumption | with_reducible exact Below.refl _ _ | (with_reducible refine Below.setCell ?_ ?_ _) | (with_reducible refine Below.alloc ?_ ?_ _) | (with_reducible refine Below.drew ?_) | (with_reducible refine below_dr ?_ _) | (with_reducible refine Below.trans ?_ (Below.mono (by with_reducible assumption) ?_)) | omega | (simp; done) | (simp; omega))⟩
set_option maxHeartbeats 1600000 in
theorem meeting_any (a b c d e f g h : Int) (w : World) (va : okB a b = true) (vb : okB c d = true) (vc : okB e f = true) (vd : okB g h = true) :
    Calls Try.prog 113 #[.agg #[.int .i64 a, .int .i64 b, .int .i64 c, .int .i64 d], .agg #[.int .i64 e, .int .i64 f, .int .i64 g, .int .i64 h]] w fun r w' => r = .returned (.int .i64 (meetI a b c d e f g h)) ∧ Below w.heap.size w w' := by
  have C := Lib.hid (fun w => implMeetingOf_any a b c d e f g h w)
  rw [← meetV_is va vb vc vd] at C
  go_enter Try.func113, Try.ntmps113
  go_wp2_with fail
  refine (C.out _).mono ?_
  rintro r w1 ⟨rfl, hb⟩
  go_wp2
  go_ret
  exact ⟨rfl, by repeat' (first | with_reducible assumption | with_reducible exact Below.refl _ _ | (with_reducible refine Below.setCell ?_ ?_ _) | (with_reducible refine Below.alloc ?_ ?_ _) | (with_reducible refine Below.drew ?_) | (with_reducible refine below_dr ?_ _) | (with_reducible refine Below.trans ?_ (Below.mono (by with_reducible assumption) ?_)) | omega | (simp; done) | (simp; omega))⟩
set_option maxRecDepth 100000 in
set_option maxHeartbeats 6400000 in
theorem isApart_any (a b c d e f g h : Int) (w : World) (va : okB a b = true) (vb : okB c d = true) (vc : okB e f = true) (vd : okB g h = true) :
    Calls Try.prog 58 #[.agg #[.int .i64 a, .int .i64 b, .int .i64 c, .int .i64 d], .agg #[.int .i64 e, .int .i64 f, .int .i64 g, .int .i64 h]] w fun r w' => r = .returned (.bool (apI a b c d e f g h)) ∧ Below w.heap.size w w' := by
  have C := Lib.hid (fun w => meeting_any a b c d e f g h w va vb vc vd)
  have H1 := Lib.hid (fun w => hasEnd_any a b c d e f w)
  have H2 := Lib.hid (fun w => hasEnd_any a b c d g h w)
  have HA : apI a b c d e f g h = if meetI a b c d e f g h = 0 then true else if meetI a b c d e f g h = 1 then endE a b c d e f || endE a b c d g h else if meetI a b c d e f g h = 3 then endE a b c d e f && endE a b c d g h else false := rfl
  rw [HA]
  clear va vb vc vd HA
  generalize meetI a b c d e f g h = m at C ⊢
  generalize endE a b c d e f = p at H1 ⊢
  generalize endE a b c d g h = q at H2 ⊢
  by_cases m0 : m = 0
  case pos =>
    subst m0
    rw [if_pos rfl]
    go_enter Try.func58, Try.ntmps58
    go_wp2_with fail
    generalize hW : (w.alloc (.cells #[.int .i64 a, .int .i64 b, .int .i64 c, .int .i64 d] 85)).alloc (.cells #[.int .i64 e, .int .i64 f, .int .i64 g, .int .i64 h] 85) = W0
    have at0 : AtL w.heap.size [.int .i64 a, .int .i64 b, .int .i64 c, .int .i64 d] W0 := by rw [← hW]; exact (AtL.new w _ _).alloc _
    have at1 : AtL (w.heap.size + 1) [.int .i64 e, .int .i64 f, .int .i64 g, .int .i64 h] W0 := by rw [← hW]; exact AtL.newAt (by simp)
    have g0 : Below w.heap.size w W0 := by rw [← hW]; repeat' (first | with_reducible assumption | with_reducible exact Below.refl _ _ | (with_reducible refine Below.setCell ?_ ?_ _) | (with_reducible refine Below.alloc ?_ ?_ _) | (with_reducible refine Below.drew ?_) | (with_reducible refine below_dr ?_ _) | (with_reducible refine Below.trans ?_ (Below.mono (by with_reducible assumption) ?_)) | omega | (simp; done) | (simp; omega))
    clear hW
    refine (C.out _).mono ?_
    rintro r w1 ⟨rfl, hb1⟩
    replace at0 := at0.below hb1
    replace at1 := at1.below hb1
    replace g0 : Below w.heap.size w w1 := g0.trans (hb1.mono g0.size)
    clear hb1 C
    go_wp2_with fail
    go_ret
    exact ⟨rfl, g0⟩
  case neg =>
    rw [if_neg m0]
    have d0 : (m == 0) = false := by simpa using m0
    by_cases m1 : m = 1
    case pos =>
      subst m1
      rw [if_pos rfl]
      clear m0
      rcases p with _ | _
      case false =>
        go_enter Try.func58, Try.ntmps58
        go_wp2_with fail
        generalize hW : (w.alloc (.cells #[.int .i64 a, .int .i64 b, .int .i64 c, .int .i64 d] 85)).alloc (.cells #[.int .i64 e, .int .i64 f, .int .i64 g, .int .i64 h] 85) = W0
        have at0 : AtL w.heap.size [.int .i64 a, .int .i64 b, .int .i64 c, .int .i64 d] W0 := by rw [← hW]; exact (AtL.new w _ _).alloc _
        have at1 : AtL (w.heap.size + 1) [.int .i64 e, .int .i64 f, .int .i64 g, .int .i64 h] W0 := by rw [← hW]; exact AtL.newAt (by simp)
        have g0 : Below w.heap.size w W0 := by rw [← hW]; repeat' (first | with_reducible assumption | with_reducible exact Below.refl _ _ | (with_reducible refine Below.setCell ?_ ?_ _) | (with_reducible refine Below.alloc ?_ ?_ _) | (with_reducible refine Below.drew ?_) | (with_reducible refine below_dr ?_ _) | (with_reducible refine Below.trans ?_ (Below.mono (by with_reducible assumption) ?_)) | omega | (simp; done) | (simp; omega))
        clear hW
        refine (C.out _).mono ?_
        rintro r w1 ⟨rfl, hb1⟩
        replace at0 := at0.below hb1
        replace at1 := at1.below hb1
        replace g0 : Below w.heap.size w w1 := g0.trans (hb1.mono g0.size)
        clear hb1 C
        have s0 := at0.cell 0 rfl
        have s1 := at0.cell 1 rfl
        have s2 := at0.cell 2 rfl
        have s3 := at0.cell 3 rfl
        have u0 := at1.cell 0 rfl
        have u1 := at1.cell 1 rfl
        have u2 := at1.cell 2 rfl
        have u3 := at1.cell 3 rfl
        have l0 := at0.lt
        have l1 := at1.lt
        go_wp2_with fail
        clear s0 u0 s1 u1 s2 u2 s3 u3 l0 l1
        refine (H1.out _).mono ?_
        rintro r w2 ⟨rfl, hbw2⟩
        replace at0 := at0.below hbw2
        replace at1 := at1.below hbw2
        replace g0 : Below w.heap.size w w2 := g0.trans (hbw2.mono g0.size)
        clear hbw2
        have s0 := at0.cell 0 rfl
        have s1 := at0.cell 1 rfl
        have s2 := at0.cell 2 rfl
        have s3 := at0.cell 3 rfl
        have u0 := at1.cell 0 rfl
        have u1 := at1.cell 1 rfl
        have u2 := at1.cell 2 rfl
        have u3 := at1.cell 3 rfl
        have l0 := at0.lt
        have l1 := at1.lt
        go_wp2_with fail
        clear s0 u0 s1 u1 s2 u2 s3 u3 l0 l1
        refine (H2.out _).mono ?_
        rintro r w3 ⟨rfl, hbw3⟩
        replace at0 := at0.below hbw3
        replace at1 := at1.below hbw3
        replace g0 : Below w.heap.size w w3 := g0.trans (hbw3.mono g0.size)
        clear hbw3
        go_wp2_with fail
        go_ret
        exact ⟨by first | rfl | (cases q <;> rfl), g0⟩
      case true =>
        go_enter Try.func58, Try.ntmps58
        go_wp2_with fail
        generalize hW : (w.alloc (.cells #[.int .i64 a, .int .i64 b, .int .i64 c, .int .i64 d] 85)).alloc (.cells #[.int .i64 e, .int .i64 f, .int .i64 g, .int .i64 h] 85) = W0
        have at0 : AtL w.heap.size [.int .i64 a, .int .i64 b, .int .i64 c, .int .i64 d] W0 := by rw [← hW]; exact (AtL.new w _ _).alloc _
        have at1 : AtL (w.heap.size + 1) [.int .i64 e, .int .i64 f, .int .i64 g, .int .i64 h] W0 := by rw [← hW]; exact AtL.newAt (by simp)
        have g0 : Below w.heap.size w W0 := by rw [← hW]; repeat' (first | with_reducible assumption | with_reducible exact Below.refl _ _ | (with_reducible refine Below.setCell ?_ ?_ _) | (with_reducible refine Below.alloc ?_ ?_ _) | (with_reducible refine Below.drew ?_) | (with_reducible refine below_dr ?_ _) | (with_reducible refine Below.trans ?_ (Below.mono (by with_reducible assumption) ?_)) | omega | (simp; done) | (simp; omega))
        clear hW
        refine (C.out _).mono ?_
        rintro r w1 ⟨rfl, hb1⟩
        replace at0 := at0.below hb1
        replace at1 := at1.below hb1
        replace g0 : Below w.heap.size w w1 := g0.trans (hb1.mono g0.size)
        clear hb1 C
        have s0 := at0.cell 0 rfl
        have s1 := at0.cell 1 rfl
        have s2 := at0.cell 2 rfl
        have s3 := at0.cell 3 rfl
        have u0 := at1.cell 0 rfl
        have u1 := at1.cell 1 rfl
        have u2 := at1.cell 2 rfl
        have u3 := at1.cell 3 rfl
        have l0 := at0.lt
        have l1 := at1.lt
        go_wp2_with fail
        clear s0 u0 s1 u1 s2 u2 s3 u3 l0 l1
        refine (H1.out _).mono ?_
        rintro r w2 ⟨rfl, hbw2⟩
        replace at0 := at0.below hbw2
        replace at1 := at1.below hbw2
        replace g0 : Below w.heap.size w w2 := g0.trans (hbw2.mono g0.size)
        clear hbw2
        have s0 := at0.cell 0 rfl
        have s1 := at0.cell 1 rfl
        have s2 := at0.cell 2 rfl
        have s3 := at0.cell 3 rfl
        have u0 := at1.cell 0 rfl
        have u1 := at1.cell 1 rfl
        have u2 := at1.cell 2 rfl
        have u3 := at1.cell 3 rfl
        have l0 := at0.lt
        have l1 := at1.lt
        go_wp2_with fail
        go_ret
        exact ⟨by first | rfl | (cases q <;> rfl), g0⟩
    case neg =>
      rw [if_neg m1]
      have d1 : (m == 1) = false := by simpa using m1
      by_cases m3 : m = 3
      case pos =>
        subst m3
        rw [if_pos rfl]
        clear m0 m1
        rcases p with _ | _
        case false =>
          go_enter Try.func58, Try.ntmps58
          go_wp2_with fail
          generalize hW : (w.alloc (.cells #[.int .i64 a, .int .i64 b, .int .i64 c, .int .i64 d] 85)).alloc (.cells #[.int .i64 e, .int .i64 f, .int .i64 g, .int .i64 h] 85) = W0
          have at0 : AtL w.heap.size [.int .i64 a, .int .i64 b, .int .i64 c, .int .i64 d] W0 := by rw [← hW]; exact (AtL.new w _ _).alloc _
          have at1 : AtL (w.heap.size + 1) [.int .i64 e, .int .i64 f, .int .i64 g, .int .i64 h] W0 := by rw [← hW]; exact AtL.newAt (by simp)
          have g0 : Below w.heap.size w W0 := by rw [← hW]; repeat' (first | with_reducible assumption | with_reducible exact Below.refl _ _ | (with_reducible refine Below.setCell ?_ ?_ _) | (with_reducible refine Below.alloc ?_ ?_ _) | (with_reducible refine Below.drew ?_) | (with_reducible refine below_dr ?_ _) | (with_reducible refine Below.trans ?_ (Below.mono (by with_reducible assumption) ?_)) | omega | (simp; done) | (simp; omega))
          clear hW
          refine (C.out _).mono ?_
          rintro r w1 ⟨rfl, hb1⟩
          replace at0 := at0.below hb1
          replace at1 := at1.below hb1
          replace g0 : Below w.heap.size w w1 := g0.trans (hb1.mono g0.size)
          clear hb1 C
          have s0 := at0.cell 0 rfl
          have s1 := at0.cell 1 rfl
          have s2 := at0.cell 2 rfl
          have s3 := at0.cell 3 rfl
          have u0 := at1.cell 0 rfl
          have u1 := at1.cell 1 rfl
          have u2 := at1.cell 2 rfl
          have u3 := at1.cell 3 rfl
          have l0 := at0.lt
          have l1 := at1.lt
          go_wp2_with fail
          clear s0 u0 s1 u1 s2 u2 s3 u3 l0 l1
          refine (H1.out _).mono ?_
          rintro r w2 ⟨rfl, hbw2⟩
          replace at0 := at0.below hbw2
          replace at1 := at1.below hbw2
          replace g0 : Below w.heap.size w w2 := g0.trans (hbw2.mono g0.size)
          clear hbw2
          have s0 := at0.cell 0 rfl
          have s1 := at0.cell 1 rfl
          have s2 := at0.cell 2 rfl
          have s3 := at0.cell 3 rfl
          have u0 := at1.cell 0 rfl
          have u1 := at1.cell 1 rfl
          have u2 := at1.cell 2 rfl
          have u3 := at1.cell 3 rfl
          have l0 := at0.lt
          have l1 := at1.lt
          go_wp2_with fail
          go_ret
          exact ⟨by first | rfl | (cases q <;> rfl), g0⟩
        case true =>
          go_enter Try.func58, Try.ntmps58
          go_wp2_with fail
          generalize hW : (w.alloc (.cells #[.int .i64 a, .int .i64 b, .int .i64 c, .int .i64 d] 85)).alloc (.cells #[.int .i64 e, .int .i64 f, .int .i64 g, .int .i64 h] 85) = W0
          have at0 : AtL w.heap.size [.int .i64 a, .int .i64 b, .int .i64 c, .int .i64 d] W0 := by rw [← hW]; exact (AtL.new w _ _).alloc _
          have at1 : AtL (w.heap.size + 1) [.int .i64 e, .int .i64 f, .int .i64 g, .int .i64 h] W0 := by rw [← hW]; exact AtL.newAt (by simp)
          have g0 : Below w.heap.size w W0 := by rw [← hW]; repeat' (first | with_reducible assumption | with_reducible exact Below.refl _ _ | (with_reducible refine Below.setCell ?_ ?_ _) | (with_reducible refine Below.alloc ?_ ?_ _) | (with_reducible refine Below.drew ?_) | (with_reducible refine below_dr ?_ _) | (with_reducible refine Below.trans ?_ (Below.mono (by with_reducible assumption) ?_)) | omega | (simp; done) | (simp; omega))
          clear hW
          refine (C.out _).mono ?_
          rintro r w1 ⟨rfl, hb1⟩
          replace at0 := at0.below hb1
          replace at1 := at1.below hb1
          replace g0 : Below w.heap.size w w1 := g0.trans (hb1.mono g0.size)
          clear hb1 C
          have s0 := at0.cell 0 rfl
          have s1 := at0.cell 1 rfl
          have s2 := at0.cell 2 rfl
          have s3 := at0.cell 3 rfl
          have u0 := at1.cell 0 rfl
          have u1 := at1.cell 1 rfl
          have u2 := at1.cell 2 rfl
          have u3 := at1.cell 3 rfl
          have l0 := at0.lt
          have l1 := at1.lt
          go_wp2_with fail
          clear s0 u0 s1 u1 s2 u2 s3 u3 l0 l1
          refine (H1.out _).mono ?_
          rintro r w2 ⟨rfl, hbw2⟩
          replace at0 := at0.below hbw2
          replace at1 := at1.below hbw2
          replace g0 : Below w.heap.size w w2 := g0.trans (hbw2.mono g0.size)
          clear hbw2
          have s0 := at0.cell 0 rfl
          have s1 := at0.cell 1 rfl
          have s2 := at0.cell 2 rfl
          have s3 := at0.cell 3 rfl
          have u0 := at1.cell 0 rfl
          have u1 := at1.cell 1 rfl
          have u2 := at1.cell 2 rfl
          have u3 := at1.cell 3 rfl
          have l0 := at0.lt
          have l1 := at1.lt
          go_wp2_with fail
          clear s0 u0 s1 u1 s2 u2 s3 u3 l0 l1
          refine (H2.out _).mono ?_
          rintro r w3 ⟨rfl, hbw3⟩
          replace at0 := at0.below hbw3
          replace at1 := at1.below hbw3
          replace g0 : Below w.heap.size w w3 := g0.trans (hbw3.mono g0.size)
          clear hbw3
          go_wp2_with fail
          go_ret
          exact ⟨by first | rfl | (cases q <;> rfl), g0⟩
      case neg =>
        rw [if_neg m3]
        have d3 : (m == 3) = false := by simpa using m3
        clear m0 m1 m3
        go_enter Try.func58, Try.ntmps58
        go_wp2_with fail
        generalize hW : (w.alloc (.cells #[.int .i64 a, .int .i64 b, .int .i64 c, .int .i64 d] 85)).alloc (.cells #[.int .i64 e, .int .i64 f, .int .i64 g, .int .i64 h] 85) = W0
        have at0 : AtL w.heap.size [.int .i64 a, .int .i64 b, .int .i64 c, .int .i64 d] W0 := by rw [← hW]; exact (AtL.new w _ _).alloc _
        have at1 : AtL (w.heap.size + 1) [.int .i64 e, .int .i64 f, .int .i64 g, .int .i64 h] W0 := by rw [← hW]; exact AtL.newAt (by simp)
        have g0 : Below w.heap.size w W0 := by rw [← hW]; repeat' (first | with_reducible assumption | with_reducible exact Below.refl _ _ | (with_reducible refine Below.setCell ?_ ?_ _) | (with_reducible refine Below.alloc ?_ ?_ _) | (with_reducible refine Below.drew ?_) | (with_reducible refine below_dr ?_ _) | (with_reducible refine Below.trans ?_ (Below.mono (by with_reducible assumption) ?_)) | omega | (simp; done) | (simp; omega))
        clear hW
        refine (C.out _).mono ?_
        rintro r w1 ⟨rfl, hb1⟩
        replace at0 := at0.below hb1
        replace at1 := at1.below hb1
        replace g0 : Below w.heap.size w w1 := g0.trans (hb1.mono g0.size)
        clear hb1 C
        go_wp2_with fail
        go_ret
        exact ⟨rfl, g0⟩
end Go.Proofs.Ytkhpmmclknonbaa
