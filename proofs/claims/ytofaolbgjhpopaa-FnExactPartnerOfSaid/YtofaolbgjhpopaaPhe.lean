/- Walks: PartnerOf, the reference's side. -/
import Derived.Test.YtofaolbgjhpopaaPhd
namespace Go.Proofs.Ytofaolbgjhpopaa
open Go.RowKit
set_option linter.unusedVariables false
def opB (l : List AHint) (a : Nat) : Bool := match l[a]? with | some x => decide (x.1 = 35 ∨ x.1 = 36 ∨ x.1 = 44) | none => false
def ptC (l : List AHint) (a : Int) : Int := if alB l = true ∧ ntB l = true then (if 0 ≤ a ∧ a < (l.length : Int) then (if opB l a.toNat = true then 0 else 6) else 2) else 1
def ptX (l : List AHint) (a : Int) : Int := if ptC l a = 0 then ptV l a.toNat else 0
theorem pt_1 {l : List AHint} {a : Int} (h : alB l = false ∨ ntB l = false) : ptC l a = 1 ∧ ptX l a = 0 := by
  have e : ptC l a = 1 := by unfold ptC; rw [if_neg (by rcases h with h | h <;> rw [h] <;> simp)]
  exact ⟨e, by unfold ptX; rw [e]; rfl⟩
theorem pt_2 {l : List AHint} {a : Int} (h1 : alB l = true) (h2 : ntB l = true) (h : a < 0 ∨ (l.length : Int) ≤ a) : ptC l a = 2 ∧ ptX l a = 0 := by
  have e : ptC l a = 2 := by unfold ptC; rw [if_pos ⟨h1, h2⟩, if_neg (by omega)]
  exact ⟨e, by unfold ptX; rw [e]; rfl⟩
theorem pt_6 {l : List AHint} {a : Nat} {x : AHint} (h1 : alB l = true) (h2 : ntB l = true) (hx : l[a]? = some x) (h : ¬ isOp x.1) : ptC l (a : Int) = 6 ∧ ptX l (a : Int) = 0 := by
  have ha := (List.getElem?_eq_some_iff.1 hx).1
  have e : ptC l (a : Int) = 6 := by
    unfold ptC; rw [if_pos ⟨h1, h2⟩, if_pos (by omega), Int.toNat_natCast, if_neg]
    unfold opB; rw [hx]; simp only [decide_eq_true_eq]; exact h
  exact ⟨e, by unfold ptX; rw [e]; rfl⟩
theorem pt_0 {l : List AHint} {a : Nat} {x : AHint} (h1 : alB l = true) (h2 : ntB l = true) (hx : l[a]? = some x) (h : isOp x.1) : ptC l (a : Int) = 0 ∧ ptX l (a : Int) = ptV l a := by
  have ha := (List.getElem?_eq_some_iff.1 hx).1
  have e : ptC l (a : Int) = 0 := by
    unfold ptC; rw [if_pos ⟨h1, h2⟩, if_pos (by omega), Int.toNat_natCast, if_pos]
    unfold opB; rw [hx]; simp only [decide_eq_true_eq]; exact h
  exact ⟨e, by unfold ptX; rw [e, if_pos rfl, Int.toNat_natCast]⟩
set_option maxRecDepth 100000 in
set_option maxHeartbeats 6400000 in
theorem specPartnerOf_any (l : List AHint) (A : Option Addr) (c : Nat) (a : Int) (w : World) (hl : l.length ≤ 1048576) (r : Rd cHint 2 w w.heap.size A l) :
    Calls Try.prog 23 #[.slice A l.length c, .int .i64 a] w fun e w' => e = .returned (.tuple #[.int .i64 (ptX l a), .int .i64 (ptC l a)]) ∧ Below w.heap.size w w' := by
  have CA := Lib.hid (fun w r => l19All_any l A c w hl r)
  have CN := Lib.hid (fun w r => l19Nested_any l A c w hl r)
  have HR := Lib.hid r
  clear r
  obtain ⟨n, hn⟩ : ∃ n, n = l.length := ⟨_, rfl⟩
  have HN := Lib.hid hn
  rcases h1 : alB l with _ | _
  case false =>
    rw [h1] at CA
    obtain ⟨e1, e2⟩ := pt_1 (a := a) (.inl h1)
    rw [e1, e2]
    clear h1 e1 e2 hn
    generalize l.length = n' at *
    go_enter Try.func23, Try.ntmps23
    go_wp2_with (first | (go_at_call 54; (with_reducible refine (CA.out _ ?_).mono ?_); (focus (first | exact HR.out | exact (Rd.carry HR.out hwA (Nat.le_refl _)).more (by omega) | (have h9 : Below w.heap.size w wB := hwA.trans (hwB.mono (by omega)); exact (Rd.carry HR.out h9 (Nat.le_refl _)).more (by omega)))); rintro e wA ⟨rfl, hwA⟩; have hzwA := hwA.size) | (go_at_call 55; (with_reducible refine (CN.out _ ?_).mono ?_); (focus (first | exact HR.out | exact (Rd.carry HR.out hwA (Nat.le_refl _)).more (by omega) | (have h9 : Below w.heap.size w wB := hwA.trans (hwB.mono (by omega)); exact (Rd.carry HR.out h9 (Nat.le_refl _)).more (by omega)))); rintro e wB ⟨rfl, hwB⟩; have hzwB := hwB.size))
    refine bodyPost_ret (v := .tuple #[.int .i64 (0), .int .i64 (1)]) (by simp [results, Try.results23, go_sem, *]) rfl ?_
    exact ⟨rfl, by repeat' (first | with_reducible assumption | with_reducible exact Below.refl _ _ | (with_reducible refine Below.setCell ?_ ?_ _) | (with_reducible refine Below.alloc ?_ ?_ _) | (with_reducible refine Below.drew ?_) | (with_reducible refine below_dr ?_ _) | (with_reducible refine Below.trans ?_ (Below.mono (by with_reducible assumption) ?_)) | omega | (simp; done) | (simp; omega))⟩
  case true =>
    rcases h2 : ntB l with _ | _
    case false =>
      rw [h1] at CA
      rw [h2] at CN
      obtain ⟨e1, e2⟩ := pt_1 (a := a) (.inr h2)
      rw [e1, e2]
      clear h1 h2 e1 e2 hn
      generalize l.length = n' at *
      go_enter Try.func23, Try.ntmps23
      go_wp2_with (first | (go_at_call 54; (with_reducible refine (CA.out _ ?_).mono ?_); (focus (first | exact HR.out | exact (Rd.carry HR.out hwA (Nat.le_refl _)).more (by omega) | (have h9 : Below w.heap.size w wB := hwA.trans (hwB.mono (by omega)); exact (Rd.carry HR.out h9 (Nat.le_refl _)).more (by omega)))); rintro e wA ⟨rfl, hwA⟩; have hzwA := hwA.size) | (go_at_call 55; (with_reducible refine (CN.out _ ?_).mono ?_); (focus (first | exact HR.out | exact (Rd.carry HR.out hwA (Nat.le_refl _)).more (by omega) | (have h9 : Below w.heap.size w wB := hwA.trans (hwB.mono (by omega)); exact (Rd.carry HR.out h9 (Nat.le_refl _)).more (by omega)))); rintro e wB ⟨rfl, hwB⟩; have hzwB := hwB.size))
      refine bodyPost_ret (v := .tuple #[.int .i64 (0), .int .i64 (1)]) (by simp [results, Try.results23, go_sem, *]) rfl ?_
      exact ⟨rfl, by repeat' (first | with_reducible assumption | with_reducible exact Below.refl _ _ | (with_reducible refine Below.setCell ?_ ?_ _) | (with_reducible refine Below.alloc ?_ ?_ _) | (with_reducible refine Below.drew ?_) | (with_reducible refine below_dr ?_ _) | (with_reducible refine Below.trans ?_ (Below.mono (by with_reducible assumption) ?_)) | omega | (simp; done) | (simp; omega))⟩
    case true =>
      rw [h1] at CA
      rw [h2] at CN
      have H1 := Lib.hid h1
      have H2 := Lib.hid h2
      clear h1 h2
      have hw0 : IntKind.i64.wrap ((n : Int) - 1) = (n : Int) - 1 := IntWalk.i64_in _ (by omega)
      by_cases hr : 0 ≤ a ∧ a < (n : Int)
      case neg =>
        obtain ⟨e1, e2⟩ := pt_2 (a := a) H1.out H2.out (by omega)
        rw [e1, e2]
        clear e1 e2
        rw [← hn] at hl CA CN ⊢
        clear hn
        have ha : a < 0 ∨ (n : Int) - 1 < a := by omega
        clear hr
        go_enter Try.func23, Try.ntmps23
        go_wp2_with (first | (go_at_call 54; (with_reducible refine (CA.out _ ?_).mono ?_); (focus (first | exact HR.out | exact (Rd.carry HR.out hwA (Nat.le_refl _)).more (by omega) | (have h9 : Below w.heap.size w wB := hwA.trans (hwB.mono (by omega)); exact (Rd.carry HR.out h9 (Nat.le_refl _)).more (by omega)))); rintro e wA ⟨rfl, hwA⟩; have hzwA := hwA.size) | (go_at_call 55; (with_reducible refine (CN.out _ ?_).mono ?_); (focus (first | exact HR.out | exact (Rd.carry HR.out hwA (Nat.le_refl _)).more (by omega) | (have h9 : Below w.heap.size w wB := hwA.trans (hwB.mono (by omega)); exact (Rd.carry HR.out h9 (Nat.le_refl _)).more (by omega)))); rintro e wB ⟨rfl, hwB⟩; have hzwB := hwB.size) | (go_at_call 49; (with_reducible refine (l00In_no _ _ _ _ (by omega)).mono ?_); rintro e w7 ⟨rfl, rfl⟩))
        refine bodyPost_ret (v := .tuple #[.int .i64 (0), .int .i64 (2)]) (by simp [results, Try.results23, go_sem, *]) rfl ?_
        exact ⟨rfl, by repeat' (first | with_reducible assumption | with_reducible exact Below.refl _ _ | (with_reducible refine Below.setCell ?_ ?_ _) | (with_reducible refine Below.alloc ?_ ?_ _) | (with_reducible refine Below.drew ?_) | (with_reducible refine below_dr ?_ _) | (with_reducible refine Below.trans ?_ (Below.mono (by with_reducible assumption) ?_)) | omega | (simp; done) | (simp; omega))⟩
      case pos =>
        obtain ⟨i, rfl⟩ : ∃ i : Nat, a = (i : Int) := ⟨a.toNat, by omega⟩
        obtain ⟨⟨x0, x1⟩, hx⟩ : ∃ x, l[i]? = some x := ⟨l[i]'(by omega), List.getElem?_eq_getElem (by omega)⟩
        obtain ⟨g, o, rfl, hg, hc⟩ := HR.out.elem hx
        have y0 : w.cell? ⟨g, o + i * 2, none⟩ = some (.int .i64 x0) := hc 0 _ rfl
        clear hc
        obtain ⟨hr0, hr1⟩ := hr
        have hr2 : (i : Int) ≤ (n : Int) - 1 := by omega
        by_cases ho : isOp x0
        case pos =>
          have CP := Lib.hid (fun w r => l19Partner_any l (some ⟨g, o, none⟩) c i x0 x1 w hl H2.out hx ho r)
          obtain ⟨e1, e2⟩ := pt_0 (x := (x0, x1)) H1.out H2.out hx ho
          rw [e1, e2]
          clear e1 e2 hx
          generalize ptV l i = R at CP ⊢
          rw [← hn] at hl CA CN CP ⊢
          clear hn
          rcases ho with rfl | rfl | rfl
          · go_enter Try.func23, Try.ntmps23
            go_wp2_with (first | (go_at_call 54; (with_reducible refine (CA.out _ ?_).mono ?_); (focus (first | exact HR.out | exact (Rd.carry HR.out hwA (Nat.le_refl _)).more (by omega) | (have h9 : Below w.heap.size w wB := hwA.trans (hwB.mono (by omega)); exact (Rd.carry HR.out h9 (Nat.le_refl _)).more (by omega)))); rintro e wA ⟨rfl, hwA⟩; have hzwA := hwA.size; have ywA : wA.cell? ⟨g, o + i * 2, none⟩ = some (.int .i64 35) := (hwA.cell (p := ⟨g, o + i * 2, none⟩) (by show g < _; omega)).trans (by assumption)) | (go_at_call 55; (with_reducible refine (CN.out _ ?_).mono ?_); (focus (first | exact HR.out | exact (Rd.carry HR.out hwA (Nat.le_refl _)).more (by omega) | (have h9 : Below w.heap.size w wB := hwA.trans (hwB.mono (by omega)); exact (Rd.carry HR.out h9 (Nat.le_refl _)).more (by omega)))); rintro e wB ⟨rfl, hwB⟩; have hzwB := hwB.size; have ywB : wB.cell? ⟨g, o + i * 2, none⟩ = some (.int .i64 35) := (hwB.cell (p := ⟨g, o + i * 2, none⟩) (by show g < _; omega)).trans (by assumption)) | (go_at_call 49; (with_reducible refine (l00In_yes _ _ _ _ (by omega) (by omega)).mono ?_); rintro e w7 ⟨rfl, rfl⟩) | (go_at_call 56; (with_reducible refine (CP.out _ ?_).mono ?_); (focus (first | exact HR.out | exact (Rd.carry HR.out hwA (Nat.le_refl _)).more (by omega) | (have h9 : Below w.heap.size w wB := hwA.trans (hwB.mono (by omega)); exact (Rd.carry HR.out h9 (Nat.le_refl _)).more (by omega)))); rintro e wC ⟨rfl, hwC⟩))
            refine bodyPost_ret (v := .tuple #[.int .i64 (R), .int .i64 (0)]) (by simp [results, Try.results23, go_sem, *]) rfl ?_
            exact ⟨rfl, by repeat' (first | with_reducible assumption | with_reducible exact Below.refl _ _ | (with_reducible refine Below.setCell ?_ ?_ _) | (with_reducible refine Below.alloc ?_ ?_ _) | (with_reducible refine Below.drew ?_) | (with_reducible refine below_dr ?_ _) | (with_reducible refine Below.trans ?_ (Below.mono (by with_reducible assumption) ?_)) | omega | (simp; done) | (simp; omega))⟩
          · go_enter Try.func23, Try.ntmps23
            go_wp2_with (first | (go_at_call 54; (with_reducible refine (CA.out _ ?_).mono ?_); (focus (first | exact HR.out | exact (Rd.carry HR.out hwA (Nat.le_refl _)).more (by omega) | (have h9 : Below w.heap.size w wB := hwA.trans (hwB.mono (by omega)); exact (Rd.carry HR.out h9 (Nat.le_refl _)).more (by omega)))); rintro e wA ⟨rfl, hwA⟩; have hzwA := hwA.size; have ywA : wA.cell? ⟨g, o + i * 2, none⟩ = some (.int .i64 36) := (hwA.cell (p := ⟨g, o + i * 2, none⟩) (by show g < _; omega)).trans (by assumption)) | (go_at_call 55; (with_reducible refine (CN.out _ ?_).mono ?_); (focus (first | exact HR.out | exact (Rd.carry HR.out hwA (Nat.le_refl _)).more (by omega) | (have h9 : Below w.heap.size w wB := hwA.trans (hwB.mono (by omega)); exact (Rd.carry HR.out h9 (Nat.le_refl _)).more (by omega)))); rintro e wB ⟨rfl, hwB⟩; have hzwB := hwB.size; have ywB : wB.cell? ⟨g, o + i * 2, none⟩ = some (.int .i64 36) := (hwB.cell (p := ⟨g, o + i * 2, none⟩) (by show g < _; omega)).trans (by assumption)) | (go_at_call 49; (with_reducible refine (l00In_yes _ _ _ _ (by omega) (by omega)).mono ?_); rintro e w7 ⟨rfl, rfl⟩) | (go_at_call 56; (with_reducible refine (CP.out _ ?_).mono ?_); (focus (first | exact HR.out | exact (Rd.carry HR.out hwA (Nat.le_refl _)).more (by omega) | (have h9 : Below w.heap.size w wB := hwA.trans (hwB.mono (by omega)); exact (Rd.carry HR.out h9 (Nat.le_refl _)).more (by omega)))); rintro e wC ⟨rfl, hwC⟩))
            refine bodyPost_ret (v := .tuple #[.int .i64 (R), .int .i64 (0)]) (by simp [results, Try.results23, go_sem, *]) rfl ?_
            exact ⟨rfl, by repeat' (first | with_reducible assumption | with_reducible exact Below.refl _ _ | (with_reducible refine Below.setCell ?_ ?_ _) | (with_reducible refine Below.alloc ?_ ?_ _) | (with_reducible refine Below.drew ?_) | (with_reducible refine below_dr ?_ _) | (with_reducible refine Below.trans ?_ (Below.mono (by with_reducible assumption) ?_)) | omega | (simp; done) | (simp; omega))⟩
          · go_enter Try.func23, Try.ntmps23
            go_wp2_with (first | (go_at_call 54; (with_reducible refine (CA.out _ ?_).mono ?_); (focus (first | exact HR.out | exact (Rd.carry HR.out hwA (Nat.le_refl _)).more (by omega) | (have h9 : Below w.heap.size w wB := hwA.trans (hwB.mono (by omega)); exact (Rd.carry HR.out h9 (Nat.le_refl _)).more (by omega)))); rintro e wA ⟨rfl, hwA⟩; have hzwA := hwA.size; have ywA : wA.cell? ⟨g, o + i * 2, none⟩ = some (.int .i64 44) := (hwA.cell (p := ⟨g, o + i * 2, none⟩) (by show g < _; omega)).trans (by assumption)) | (go_at_call 55; (with_reducible refine (CN.out _ ?_).mono ?_); (focus (first | exact HR.out | exact (Rd.carry HR.out hwA (Nat.le_refl _)).more (by omega) | (have h9 : Below w.heap.size w wB := hwA.trans (hwB.mono (by omega)); exact (Rd.carry HR.out h9 (Nat.le_refl _)).more (by omega)))); rintro e wB ⟨rfl, hwB⟩; have hzwB := hwB.size; have ywB : wB.cell? ⟨g, o + i * 2, none⟩ = some (.int .i64 44) := (hwB.cell (p := ⟨g, o + i * 2, none⟩) (by show g < _; omega)).trans (by assumption)) | (go_at_call 49; (with_reducible refine (l00In_yes _ _ _ _ (by omega) (by omega)).mono ?_); rintro e w7 ⟨rfl, rfl⟩) | (go_at_call 56; (with_reducible refine (CP.out _ ?_).mono ?_); (focus (first | exact HR.out | exact (Rd.carry HR.out hwA (Nat.le_refl _)).more (by omega) | (have h9 : Below w.heap.size w wB := hwA.trans (hwB.mono (by omega)); exact (Rd.carry HR.out h9 (Nat.le_refl _)).more (by omega)))); rintro e wC ⟨rfl, hwC⟩))
            refine bodyPost_ret (v := .tuple #[.int .i64 (R), .int .i64 (0)]) (by simp [results, Try.results23, go_sem, *]) rfl ?_
            exact ⟨rfl, by repeat' (first | with_reducible assumption | with_reducible exact Below.refl _ _ | (with_reducible refine Below.setCell ?_ ?_ _) | (with_reducible refine Below.alloc ?_ ?_ _) | (with_reducible refine Below.drew ?_) | (with_reducible refine below_dr ?_ _) | (with_reducible refine Below.trans ?_ (Below.mono (by with_reducible assumption) ?_)) | omega | (simp; done) | (simp; omega))⟩
        case neg =>
          obtain ⟨e1, e2⟩ := pt_6 (x := (x0, x1)) H1.out H2.out hx ho
          rw [e1, e2]
          have d35 : (x0 == 35) = false := beq_eq_false_iff_ne.2 (fun h => ho (.inl h))
          have d36 : (x0 == 36) = false := beq_eq_false_iff_ne.2 (fun h => ho (.inr (.inl h)))
          have d44 : (x0 == 44) = false := beq_eq_false_iff_ne.2 (fun h => ho (.inr (.inr h)))
          clear e1 e2 hx ho
          rw [← hn] at hl CA CN ⊢
          clear hn
          go_enter Try.func23, Try.ntmps23
          go_wp2_with (first | (go_at_call 54; (with_reducible refine (CA.out _ ?_).mono ?_); (focus (first | exact HR.out | exact (Rd.carry HR.out hwA (Nat.le_refl _)).more (by omega) | (have h9 : Below w.heap.size w wB := hwA.trans (hwB.mono (by omega)); exact (Rd.carry HR.out h9 (Nat.le_refl _)).more (by omega)))); rintro e wA ⟨rfl, hwA⟩; have hzwA := hwA.size; have ywA : wA.cell? ⟨g, o + i * 2, none⟩ = some (.int .i64 x0) := (hwA.cell (p := ⟨g, o + i * 2, none⟩) (by show g < _; omega)).trans (by assumption)) | (go_at_call 55; (with_reducible refine (CN.out _ ?_).mono ?_); (focus (first | exact HR.out | exact (Rd.carry HR.out hwA (Nat.le_refl _)).more (by omega) | (have h9 : Below w.heap.size w wB := hwA.trans (hwB.mono (by omega)); exact (Rd.carry HR.out h9 (Nat.le_refl _)).more (by omega)))); rintro e wB ⟨rfl, hwB⟩; have hzwB := hwB.size; have ywB : wB.cell? ⟨g, o + i * 2, none⟩ = some (.int .i64 x0) := (hwB.cell (p := ⟨g, o + i * 2, none⟩) (by show g < _; omega)).trans (by assumption)) | (go_at_call 49; (with_reducible refine (l00In_yes _ _ _ _ (by omega) (by omega)).mono ?_); rintro e w7 ⟨rfl, rfl⟩))
          refine bodyPost_ret (v := .tuple #[.int .i64 (0), .int .i64 (6)]) (by simp [results, Try.results23, go_sem, *]) rfl ?_
          exact ⟨rfl, by repeat' (first | with_reducible assumption | with_reducible exact Below.refl _ _ | (with_reducible refine Below.setCell ?_ ?_ _) | (with_reducible refine Below.alloc ?_ ?_ _) | (with_reducible refine Below.drew ?_) | (with_reducible refine below_dr ?_ _) | (with_reducible refine Below.trans ?_ (Below.mono (by with_reducible assumption) ?_)) | omega | (simp; done) | (simp; omega))⟩
end Go.Proofs.Ytofaolbgjhpopaa
