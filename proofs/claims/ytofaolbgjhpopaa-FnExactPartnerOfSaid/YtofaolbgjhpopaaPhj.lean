/- Walks: PartnerOf, the program's side; the law. -/
import Derived.Test.YtofaolbgjhpopaaPhi
namespace Go.Proofs.Ytofaolbgjhpopaa
open Go.RowKit Go.ChangeShapes Go.WideShapes Go.Deep Go.Joins
set_option linter.unusedVariables false
theorem pr_at {l : List AHint} {a : Nat} (ha : a < l.length) : (pr l l.length)[a]? = some (ptV l a) := by
  unfold ptV
  rw [List.getElem?_eq_getElem (by rw [pr_len]; exact ha)]; rfl
theorem pt_pos {l : List AHint} {a : Nat} {x : AHint} (h : ntB l = true) (hx : l[a]? = some x) (ho : isOp x.1) : ¬ ptV l a = 0 := by
  obtain ⟨lo, h0⟩ := rn_open h hx ho
  have key : ∀ d k hi lo, k + d = l.length → a < k → rn l k = some (hi ++ (a, x.1) :: lo) → 0 < ptV l a := by
    intro d
    induction d with
    | zero =>
      intro k hi lo hk hak hr
      obtain rfl : k = l.length := by omega
      rw [ntB_rn h] at hr
      have := Option.some.inj hr
      simp at this
    | succ d ih =>
      intro k hi lo hk hak hr
      obtain ⟨y, hy⟩ : ∃ y, l[k]? = some y := ⟨l[k]'(by omega), List.getElem?_eq_getElem (by omega)⟩
      by_cases c1 : y.1 = 35 ∨ y.1 = 44
      · exact ih (k + 1) ((k, y.1) :: hi) lo (by omega) (by omega) (nx_push h hr hy c1)
      by_cases c2 : y.1 = 36
      · obtain ⟨p, r, hst, hp, hs⟩ := nx_else h hr hy c2
        cases hi with
        | nil =>
          obtain ⟨rfl, rfl⟩ : (a, x.1) = p ∧ lo = r := by simpa using hst
          rw [pt_here h hr hy (.inl c2)]; omega
        | cons q hi =>
          obtain ⟨rfl, rfl⟩ : q = p ∧ hi ++ (a, x.1) :: lo = r := by simpa using hst
          exact ih (k + 1) ((k, 36) :: hi) lo (by omega) (by omega) hs
      by_cases c3 : y.1 = 37
      · obtain ⟨p, r, hst, hp, hs⟩ := nx_end h hr hy c3
        cases hi with
        | nil =>
          obtain ⟨rfl, rfl⟩ : (a, x.1) = p ∧ lo = r := by simpa using hst
          rw [pt_here h hr hy (.inr (.inl c3))]; omega
        | cons q hi =>
          obtain ⟨rfl, rfl⟩ : q = p ∧ hi ++ (a, x.1) :: lo = r := by simpa using hst
          exact ih (k + 1) hi lo (by omega) (by omega) hs
      by_cases c4 : y.1 = 38
      · obtain ⟨p, r, hst, hp, hs⟩ := nx_again h hr hy c4
        cases hi with
        | nil =>
          obtain ⟨rfl, rfl⟩ : (a, x.1) = p ∧ lo = r := by simpa using hst
          rw [pt_here h hr hy (.inr (.inr c4))]; omega
        | cons q hi =>
          obtain ⟨rfl, rfl⟩ : q = p ∧ hi ++ (a, x.1) :: lo = r := by simpa using hst
          exact ih (k + 1) hi lo (by omega) (by omega) hs
      · exact ih (k + 1) hi lo (by omega) (by omega) (nx_other h hr hy (fun e => c1 (.inl e)) (fun e => c1 (.inr e)) c2 c3 c4)
  have ha := (List.getElem?_eq_some_iff.1 hx).1
  have := key (l.length - (a + 1)) (a + 1) [] lo (by omega) (by omega) h0
  omega
set_option maxRecDepth 100000 in
set_option maxHeartbeats 12800000 in
theorem implPartnerOf_any (l : List AHint) (A : Option Addr) (c : Nat) (a : Int) (w : World) (hl : l.length ≤ 1048576) (r : Rd cHint 2 w w.heap.size A l) :
    Calls Try.prog 25 #[.slice A l.length c, .int .i64 a] w fun e w' => e = .returned (.tuple #[.int .i64 (ptX l a), .int .i64 (ptC l a)]) ∧ Below w.heap.size w w' := by
  have CP := Lib.hid (partnersOf_any l A c w hl r)
  have HR := Lib.hid r
  clear r
  obtain ⟨n, hn⟩ : ∃ n, n = l.length := ⟨_, rfl⟩
  have HN := Lib.hid hn
  rw [← hn] at hl CP ⊢
  obtain ⟨X, hX⟩ : ∃ X, X = ptX l a := ⟨_, rfl⟩
  obtain ⟨C, hC⟩ : ∃ C, C = ptC l a := ⟨_, rfl⟩
  rw [← hX, ← hC]
  have HX := Lib.hid hX
  have HC := Lib.hid hC
  clear hX hC hn
  go_enter Try.func25, Try.ntmps25
  go_wp2_with fail
  refine (CP.out).mono ?_
  intro e w1 hq
  obtain ⟨b1, hq⟩ := hq
  have z1 := b1.size
  rcases hq with ⟨h1, h2, P, rfl, pk, hP⟩ | ⟨h1, t, x, rfl⟩
  case inr =>
    obtain ⟨e1, e2⟩ := pt_1 (a := a) h1
    rw [← HC.out] at e1
    rw [← HX.out] at e2
    subst e1 e2
    clear h1 HC HX
    go_wp2_with fail
    refine bodyPost_ret (v := .tuple #[.int .i64 (0), .int .i64 (1)]) (by simp [results, Try.results25, go_sem, *]) rfl ?_
    exact ⟨rfl, by repeat' (first | with_reducible assumption | with_reducible exact Below.refl _ _ | (with_reducible refine Below.setCell ?_ ?_ _) | (with_reducible refine Below.alloc ?_ ?_ _) | (with_reducible refine Below.drew ?_) | (with_reducible refine below_dr ?_ _) | (with_reducible refine Below.trans ?_ (Below.mono (by with_reducible assumption) ?_)) | omega | (simp; done) | (simp; omega))⟩
  case inl =>
    by_cases hr : 0 ≤ a ∧ a < (n : Int)
    case neg =>
      obtain ⟨e1, e2⟩ := pt_2 (a := a) h1 h2 (by have := HN.out; omega)
      rw [← HC.out] at e1
      rw [← HX.out] at e2
      subst e1 e2
      clear h1 h2 HC HX
      by_cases h0 : a < 0
      · go_wp2_with fail
        refine bodyPost_ret (v := .tuple #[.int .i64 (0), .int .i64 (2)]) (by simp [results, Try.results25, go_sem, *]) rfl ?_
        exact ⟨rfl, by repeat' (first | with_reducible assumption | with_reducible exact Below.refl _ _ | (with_reducible refine Below.setCell ?_ ?_ _) | (with_reducible refine Below.alloc ?_ ?_ _) | (with_reducible refine Below.drew ?_) | (with_reducible refine below_dr ?_ _) | (with_reducible refine Below.trans ?_ (Below.mono (by with_reducible assumption) ?_)) | omega | (simp; done) | (simp; omega))⟩
      · have h3 : (n : Int) ≤ a := by omega
        have h4 : 0 ≤ a := by omega
        clear h0 hr
        go_wp2_with fail
        refine bodyPost_ret (v := .tuple #[.int .i64 (0), .int .i64 (2)]) (by simp [results, Try.results25, go_sem, *]) rfl ?_
        exact ⟨rfl, by repeat' (first | with_reducible assumption | with_reducible exact Below.refl _ _ | (with_reducible refine Below.setCell ?_ ?_ _) | (with_reducible refine Below.alloc ?_ ?_ _) | (with_reducible refine Below.drew ?_) | (with_reducible refine below_dr ?_ _) | (with_reducible refine Below.trans ?_ (Below.mono (by with_reducible assumption) ?_)) | omega | (simp; done) | (simp; omega))⟩
    case pos =>
      obtain ⟨i, rfl⟩ : ∃ i : Nat, a = (i : Int) := ⟨a.toNat, by omega⟩
      obtain ⟨hr0, hr1⟩ := hr
      have hin : i < l.length := by have := HN.out; omega
      obtain ⟨x, hx⟩ : ∃ x, l[i]? = some x := ⟨l[i], List.getElem?_eq_getElem hin⟩
      have yp : w1.cell? ⟨P, i, none⟩ = some (.int .i64 (ptV l i)) := pk.cell i (iArr_at (by have h := pr_at hin; rw [← HN.out] at h; exact h))
      clear pk
      by_cases ho : isOp x.1
      case pos =>
        obtain ⟨e1, e2⟩ := pt_0 h1 h2 hx ho
        have hne := pt_pos h2 hx ho
        rw [← HC.out] at e1
        rw [← HX.out] at e2
        subst e1 e2
        have dne : (ptV l i == 0) = false := beq_eq_false_iff_ne.2 hne
        clear h1 h2 HC HX hx ho hne hin
        go_wp2_with fail
        refine bodyPost_ret (v := .tuple #[.int .i64 (ptV l i), .int .i64 (0)]) (by simp [results, Try.results25, go_sem, *]) rfl ?_
        exact ⟨rfl, by repeat' (first | with_reducible assumption | with_reducible exact Below.refl _ _ | (with_reducible refine Below.setCell ?_ ?_ _) | (with_reducible refine Below.alloc ?_ ?_ _) | (with_reducible refine Below.drew ?_) | (with_reducible refine below_dr ?_ _) | (with_reducible refine Below.trans ?_ (Below.mono (by with_reducible assumption) ?_)) | omega | (simp; done) | (simp; omega))⟩
      case neg =>
        obtain ⟨e1, e2⟩ := pt_6 h1 h2 hx ho
        have hz := pt_zero h2 hx ho
        rw [hz] at yp
        rw [← HC.out] at e1
        rw [← HX.out] at e2
        subst e1 e2
        clear h1 h2 HC HX hx ho hin hz
        go_wp2_with fail
        refine bodyPost_ret (v := .tuple #[.int .i64 (0), .int .i64 (6)]) (by simp [results, Try.results25, go_sem, *]) rfl ?_
        exact ⟨rfl, by repeat' (first | with_reducible assumption | with_reducible exact Below.refl _ _ | (with_reducible refine Below.setCell ?_ ?_ _) | (with_reducible refine Below.alloc ?_ ?_ _) | (with_reducible refine Below.drew ?_) | (with_reducible refine below_dr ?_ _) | (with_reducible refine Below.trans ?_ (Below.mono (by with_reducible assumption) ?_)) | omega | (simp; done) | (simp; omega))⟩
set_option maxRecDepth 100000 in
set_option maxHeartbeats 6400000 in
theorem walk_PartnerOf (al : List AHint) (aA : Option Addr) (ac : Nat) (r : Int)  (w_r : (Lit.int .i64 r).wf = true) (w : World) (nc_a : al.length ≤ ac) (cm_a : ac ≤ maxLen) (rd_a : Rd cHint 2 w w.heap.size aA al) :
    Calls Try.prog 8 #[.slice aA al.length ac, .int .i64 r] w fun e w' => e = .returned (.bool true) ∧ Below w.heap.size w w' := by
  have hm_a : al.length ≤ 9223372036854775807 := by unfold maxLen at cm_a; omega
  clear nc_a cm_a
  clear w_r
  have C1 := Lib.hid (fun A c w ha ra => specPartnerOf_any al A c r w ha ra)
  have C2 := Lib.hid (fun A c w ha ra => implPartnerOf_any al A c r w ha ra)
  generalize ptX al r = v at C1 C2
  generalize ptC al r = u at C1 C2
  have e_v : (v != v) = false := by simp
  have e_u : (u != u) = false := by simp
  go_enter Try.func8, Try.ntmps8
  go_wp2_with fail
  have rd_aw : Rd cHint 2 w (w.heap.size) aA al := rd_a
  clear rd_a
  have hV0 : 0 ≤ (1048576 : Int) ∧ (1048576 : Int) ≤ 1048576 := by omega
  rcases Int.lt_or_le 1048576 (al.length : Int) with hfit | hfit
  · refine (szHintS_no al aA ac 1048576 _ (by omega) (by omega) hm_a hfit).mono ?_
    rintro e wN ⟨rfl, hb⟩
    go_wp2_with fail
    go_ret
    exact ⟨rfl, by repeat' (first | with_reducible assumption | with_reducible exact Below.refl _ _ | (with_reducible refine Below.setCell ?_ ?_ _) | (with_reducible refine Below.alloc ?_ ?_ _) | (with_reducible refine Below.drew ?_) | (with_reducible refine below_dr ?_ _) | (with_reducible refine Below.trans ?_ (Below.mono (by with_reducible assumption) ?_)) | omega | (simp; done) | (simp; omega))⟩
  have hl_a : al.length ≤ 1048576 := by omega
  refine (szHintS_yes al aA ac 1048576 _ (by omega) (by omega) hm_a hfit).mono ?_
  obtain ⟨V0, hV⟩ : ∃ V : Int, V = 1048576 - al.length := ⟨_, rfl⟩
  have hVV : 0 ≤ V0 ∧ V0 ≤ 1048576 := by omega
  rw [← hV]
  rintro e wS0 ⟨rfl, hbwS0⟩
  clear hV hfit hV0
  obtain ⟨hV0_0, hV1_0⟩ := hVV
  have zwS0 := hbwS0.size
  (try simp only [World.size_setCell] at zwS0)
  (try simp only [World.size_drew] at zwS0)
  (try simp only [World.size_alloc] at zwS0)
  have qwS0 : w.heap.size ≤ wS0.heap.size := by omega
  have rd_awS0 : Rd cHint 2 wS0 (w.heap.size) aA al := by repeat' (first | with_reducible assumption | (with_reducible refine Rd.drew ?_) | (with_reducible refine Rd.carry ?_ (by with_reducible assumption) ?_) | (with_reducible refine Rd.alloc ?_ ?_ _) | (with_reducible refine Rd.setCell ?_ ?_ _) | omega | (simp; done) | (simp; omega))
  have bn : Below w.heap.size w wS0 := by repeat' (first | with_reducible assumption | with_reducible exact Below.refl _ _ | (with_reducible refine Below.setCell ?_ ?_ _) | (with_reducible refine Below.alloc ?_ ?_ _) | (with_reducible refine Below.drew ?_) | (with_reducible refine below_dr ?_ _) | (with_reducible refine Below.trans ?_ (Below.mono (by with_reducible assumption) ?_)) | omega | (simp; done) | (simp; omega))
  have bwS0 := Lib.hid bn
  clear bn
  clear hbwS0
  clear rd_aw
  go_wp2_with fail
  refine (toHintS_any al aA ac _ hl_a ?_).mono ?_
  · (refine Rd.more (B := w.heap.size) ?_ (by first | omega | ((try simp only [World.size_setCell]); (try simp only [World.size_drew]); (try simp only [World.size_alloc]); omega) | (simp; done) | (simp; omega))); (repeat' (first | with_reducible assumption | (with_reducible refine Rd.drew ?_) | (with_reducible refine Rd.carry ?_ (by with_reducible assumption) ?_) | (with_reducible refine Rd.alloc ?_ ?_ _) | (with_reducible refine Rd.setCell ?_ ?_ _) | omega | (simp; done) | (simp; omega)))
  intro e wA0 hq
  obtain ⟨gA_a, rfl, ow, hbwA0⟩ := hq
  have zwA0 := hbwA0.size
  (try simp only [World.size_setCell] at zwA0)
  (try simp only [World.size_drew] at zwA0)
  (try simp only [World.size_alloc] at zwA0)
  have qwA0 : w.heap.size ≤ wA0.heap.size := by omega
  have rd_awA0 : Rd cHint 2 wA0 (w.heap.size) aA al := by repeat' (first | with_reducible assumption | (with_reducible refine Rd.drew ?_) | (with_reducible refine Rd.carry ?_ (by with_reducible assumption) ?_) | (with_reducible refine Rd.alloc ?_ ?_ _) | (with_reducible refine Rd.setCell ?_ ?_ _) | omega | (simp; done) | (simp; omega))
  have bp := bwS0.out
  have bn : Below w.heap.size w wA0 := by repeat' (first | with_reducible assumption | with_reducible exact Below.refl _ _ | (with_reducible refine Below.setCell ?_ ?_ _) | (with_reducible refine Below.alloc ?_ ?_ _) | (with_reducible refine Below.drew ?_) | (with_reducible refine below_dr ?_ _) | (with_reducible refine Below.trans ?_ (Below.mono (by with_reducible assumption) ?_)) | omega | (simp; done) | (simp; omega))
  have bwA0 := Lib.hid bn
  clear bn
  clear bp bwS0
  clear hbwA0
  clear rd_awS0
  have ra_awA0 : Rd cHint 2 wA0 (wA0.heap.size) (some ⟨gA_a, 0, none⟩) al := Rd.of_own (fun a => cHint_len a) (by omega) ow (Nat.le_refl _)
  clear ow
  go_wp2_with fail
  refine (C1.out (some ⟨gA_a, 0, none⟩) al.length _ hl_a ?_).mono ?_
  · (refine Rd.more (B := wA0.heap.size) ?_ (by first | omega | ((try simp only [World.size_setCell]); (try simp only [World.size_drew]); (try simp only [World.size_alloc]); omega) | (simp; done) | (simp; omega))); (repeat' (first | with_reducible assumption | (with_reducible refine Rd.drew ?_) | (with_reducible refine Rd.carry ?_ (by with_reducible assumption) ?_) | (with_reducible refine Rd.alloc ?_ ?_ _) | (with_reducible refine Rd.setCell ?_ ?_ _) | omega | (simp; done) | (simp; omega)))
  rintro e wB ⟨rfl, hbwB⟩
  have zwB := hbwB.size
  (try simp only [World.size_setCell] at zwB)
  (try simp only [World.size_drew] at zwB)
  (try simp only [World.size_alloc] at zwB)
  have qwB : w.heap.size ≤ wB.heap.size := by omega
  have rd_awB : Rd cHint 2 wB (w.heap.size) aA al := by repeat' (first | with_reducible assumption | (with_reducible refine Rd.drew ?_) | (with_reducible refine Rd.carry ?_ (by with_reducible assumption) ?_) | (with_reducible refine Rd.alloc ?_ ?_ _) | (with_reducible refine Rd.setCell ?_ ?_ _) | omega | (simp; done) | (simp; omega))
  have ra_awB : Rd cHint 2 wB (wA0.heap.size) (some ⟨gA_a, 0, none⟩) al := by repeat' (first | with_reducible assumption | (with_reducible refine Rd.drew ?_) | (with_reducible refine Rd.carry ?_ (by with_reducible assumption) ?_) | (with_reducible refine Rd.alloc ?_ ?_ _) | (with_reducible refine Rd.setCell ?_ ?_ _) | omega | (simp; done) | (simp; omega))
  have bp := bwA0.out
  have bn : Below w.heap.size w wB := by repeat' (first | with_reducible assumption | with_reducible exact Below.refl _ _ | (with_reducible refine Below.setCell ?_ ?_ _) | (with_reducible refine Below.alloc ?_ ?_ _) | (with_reducible refine Below.drew ?_) | (with_reducible refine below_dr ?_ _) | (with_reducible refine Below.trans ?_ (Below.mono (by with_reducible assumption) ?_)) | omega | (simp; done) | (simp; omega))
  have bwB := Lib.hid bn
  clear bn
  clear bp bwA0
  clear hbwB
  clear rd_awA0
  clear ra_awA0
  clear ra_awB
  go_wp2_with fail
  refine (toHintS_any al aA ac _ hl_a ?_).mono ?_
  · (refine Rd.more (B := w.heap.size) ?_ (by first | omega | ((try simp only [World.size_setCell]); (try simp only [World.size_drew]); (try simp only [World.size_alloc]); omega) | (simp; done) | (simp; omega))); (repeat' (first | with_reducible assumption | (with_reducible refine Rd.drew ?_) | (with_reducible refine Rd.carry ?_ (by with_reducible assumption) ?_) | (with_reducible refine Rd.alloc ?_ ?_ _) | (with_reducible refine Rd.setCell ?_ ?_ _) | omega | (simp; done) | (simp; omega)))
  intro e wX0 hq
  obtain ⟨gX_a, rfl, ow, hbwX0⟩ := hq
  have zwX0 := hbwX0.size
  (try simp only [World.size_setCell] at zwX0)
  (try simp only [World.size_drew] at zwX0)
  (try simp only [World.size_alloc] at zwX0)
  have qwX0 : w.heap.size ≤ wX0.heap.size := by omega
  have rd_awX0 : Rd cHint 2 wX0 (w.heap.size) aA al := by repeat' (first | with_reducible assumption | (with_reducible refine Rd.drew ?_) | (with_reducible refine Rd.carry ?_ (by with_reducible assumption) ?_) | (with_reducible refine Rd.alloc ?_ ?_ _) | (with_reducible refine Rd.setCell ?_ ?_ _) | omega | (simp; done) | (simp; omega))
  have bp := bwB.out
  have bn : Below w.heap.size w wX0 := by repeat' (first | with_reducible assumption | with_reducible exact Below.refl _ _ | (with_reducible refine Below.setCell ?_ ?_ _) | (with_reducible refine Below.alloc ?_ ?_ _) | (with_reducible refine Below.drew ?_) | (with_reducible refine below_dr ?_ _) | (with_reducible refine Below.trans ?_ (Below.mono (by with_reducible assumption) ?_)) | omega | (simp; done) | (simp; omega))
  have bwX0 := Lib.hid bn
  clear bn
  clear bp bwB
  clear hbwX0
  clear rd_awB
  have rx_awX0 : Rd cHint 2 wX0 (wX0.heap.size) (some ⟨gX_a, 0, none⟩) al := Rd.of_own (fun a => cHint_len a) (by omega) ow (Nat.le_refl _)
  clear ow
  go_wp2_with fail
  refine (C2.out (some ⟨gX_a, 0, none⟩) al.length _ hl_a ?_).mono ?_
  · (refine Rd.more (B := wX0.heap.size) ?_ (by first | omega | ((try simp only [World.size_setCell]); (try simp only [World.size_drew]); (try simp only [World.size_alloc]); omega) | (simp; done) | (simp; omega))); (repeat' (first | with_reducible assumption | (with_reducible refine Rd.drew ?_) | (with_reducible refine Rd.carry ?_ (by with_reducible assumption) ?_) | (with_reducible refine Rd.alloc ?_ ?_ _) | (with_reducible refine Rd.setCell ?_ ?_ _) | omega | (simp; done) | (simp; omega)))
  rintro e wI ⟨rfl, hbwI⟩
  have zwI := hbwI.size
  (try simp only [World.size_setCell] at zwI)
  (try simp only [World.size_drew] at zwI)
  (try simp only [World.size_alloc] at zwI)
  have qwI : w.heap.size ≤ wI.heap.size := by omega
  have rd_awI : Rd cHint 2 wI (w.heap.size) aA al := by repeat' (first | with_reducible assumption | (with_reducible refine Rd.drew ?_) | (with_reducible refine Rd.carry ?_ (by with_reducible assumption) ?_) | (with_reducible refine Rd.alloc ?_ ?_ _) | (with_reducible refine Rd.setCell ?_ ?_ _) | omega | (simp; done) | (simp; omega))
  have rx_awI : Rd cHint 2 wI (wX0.heap.size) (some ⟨gX_a, 0, none⟩) al := by repeat' (first | with_reducible assumption | (with_reducible refine Rd.drew ?_) | (with_reducible refine Rd.carry ?_ (by with_reducible assumption) ?_) | (with_reducible refine Rd.alloc ?_ ?_ _) | (with_reducible refine Rd.setCell ?_ ?_ _) | omega | (simp; done) | (simp; omega))
  have bp := bwX0.out
  have bn : Below w.heap.size w wI := by repeat' (first | with_reducible assumption | with_reducible exact Below.refl _ _ | (with_reducible refine Below.setCell ?_ ?_ _) | (with_reducible refine Below.alloc ?_ ?_ _) | (with_reducible refine Below.drew ?_) | (with_reducible refine below_dr ?_ _) | (with_reducible refine Below.trans ?_ (Below.mono (by with_reducible assumption) ?_)) | omega | (simp; done) | (simp; omega))
  have bwI := Lib.hid bn
  clear bn
  clear bp bwX0
  clear hbwI
  clear rd_awX0
  clear rx_awX0
  go_wp2_with fail
  refine (toHintS_any al aA ac _ hl_a ?_).mono ?_
  · (refine Rd.more (B := w.heap.size) ?_ (by first | omega | ((try simp only [World.size_setCell]); (try simp only [World.size_drew]); (try simp only [World.size_alloc]); omega) | (simp; done) | (simp; omega))); (repeat' (first | with_reducible assumption | (with_reducible refine Rd.drew ?_) | (with_reducible refine Rd.carry ?_ (by with_reducible assumption) ?_) | (with_reducible refine Rd.alloc ?_ ?_ _) | (with_reducible refine Rd.setCell ?_ ?_ _) | omega | (simp; done) | (simp; omega)))
  intro e wT0 hq
  obtain ⟨gT_a, rfl, ow, hbwT0⟩ := hq
  have zwT0 := hbwT0.size
  (try simp only [World.size_setCell] at zwT0)
  (try simp only [World.size_drew] at zwT0)
  (try simp only [World.size_alloc] at zwT0)
  have qwT0 : w.heap.size ≤ wT0.heap.size := by omega
  have rd_awT0 : Rd cHint 2 wT0 (w.heap.size) aA al := by repeat' (first | with_reducible assumption | (with_reducible refine Rd.drew ?_) | (with_reducible refine Rd.carry ?_ (by with_reducible assumption) ?_) | (with_reducible refine Rd.alloc ?_ ?_ _) | (with_reducible refine Rd.setCell ?_ ?_ _) | omega | (simp; done) | (simp; omega))
  have rx_awT0 : Rd cHint 2 wT0 (wX0.heap.size) (some ⟨gX_a, 0, none⟩) al := by repeat' (first | with_reducible assumption | (with_reducible refine Rd.drew ?_) | (with_reducible refine Rd.carry ?_ (by with_reducible assumption) ?_) | (with_reducible refine Rd.alloc ?_ ?_ _) | (with_reducible refine Rd.setCell ?_ ?_ _) | omega | (simp; done) | (simp; omega))
  have bp := bwI.out
  have bn : Below w.heap.size w wT0 := by repeat' (first | with_reducible assumption | with_reducible exact Below.refl _ _ | (with_reducible refine Below.setCell ?_ ?_ _) | (with_reducible refine Below.alloc ?_ ?_ _) | (with_reducible refine Below.drew ?_) | (with_reducible refine below_dr ?_ _) | (with_reducible refine Below.trans ?_ (Below.mono (by with_reducible assumption) ?_)) | omega | (simp; done) | (simp; omega))
  have bwT0 := Lib.hid bn
  clear bn
  clear bp bwI
  clear hbwT0
  clear rd_awI
  clear rx_awI
  have rt_awT0 : Rd cHint 2 wT0 (wT0.heap.size) (some ⟨gT_a, 0, none⟩) al := Rd.of_own (fun a => cHint_len a) (by omega) ow (Nat.le_refl _)
  clear ow
  go_wp2_with fail
  refine (eqHintS_same al (some ⟨gX_a, 0, none⟩) (some ⟨gT_a, 0, none⟩) al.length al.length _ (by omega) ?_ ?_).mono ?_
  · (refine Rd.more (B := wX0.heap.size) ?_ (by first | omega | ((try simp only [World.size_setCell]); (try simp only [World.size_drew]); (try simp only [World.size_alloc]); omega) | (simp; done) | (simp; omega))); (repeat' (first | with_reducible assumption | (with_reducible refine Rd.drew ?_) | (with_reducible refine Rd.carry ?_ (by with_reducible assumption) ?_) | (with_reducible refine Rd.alloc ?_ ?_ _) | (with_reducible refine Rd.setCell ?_ ?_ _) | omega | (simp; done) | (simp; omega)))
  · (refine Rd.more (B := wT0.heap.size) ?_ (by first | omega | ((try simp only [World.size_setCell]); (try simp only [World.size_drew]); (try simp only [World.size_alloc]); omega) | (simp; done) | (simp; omega))); (repeat' (first | with_reducible assumption | (with_reducible refine Rd.drew ?_) | (with_reducible refine Rd.carry ?_ (by with_reducible assumption) ?_) | (with_reducible refine Rd.alloc ?_ ?_ _) | (with_reducible refine Rd.setCell ?_ ?_ _) | omega | (simp; done) | (simp; omega)))
  rintro e wE0 ⟨rfl, hbwE0⟩
  have zwE0 := hbwE0.size
  (try simp only [World.size_setCell] at zwE0)
  (try simp only [World.size_drew] at zwE0)
  (try simp only [World.size_alloc] at zwE0)
  have qwE0 : w.heap.size ≤ wE0.heap.size := by omega
  have rd_awE0 : Rd cHint 2 wE0 (w.heap.size) aA al := by repeat' (first | with_reducible assumption | (with_reducible refine Rd.drew ?_) | (with_reducible refine Rd.carry ?_ (by with_reducible assumption) ?_) | (with_reducible refine Rd.alloc ?_ ?_ _) | (with_reducible refine Rd.setCell ?_ ?_ _) | omega | (simp; done) | (simp; omega))
  have rx_awE0 : Rd cHint 2 wE0 (wX0.heap.size) (some ⟨gX_a, 0, none⟩) al := by repeat' (first | with_reducible assumption | (with_reducible refine Rd.drew ?_) | (with_reducible refine Rd.carry ?_ (by with_reducible assumption) ?_) | (with_reducible refine Rd.alloc ?_ ?_ _) | (with_reducible refine Rd.setCell ?_ ?_ _) | omega | (simp; done) | (simp; omega))
  have rt_awE0 : Rd cHint 2 wE0 (wT0.heap.size) (some ⟨gT_a, 0, none⟩) al := by repeat' (first | with_reducible assumption | (with_reducible refine Rd.drew ?_) | (with_reducible refine Rd.carry ?_ (by with_reducible assumption) ?_) | (with_reducible refine Rd.alloc ?_ ?_ _) | (with_reducible refine Rd.setCell ?_ ?_ _) | omega | (simp; done) | (simp; omega))
  have bp := bwT0.out
  have bn : Below w.heap.size w wE0 := by repeat' (first | with_reducible assumption | with_reducible exact Below.refl _ _ | (with_reducible refine Below.setCell ?_ ?_ _) | (with_reducible refine Below.alloc ?_ ?_ _) | (with_reducible refine Below.drew ?_) | (with_reducible refine below_dr ?_ _) | (with_reducible refine Below.trans ?_ (Below.mono (by with_reducible assumption) ?_)) | omega | (simp; done) | (simp; omega))
  have bwE0 := Lib.hid bn
  clear bn
  clear bp bwT0
  clear hbwE0
  clear rd_awT0
  clear rx_awT0
  clear rt_awT0
  clear rt_awE0
  clear rx_awE0
  go_wp2_with fail
  go_ret
  have bp := bwE0.out
  exact ⟨rfl, by repeat' (first | with_reducible assumption | with_reducible exact Below.refl _ _ | (with_reducible refine Below.setCell ?_ ?_ _) | (with_reducible refine Below.alloc ?_ ?_ _) | (with_reducible refine Below.drew ?_) | (with_reducible refine below_dr ?_ _) | (with_reducible refine Below.trans ?_ (Below.mono (by with_reducible assumption) ?_)) | omega | (simp; done) | (simp; omega))⟩
end Go.Proofs.Ytofaolbgjhpopaa
