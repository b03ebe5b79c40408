/- Walks: which curves are the same, on both sides. -/
import Derived.Test.YthedimnjbfeaiaaKw
namespace Go.Proofs.Ythedimnjbfeaiaa
open Go.RowKit
set_option linter.unusedVariables false
def sUp (l m : List APt) (k : Nat) : Bool := decide (l.take k = m.take k)
def sEq (l m : List APt) : Bool := decide (l = m)
theorem sUp_zero (l m : List APt) : sUp l m 0 = true := by simp [sUp]
theorem sUp_succ {l m : List APt} {k : Nat} {a b : APt} (h : sUp l m k = true) (ha : l[k]? = some a) (hb : m[k]? = some b) (he : a = b) : sUp l m (k + 1) = true := by
  unfold sUp at *
  rw [List.take_add_one, List.take_add_one, ha, hb]
  simp only [decide_eq_true_eq] at h
  simp [h, he]
theorem sEq_len {l m : List APt} (h : ¬ l.length = m.length) : false = sEq l m := by
  unfold sEq; symm; rw [decide_eq_false_iff_not]; intro e; apply h; rw [e]
theorem sEq_no {l m : List APt} {k : Nat} {a b : APt} (ha : l[k]? = some a) (hb : m[k]? = some b) (he : ¬ a = b) : false = sEq l m := by
  unfold sEq; symm; rw [decide_eq_false_iff_not]; intro e; apply he
  rw [e, hb] at ha
  exact (Option.some.inj ha).symm
theorem sEq_yes {l m : List APt} (hl : l.length = m.length) (h : sUp l m l.length = true) : true = sEq l m := by
  unfold sUp at h
  rw [List.take_length, hl, List.take_length] at h
  unfold sEq; exact h.symm
theorem neq_pt {a b c d : Int} (w : World) : (Go.binOp BinOp.neq 30 (.agg #[.int .i64 a, .int .i64 b]) (.agg #[.int .i64 c, .int .i64 d])).run Try.prog w = Result.ok (.bool (!decide (a = c ∧ b = d))) w := by
  by_cases h1 : a = c
  · subst h1
    by_cases h2 : b = d
    · subst h2; simp [go_sem]
    · simp [go_sem, h2]
  · simp [go_sem, h1]
theorem eql_end {f g : Bool} {a b c d : Int} (w : World) : (Go.binOp BinOp.eql 87 (.agg #[.bool f, .int .i64 a, .int .i64 b]) (.agg #[.bool g, .int .i64 c, .int .i64 d])).run Try.prog w = Result.ok (.bool (decide (f = g ∧ a = c ∧ b = d))) w := by
  by_cases h0 : f = g
  · subst h0
    by_cases h1 : a = c
    · subst h1
      by_cases h2 : b = d
      · subst h2; simp [go_sem]
      · simp [go_sem, h2]
    · simp [go_sem, h1]
  · simp [go_sem, h0]
theorem pt_pair {x y u v : Int} (h : x = u ∧ y = v) : ((x, y) : APt) = (u, v) := by rw [h.1, h.2]
theorem pt_not {x y u v : Int} (h : ¬ (x = u ∧ y = v)) : ¬ ((x, y) : APt) = (u, v) := fun e => h ⟨congrArg Prod.fst e, congrArg Prod.snd e⟩
set_option maxHeartbeats 1600000 in
theorem slicesEqual_any (l m : List APt) (A A' : Option Addr) (c c' B : Nat) (w : World) (hl : l.length ≤ 1048576) (hm : m.length ≤ 1048576) (r : Rd cPt 2 w B A l) (r' : Rd cPt 2 w B A' m) :
    Calls Try.prog 62 #[.slice A l.length c, .slice A' m.length c'] w fun e w' => e = .returned (.bool (sEq l m)) ∧ ∃ q, w' = w.drewN q := by
  by_cases hln : l.length = m.length
  · obtain ⟨n, hn⟩ : ∃ n, n = l.length := ⟨_, rfl⟩
    have HL := Lib.hid hln
    rw [← hln, ← hn]
    rw [← hn] at hl
    have HN := Lib.hid hn
    have e0 : ((n : Int) != (n : Int)) = false := by simp
    clear hn hln hm
    go_enter Try.func62, Try.ntmps62
    go_wp2_with fail
    go_loopw [13] (fun i wr => ∃ k q : Nat, k ≤ n ∧ i = .int .i64 k ∧ sUp l m k = true ∧ wr = w.drewN q) (fun i _ => n - (intOf i).toNat)
    case atStart => exact ⟨0, 0, Nat.zero_le _, rfl, sUp_zero _ _, rfl⟩
    case round =>
      obtain ⟨k, q, hk, rfl, hup, rfl⟩ := hrel
      have HUP := Lib.hid hup
      clear hup
      by_cases hlt : k < n
      · obtain ⟨⟨x0, x1⟩, ha⟩ : ∃ a, l[k]? = some a := ⟨l[k]'(by have := HN.out; omega), List.getElem?_eq_getElem (by have := HN.out; omega)⟩
        obtain ⟨⟨y0, y1⟩, hb⟩ : ∃ a, m[k]? = some a := ⟨m[k]'(by have := HN.out; have := HL.out; omega), List.getElem?_eq_getElem (by have := HN.out; have := HL.out; omega)⟩
        obtain ⟨g, o, rfl, _, hc⟩ := r.elem ha
        obtain ⟨g', o', rfl, _, hc'⟩ := r'.elem hb
        have c0 : w.cell? ⟨g, o + k * 2, none⟩ = some (.int .i64 x0) := hc 0 _ rfl
        have c1 : w.cell? ⟨g, o + k * 2 + 1, none⟩ = some (.int .i64 x1) := hc 1 _ rfl
        have d0 : w.cell? ⟨g', o' + k * 2, none⟩ = some (.int .i64 y0) := hc' 0 _ rfl
        have d1 : w.cell? ⟨g', o' + k * 2 + 1, none⟩ = some (.int .i64 y1) := hc' 1 _ rfl
        have HA := Lib.hid ha
        have HB := Lib.hid hb
        clear hc hc' ha hb r r'
        have hki : (k : Int) < (n : Int) := by omega
        have e1 := fun w => neq_pt (a := x0) (b := x1) (c := y0) (d := y1) w
        by_cases hke : x0 = y0 ∧ x1 = y1
        · rw [decide_eq_true hke] at e1
          simp only [Bool.not_true] at e1
          have HK := Lib.hid hke
          clear hke
          go_wp2_with fail
          go_quiet (fail)
          clear e1
          go_wp2_with fail
          go_roundw
          case rel => exact ⟨k + 1, q + nq, by omega, by go_num, sUp_succ HUP.out HA.out HB.out (pt_pair HK.out), rfl⟩
          case measure => simp [intOf]; omega
        · rw [decide_eq_false hke] at e1
          simp only [Bool.not_false] at e1
          have HK := Lib.hid hke
          clear hke
          go_wp2_with fail
          go_quiet (fail)
          clear e1
          go_wp2_with fail
          go_ret
          exact ⟨ret_bool (sEq_no HA.out HB.out (pt_not HK.out)), q + nq, World.drewN_drewN _ _ _⟩
      · obtain rfl : k = n := by omega
        go_wp2_with fail
        go_ret
        exact ⟨ret_bool (sEq_yes HL.out (HN.out ▸ HUP.out)), q, rfl⟩
  · have e0 : ((l.length : Int) != (m.length : Int)) = true := by rw [bne_iff_ne]; omega
    have H := Lib.hid (sEq_len hln)
    clear hln
    go_enter Try.func62, Try.ntmps62
    go_wp2_with fail
    go_ret
    exact ⟨ret_bool H.out, 0, rfl⟩
theorem slicesEqual_b (l m : List APt) (A A' : Option Addr) (c c' : Nat) (w : World) (hl : l.length ≤ 1048576) (hm : m.length ≤ 1048576) (r : Rd cPt 2 w w.heap.size A l) (r' : Rd cPt 2 w w.heap.size A' m) :
    Calls Try.prog 62 #[.slice A l.length c, .slice A' m.length c'] w fun e w' => e = .returned (.bool (sEq l m)) ∧ Below w.heap.size w w' := by
  refine (slicesEqual_any l m A A' c c' _ w hl hm r r').mono ?_
  rintro e w1 ⟨rfl, q, rfl⟩
  exact ⟨rfl, Joins.below_draws _ _ _⟩
section
variable {l l' : List APt} {cl cl' ff ff' fl fl' : Bool} {t t' fx fx' fy fy' lx lx' ly ly' : Int}
theorem sC_l (h : false = sEq l l') : false = sCur l cl t ff fl fx fy lx ly l' cl' t' ff' fl' fx' fy' lx' ly' := by
  unfold sCur; symm; rw [decide_eq_false_iff_not]; intro e; have := e.2.2.1; unfold sEq at h; rw [decide_eq_true this] at h; cases h
theorem sC_cl (h : ¬ cl = cl') : false = sCur l cl t ff fl fx fy lx ly l' cl' t' ff' fl' fx' fy' lx' ly' := by
  unfold sCur; symm; rw [decide_eq_false_iff_not]; exact fun e => h e.1
theorem sC_t (h : ¬ t = t') : false = sCur l cl t ff fl fx fy lx ly l' cl' t' ff' fl' fx' fy' lx' ly' := by
  unfold sCur; symm; rw [decide_eq_false_iff_not]; exact fun e => h e.2.1
theorem sC_f (h : ¬ (ff = ff' ∧ fx = fx' ∧ fy = fy')) : false = sCur l cl t ff fl fx fy lx ly l' cl' t' ff' fl' fx' fy' lx' ly' := by
  unfold sCur; symm; rw [decide_eq_false_iff_not]; exact fun e => h e.2.2.2.1
theorem sC_e (h : ¬ (fl = fl' ∧ lx = lx' ∧ ly = ly')) : false = sCur l cl t ff fl fx fy lx ly l' cl' t' ff' fl' fx' fy' lx' ly' := by
  unfold sCur; symm; rw [decide_eq_false_iff_not]; exact fun e => h e.2.2.2.2
theorem sC_v {v : Bool} (h1 : cl = cl') (h2 : t = t') (h3 : ff = ff' ∧ fx = fx' ∧ fy = fy') (h4 : fl = fl' ∧ lx = lx' ∧ ly = ly') (h : v = sEq l l') : v = sCur l cl t ff fl fx fy lx ly l' cl' t' ff' fl' fx' fy' lx' ly' := by
  rw [h]; unfold sCur sEq
  by_cases e : l = l'
  · rw [decide_eq_true e, decide_eq_true ⟨h1, h2, e, h3, h4⟩]
  · rw [decide_eq_false e]; symm; rw [decide_eq_false_iff_not]; exact fun q => e q.2.2.1
end
set_option maxHeartbeats 6400000 in
theorem implSameCurve_any (l : List APt) (A : Option Addr) (c : Nat) (cl : Bool) (t : Int) (ff fl : Bool) (fx fy lx ly : Int) (l' : List APt) (A' : Option Addr) (c' : Nat) (cl' : Bool) (t' : Int) (ff' fl' : Bool) (fx' fy' lx' ly' : Int) (w : World) (hl : l.length ≤ 1048576) (hl' : l'.length ≤ 1048576) (r : Rd cPt 2 w w.heap.size A l) (r' : Rd cPt 2 w w.heap.size A' l') :
    Calls Try.prog 19 #[.agg #[.slice A l.length c, .bool cl, .int .i64 t, .bool ff, .bool fl, .int .i64 fx, .int .i64 fy, .int .i64 lx, .int .i64 ly], .agg #[.slice A' l'.length c', .bool cl', .int .i64 t', .bool ff', .bool fl', .int .i64 fx', .int .i64 fy', .int .i64 lx', .int .i64 ly']] w fun e w' => e = .returned (.bool (sCur l cl t ff fl fx fy lx ly l' cl' t' ff' fl' fx' fy' lx' ly')) ∧ Below w.heap.size w w' := by
  obtain ⟨n, hn⟩ : ∃ n, n = l.length := ⟨_, rfl⟩
  obtain ⟨m, hm⟩ : ∃ m, m = l'.length := ⟨_, rfl⟩
  have C := Lib.hid (fun w r r' => slicesEqual_b l l' A A' c c' w hl hl' r r')
  rw [← hn, ← hm] at C ⊢
  clear hn hm
  by_cases hcl : cl = cl'
  case neg =>
    have H := Lib.hid (sC_cl (l := l) (t := t) (ff := ff) (fl := fl) (fx := fx) (fy := fy) (lx := lx) (ly := ly) (l' := l') (t' := t') (ff' := ff') (fl' := fl') (fx' := fx') (fy' := fy') (lx' := lx') (ly' := ly') hcl)
    clear C
    rcases cl with _ | _ <;> rcases cl' with _ | _
    all_goals first | exact absurd rfl hcl | (clear hcl; go_enter Try.func19, Try.ntmps19; go_wp2_with fail; go_ret; exact ⟨ret_bool H.out, by repeat' (first | with_reducible assumption | with_reducible exact Below.refl _ _ | (with_reducible refine Below.setCell ?_ ?_ _) | (with_reducible refine Below.alloc ?_ ?_ _) | (with_reducible refine Below.drew ?_) | (with_reducible refine below_dr ?_ _) | (with_reducible refine Below.trans ?_ (Below.mono (by with_reducible assumption) ?_)) | omega | (simp; done) | (simp; omega))⟩)
  case pos =>
    by_cases ht : t = t'
    case neg =>
      subst hcl
      have e0 : (cl != cl) = false := by simp
      have e1 : (t != t') = true := by rw [bne_iff_ne]; exact ht
      have H := Lib.hid (sC_t (l := l) (cl := cl) (ff := ff) (fl := fl) (fx := fx) (fy := fy) (lx := lx) (ly := ly) (l' := l') (cl' := cl) (ff' := ff') (fl' := fl') (fx' := fx') (fy' := fy') (lx' := lx') (ly' := ly') ht)
      clear ht C
      go_enter Try.func19, Try.ntmps19
      go_wp2_with fail
      go_ret
      exact ⟨ret_bool (H.out), by repeat' (first | with_reducible assumption | with_reducible exact Below.refl _ _ | (with_reducible refine Below.setCell ?_ ?_ _) | (with_reducible refine Below.alloc ?_ ?_ _) | (with_reducible refine Below.drew ?_) | (with_reducible refine below_dr ?_ _) | (with_reducible refine Below.trans ?_ (Below.mono (by with_reducible assumption) ?_)) | omega | (simp; done) | (simp; omega))⟩
    case pos =>
      subst hcl ht
      have e0 : (cl != cl) = false := by simp
      have e1 : (t != t) = false := by simp
      go_enter Try.func19, Try.ntmps19
      go_wp2_with fail
      clear e0 e1
      generalize hW : (w.alloc (.cells #[.slice A n c, .bool cl, .int .i64 t, .bool ff, .bool fl, .int .i64 fx, .int .i64 fy, .int .i64 lx, .int .i64 ly] 32)).alloc (.cells #[.slice A' m c', .bool cl, .int .i64 t, .bool ff', .bool fl', .int .i64 fx', .int .i64 fy', .int .i64 lx', .int .i64 ly'] 32) = W0
      have at0 : AtL w.heap.size [.slice A n c, .bool cl, .int .i64 t, .bool ff, .bool fl, .int .i64 fx, .int .i64 fy, .int .i64 lx, .int .i64 ly] W0 := by rw [← hW]; exact (AtL.new w _ _).alloc _
      have at1 : AtL (w.heap.size + 1) [.slice A' m c', .bool cl, .int .i64 t, .bool ff', .bool fl', .int .i64 fx', .int .i64 fy', .int .i64 lx', .int .i64 ly'] W0 := by rw [← hW]; exact AtL.newAt (by simp)
      have r0 : Rd cPt 2 W0 w.heap.size A l := by rw [← hW]; exact (r.alloc (Nat.le_refl _) _).alloc (by simp) _
      have r0' : Rd cPt 2 W0 w.heap.size A' l' := by rw [← hW]; exact (r'.alloc (Nat.le_refl _) _).alloc (by simp) _
      have g0 : Below w.heap.size w W0 := by rw [← hW]; repeat' (first | with_reducible assumption | with_reducible exact Below.refl _ _ | (with_reducible refine Below.setCell ?_ ?_ _) | (with_reducible refine Below.alloc ?_ ?_ _) | (with_reducible refine Below.drew ?_) | (with_reducible refine below_dr ?_ _) | (with_reducible refine Below.trans ?_ (Below.mono (by with_reducible assumption) ?_)) | omega | (simp; done) | (simp; omega))
      clear hW r r'
      have z0 := g0.size
      have lt0 := at0.lt
      have lt1 := at1.lt
      have k0 := at0.cell 0 rfl
      have k1 := at0.cell 1 rfl
      have k2 := at0.cell 2 rfl
      have k3 := at0.cell 3 rfl
      have k4 := at0.cell 4 rfl
      have k5 := at0.cell 5 rfl
      have k6 := at0.cell 6 rfl
      have k7 := at0.cell 7 rfl
      have k8 := at0.cell 8 rfl
      have j0 := at1.cell 0 rfl
      have j1 := at1.cell 1 rfl
      have j2 := at1.cell 2 rfl
      have j3 := at1.cell 3 rfl
      have j4 := at1.cell 4 rfl
      have j5 := at1.cell 5 rfl
      have j6 := at1.cell 6 rfl
      have j7 := at1.cell 7 rfl
      have j8 := at1.cell 8 rfl
      rcases hv : sEq l l' with _ | _
      case false =>
        rw [hv] at C
        have H := Lib.hid (sC_l (cl := cl) (t := t) (ff := ff) (fl := fl) (fx := fx) (fy := fy) (lx := lx) (ly := ly) (cl' := cl) (t' := t) (ff' := ff') (fl' := fl') (fx' := fx') (fy' := fy') (lx' := lx') (ly' := ly') hv.symm)
        clear hv
        refine wp_region_held_drew (S := (fun w' => (∀ b o, b < W0.heap.size → w'.cell? ⟨b, o, none⟩ = W0.cell? ⟨b, o, none⟩) ∧ W0.heap.size ≤ w'.heap.size)) (by kernel_rfl) ?_ (fun hHeld => ?_)
        · (try dsimp only); (first | ((try dsimp only); exact ⟨fun b o h => (by (repeat (first | with_reducible exact rfl | (with_reducible refine (cell_drew_at _ _).trans ?_) | (with_reducible refine (cell_set_at _ _ (by first | omega | (simp; done) | (simp; omega))).trans ?_) | (with_reducible refine (cell_alloc_at _ _ (by first | omega | (simp; done) | (simp; omega))).trans ?_) | (with_reducible refine (hcwE b o (by first | omega | (simp; done) | (simp; omega))).trans ?_) | (with_reducible refine (hcwF1 b o (by first | omega | (simp; done) | (simp; omega))).trans ?_) | (with_reducible refine (hcwF2 b o (by first | omega | (simp; done) | (simp; omega))).trans ?_) | (with_reducible refine (hcwL1 b o (by first | omega | (simp; done) | (simp; omega))).trans ?_) | (with_reducible refine (hcwL2 b o (by first | omega | (simp; done) | (simp; omega))).trans ?_)))), (by first | omega | (simp; done) | (simp; omega))⟩) | fail)
        refine wpAnyH_take (i := 0) (oi := ⟨_, _, _, _, _, _⟩) (v := ?_) rfl (by kernel_rfl) (by kernel_rfl) (by kernel_rfl) (fun _ _ _ h => h) (Or.inl ⟨by rfl, ?_⟩) (by assumption) ?_
        rotate_left
        · intro w hSw; (try dsimp only at hSw); go_simp; (try with_reducible rfl)
        (try simp only [Act.put, List.setIfInBounds_toArray, List.set_cons_zero, List.set_cons_succ])
        refine wpAnyH_take (i := 1) (oi := ⟨_, _, _, _, _, _⟩) (v := ?_) rfl (by kernel_rfl) (by kernel_rfl) (by kernel_rfl) (fun _ _ _ h => h) (Or.inl ⟨by rfl, ?_⟩) (by assumption) ?_
        rotate_left
        · intro w hSw; (try dsimp only at hSw); go_simp; (try with_reducible rfl)
        (try simp only [Act.put, List.setIfInBounds_toArray, List.set_cons_zero, List.set_cons_succ])
        refine wpAnyH_take (i := 2) (oi := ⟨_, _, _, _, _, _⟩) (v := ?_) rfl (by kernel_rfl) (by kernel_rfl) (by kernel_rfl) (fun _ _ _ h => h) (Or.inl ⟨by rfl, ?_⟩) (by assumption) ?_
        rotate_left
        · intro w hSw; (try dsimp only at hSw); go_simp; (try with_reducible rfl)
        (try simp only [Act.put, List.setIfInBounds_toArray, List.set_cons_zero, List.set_cons_succ])
        refine wpAnyH_take (i := 3) (oi := ⟨_, _, _, _, _, _⟩) (v := ?_) rfl (by kernel_rfl) (by kernel_rfl) (by kernel_rfl) (fun _ _ _ h => h) (Or.inl ⟨by rfl, ?_⟩) (by assumption) ?_
        rotate_left
        · intro w hSw; (try dsimp only at hSw); go_simp; (try with_reducible rfl)
        (try simp only [Act.put, List.setIfInBounds_toArray, List.set_cons_zero, List.set_cons_succ])
        refine wpAnyH_ready (rs := [4]) (by kernel_rfl) (by simp) ?_
        refine AllReadyH.cons (o := ⟨_, _, _, _, _, _⟩) rfl (fun K hK => ?_) AllReadyH.nil
        go_simp
        (go_at_call 62; (with_reducible refine (C.out _ ?_ ?_).mono ?_); (focus ((refine Rd.more (B := w.heap.size) ?_ (by first | omega | ((try simp only [World.size_setCell]); (try simp only [World.size_drew]); (try simp only [World.size_alloc]); omega) | (simp; done) | (simp; omega))); (repeat' (first | with_reducible assumption | (with_reducible refine Rd.drew ?_) | (with_reducible refine Rd.carry ?_ (by with_reducible assumption) ?_) | (with_reducible refine Rd.alloc ?_ ?_ _) | (with_reducible refine Rd.setCell ?_ ?_ _) | omega | (simp; done) | (simp; omega))))); (focus ((refine Rd.more (B := w.heap.size) ?_ (by first | omega | ((try simp only [World.size_setCell]); (try simp only [World.size_drew]); (try simp only [World.size_alloc]); omega) | (simp; done) | (simp; omega))); (repeat' (first | with_reducible assumption | (with_reducible refine Rd.drew ?_) | (with_reducible refine Rd.carry ?_ (by with_reducible assumption) ?_) | (with_reducible refine Rd.alloc ?_ ?_ _) | (with_reducible refine Rd.setCell ?_ ?_ _) | omega | (simp; done) | (simp; omega))))); rintro e wE ⟨rfl, hbwE⟩; obtain ⟨hcwE, hfwE⟩ := bcell hbwE; have hzwE := hbwE.size; (try simp only [World.size_drew] at hcwE hfwE hzwE); (try simp only [World.size_alloc] at hcwE hfwE hzwE))
        refine hK.out _ _ ?_ (fun hHeld => ?_)
        · (try dsimp only); (first | ((try dsimp only); exact ⟨fun b o h => (by (repeat (first | with_reducible exact rfl | (with_reducible refine (cell_drew_at _ _).trans ?_) | (with_reducible refine (cell_set_at _ _ (by first | omega | (simp; done) | (simp; omega))).trans ?_) | (with_reducible refine (cell_alloc_at _ _ (by first | omega | (simp; done) | (simp; omega))).trans ?_) | (with_reducible refine (hcwE b o (by first | omega | (simp; done) | (simp; omega))).trans ?_) | (with_reducible refine (hcwF1 b o (by first | omega | (simp; done) | (simp; omega))).trans ?_) | (with_reducible refine (hcwF2 b o (by first | omega | (simp; done) | (simp; omega))).trans ?_) | (with_reducible refine (hcwL1 b o (by first | omega | (simp; done) | (simp; omega))).trans ?_) | (with_reducible refine (hcwL2 b o (by first | omega | (simp; done) | (simp; omega))).trans ?_)))), (by first | omega | (simp; done) | (simp; omega))⟩) | fail)
        clear hK K
        (try simp only [Act.put, List.setIfInBounds_toArray, List.set_cons_zero, List.set_cons_succ])
        refine wpAnyH_take (i := 5) (oi := ⟨_, _, _, _, _, _⟩) (v := ?_) rfl (by kernel_rfl) (by kernel_rfl) (by kernel_rfl) (fun _ _ _ h => h) (Or.inl ⟨by rfl, ?_⟩) (by assumption) ?_
        rotate_left
        · intro w hSw; (try dsimp only at hSw); go_simp; (try with_reducible rfl)
        (try simp only [Act.put, List.setIfInBounds_toArray, List.set_cons_zero, List.set_cons_succ])
        refine wpAnyH_take (i := 6) (oi := ⟨_, _, _, _, _, _⟩) (v := undef) rfl (by kernel_rfl) (by kernel_rfl) (by kernel_rfl) (fun _ _ _ h => h) (Or.inr ⟨by rfl, rfl⟩) (by assumption) ?_
        (try simp only [Act.put, List.setIfInBounds_toArray, List.set_cons_zero, List.set_cons_succ])
        refine wpAnyH_take (i := 7) (oi := ⟨_, _, _, _, _, _⟩) (v := undef) rfl (by kernel_rfl) (by kernel_rfl) (by kernel_rfl) (fun _ _ _ h => h) (Or.inr ⟨by rfl, rfl⟩) (by assumption) ?_
        (try simp only [Act.put, List.setIfInBounds_toArray, List.set_cons_zero, List.set_cons_succ])
        refine wpAnyH_take (i := 8) (oi := ⟨_, _, _, _, _, _⟩) (v := undef) rfl (by kernel_rfl) (by kernel_rfl) (by kernel_rfl) (fun _ _ _ h => h) (Or.inr ⟨by rfl, rfl⟩) (by assumption) ?_
        (try simp only [Act.put, List.setIfInBounds_toArray, List.set_cons_zero, List.set_cons_succ])
        refine wpAnyH_take (i := 9) (oi := ⟨_, _, _, _, _, _⟩) (v := undef) rfl (by kernel_rfl) (by kernel_rfl) (by kernel_rfl) (fun _ _ _ h => h) (Or.inr ⟨by rfl, rfl⟩) (by assumption) ?_
        (try simp only [Act.put, List.setIfInBounds_toArray, List.set_cons_zero, List.set_cons_succ])
        refine wpAnyH_take (i := 10) (oi := ⟨_, _, _, _, _, _⟩) (v := undef) rfl (by kernel_rfl) (by kernel_rfl) (by kernel_rfl) (fun _ _ _ h => h) (Or.inr ⟨by rfl, rfl⟩) (by assumption) ?_
        (try simp only [Act.put, List.setIfInBounds_toArray, List.set_cons_zero, List.set_cons_succ])
        refine wpAnyH_take (i := 11) (oi := ⟨_, _, _, _, _, _⟩) (v := ?_) rfl (by kernel_rfl) (by kernel_rfl) (by kernel_rfl) (fun _ _ _ h => h) (Or.inl ⟨by rfl, ?_⟩) (by assumption) ?_
        rotate_left
        · intro w hSw; (try dsimp only at hSw); go_simp; (try with_reducible rfl)
        (try simp only [Act.put, List.setIfInBounds_toArray, List.set_cons_zero, List.set_cons_succ])
        refine wpAnyH_take (i := 12) (oi := ⟨_, _, _, _, _, _⟩) (v := ?_) rfl (by kernel_rfl) (by kernel_rfl) (by kernel_rfl) (fun _ _ _ h => h) (Or.inl ⟨by rfl, ?_⟩) (by assumption) ?_
        rotate_left
        · intro w hSw; (try dsimp only at hSw); go_simp; (try with_reducible rfl)
        (try simp only [Act.put, List.setIfInBounds_toArray, List.set_cons_zero, List.set_cons_succ])
        refine wpAnyH_take (i := 13) (oi := ⟨_, _, _, _, _, _⟩) (v := undef) rfl (by kernel_rfl) (by kernel_rfl) (by kernel_rfl) (fun _ _ _ h => h) (Or.inr ⟨by rfl, rfl⟩) (by assumption) ?_
        (try simp only [Act.put, List.setIfInBounds_toArray, List.set_cons_zero, List.set_cons_succ])
        refine wpAnyH_take (i := 14) (oi := ⟨_, _, _, _, _, _⟩) (v := undef) rfl (by kernel_rfl) (by kernel_rfl) (by kernel_rfl) (fun _ _ _ h => h) (Or.inr ⟨by rfl, rfl⟩) (by assumption) ?_
        (try simp only [Act.put, List.setIfInBounds_toArray, List.set_cons_zero, List.set_cons_succ])
        refine wpAnyH_take (i := 15) (oi := ⟨_, _, _, _, _, _⟩) (v := undef) rfl (by kernel_rfl) (by kernel_rfl) (by kernel_rfl) (fun _ _ _ h => h) (Or.inr ⟨by rfl, rfl⟩) (by assumption) ?_
        (try simp only [Act.put, List.setIfInBounds_toArray, List.set_cons_zero, List.set_cons_succ])
        refine wpAnyH_take (i := 16) (oi := ⟨_, _, _, _, _, _⟩) (v := undef) rfl (by kernel_rfl) (by kernel_rfl) (by kernel_rfl) (fun _ _ _ h => h) (Or.inr ⟨by rfl, rfl⟩) (by assumption) ?_
        (try simp only [Act.put, List.setIfInBounds_toArray, List.set_cons_zero, List.set_cons_succ])
        refine wpAnyH_take (i := 17) (oi := ⟨_, _, _, _, _, _⟩) (v := undef) rfl (by kernel_rfl) (by kernel_rfl) (by kernel_rfl) (fun _ _ _ h => h) (Or.inr ⟨by rfl, rfl⟩) (by assumption) ?_
        (try simp only [Act.put, List.setIfInBounds_toArray, List.set_cons_zero, List.set_cons_succ])
        refine wpAnyH_take (i := 18) (oi := ⟨_, _, _, _, _, _⟩) (v := ?_) rfl (by kernel_rfl) (by kernel_rfl) (by kernel_rfl) (fun _ _ _ h => h) (Or.inl ⟨by rfl, ?_⟩) (by assumption) ?_
        rotate_left
        · intro w hSw; (try dsimp only at hSw); go_simp; (try with_reducible rfl)
        (try simp only [Act.put, List.setIfInBounds_toArray, List.set_cons_zero, List.set_cons_succ])
        refine wpAnyH_take (i := 19) (oi := ⟨_, _, _, _, _, _⟩) (v := ?_) rfl (by kernel_rfl) (by kernel_rfl) (by kernel_rfl) (fun _ _ _ h => h) (Or.inl ⟨by rfl, ?_⟩) (by assumption) ?_
        rotate_left
        · intro w hSw; (try dsimp only at hSw); go_simp; (try with_reducible rfl)
        (try simp only [Act.put, List.setIfInBounds_toArray, List.set_cons_zero, List.set_cons_succ])
        refine wpAnyH_done (by kernel_rfl) ?_ _
        go_wp2_with fail
        go_ret
        exact ⟨ret_bool (H.out), by repeat' (first | with_reducible assumption | with_reducible exact Below.refl _ _ | (with_reducible refine Below.setCell ?_ ?_ _) | (with_reducible refine Below.alloc ?_ ?_ _) | (with_reducible refine Below.drew ?_) | (with_reducible refine below_dr ?_ _) | (with_reducible refine Below.trans ?_ (Below.mono (by with_reducible assumption) ?_)) | omega | (simp; done) | (simp; omega))⟩
      case true =>
        rw [hv] at C
        have HV := Lib.hid hv
        clear hv
        have e1 := fun w => eql_end (f := ff) (g := ff') (a := fx) (b := fy) (c := fx') (d := fy') w
        by_cases hF : ff = ff' ∧ fx = fx' ∧ fy = fy'
        case neg =>
          rw [decide_eq_false hF] at e1
          have H := Lib.hid (sC_f (l := l) (cl := cl) (t := t) (fl := fl) (lx := lx) (ly := ly) (l' := l') (cl' := cl) (t' := t) (fl' := fl') (lx' := lx') (ly' := ly') hF)
          clear hF
          refine wp_region_held_drew (S := (fun w' => (∀ b o, b < W0.heap.size → w'.cell? ⟨b, o, none⟩ = W0.cell? ⟨b, o, none⟩) ∧ W0.heap.size ≤ w'.heap.size)) (by kernel_rfl) ?_ (fun hHeld => ?_)
          · (try dsimp only); (first | ((try dsimp only); exact ⟨fun b o h => (by (repeat (first | with_reducible exact rfl | (with_reducible refine (cell_drew_at _ _).trans ?_) | (with_reducible refine (cell_set_at _ _ (by first | omega | (simp; done) | (simp; omega))).trans ?_) | (with_reducible refine (cell_alloc_at _ _ (by first | omega | (simp; done) | (simp; omega))).trans ?_) | (with_reducible refine (hcwE b o (by first | omega | (simp; done) | (simp; omega))).trans ?_) | (with_reducible refine (hcwF1 b o (by first | omega | (simp; done) | (simp; omega))).trans ?_) | (with_reducible refine (hcwF2 b o (by first | omega | (simp; done) | (simp; omega))).trans ?_) | (with_reducible refine (hcwL1 b o (by first | omega | (simp; done) | (simp; omega))).trans ?_) | (with_reducible refine (hcwL2 b o (by first | omega | (simp; done) | (simp; omega))).trans ?_)))), (by first | omega | (simp; done) | (simp; omega))⟩) | fail)
          refine wpAnyH_take (i := 0) (oi := ⟨_, _, _, _, _, _⟩) (v := ?_) rfl (by kernel_rfl) (by kernel_rfl) (by kernel_rfl) (fun _ _ _ h => h) (Or.inl ⟨by rfl, ?_⟩) (by assumption) ?_
          rotate_left
          · intro w hSw; (try dsimp only at hSw); go_simp; (try with_reducible rfl)
          (try simp only [Act.put, List.setIfInBounds_toArray, List.set_cons_zero, List.set_cons_succ])
          refine wpAnyH_take (i := 1) (oi := ⟨_, _, _, _, _, _⟩) (v := ?_) rfl (by kernel_rfl) (by kernel_rfl) (by kernel_rfl) (fun _ _ _ h => h) (Or.inl ⟨by rfl, ?_⟩) (by assumption) ?_
          rotate_left
          · intro w hSw; (try dsimp only at hSw); go_simp; (try with_reducible rfl)
          (try simp only [Act.put, List.setIfInBounds_toArray, List.set_cons_zero, List.set_cons_succ])
          refine wpAnyH_take (i := 2) (oi := ⟨_, _, _, _, _, _⟩) (v := ?_) rfl (by kernel_rfl) (by kernel_rfl) (by kernel_rfl) (fun _ _ _ h => h) (Or.inl ⟨by rfl, ?_⟩) (by assumption) ?_
          rotate_left
          · intro w hSw; (try dsimp only at hSw); go_simp; (try with_reducible rfl)
          (try simp only [Act.put, List.setIfInBounds_toArray, List.set_cons_zero, List.set_cons_succ])
          refine wpAnyH_take (i := 3) (oi := ⟨_, _, _, _, _, _⟩) (v := ?_) rfl (by kernel_rfl) (by kernel_rfl) (by kernel_rfl) (fun _ _ _ h => h) (Or.inl ⟨by rfl, ?_⟩) (by assumption) ?_
          rotate_left
          · intro w hSw; (try dsimp only at hSw); go_simp; (try with_reducible rfl)
          (try simp only [Act.put, List.setIfInBounds_toArray, List.set_cons_zero, List.set_cons_succ])
          refine wpAnyH_ready (rs := [4]) (by kernel_rfl) (by simp) ?_
          refine AllReadyH.cons (o := ⟨_, _, _, _, _, _⟩) rfl (fun K hK => ?_) AllReadyH.nil
          go_simp
          (go_at_call 62; (with_reducible refine (C.out _ ?_ ?_).mono ?_); (focus ((refine Rd.more (B := w.heap.size) ?_ (by first | omega | ((try simp only [World.size_setCell]); (try simp only [World.size_drew]); (try simp only [World.size_alloc]); omega) | (simp; done) | (simp; omega))); (repeat' (first | with_reducible assumption | (with_reducible refine Rd.drew ?_) | (with_reducible refine Rd.carry ?_ (by with_reducible assumption) ?_) | (with_reducible refine Rd.alloc ?_ ?_ _) | (with_reducible refine Rd.setCell ?_ ?_ _) | omega | (simp; done) | (simp; omega))))); (focus ((refine Rd.more (B := w.heap.size) ?_ (by first | omega | ((try simp only [World.size_setCell]); (try simp only [World.size_drew]); (try simp only [World.size_alloc]); omega) | (simp; done) | (simp; omega))); (repeat' (first | with_reducible assumption | (with_reducible refine Rd.drew ?_) | (with_reducible refine Rd.carry ?_ (by with_reducible assumption) ?_) | (with_reducible refine Rd.alloc ?_ ?_ _) | (with_reducible refine Rd.setCell ?_ ?_ _) | omega | (simp; done) | (simp; omega))))); rintro e wE ⟨rfl, hbwE⟩; obtain ⟨hcwE, hfwE⟩ := bcell hbwE; have hzwE := hbwE.size; (try simp only [World.size_drew] at hcwE hfwE hzwE); (try simp only [World.size_alloc] at hcwE hfwE hzwE))
          refine hK.out _ _ ?_ (fun hHeld => ?_)
          · (try dsimp only); (first | ((try dsimp only); exact ⟨fun b o h => (by (repeat (first | with_reducible exact rfl | (with_reducible refine (cell_drew_at _ _).trans ?_) | (with_reducible refine (cell_set_at _ _ (by first | omega | (simp; done) | (simp; omega))).trans ?_) | (with_reducible refine (cell_alloc_at _ _ (by first | omega | (simp; done) | (simp; omega))).trans ?_) | (with_reducible refine (hcwE b o (by first | omega | (simp; done) | (simp; omega))).trans ?_) | (with_reducible refine (hcwF1 b o (by first | omega | (simp; done) | (simp; omega))).trans ?_) | (with_reducible refine (hcwF2 b o (by first | omega | (simp; done) | (simp; omega))).trans ?_) | (with_reducible refine (hcwL1 b o (by first | omega | (simp; done) | (simp; omega))).trans ?_) | (with_reducible refine (hcwL2 b o (by first | omega | (simp; done) | (simp; omega))).trans ?_)))), (by first | omega | (simp; done) | (simp; omega))⟩) | fail)
          clear hK K
          (try simp only [Act.put, List.setIfInBounds_toArray, List.set_cons_zero, List.set_cons_succ])
          refine wpAnyH_take (i := 5) (oi := ⟨_, _, _, _, _, _⟩) (v := ?_) rfl (by kernel_rfl) (by kernel_rfl) (by kernel_rfl) (fun _ _ _ h => h) (Or.inl ⟨by rfl, ?_⟩) (by assumption) ?_
          rotate_left
          · intro w hSw; (try dsimp only at hSw); go_simp; (try with_reducible rfl)
          (try simp only [Act.put, List.setIfInBounds_toArray, List.set_cons_zero, List.set_cons_succ])
          refine wpAnyH_take (i := 6) (oi := ⟨_, _, _, _, _, _⟩) (v := ?_) rfl (by kernel_rfl) (by kernel_rfl) (by kernel_rfl) (fun _ _ _ h => h) (Or.inl ⟨by rfl, ?_⟩) (by assumption) ?_
          rotate_left
          · intro w hSw; (try dsimp only at hSw); go_simp; (try with_reducible rfl)
          (try simp only [Act.put, List.setIfInBounds_toArray, List.set_cons_zero, List.set_cons_succ])
          refine wpAnyH_take (i := 8) (oi := ⟨_, _, _, _, _, _⟩) (v := ?_) rfl (by kernel_rfl) (by kernel_rfl) (by kernel_rfl) (fun _ _ _ h => h) (Or.inl ⟨by rfl, ?_⟩) (by assumption) ?_
          rotate_left
          · intro w hSw; (try dsimp only at hSw); go_simp; (try with_reducible rfl)
          (try simp only [Act.put, List.setIfInBounds_toArray, List.set_cons_zero, List.set_cons_succ])
          refine wpAnyH_ready (rs := [7]) (by kernel_rfl) (by simp) ?_
          refine AllReadyH.cons (o := ⟨_, _, _, _, _, _⟩) rfl (fun K hK => ?_) AllReadyH.nil
          go_simp
          (go_at_call 56; (with_reducible refine (first_any _ _ _ _ _ _ _ _ _ _ _ _).mono ?_); rintro e wF1 ⟨rfl, hbwF1⟩; obtain ⟨hcwF1, hfwF1⟩ := bcell hbwF1; have hzwF1 := hbwF1.size; (try simp only [World.size_drew] at hcwF1 hfwF1 hzwF1); (try simp only [World.size_alloc] at hcwF1 hfwF1 hzwF1))
          refine hK.out _ _ ?_ (fun hHeld => ?_)
          · (try dsimp only); (first | ((try dsimp only); exact ⟨fun b o h => (by (repeat (first | with_reducible exact rfl | (with_reducible refine (cell_drew_at _ _).trans ?_) | (with_reducible refine (cell_set_at _ _ (by first | omega | (simp; done) | (simp; omega))).trans ?_) | (with_reducible refine (cell_alloc_at _ _ (by first | omega | (simp; done) | (simp; omega))).trans ?_) | (with_reducible refine (hcwE b o (by first | omega | (simp; done) | (simp; omega))).trans ?_) | (with_reducible refine (hcwF1 b o (by first | omega | (simp; done) | (simp; omega))).trans ?_) | (with_reducible refine (hcwF2 b o (by first | omega | (simp; done) | (simp; omega))).trans ?_) | (with_reducible refine (hcwL1 b o (by first | omega | (simp; done) | (simp; omega))).trans ?_) | (with_reducible refine (hcwL2 b o (by first | omega | (simp; done) | (simp; omega))).trans ?_)))), (by first | omega | (simp; done) | (simp; omega))⟩) | fail)
          clear hK K
          (try simp only [Act.put, List.setIfInBounds_toArray, List.set_cons_zero, List.set_cons_succ])
          refine wpAnyH_ready (rs := [9]) (by kernel_rfl) (by simp) ?_
          refine AllReadyH.cons (o := ⟨_, _, _, _, _, _⟩) rfl (fun K hK => ?_) AllReadyH.nil
          go_simp
          (go_at_call 56; (with_reducible refine (first_any _ _ _ _ _ _ _ _ _ _ _ _).mono ?_); rintro e wF2 ⟨rfl, hbwF2⟩; obtain ⟨hcwF2, hfwF2⟩ := bcell hbwF2; have hzwF2 := hbwF2.size; (try simp only [World.size_drew] at hcwF2 hfwF2 hzwF2); (try simp only [World.size_alloc] at hcwF2 hfwF2 hzwF2))
          refine hK.out _ _ ?_ (fun hHeld => ?_)
          · (try dsimp only); (first | ((try dsimp only); exact ⟨fun b o h => (by (repeat (first | with_reducible exact rfl | (with_reducible refine (cell_drew_at _ _).trans ?_) | (with_reducible refine (cell_set_at _ _ (by first | omega | (simp; done) | (simp; omega))).trans ?_) | (with_reducible refine (cell_alloc_at _ _ (by first | omega | (simp; done) | (simp; omega))).trans ?_) | (with_reducible refine (hcwE b o (by first | omega | (simp; done) | (simp; omega))).trans ?_) | (with_reducible refine (hcwF1 b o (by first | omega | (simp; done) | (simp; omega))).trans ?_) | (with_reducible refine (hcwF2 b o (by first | omega | (simp; done) | (simp; omega))).trans ?_) | (with_reducible refine (hcwL1 b o (by first | omega | (simp; done) | (simp; omega))).trans ?_) | (with_reducible refine (hcwL2 b o (by first | omega | (simp; done) | (simp; omega))).trans ?_)))), (by first | omega | (simp; done) | (simp; omega))⟩) | fail)
          clear hK K
          (try simp only [Act.put, List.setIfInBounds_toArray, List.set_cons_zero, List.set_cons_succ])
          refine wpAnyH_take (i := 10) (oi := ⟨_, _, _, _, _, _⟩) (v := ?_) rfl (by kernel_rfl) (by kernel_rfl) (by kernel_rfl) (fun _ _ _ h => h) (Or.inl ⟨by rfl, ?_⟩) (by assumption) ?_
          rotate_left
          · intro w hSw; (try dsimp only at hSw); go_simp; (try with_reducible rfl)
          (try simp only [Act.put, List.setIfInBounds_toArray, List.set_cons_zero, List.set_cons_succ])
          refine wpAnyH_take (i := 11) (oi := ⟨_, _, _, _, _, _⟩) (v := ?_) rfl (by kernel_rfl) (by kernel_rfl) (by kernel_rfl) (fun _ _ _ h => h) (Or.inl ⟨by rfl, ?_⟩) (by assumption) ?_
          rotate_left
          · intro w hSw; (try dsimp only at hSw); go_simp; (try with_reducible rfl)
          (try simp only [Act.put, List.setIfInBounds_toArray, List.set_cons_zero, List.set_cons_succ])
          refine wpAnyH_take (i := 12) (oi := ⟨_, _, _, _, _, _⟩) (v := ?_) rfl (by kernel_rfl) (by kernel_rfl) (by kernel_rfl) (fun _ _ _ h => h) (Or.inl ⟨by rfl, ?_⟩) (by assumption) ?_
          rotate_left
          · intro w hSw; (try dsimp only at hSw); go_simp; (try with_reducible rfl)
          (try simp only [Act.put, List.setIfInBounds_toArray, List.set_cons_zero, List.set_cons_succ])
          refine wpAnyH_take (i := 13) (oi := ⟨_, _, _, _, _, _⟩) (v := undef) rfl (by kernel_rfl) (by kernel_rfl) (by kernel_rfl) (fun _ _ _ h => h) (Or.inr ⟨by rfl, rfl⟩) (by assumption) ?_
          (try simp only [Act.put, List.setIfInBounds_toArray, List.set_cons_zero, List.set_cons_succ])
          refine wpAnyH_take (i := 14) (oi := ⟨_, _, _, _, _, _⟩) (v := undef) rfl (by kernel_rfl) (by kernel_rfl) (by kernel_rfl) (fun _ _ _ h => h) (Or.inr ⟨by rfl, rfl⟩) (by assumption) ?_
          (try simp only [Act.put, List.setIfInBounds_toArray, List.set_cons_zero, List.set_cons_succ])
          refine wpAnyH_take (i := 15) (oi := ⟨_, _, _, _, _, _⟩) (v := undef) rfl (by kernel_rfl) (by kernel_rfl) (by kernel_rfl) (fun _ _ _ h => h) (Or.inr ⟨by rfl, rfl⟩) (by assumption) ?_
          (try simp only [Act.put, List.setIfInBounds_toArray, List.set_cons_zero, List.set_cons_succ])
          refine wpAnyH_take (i := 16) (oi := ⟨_, _, _, _, _, _⟩) (v := undef) rfl (by kernel_rfl) (by kernel_rfl) (by kernel_rfl) (fun _ _ _ h => h) (Or.inr ⟨by rfl, rfl⟩) (by assumption) ?_
          (try simp only [Act.put, List.setIfInBounds_toArray, List.set_cons_zero, List.set_cons_succ])
          refine wpAnyH_take (i := 17) (oi := ⟨_, _, _, _, _, _⟩) (v := undef) rfl (by kernel_rfl) (by kernel_rfl) (by kernel_rfl) (fun _ _ _ h => h) (Or.inr ⟨by rfl, rfl⟩) (by assumption) ?_
          (try simp only [Act.put, List.setIfInBounds_toArray, List.set_cons_zero, List.set_cons_succ])
          refine wpAnyH_take (i := 18) (oi := ⟨_, _, _, _, _, _⟩) (v := ?_) rfl (by kernel_rfl) (by kernel_rfl) (by kernel_rfl) (fun _ _ _ h => h) (Or.inl ⟨by rfl, ?_⟩) (by assumption) ?_
          rotate_left
          · intro w hSw; (try dsimp only at hSw); go_simp; (try with_reducible rfl)
          (try simp only [Act.put, List.setIfInBounds_toArray, List.set_cons_zero, List.set_cons_succ])
          refine wpAnyH_take (i := 19) (oi := ⟨_, _, _, _, _, _⟩) (v := ?_) rfl (by kernel_rfl) (by kernel_rfl) (by kernel_rfl) (fun _ _ _ h => h) (Or.inl ⟨by rfl, ?_⟩) (by assumption) ?_
          rotate_left
          · intro w hSw; (try dsimp only at hSw); go_simp; (try with_reducible rfl)
          (try simp only [Act.put, List.setIfInBounds_toArray, List.set_cons_zero, List.set_cons_succ])
          refine wpAnyH_done (by kernel_rfl) ?_ _
          go_wp2_with fail
          go_ret
          exact ⟨ret_bool (H.out), by repeat' (first | with_reducible assumption | with_reducible exact Below.refl _ _ | (with_reducible refine Below.setCell ?_ ?_ _) | (with_reducible refine Below.alloc ?_ ?_ _) | (with_reducible refine Below.drew ?_) | (with_reducible refine below_dr ?_ _) | (with_reducible refine Below.trans ?_ (Below.mono (by with_reducible assumption) ?_)) | omega | (simp; done) | (simp; omega))⟩
        case pos =>
          rw [decide_eq_true hF] at e1
          have HF := Lib.hid hF
          clear hF
          have e2 := fun w => eql_end (f := fl) (g := fl') (a := lx) (b := ly) (c := lx') (d := ly') w
          by_cases hL : fl = fl' ∧ lx = lx' ∧ ly = ly'
          case neg =>
            rw [decide_eq_false hL] at e2
            have H := Lib.hid (sC_e (l := l) (cl := cl) (t := t) (ff := ff) (fx := fx) (fy := fy) (l' := l') (cl' := cl) (t' := t) (ff' := ff') (fx' := fx') (fy' := fy') hL)
            clear hL
            refine wp_region_held_drew (S := (fun w' => (∀ b o, b < W0.heap.size → w'.cell? ⟨b, o, none⟩ = W0.cell? ⟨b, o, none⟩) ∧ W0.heap.size ≤ w'.heap.size)) (by kernel_rfl) ?_ (fun hHeld => ?_)
            · (try dsimp only); (first | ((try dsimp only); exact ⟨fun b o h => (by (repeat (first | with_reducible exact rfl | (with_reducible refine (cell_drew_at _ _).trans ?_) | (with_reducible refine (cell_set_at _ _ (by first | omega | (simp; done) | (simp; omega))).trans ?_) | (with_reducible refine (cell_alloc_at _ _ (by first | omega | (simp; done) | (simp; omega))).trans ?_) | (with_reducible refine (hcwE b o (by first | omega | (simp; done) | (simp; omega))).trans ?_) | (with_reducible refine (hcwF1 b o (by first | omega | (simp; done) | (simp; omega))).trans ?_) | (with_reducible refine (hcwF2 b o (by first | omega | (simp; done) | (simp; omega))).trans ?_) | (with_reducible refine (hcwL1 b o (by first | omega | (simp; done) | (simp; omega))).trans ?_) | (with_reducible refine (hcwL2 b o (by first | omega | (simp; done) | (simp; omega))).trans ?_)))), (by first | omega | (simp; done) | (simp; omega))⟩) | fail)
            refine wpAnyH_take (i := 0) (oi := ⟨_, _, _, _, _, _⟩) (v := ?_) rfl (by kernel_rfl) (by kernel_rfl) (by kernel_rfl) (fun _ _ _ h => h) (Or.inl ⟨by rfl, ?_⟩) (by assumption) ?_
            rotate_left
            · intro w hSw; (try dsimp only at hSw); go_simp; (try with_reducible rfl)
            (try simp only [Act.put, List.setIfInBounds_toArray, List.set_cons_zero, List.set_cons_succ])
            refine wpAnyH_take (i := 1) (oi := ⟨_, _, _, _, _, _⟩) (v := ?_) rfl (by kernel_rfl) (by kernel_rfl) (by kernel_rfl) (fun _ _ _ h => h) (Or.inl ⟨by rfl, ?_⟩) (by assumption) ?_
            rotate_left
            · intro w hSw; (try dsimp only at hSw); go_simp; (try with_reducible rfl)
            (try simp only [Act.put, List.setIfInBounds_toArray, List.set_cons_zero, List.set_cons_succ])
            refine wpAnyH_take (i := 2) (oi := ⟨_, _, _, _, _, _⟩) (v := ?_) rfl (by kernel_rfl) (by kernel_rfl) (by kernel_rfl) (fun _ _ _ h => h) (Or.inl ⟨by rfl, ?_⟩) (by assumption) ?_
            rotate_left
            · intro w hSw; (try dsimp only at hSw); go_simp; (try with_reducible rfl)
            (try simp only [Act.put, List.setIfInBounds_toArray, List.set_cons_zero, List.set_cons_succ])
            refine wpAnyH_take (i := 3) (oi := ⟨_, _, _, _, _, _⟩) (v := ?_) rfl (by kernel_rfl) (by kernel_rfl) (by kernel_rfl) (fun _ _ _ h => h) (Or.inl ⟨by rfl, ?_⟩) (by assumption) ?_
            rotate_left
            · intro w hSw; (try dsimp only at hSw); go_simp; (try with_reducible rfl)
            (try simp only [Act.put, List.setIfInBounds_toArray, List.set_cons_zero, List.set_cons_succ])
            refine wpAnyH_ready (rs := [4]) (by kernel_rfl) (by simp) ?_
            refine AllReadyH.cons (o := ⟨_, _, _, _, _, _⟩) rfl (fun K hK => ?_) AllReadyH.nil
            go_simp
            (go_at_call 62; (with_reducible refine (C.out _ ?_ ?_).mono ?_); (focus ((refine Rd.more (B := w.heap.size) ?_ (by first | omega | ((try simp only [World.size_setCell]); (try simp only [World.size_drew]); (try simp only [World.size_alloc]); omega) | (simp; done) | (simp; omega))); (repeat' (first | with_reducible assumption | (with_reducible refine Rd.drew ?_) | (with_reducible refine Rd.carry ?_ (by with_reducible assumption) ?_) | (with_reducible refine Rd.alloc ?_ ?_ _) | (with_reducible refine Rd.setCell ?_ ?_ _) | omega | (simp; done) | (simp; omega))))); (focus ((refine Rd.more (B := w.heap.size) ?_ (by first | omega | ((try simp only [World.size_setCell]); (try simp only [World.size_drew]); (try simp only [World.size_alloc]); omega) | (simp; done) | (simp; omega))); (repeat' (first | with_reducible assumption | (with_reducible refine Rd.drew ?_) | (with_reducible refine Rd.carry ?_ (by with_reducible assumption) ?_) | (with_reducible refine Rd.alloc ?_ ?_ _) | (with_reducible refine Rd.setCell ?_ ?_ _) | omega | (simp; done) | (simp; omega))))); rintro e wE ⟨rfl, hbwE⟩; obtain ⟨hcwE, hfwE⟩ := bcell hbwE; have hzwE := hbwE.size; (try simp only [World.size_drew] at hcwE hfwE hzwE); (try simp only [World.size_alloc] at hcwE hfwE hzwE))
            refine hK.out _ _ ?_ (fun hHeld => ?_)
            · (try dsimp only); (first | ((try dsimp only); exact ⟨fun b o h => (by (repeat (first | with_reducible exact rfl | (with_reducible refine (cell_drew_at _ _).trans ?_) | (with_reducible refine (cell_set_at _ _ (by first | omega | (simp; done) | (simp; omega))).trans ?_) | (with_reducible refine (cell_alloc_at _ _ (by first | omega | (simp; done) | (simp; omega))).trans ?_) | (with_reducible refine (hcwE b o (by first | omega | (simp; done) | (simp; omega))).trans ?_) | (with_reducible refine (hcwF1 b o (by first | omega | (simp; done) | (simp; omega))).trans ?_) | (with_reducible refine (hcwF2 b o (by first | omega | (simp; done) | (simp; omega))).trans ?_) | (with_reducible refine (hcwL1 b o (by first | omega | (simp; done) | (simp; omega))).trans ?_) | (with_reducible refine (hcwL2 b o (by first | omega | (simp; done) | (simp; omega))).trans ?_)))), (by first | omega | (simp; done) | (simp; omega))⟩) | fail)
            clear hK K
            (try simp only [Act.put, List.setIfInBounds_toArray, List.set_cons_zero, List.set_cons_succ])
            refine wpAnyH_take (i := 5) (oi := ⟨_, _, _, _, _, _⟩) (v := ?_) rfl (by kernel_rfl) (by kernel_rfl) (by kernel_rfl) (fun _ _ _ h => h) (Or.inl ⟨by rfl, ?_⟩) (by assumption) ?_
            rotate_left
            · intro w hSw; (try dsimp only at hSw); go_simp; (try with_reducible rfl)
            (try simp only [Act.put, List.setIfInBounds_toArray, List.set_cons_zero, List.set_cons_succ])
            refine wpAnyH_take (i := 6) (oi := ⟨_, _, _, _, _, _⟩) (v := ?_) rfl (by kernel_rfl) (by kernel_rfl) (by kernel_rfl) (fun _ _ _ h => h) (Or.inl ⟨by rfl, ?_⟩) (by assumption) ?_
            rotate_left
            · intro w hSw; (try dsimp only at hSw); go_simp; (try with_reducible rfl)
            (try simp only [Act.put, List.setIfInBounds_toArray, List.set_cons_zero, List.set_cons_succ])
            refine wpAnyH_take (i := 8) (oi := ⟨_, _, _, _, _, _⟩) (v := ?_) rfl (by kernel_rfl) (by kernel_rfl) (by kernel_rfl) (fun _ _ _ h => h) (Or.inl ⟨by rfl, ?_⟩) (by assumption) ?_
            rotate_left
            · intro w hSw; (try dsimp only at hSw); go_simp; (try with_reducible rfl)
            (try simp only [Act.put, List.setIfInBounds_toArray, List.set_cons_zero, List.set_cons_succ])
            refine wpAnyH_ready (rs := [7]) (by kernel_rfl) (by simp) ?_
            refine AllReadyH.cons (o := ⟨_, _, _, _, _, _⟩) rfl (fun K hK => ?_) AllReadyH.nil
            go_simp
            (go_at_call 56; (with_reducible refine (first_any _ _ _ _ _ _ _ _ _ _ _ _).mono ?_); rintro e wF1 ⟨rfl, hbwF1⟩; obtain ⟨hcwF1, hfwF1⟩ := bcell hbwF1; have hzwF1 := hbwF1.size; (try simp only [World.size_drew] at hcwF1 hfwF1 hzwF1); (try simp only [World.size_alloc] at hcwF1 hfwF1 hzwF1))
            refine hK.out _ _ ?_ (fun hHeld => ?_)
            · (try dsimp only); (first | ((try dsimp only); exact ⟨fun b o h => (by (repeat (first | with_reducible exact rfl | (with_reducible refine (cell_drew_at _ _).trans ?_) | (with_reducible refine (cell_set_at _ _ (by first | omega | (simp; done) | (simp; omega))).trans ?_) | (with_reducible refine (cell_alloc_at _ _ (by first | omega | (simp; done) | (simp; omega))).trans ?_) | (with_reducible refine (hcwE b o (by first | omega | (simp; done) | (simp; omega))).trans ?_) | (with_reducible refine (hcwF1 b o (by first | omega | (simp; done) | (simp; omega))).trans ?_) | (with_reducible refine (hcwF2 b o (by first | omega | (simp; done) | (simp; omega))).trans ?_) | (with_reducible refine (hcwL1 b o (by first | omega | (simp; done) | (simp; omega))).trans ?_) | (with_reducible refine (hcwL2 b o (by first | omega | (simp; done) | (simp; omega))).trans ?_)))), (by first | omega | (simp; done) | (simp; omega))⟩) | fail)
            clear hK K
            (try simp only [Act.put, List.setIfInBounds_toArray, List.set_cons_zero, List.set_cons_succ])
            refine wpAnyH_ready (rs := [9]) (by kernel_rfl) (by simp) ?_
            refine AllReadyH.cons (o := ⟨_, _, _, _, _, _⟩) rfl (fun K hK => ?_) AllReadyH.nil
            go_simp
            (go_at_call 56; (with_reducible refine (first_any _ _ _ _ _ _ _ _ _ _ _ _).mono ?_); rintro e wF2 ⟨rfl, hbwF2⟩; obtain ⟨hcwF2, hfwF2⟩ := bcell hbwF2; have hzwF2 := hbwF2.size; (try simp only [World.size_drew] at hcwF2 hfwF2 hzwF2); (try simp only [World.size_alloc] at hcwF2 hfwF2 hzwF2))
            refine hK.out _ _ ?_ (fun hHeld => ?_)
            · (try dsimp only); (first | ((try dsimp only); exact ⟨fun b o h => (by (repeat (first | with_reducible exact rfl | (with_reducible refine (cell_drew_at _ _).trans ?_) | (with_reducible refine (cell_set_at _ _ (by first | omega | (simp; done) | (simp; omega))).trans ?_) | (with_reducible refine (cell_alloc_at _ _ (by first | omega | (simp; done) | (simp; omega))).trans ?_) | (with_reducible refine (hcwE b o (by first | omega | (simp; done) | (simp; omega))).trans ?_) | (with_reducible refine (hcwF1 b o (by first | omega | (simp; done) | (simp; omega))).trans ?_) | (with_reducible refine (hcwF2 b o (by first | omega | (simp; done) | (simp; omega))).trans ?_) | (with_reducible refine (hcwL1 b o (by first | omega | (simp; done) | (simp; omega))).trans ?_) | (with_reducible refine (hcwL2 b o (by first | omega | (simp; done) | (simp; omega))).trans ?_)))), (by first | omega | (simp; done) | (simp; omega))⟩) | fail)
            clear hK K
            (try simp only [Act.put, List.setIfInBounds_toArray, List.set_cons_zero, List.set_cons_succ])
            refine wpAnyH_take (i := 10) (oi := ⟨_, _, _, _, _, _⟩) (v := ?_) rfl (by kernel_rfl) (by kernel_rfl) (by kernel_rfl) (fun _ _ _ h => h) (Or.inl ⟨by rfl, ?_⟩) (by assumption) ?_
            rotate_left
            · intro w hSw; (try dsimp only at hSw); go_simp; (try with_reducible rfl)
            (try simp only [Act.put, List.setIfInBounds_toArray, List.set_cons_zero, List.set_cons_succ])
            refine wpAnyH_take (i := 11) (oi := ⟨_, _, _, _, _, _⟩) (v := ?_) rfl (by kernel_rfl) (by kernel_rfl) (by kernel_rfl) (fun _ _ _ h => h) (Or.inl ⟨by rfl, ?_⟩) (by assumption) ?_
            rotate_left
            · intro w hSw; (try dsimp only at hSw); go_simp; (try with_reducible rfl)
            (try simp only [Act.put, List.setIfInBounds_toArray, List.set_cons_zero, List.set_cons_succ])
            refine wpAnyH_take (i := 12) (oi := ⟨_, _, _, _, _, _⟩) (v := ?_) rfl (by kernel_rfl) (by kernel_rfl) (by kernel_rfl) (fun _ _ _ h => h) (Or.inl ⟨by rfl, ?_⟩) (by assumption) ?_
            rotate_left
            · intro w hSw; (try dsimp only at hSw); go_simp; (try with_reducible rfl)
            (try simp only [Act.put, List.setIfInBounds_toArray, List.set_cons_zero, List.set_cons_succ])
            refine wpAnyH_take (i := 13) (oi := ⟨_, _, _, _, _, _⟩) (v := ?_) rfl (by kernel_rfl) (by kernel_rfl) (by kernel_rfl) (fun _ _ _ h => h) (Or.inl ⟨by rfl, ?_⟩) (by assumption) ?_
            rotate_left
            · intro w hSw; (try dsimp only at hSw); go_simp; (try with_reducible rfl)
            (try simp only [Act.put, List.setIfInBounds_toArray, List.set_cons_zero, List.set_cons_succ])
            refine wpAnyH_take (i := 15) (oi := ⟨_, _, _, _, _, _⟩) (v := ?_) rfl (by kernel_rfl) (by kernel_rfl) (by kernel_rfl) (fun _ _ _ h => h) (Or.inl ⟨by rfl, ?_⟩) (by assumption) ?_
            rotate_left
            · intro w hSw; (try dsimp only at hSw); go_simp; (try with_reducible rfl)
            (try simp only [Act.put, List.setIfInBounds_toArray, List.set_cons_zero, List.set_cons_succ])
            refine wpAnyH_ready (rs := [14]) (by kernel_rfl) (by simp) ?_
            refine AllReadyH.cons (o := ⟨_, _, _, _, _, _⟩) rfl (fun K hK => ?_) AllReadyH.nil
            go_simp
            (go_at_call 58; (with_reducible refine (last_any _ _ _ _ _ _ _ _ _ _ _ _).mono ?_); rintro e wL1 ⟨rfl, hbwL1⟩; obtain ⟨hcwL1, hfwL1⟩ := bcell hbwL1; have hzwL1 := hbwL1.size; (try simp only [World.size_drew] at hcwL1 hfwL1 hzwL1); (try simp only [World.size_alloc] at hcwL1 hfwL1 hzwL1))
            refine hK.out _ _ ?_ (fun hHeld => ?_)
            · (try dsimp only); (first | ((try dsimp only); exact ⟨fun b o h => (by (repeat (first | with_reducible exact rfl | (with_reducible refine (cell_drew_at _ _).trans ?_) | (with_reducible refine (cell_set_at _ _ (by first | omega | (simp; done) | (simp; omega))).trans ?_) | (with_reducible refine (cell_alloc_at _ _ (by first | omega | (simp; done) | (simp; omega))).trans ?_) | (with_reducible refine (hcwE b o (by first | omega | (simp; done) | (simp; omega))).trans ?_) | (with_reducible refine (hcwF1 b o (by first | omega | (simp; done) | (simp; omega))).trans ?_) | (with_reducible refine (hcwF2 b o (by first | omega | (simp; done) | (simp; omega))).trans ?_) | (with_reducible refine (hcwL1 b o (by first | omega | (simp; done) | (simp; omega))).trans ?_) | (with_reducible refine (hcwL2 b o (by first | omega | (simp; done) | (simp; omega))).trans ?_)))), (by first | omega | (simp; done) | (simp; omega))⟩) | fail)
            clear hK K
            (try simp only [Act.put, List.setIfInBounds_toArray, List.set_cons_zero, List.set_cons_succ])
            refine wpAnyH_ready (rs := [16]) (by kernel_rfl) (by simp) ?_
            refine AllReadyH.cons (o := ⟨_, _, _, _, _, _⟩) rfl (fun K hK => ?_) AllReadyH.nil
            go_simp
            (go_at_call 58; (with_reducible refine (last_any _ _ _ _ _ _ _ _ _ _ _ _).mono ?_); rintro e wL2 ⟨rfl, hbwL2⟩; obtain ⟨hcwL2, hfwL2⟩ := bcell hbwL2; have hzwL2 := hbwL2.size; (try simp only [World.size_drew] at hcwL2 hfwL2 hzwL2); (try simp only [World.size_alloc] at hcwL2 hfwL2 hzwL2))
            refine hK.out _ _ ?_ (fun hHeld => ?_)
            · (try dsimp only); (first | ((try dsimp only); exact ⟨fun b o h => (by (repeat (first | with_reducible exact rfl | (with_reducible refine (cell_drew_at _ _).trans ?_) | (with_reducible refine (cell_set_at _ _ (by first | omega | (simp; done) | (simp; omega))).trans ?_) | (with_reducible refine (cell_alloc_at _ _ (by first | omega | (simp; done) | (simp; omega))).trans ?_) | (with_reducible refine (hcwE b o (by first | omega | (simp; done) | (simp; omega))).trans ?_) | (with_reducible refine (hcwF1 b o (by first | omega | (simp; done) | (simp; omega))).trans ?_) | (with_reducible refine (hcwF2 b o (by first | omega | (simp; done) | (simp; omega))).trans ?_) | (with_reducible refine (hcwL1 b o (by first | omega | (simp; done) | (simp; omega))).trans ?_) | (with_reducible refine (hcwL2 b o (by first | omega | (simp; done) | (simp; omega))).trans ?_)))), (by first | omega | (simp; done) | (simp; omega))⟩) | fail)
            clear hK K
            (try simp only [Act.put, List.setIfInBounds_toArray, List.set_cons_zero, List.set_cons_succ])
            refine wpAnyH_take (i := 17) (oi := ⟨_, _, _, _, _, _⟩) (v := ?_) rfl (by kernel_rfl) (by kernel_rfl) (by kernel_rfl) (fun _ _ _ h => h) (Or.inl ⟨by rfl, ?_⟩) (by assumption) ?_
            rotate_left
            · intro w hSw; (try dsimp only at hSw); go_simp; (try with_reducible rfl)
            (try simp only [Act.put, List.setIfInBounds_toArray, List.set_cons_zero, List.set_cons_succ])
            refine wpAnyH_take (i := 18) (oi := ⟨_, _, _, _, _, _⟩) (v := ?_) rfl (by kernel_rfl) (by kernel_rfl) (by kernel_rfl) (fun _ _ _ h => h) (Or.inl ⟨by rfl, ?_⟩) (by assumption) ?_
            rotate_left
            · intro w hSw; (try dsimp only at hSw); go_simp; (try with_reducible rfl)
            (try simp only [Act.put, List.setIfInBounds_toArray, List.set_cons_zero, List.set_cons_succ])
            refine wpAnyH_take (i := 19) (oi := ⟨_, _, _, _, _, _⟩) (v := ?_) rfl (by kernel_rfl) (by kernel_rfl) (by kernel_rfl) (fun _ _ _ h => h) (Or.inl ⟨by rfl, ?_⟩) (by assumption) ?_
            rotate_left
            · intro w hSw; (try dsimp only at hSw); go_simp; (try with_reducible rfl)
            (try simp only [Act.put, List.setIfInBounds_toArray, List.set_cons_zero, List.set_cons_succ])
            refine wpAnyH_done (by kernel_rfl) ?_ _
            go_wp2_with fail
            go_ret
            exact ⟨ret_bool (H.out), by repeat' (first | with_reducible assumption | with_reducible exact Below.refl _ _ | (with_reducible refine Below.setCell ?_ ?_ _) | (with_reducible refine Below.alloc ?_ ?_ _) | (with_reducible refine Below.drew ?_) | (with_reducible refine below_dr ?_ _) | (with_reducible refine Below.trans ?_ (Below.mono (by with_reducible assumption) ?_)) | omega | (simp; done) | (simp; omega))⟩
          case pos =>
            rw [decide_eq_true hL] at e2
            have HL := Lib.hid hL
            clear hL
            refine wp_region_held_drew (S := (fun w' => (∀ b o, b < W0.heap.size → w'.cell? ⟨b, o, none⟩ = W0.cell? ⟨b, o, none⟩) ∧ W0.heap.size ≤ w'.heap.size)) (by kernel_rfl) ?_ (fun hHeld => ?_)
            · (try dsimp only); (first | ((try dsimp only); exact ⟨fun b o h => (by (repeat (first | with_reducible exact rfl | (with_reducible refine (cell_drew_at _ _).trans ?_) | (with_reducible refine (cell_set_at _ _ (by first | omega | (simp; done) | (simp; omega))).trans ?_) | (with_reducible refine (cell_alloc_at _ _ (by first | omega | (simp; done) | (simp; omega))).trans ?_) | (with_reducible refine (hcwE b o (by first | omega | (simp; done) | (simp; omega))).trans ?_) | (with_reducible refine (hcwF1 b o (by first | omega | (simp; done) | (simp; omega))).trans ?_) | (with_reducible refine (hcwF2 b o (by first | omega | (simp; done) | (simp; omega))).trans ?_) | (with_reducible refine (hcwL1 b o (by first | omega | (simp; done) | (simp; omega))).trans ?_) | (with_reducible refine (hcwL2 b o (by first | omega | (simp; done) | (simp; omega))).trans ?_)))), (by first | omega | (simp; done) | (simp; omega))⟩) | fail)
            refine wpAnyH_take (i := 0) (oi := ⟨_, _, _, _, _, _⟩) (v := ?_) rfl (by kernel_rfl) (by kernel_rfl) (by kernel_rfl) (fun _ _ _ h => h) (Or.inl ⟨by rfl, ?_⟩) (by assumption) ?_
            rotate_left
            · intro w hSw; (try dsimp only at hSw); go_simp; (try with_reducible rfl)
            (try simp only [Act.put, List.setIfInBounds_toArray, List.set_cons_zero, List.set_cons_succ])
            refine wpAnyH_take (i := 1) (oi := ⟨_, _, _, _, _, _⟩) (v := ?_) rfl (by kernel_rfl) (by kernel_rfl) (by kernel_rfl) (fun _ _ _ h => h) (Or.inl ⟨by rfl, ?_⟩) (by assumption) ?_
            rotate_left
            · intro w hSw; (try dsimp only at hSw); go_simp; (try with_reducible rfl)
            (try simp only [Act.put, List.setIfInBounds_toArray, List.set_cons_zero, List.set_cons_succ])
            refine wpAnyH_take (i := 2) (oi := ⟨_, _, _, _, _, _⟩) (v := ?_) rfl (by kernel_rfl) (by kernel_rfl) (by kernel_rfl) (fun _ _ _ h => h) (Or.inl ⟨by rfl, ?_⟩) (by assumption) ?_
            rotate_left
            · intro w hSw; (try dsimp only at hSw); go_simp; (try with_reducible rfl)
            (try simp only [Act.put, List.setIfInBounds_toArray, List.set_cons_zero, List.set_cons_succ])
            refine wpAnyH_take (i := 3) (oi := ⟨_, _, _, _, _, _⟩) (v := ?_) rfl (by kernel_rfl) (by kernel_rfl) (by kernel_rfl) (fun _ _ _ h => h) (Or.inl ⟨by rfl, ?_⟩) (by assumption) ?_
            rotate_left
            · intro w hSw; (try dsimp only at hSw); go_simp; (try with_reducible rfl)
            (try simp only [Act.put, List.setIfInBounds_toArray, List.set_cons_zero, List.set_cons_succ])
            refine wpAnyH_ready (rs := [4]) (by kernel_rfl) (by simp) ?_
            refine AllReadyH.cons (o := ⟨_, _, _, _, _, _⟩) rfl (fun K hK => ?_) AllReadyH.nil
            go_simp
            (go_at_call 62; (with_reducible refine (C.out _ ?_ ?_).mono ?_); (focus ((refine Rd.more (B := w.heap.size) ?_ (by first | omega | ((try simp only [World.size_setCell]); (try simp only [World.size_drew]); (try simp only [World.size_alloc]); omega) | (simp; done) | (simp; omega))); (repeat' (first | with_reducible assumption | (with_reducible refine Rd.drew ?_) | (with_reducible refine Rd.carry ?_ (by with_reducible assumption) ?_) | (with_reducible refine Rd.alloc ?_ ?_ _) | (with_reducible refine Rd.setCell ?_ ?_ _) | omega | (simp; done) | (simp; omega))))); (focus ((refine Rd.more (B := w.heap.size) ?_ (by first | omega | ((try simp only [World.size_setCell]); (try simp only [World.size_drew]); (try simp only [World.size_alloc]); omega) | (simp; done) | (simp; omega))); (repeat' (first | with_reducible assumption | (with_reducible refine Rd.drew ?_) | (with_reducible refine Rd.carry ?_ (by with_reducible assumption) ?_) | (with_reducible refine Rd.alloc ?_ ?_ _) | (with_reducible refine Rd.setCell ?_ ?_ _) | omega | (simp; done) | (simp; omega))))); rintro e wE ⟨rfl, hbwE⟩; obtain ⟨hcwE, hfwE⟩ := bcell hbwE; have hzwE := hbwE.size; (try simp only [World.size_drew] at hcwE hfwE hzwE); (try simp only [World.size_alloc] at hcwE hfwE hzwE))
            refine hK.out _ _ ?_ (fun hHeld => ?_)
            · (try dsimp only); (first | ((try dsimp only); exact ⟨fun b o h => (by (repeat (first | with_reducible exact rfl | (with_reducible refine (cell_drew_at _ _).trans ?_) | (with_reducible refine (cell_set_at _ _ (by first | omega | (simp; done) | (simp; omega))).trans ?_) | (with_reducible refine (cell_alloc_at _ _ (by first | omega | (simp; done) | (simp; omega))).trans ?_) | (with_reducible refine (hcwE b o (by first | omega | (simp; done) | (simp; omega))).trans ?_) | (with_reducible refine (hcwF1 b o (by first | omega | (simp; done) | (simp; omega))).trans ?_) | (with_reducible refine (hcwF2 b o (by first | omega | (simp; done) | (simp; omega))).trans ?_) | (with_reducible refine (hcwL1 b o (by first | omega | (simp; done) | (simp; omega))).trans ?_) | (with_reducible refine (hcwL2 b o (by first | omega | (simp; done) | (simp; omega))).trans ?_)))), (by first | omega | (simp; done) | (simp; omega))⟩) | fail)
            clear hK K
            (try simp only [Act.put, List.setIfInBounds_toArray, List.set_cons_zero, List.set_cons_succ])
            refine wpAnyH_take (i := 5) (oi := ⟨_, _, _, _, _, _⟩) (v := ?_) rfl (by kernel_rfl) (by kernel_rfl) (by kernel_rfl) (fun _ _ _ h => h) (Or.inl ⟨by rfl, ?_⟩) (by assumption) ?_
            rotate_left
            · intro w hSw; (try dsimp only at hSw); go_simp; (try with_reducible rfl)
            (try simp only [Act.put, List.setIfInBounds_toArray, List.set_cons_zero, List.set_cons_succ])
            refine wpAnyH_take (i := 6) (oi := ⟨_, _, _, _, _, _⟩) (v := ?_) rfl (by kernel_rfl) (by kernel_rfl) (by kernel_rfl) (fun _ _ _ h => h) (Or.inl ⟨by rfl, ?_⟩) (by assumption) ?_
            rotate_left
            · intro w hSw; (try dsimp only at hSw); go_simp; (try with_reducible rfl)
            (try simp only [Act.put, List.setIfInBounds_toArray, List.set_cons_zero, List.set_cons_succ])
            refine wpAnyH_take (i := 8) (oi := ⟨_, _, _, _, _, _⟩) (v := ?_) rfl (by kernel_rfl) (by kernel_rfl) (by kernel_rfl) (fun _ _ _ h => h) (Or.inl ⟨by rfl, ?_⟩) (by assumption) ?_
            rotate_left
            · intro w hSw; (try dsimp only at hSw); go_simp; (try with_reducible rfl)
            (try simp only [Act.put, List.setIfInBounds_toArray, List.set_cons_zero, List.set_cons_succ])
            refine wpAnyH_ready (rs := [7]) (by kernel_rfl) (by simp) ?_
            refine AllReadyH.cons (o := ⟨_, _, _, _, _, _⟩) rfl (fun K hK => ?_) AllReadyH.nil
            go_simp
            (go_at_call 56; (with_reducible refine (first_any _ _ _ _ _ _ _ _ _ _ _ _).mono ?_); rintro e wF1 ⟨rfl, hbwF1⟩; obtain ⟨hcwF1, hfwF1⟩ := bcell hbwF1; have hzwF1 := hbwF1.size; (try simp only [World.size_drew] at hcwF1 hfwF1 hzwF1); (try simp only [World.size_alloc] at hcwF1 hfwF1 hzwF1))
            refine hK.out _ _ ?_ (fun hHeld => ?_)
            · (try dsimp only); (first | ((try dsimp only); exact ⟨fun b o h => (by (repeat (first | with_reducible exact rfl | (with_reducible refine (cell_drew_at _ _).trans ?_) | (with_reducible refine (cell_set_at _ _ (by first | omega | (simp; done) | (simp; omega))).trans ?_) | (with_reducible refine (cell_alloc_at _ _ (by first | omega | (simp; done) | (simp; omega))).trans ?_) | (with_reducible refine (hcwE b o (by first | omega | (simp; done) | (simp; omega))).trans ?_) | (with_reducible refine (hcwF1 b o (by first | omega | (simp; done) | (simp; omega))).trans ?_) | (with_reducible refine (hcwF2 b o (by first | omega | (simp; done) | (simp; omega))).trans ?_) | (with_reducible refine (hcwL1 b o (by first | omega | (simp; done) | (simp; omega))).trans ?_) | (with_reducible refine (hcwL2 b o (by first | omega | (simp; done) | (simp; omega))).trans ?_)))), (by first | omega | (simp; done) | (simp; omega))⟩) | fail)
            clear hK K
            (try simp only [Act.put, List.setIfInBounds_toArray, List.set_cons_zero, List.set_cons_succ])
            refine wpAnyH_ready (rs := [9]) (by kernel_rfl) (by simp) ?_
            refine AllReadyH.cons (o := ⟨_, _, _, _, _, _⟩) rfl (fun K hK => ?_) AllReadyH.nil
            go_simp
            (go_at_call 56; (with_reducible refine (first_any _ _ _ _ _ _ _ _ _ _ _ _).mono ?_); rintro e wF2 ⟨rfl, hbwF2⟩; obtain ⟨hcwF2, hfwF2⟩ := bcell hbwF2; have hzwF2 := hbwF2.size; (try simp only [World.size_drew] at hcwF2 hfwF2 hzwF2); (try simp only [World.size_alloc] at hcwF2 hfwF2 hzwF2))
            refine hK.out _ _ ?_ (fun hHeld => ?_)
            · (try dsimp only); (first | ((try dsimp only); exact ⟨fun b o h => (by (repeat (first | with_reducible exact rfl | (with_reducible refine (cell_drew_at _ _).trans ?_) | (with_reducible refine (cell_set_at _ _ (by first | omega | (simp; done) | (simp; omega))).trans ?_) | (with_reducible refine (cell_alloc_at _ _ (by first | omega | (simp; done) | (simp; omega))).trans ?_) | (with_reducible refine (hcwE b o (by first | omega | (simp; done) | (simp; omega))).trans ?_) | (with_reducible refine (hcwF1 b o (by first | omega | (simp; done) | (simp; omega))).trans ?_) | (with_reducible refine (hcwF2 b o (by first | omega | (simp; done) | (simp; omega))).trans ?_) | (with_reducible refine (hcwL1 b o (by first | omega | (simp; done) | (simp; omega))).trans ?_) | (with_reducible refine (hcwL2 b o (by first | omega | (simp; done) | (simp; omega))).trans ?_)))), (by first | omega | (simp; done) | (simp; omega))⟩) | fail)
            clear hK K
            (try simp only [Act.put, List.setIfInBounds_toArray, List.set_cons_zero, List.set_cons_succ])
            refine wpAnyH_take (i := 10) (oi := ⟨_, _, _, _, _, _⟩) (v := ?_) rfl (by kernel_rfl) (by kernel_rfl) (by kernel_rfl) (fun _ _ _ h => h) (Or.inl ⟨by rfl, ?_⟩) (by assumption) ?_
            rotate_left
            · intro w hSw; (try dsimp only at hSw); go_simp; (try with_reducible rfl)
            (try simp only [Act.put, List.setIfInBounds_toArray, List.set_cons_zero, List.set_cons_succ])
            refine wpAnyH_take (i := 11) (oi := ⟨_, _, _, _, _, _⟩) (v := ?_) rfl (by kernel_rfl) (by kernel_rfl) (by kernel_rfl) (fun _ _ _ h => h) (Or.inl ⟨by rfl, ?_⟩) (by assumption) ?_
            rotate_left
            · intro w hSw; (try dsimp only at hSw); go_simp; (try with_reducible rfl)
            (try simp only [Act.put, List.setIfInBounds_toArray, List.set_cons_zero, List.set_cons_succ])
            refine wpAnyH_take (i := 12) (oi := ⟨_, _, _, _, _, _⟩) (v := ?_) rfl (by kernel_rfl) (by kernel_rfl) (by kernel_rfl) (fun _ _ _ h => h) (Or.inl ⟨by rfl, ?_⟩) (by assumption) ?_
            rotate_left
            · intro w hSw; (try dsimp only at hSw); go_simp; (try with_reducible rfl)
            (try simp only [Act.put, List.setIfInBounds_toArray, List.set_cons_zero, List.set_cons_succ])
            refine wpAnyH_take (i := 13) (oi := ⟨_, _, _, _, _, _⟩) (v := ?_) rfl (by kernel_rfl) (by kernel_rfl) (by kernel_rfl) (fun _ _ _ h => h) (Or.inl ⟨by rfl, ?_⟩) (by assumption) ?_
            rotate_left
            · intro w hSw; (try dsimp only at hSw); go_simp; (try with_reducible rfl)
            (try simp only [Act.put, List.setIfInBounds_toArray, List.set_cons_zero, List.set_cons_succ])
            refine wpAnyH_take (i := 15) (oi := ⟨_, _, _, _, _, _⟩) (v := ?_) rfl (by kernel_rfl) (by kernel_rfl) (by kernel_rfl) (fun _ _ _ h => h) (Or.inl ⟨by rfl, ?_⟩) (by assumption) ?_
            rotate_left
            · intro w hSw; (try dsimp only at hSw); go_simp; (try with_reducible rfl)
            (try simp only [Act.put, List.setIfInBounds_toArray, List.set_cons_zero, List.set_cons_succ])
            refine wpAnyH_ready (rs := [14]) (by kernel_rfl) (by simp) ?_
            refine AllReadyH.cons (o := ⟨_, _, _, _, _, _⟩) rfl (fun K hK => ?_) AllReadyH.nil
            go_simp
            (go_at_call 58; (with_reducible refine (last_any _ _ _ _ _ _ _ _ _ _ _ _).mono ?_); rintro e wL1 ⟨rfl, hbwL1⟩; obtain ⟨hcwL1, hfwL1⟩ := bcell hbwL1; have hzwL1 := hbwL1.size; (try simp only [World.size_drew] at hcwL1 hfwL1 hzwL1); (try simp only [World.size_alloc] at hcwL1 hfwL1 hzwL1))
            refine hK.out _ _ ?_ (fun hHeld => ?_)
            · (try dsimp only); (first | ((try dsimp only); exact ⟨fun b o h => (by (repeat (first | with_reducible exact rfl | (with_reducible refine (cell_drew_at _ _).trans ?_) | (with_reducible refine (cell_set_at _ _ (by first | omega | (simp; done) | (simp; omega))).trans ?_) | (with_reducible refine (cell_alloc_at _ _ (by first | omega | (simp; done) | (simp; omega))).trans ?_) | (with_reducible refine (hcwE b o (by first | omega | (simp; done) | (simp; omega))).trans ?_) | (with_reducible refine (hcwF1 b o (by first | omega | (simp; done) | (simp; omega))).trans ?_) | (with_reducible refine (hcwF2 b o (by first | omega | (simp; done) | (simp; omega))).trans ?_) | (with_reducible refine (hcwL1 b o (by first | omega | (simp; done) | (simp; omega))).trans ?_) | (with_reducible refine (hcwL2 b o (by first | omega | (simp; done) | (simp; omega))).trans ?_)))), (by first | omega | (simp; done) | (simp; omega))⟩) | fail)
            clear hK K
            (try simp only [Act.put, List.setIfInBounds_toArray, List.set_cons_zero, List.set_cons_succ])
            refine wpAnyH_ready (rs := [16]) (by kernel_rfl) (by simp) ?_
            refine AllReadyH.cons (o := ⟨_, _, _, _, _, _⟩) rfl (fun K hK => ?_) AllReadyH.nil
            go_simp
            (go_at_call 58; (with_reducible refine (last_any _ _ _ _ _ _ _ _ _ _ _ _).mono ?_); rintro e wL2 ⟨rfl, hbwL2⟩; obtain ⟨hcwL2, hfwL2⟩ := bcell hbwL2; have hzwL2 := hbwL2.size; (try simp only [World.size_drew] at hcwL2 hfwL2 hzwL2); (try simp only [World.size_alloc] at hcwL2 hfwL2 hzwL2))
            refine hK.out _ _ ?_ (fun hHeld => ?_)
            · (try dsimp only); (first | ((try dsimp only); exact ⟨fun b o h => (by (repeat (first | with_reducible exact rfl | (with_reducible refine (cell_drew_at _ _).trans ?_) | (with_reducible refine (cell_set_at _ _ (by first | omega | (simp; done) | (simp; omega))).trans ?_) | (with_reducible refine (cell_alloc_at _ _ (by first | omega | (simp; done) | (simp; omega))).trans ?_) | (with_reducible refine (hcwE b o (by first | omega | (simp; done) | (simp; omega))).trans ?_) | (with_reducible refine (hcwF1 b o (by first | omega | (simp; done) | (simp; omega))).trans ?_) | (with_reducible refine (hcwF2 b o (by first | omega | (simp; done) | (simp; omega))).trans ?_) | (with_reducible refine (hcwL1 b o (by first | omega | (simp; done) | (simp; omega))).trans ?_) | (with_reducible refine (hcwL2 b o (by first | omega | (simp; done) | (simp; omega))).trans ?_)))), (by first | omega | (simp; done) | (simp; omega))⟩) | fail)
            clear hK K
            (try simp only [Act.put, List.setIfInBounds_toArray, List.set_cons_zero, List.set_cons_succ])
            refine wpAnyH_take (i := 17) (oi := ⟨_, _, _, _, _, _⟩) (v := ?_) rfl (by kernel_rfl) (by kernel_rfl) (by kernel_rfl) (fun _ _ _ h => h) (Or.inl ⟨by rfl, ?_⟩) (by assumption) ?_
            rotate_left
            · intro w hSw; (try dsimp only at hSw); go_simp; (try with_reducible rfl)
            (try simp only [Act.put, List.setIfInBounds_toArray, List.set_cons_zero, List.set_cons_succ])
            refine wpAnyH_take (i := 18) (oi := ⟨_, _, _, _, _, _⟩) (v := ?_) rfl (by kernel_rfl) (by kernel_rfl) (by kernel_rfl) (fun _ _ _ h => h) (Or.inl ⟨by rfl, ?_⟩) (by assumption) ?_
            rotate_left
            · intro w hSw; (try dsimp only at hSw); go_simp; (try with_reducible rfl)
            (try simp only [Act.put, List.setIfInBounds_toArray, List.set_cons_zero, List.set_cons_succ])
            refine wpAnyH_take (i := 19) (oi := ⟨_, _, _, _, _, _⟩) (v := ?_) rfl (by kernel_rfl) (by kernel_rfl) (by kernel_rfl) (fun _ _ _ h => h) (Or.inl ⟨by rfl, ?_⟩) (by assumption) ?_
            rotate_left
            · intro w hSw; (try dsimp only at hSw); go_simp; (try with_reducible rfl)
            (try simp only [Act.put, List.setIfInBounds_toArray, List.set_cons_zero, List.set_cons_succ])
            refine wpAnyH_done (by kernel_rfl) ?_ _
            go_wp2_with fail
            go_ret
            exact ⟨ret_bool (sC_v rfl rfl HF.out HL.out HV.out.symm), by repeat' (first | with_reducible assumption | with_reducible exact Below.refl _ _ | (with_reducible refine Below.setCell ?_ ?_ _) | (with_reducible refine Below.alloc ?_ ?_ _) | (with_reducible refine Below.drew ?_) | (with_reducible refine below_dr ?_ _) | (with_reducible refine Below.trans ?_ (Below.mono (by with_reducible assumption) ?_)) | omega | (simp; done) | (simp; omega))⟩
set_option maxHeartbeats 12800000 in
theorem specSameCurve_any (l : List APt) (A : Option Addr) (c : Nat) (cl : Bool) (t : Int) (ff fl : Bool) (fx fy lx ly : Int) (l' : List APt) (A' : Option Addr) (c' : Nat) (cl' : Bool) (t' : Int) (ff' fl' : Bool) (fx' fy' lx' ly' : Int) (w : World) (hl : l.length ≤ 1048576) (hl' : l'.length ≤ 1048576) (r : Rd cPt 2 w w.heap.size A l) (r' : Rd cPt 2 w w.heap.size A' l') :
    Calls Try.prog 18 #[.agg #[.slice A l.length c, .bool cl, .int .i64 t, .bool ff, .bool fl, .int .i64 fx, .int .i64 fy, .int .i64 lx, .int .i64 ly], .agg #[.slice A' l'.length c', .bool cl', .int .i64 t', .bool ff', .bool fl', .int .i64 fx', .int .i64 fy', .int .i64 lx', .int .i64 ly']] w fun e w' => e = .returned (.bool (sCur l cl t ff fl fx fy lx ly l' cl' t' ff' fl' fx' fy' lx' ly')) ∧ Below w.heap.size w w' := by
  by_cases hln : l.length = l'.length
  case neg =>
    have e0 : ((l.length : Int) != (l'.length : Int)) = true := by rw [bne_iff_ne]; omega
    have H := Lib.hid (sC_l (l := l) (l' := l') (cl := cl) (cl' := cl') (t := t) (t' := t') (ff := ff) (ff' := ff') (fl := fl) (fl' := fl') (fx := fx) (fx' := fx') (fy := fy) (fy' := fy') (lx := lx) (lx' := lx') (ly := ly) (ly' := ly') (sEq_len hln))
    clear hln
    go_enter Try.func18, Try.ntmps18
    go_wp2_with fail
    go_ret
    exact ⟨ret_bool (H.out), by repeat' (first | with_reducible assumption | with_reducible exact Below.refl _ _ | (with_reducible refine Below.setCell ?_ ?_ _) | (with_reducible refine Below.alloc ?_ ?_ _) | (with_reducible refine Below.drew ?_) | (with_reducible refine below_dr ?_ _) | (with_reducible refine Below.trans ?_ (Below.mono (by with_reducible assumption) ?_)) | omega | (simp; done) | (simp; omega))⟩
  case pos =>
    obtain ⟨n, hn⟩ : ∃ n, n = l.length := ⟨_, rfl⟩
    have HLN := Lib.hid hln
    rw [← hln, ← hn]
    rw [← hn] at hl
    have HN := Lib.hid hn
    have e0 : ((n : Int) != (n : Int)) = false := by simp
    clear hn hln hl'
    by_cases h_cl : cl = cl'
    case neg =>
      have H := Lib.hid (sC_cl (l := l) (l' := l') (cl := cl) (cl' := cl') (t := t) (t' := t') (ff := ff) (ff' := ff') (fl := fl) (fl' := fl') (fx := fx) (fx' := fx') (fy := fy) (fy' := fy') (lx := lx) (lx' := lx') (ly := ly) (ly' := ly') h_cl)
      rcases cl with _ | _ <;> rcases cl' with _ | _
      all_goals first | exact absurd rfl h_cl | (clear h_cl; go_enter Try.func18, Try.ntmps18; go_wp2_with fail; go_ret; exact ⟨ret_bool H.out, by repeat' (first | with_reducible assumption | with_reducible exact Below.refl _ _ | (with_reducible refine Below.setCell ?_ ?_ _) | (with_reducible refine Below.alloc ?_ ?_ _) | (with_reducible refine Below.drew ?_) | (with_reducible refine below_dr ?_ _) | (with_reducible refine Below.trans ?_ (Below.mono (by with_reducible assumption) ?_)) | omega | (simp; done) | (simp; omega))⟩)
    case pos =>
      subst h_cl
      have e_cl : (cl != cl) = false := by simp
      by_cases h_t : t = t'
      case neg =>
        have e_t : (t != t') = true := by rw [bne_iff_ne]; exact h_t
        have H := Lib.hid (sC_t (l := l) (l' := l') (cl := cl) (cl' := cl) (t := t) (t' := t') (ff := ff) (ff' := ff') (fl := fl) (fl' := fl') (fx := fx) (fx' := fx') (fy := fy) (fy' := fy') (lx := lx) (lx' := lx') (ly := ly) (ly' := ly') h_t)
        clear h_t
        go_enter Try.func18, Try.ntmps18
        go_wp2_with fail
        go_ret
        exact ⟨ret_bool (H.out), by repeat' (first | with_reducible assumption | with_reducible exact Below.refl _ _ | (with_reducible refine Below.setCell ?_ ?_ _) | (with_reducible refine Below.alloc ?_ ?_ _) | (with_reducible refine Below.drew ?_) | (with_reducible refine below_dr ?_ _) | (with_reducible refine Below.trans ?_ (Below.mono (by with_reducible assumption) ?_)) | omega | (simp; done) | (simp; omega))⟩
      case pos =>
        subst h_t
        have e_t : (t != t) = false := by simp
        by_cases h_ff : ff = ff'
        case neg =>
          have H := Lib.hid (sC_f (l := l) (l' := l') (cl := cl) (cl' := cl) (t := t) (t' := t) (ff := ff) (ff' := ff') (fl := fl) (fl' := fl') (fx := fx) (fx' := fx') (fy := fy) (fy' := fy') (lx := lx) (lx' := lx') (ly := ly) (ly' := ly') (fun e => h_ff e.1))
          rcases ff with _ | _ <;> rcases ff' with _ | _
          all_goals first | exact absurd rfl h_ff | (clear h_ff; go_enter Try.func18, Try.ntmps18; go_wp2_with fail; go_ret; exact ⟨ret_bool H.out, by repeat' (first | with_reducible assumption | with_reducible exact Below.refl _ _ | (with_reducible refine Below.setCell ?_ ?_ _) | (with_reducible refine Below.alloc ?_ ?_ _) | (with_reducible refine Below.drew ?_) | (with_reducible refine below_dr ?_ _) | (with_reducible refine Below.trans ?_ (Below.mono (by with_reducible assumption) ?_)) | omega | (simp; done) | (simp; omega))⟩)
        case pos =>
          subst h_ff
          have e_ff : (ff != ff) = false := by simp
          by_cases h_fl : fl = fl'
          case neg =>
            have H := Lib.hid (sC_e (l := l) (l' := l') (cl := cl) (cl' := cl) (t := t) (t' := t) (ff := ff) (ff' := ff) (fl := fl) (fl' := fl') (fx := fx) (fx' := fx') (fy := fy) (fy' := fy') (lx := lx) (lx' := lx') (ly := ly) (ly' := ly') (fun e => h_fl e.1))
            rcases fl with _ | _ <;> rcases fl' with _ | _
            all_goals first | exact absurd rfl h_fl | (clear h_fl; go_enter Try.func18, Try.ntmps18; go_wp2_with fail; go_ret; exact ⟨ret_bool H.out, by repeat' (first | with_reducible assumption | with_reducible exact Below.refl _ _ | (with_reducible refine Below.setCell ?_ ?_ _) | (with_reducible refine Below.alloc ?_ ?_ _) | (with_reducible refine Below.drew ?_) | (with_reducible refine below_dr ?_ _) | (with_reducible refine Below.trans ?_ (Below.mono (by with_reducible assumption) ?_)) | omega | (simp; done) | (simp; omega))⟩)
          case pos =>
            subst h_fl
            have e_fl : (fl != fl) = false := by simp
            have eF := fun w => neq_pt (a := fx) (b := fy) (c := fx') (d := fy') w
            by_cases hF : fx = fx' ∧ fy = fy'
            case neg =>
              rw [decide_eq_false hF] at eF
              simp only [Bool.not_false] at eF
              have H := Lib.hid (sC_f (l := l) (l' := l') (cl := cl) (cl' := cl) (t := t) (t' := t) (ff := ff) (ff' := ff) (fl := fl) (fl' := fl) (fx := fx) (fx' := fx') (fy := fy) (fy' := fy') (lx := lx) (lx' := lx') (ly := ly) (ly' := ly') (fun e => hF e.2))
              clear hF
              go_enter Try.func18, Try.ntmps18
              go_wp2_with fail
              go_ret
              exact ⟨ret_bool (H.out), by repeat' (first | with_reducible assumption | with_reducible exact Below.refl _ _ | (with_reducible refine Below.setCell ?_ ?_ _) | (with_reducible refine Below.alloc ?_ ?_ _) | (with_reducible refine Below.drew ?_) | (with_reducible refine below_dr ?_ _) | (with_reducible refine Below.trans ?_ (Below.mono (by with_reducible assumption) ?_)) | omega | (simp; done) | (simp; omega))⟩
            case pos =>
              rw [decide_eq_true hF] at eF
              simp only [Bool.not_true] at eF
              have HF := Lib.hid hF
              clear hF
              have eL := fun w => neq_pt (a := lx) (b := ly) (c := lx') (d := ly') w
              by_cases hL : lx = lx' ∧ ly = ly'
              case neg =>
                rw [decide_eq_false hL] at eL
                simp only [Bool.not_false] at eL
                have H := Lib.hid (sC_e (l := l) (l' := l') (cl := cl) (cl' := cl) (t := t) (t' := t) (ff := ff) (ff' := ff) (fl := fl) (fl' := fl) (fx := fx) (fx' := fx') (fy := fy) (fy' := fy') (lx := lx) (lx' := lx') (ly := ly) (ly' := ly') (fun e => hL e.2))
                clear hL
                go_enter Try.func18, Try.ntmps18
                go_wp2_with fail
                go_ret
                exact ⟨ret_bool (H.out), by repeat' (first | with_reducible assumption | with_reducible exact Below.refl _ _ | (with_reducible refine Below.setCell ?_ ?_ _) | (with_reducible refine Below.alloc ?_ ?_ _) | (with_reducible refine Below.drew ?_) | (with_reducible refine below_dr ?_ _) | (with_reducible refine Below.trans ?_ (Below.mono (by with_reducible assumption) ?_)) | omega | (simp; done) | (simp; omega))⟩
              case pos =>
                rw [decide_eq_true hL] at eL
                simp only [Bool.not_true] at eL
                have HL := Lib.hid hL
                clear hL
                go_enter Try.func18, Try.ntmps18
                go_wp2_with fail
                clear eF eL e_cl e_t e_ff e_fl e0
                generalize hW : (w.alloc (.cells #[.slice A n c, .bool cl, .int .i64 t, .bool ff, .bool fl, .int .i64 fx, .int .i64 fy, .int .i64 lx, .int .i64 ly] 32)).alloc (.cells #[.slice A' n c', .bool cl, .int .i64 t, .bool ff, .bool fl, .int .i64 fx', .int .i64 fy', .int .i64 lx', .int .i64 ly'] 32) = W0
                have r0 : Rd cPt 2 W0 w.heap.size A l := by rw [← hW]; exact (r.alloc (Nat.le_refl _) _).alloc (by simp) _
                have r0' : Rd cPt 2 W0 w.heap.size A' l' := by rw [← hW]; exact (r'.alloc (Nat.le_refl _) _).alloc (by simp) _
                have s2 : W0.cell? ⟨w.heap.size, 0, none⟩ = some (.slice A n c) := by rw [← hW]; simp [go_sem]
                have t2 : W0.cell? ⟨w.heap.size + 1, 0, none⟩ = some (.slice A' n c') := by rw [← hW]; simp [go_sem]
                have g0 : Below w.heap.size w W0 := by rw [← hW]; repeat' (first | with_reducible assumption | with_reducible exact Below.refl _ _ | (with_reducible refine Below.setCell ?_ ?_ _) | (with_reducible refine Below.alloc ?_ ?_ _) | (with_reducible refine Below.drew ?_) | (with_reducible refine below_dr ?_ _) | (with_reducible refine Below.trans ?_ (Below.mono (by with_reducible assumption) ?_)) | omega | (simp; done) | (simp; omega))
                clear hW r r'
                go_loopw [5] (fun i wr => ∃ k q : Nat, k ≤ n ∧ i = .int .i64 k ∧ sUp l l' k = true ∧ wr = W0.drewN q) (fun i _ => n - (intOf i).toNat)
                case atStart => exact ⟨0, 0, Nat.zero_le _, rfl, sUp_zero _ _, rfl⟩
                case round =>
                  obtain ⟨k, q, hk, rfl, hup, rfl⟩ := hrel
                  have HUP := Lib.hid hup
                  clear hup
                  by_cases hlt : k < n
                  · obtain ⟨⟨x0, x1⟩, ha⟩ : ∃ a, l[k]? = some a := ⟨l[k]'(by have := HN.out; omega), List.getElem?_eq_getElem (by have := HN.out; omega)⟩
                    obtain ⟨⟨y0, y1⟩, hb⟩ : ∃ a, l'[k]? = some a := ⟨l'[k]'(by have := HN.out; have := HLN.out; omega), List.getElem?_eq_getElem (by have := HN.out; have := HLN.out; omega)⟩
                    obtain ⟨g, o, rfl, _, hc⟩ := r0.elem ha
                    obtain ⟨g', o', rfl, _, hc'⟩ := r0'.elem hb
                    have c0 : W0.cell? ⟨g, o + k * 2, none⟩ = some (.int .i64 x0) := hc 0 _ rfl
                    have c1 : W0.cell? ⟨g, o + k * 2 + 1, none⟩ = some (.int .i64 x1) := hc 1 _ rfl
                    have d0 : W0.cell? ⟨g', o' + k * 2, none⟩ = some (.int .i64 y0) := hc' 0 _ rfl
                    have d1 : W0.cell? ⟨g', o' + k * 2 + 1, none⟩ = some (.int .i64 y1) := hc' 1 _ rfl
                    have HA := Lib.hid ha
                    have HB := Lib.hid hb
                    clear hc hc' ha hb r0 r0'
                    have hki : (k : Int) < (n : Int) := by omega
                    have e1 := fun w => neq_pt (a := x0) (b := x1) (c := y0) (d := y1) w
                    by_cases hke : x0 = y0 ∧ x1 = y1
                    · rw [decide_eq_true hke] at e1
                      simp only [Bool.not_true] at e1
                      have HK := Lib.hid hke
                      clear hke
                      go_wp2_with fail
                      go_quiet (fail)
                      clear e1
                      go_wp2_with fail
                      go_roundw
                      case rel => exact ⟨k + 1, q + nq, by omega, by go_num, sUp_succ HUP.out HA.out HB.out (pt_pair HK.out), rfl⟩
                      case measure => simp [intOf]; omega
                    · rw [decide_eq_false hke] at e1
                      simp only [Bool.not_false] at e1
                      have HK := Lib.hid hke
                      clear hke
                      go_wp2_with fail
                      go_quiet (fail)
                      clear e1
                      go_wp2_with fail
                      go_ret
                      exact ⟨ret_bool (sC_v rfl rfl ⟨rfl, HF.out⟩ ⟨rfl, HL.out⟩ (sEq_no HA.out HB.out (pt_not HK.out))), by repeat' (first | with_reducible assumption | with_reducible exact Below.refl _ _ | (with_reducible refine Below.setCell ?_ ?_ _) | (with_reducible refine Below.alloc ?_ ?_ _) | (with_reducible refine Below.drew ?_) | (with_reducible refine below_dr ?_ _) | (with_reducible refine Below.trans ?_ (Below.mono (by with_reducible assumption) ?_)) | omega | (simp; done) | (simp; omega))⟩
                  · obtain rfl : k = n := by omega
                    go_wp2_with fail
                    go_ret
                    exact ⟨ret_bool (sC_v rfl rfl ⟨rfl, HF.out⟩ ⟨rfl, HL.out⟩ (sEq_yes HLN.out (HN.out ▸ HUP.out))), by repeat' (first | with_reducible assumption | with_reducible exact Below.refl _ _ | (with_reducible refine Below.setCell ?_ ?_ _) | (with_reducible refine Below.alloc ?_ ?_ _) | (with_reducible refine Below.drew ?_) | (with_reducible refine below_dr ?_ _) | (with_reducible refine Below.trans ?_ (Below.mono (by with_reducible assumption) ?_)) | omega | (simp; done) | (simp; omega))⟩
end Go.Proofs.Ythedimnjbfeaiaa
