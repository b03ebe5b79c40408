/- Walks: a curve near a path, both sides whole. -/
import Derived.Test.YticgomikfleabaaFt
namespace Go.Proofs.Yticgomikfleabaa
open Go.RowKit
set_option linter.unusedVariables false
def ptAt (l : List APt) (k : Nat) : APt := (l[k]?).getD (0, 0)
theorem ptAt_is {l : List APt} {k : Nat} {x y : Int} (h : l[k]? = some (x, y)) : ptAt l k = (x, y) := by unfold ptAt; rw [h]; rfl
def fitOk (l : List APt) : Bool := vRg l && decide (3 ≤ l.length)
def fitG (l : List APt) (t : Int) : Bool := fqG (ptAt l 0).1 (ptAt l 0).2 (ptAt l 1).1 (ptAt l 1).2 (ptAt l (l.length - 1)).1 (ptAt l (l.length - 1)).2 (ptAt l (l.length - 2)).1 (ptAt l (l.length - 2)).2 l t
def tolB (t : Int) : Bool := decide (1 ≤ t ∧ t ≤ 262144)
def fitE (l : List APt) (t : Int) : Bool := fitOk l && tolB t && fitG l t
def fitC (l : List APt) (t : Int) : Int := bif fitOk l then (bif tolB t then (bif fitG l t then 0 else 3) else 2) else 1
def fitX (l : List APt) : Int := fqX (ptAt l 0).1 (ptAt l 0).2 (ptAt l 1).1 (ptAt l 1).2 (ptAt l (l.length - 1)).1 (ptAt l (l.length - 1)).2 (ptAt l (l.length - 2)).1 (ptAt l (l.length - 2)).2
def fitY (l : List APt) : Int := fqY (ptAt l 0).1 (ptAt l 0).2 (ptAt l 1).1 (ptAt l 1).2 (ptAt l (l.length - 1)).1 (ptAt l (l.length - 1)).2 (ptAt l (l.length - 2)).1 (ptAt l (l.length - 2)).2
def FitRet (l : List APt) (t : Int) (w : World) (e : Ending) (w' : World) : Prop :=
  e = RT6 (pk (fitE l t) (ptAt l 0).1) (pk (fitE l t) (ptAt l 0).2) (pk (fitE l t) (fitX l)) (pk (fitE l t) (fitY l)) (pk (fitE l t) (ptAt l (l.length - 1)).1) (pk (fitE l t) (ptAt l (l.length - 1)).2) (.int .i64 (fitC l t)) ∧ Below w.heap.size w w'
theorem FitRet.no {l : List APt} {t c : Int} {w w' : World} (h : fitE l t = false) (hc : c = fitC l t) (hb : Below w.heap.size w w') : FitRet l t w (RT6 0 0 0 0 0 0 (.int .i64 c)) w' := by
  subst hc; refine ⟨?_, hb⟩; rw [h]; rfl
theorem fit_bad {l : List APt} {t : Int} (h : fitOk l = false) : fitE l t = false ∧ 1 = fitC l t := by simp [fitE, fitC, h]
theorem fit_tol {l : List APt} {t : Int} (h : fitOk l = true) (h2 : tolB t = false) : fitE l t = false ∧ 2 = fitC l t := by simp [fitE, fitC, h, h2]
theorem fit_far {l : List APt} {t : Int} (h : fitOk l = true) (h2 : tolB t = true) (h3 : fitG l t = false) : fitE l t = false ∧ 3 = fitC l t := by simp [fitE, fitC, h, h2, h3]
theorem fit_yes {l : List APt} {t : Int} (h : fitOk l = true) (h2 : tolB t = true) (h3 : fitG l t = true) : fitE l t = true ∧ 0 = fitC l t := by simp [fitE, fitC, h, h2, h3]
theorem fit_parts {l : List APt} (h : fitOk l = true) : l.length ≤ 400 ∧ 3 ≤ l.length ∧ ptsUp l l.length = true ∧ vRg l = true := by
  unfold fitOk at h; simp only [Bool.and_eq_true, decide_eq_true_eq] at h
  obtain ⟨a, b, c⟩ := vRg_parts h.1
  exact ⟨b, h.2, c, h.1⟩
theorem tol_yes {t : Int} (h : tolB t = true) : 1 ≤ t ∧ t ≤ 262144 := by unfold tolB at h; simpa using h
theorem tol_no {t : Int} (h : tolB t = false) : t < 1 ∨ 262144 < t := by unfold tolB at h; simp at h; omega
theorem pt_some {l : List APt} {k : Nat} (h : k < l.length) : l[k]? = some ((ptAt l k).1, (ptAt l k).2) := by
  unfold ptAt; rw [List.getElem?_eq_getElem h]; rfl
set_option maxRecDepth 100000 in
set_option maxHeartbeats 12800000 in
theorem specFitQuad_any (l : List APt) (A : Option Addr) (c : Nat) (t : Int) (w : World) (i_t : -9223372036854775808 ≤ t ∧ t ≤ 9223372036854775807) (hl : l.length ≤ 1048576) (rd : Rd cPt 2 w w.heap.size A l) :
    Calls Try.prog 17 #[.slice A l.length c, .int .i64 t] w (FitRet l t w) := by
  have PL := Lib.hid (fun w r => l12Path_any l A c w hl r)
  have RD := Lib.hid rd
  clear rd
  rcases hv : vRg l with _ | _
  · have X := Lib.hid (fit_bad (l := l) (t := t) (by unfold fitOk; rw [hv]; rfl))
    rw [hv] at PL
    clear hv
    obtain ⟨n, hn⟩ : ∃ n, n = l.length := ⟨_, rfl⟩
    rw [← hn] at hl PL ⊢
    have HN := Lib.hid hn
    clear hn
    go_enter Try.func17, Try.ntmps17
    go_wp2_with fail
    generalize hW : w.alloc (.cells #[.int .i64 0, .int .i64 0, .int .i64 0, .int .i64 0, .int .i64 0, .int .i64 0] 31) = W0
    have bk : Blk W0 w.heap.size 31 #[.int .i64 0, .int .i64 0, .int .i64 0, .int .i64 0, .int .i64 0, .int .i64 0] := by rw [← hW]; exact Blk.new _ _ _
    have g0 : Below w.heap.size w W0 := by rw [← hW]; repeat' (first | with_reducible assumption | with_reducible exact Below.refl _ _ | (with_reducible refine Below.setCell ?_ ?_ _) | (with_reducible refine Below.alloc ?_ ?_ _) | (with_reducible refine Below.drew ?_) | (with_reducible refine below_dr ?_ _) | (with_reducible refine Below.trans ?_ (Below.mono (by with_reducible assumption) ?_)) | omega | (simp; done) | (simp; omega))
    have bz : w.heap.size < W0.heap.size := bk.lt
    clear hW
    refine (PL.out _ ((RD.out.below g0).more (by omega))).mono ?_
    rintro e W1 ⟨rfl, b1⟩
    have z1 := b1.size
    have g1 : Below w.heap.size w W1 := g0.trans (b1.mono g0.size)
    have bk1 := bk.carry b1
    have f0 := bk1.frozen 0
    have f1 := bk1.frozen 1
    have f2 := bk1.frozen 2
    have f3 := bk1.frozen 3
    have f4 := bk1.frozen 4
    have f5 := bk1.frozen 5
    have c0 := bk1.cell 0 rfl
    have c1 := bk1.cell 1 rfl
    have c2 := bk1.cell 2 rfl
    have c3 := bk1.cell 3 rfl
    have c4 := bk1.cell 4 rfl
    have c5 := bk1.cell 5 rfl
    go_wp2
    have bf := (((((bk1.set_ 0 (.int .i64 0)).set_ 1 (.int .i64 0)).set_ 2 (.int .i64 0)).set_ 3 (.int .i64 0)).set_ 4 (.int .i64 0)).set_ 5 (.int .i64 0)
    have r0 := bf.cell 0 rfl
    have r1 := bf.cell 1 rfl
    have r2 := bf.cell 2 rfl
    have r3 := bf.cell 3 rfl
    have r4 := bf.cell 4 rfl
    have r5 := bf.cell 5 rfl
    refine bodyPost_ret (v := .tuple #[.agg #[.int .i64 0, .int .i64 0, .int .i64 0, .int .i64 0, .int .i64 0, .int .i64 0], .int .i64 1]) (by simp [results, Try.results17, go_sem, r0, r1, r2, r3, r4, r5]) rfl (FitRet.no X.out.1 X.out.2 ?_)
    repeat' (first | with_reducible assumption | with_reducible exact Below.refl _ _ | (with_reducible refine Below.setCell ?_ ?_ _) | (with_reducible refine Below.alloc ?_ ?_ _) | (with_reducible refine Below.drew ?_) | (with_reducible refine below_dr ?_ _) | (with_reducible refine Below.trans ?_ (Below.mono (by with_reducible assumption) ?_)) | omega | (simp; done) | (simp; omega))
  by_cases h3 : 3 ≤ l.length
  case neg =>
    have X := Lib.hid (fit_bad (l := l) (t := t) (by unfold fitOk; rw [hv]; simp [h3]))
    rw [hv] at PL
    clear hv
    obtain ⟨n, hn⟩ : ∃ n, n = l.length := ⟨_, rfl⟩
    rw [← hn] at hl PL h3 ⊢
    have HN := Lib.hid hn
    clear hn
    have h3' : (n : Int) < 3 := by omega
    go_enter Try.func17, Try.ntmps17
    go_wp2_with fail
    generalize hW : w.alloc (.cells #[.int .i64 0, .int .i64 0, .int .i64 0, .int .i64 0, .int .i64 0, .int .i64 0] 31) = W0
    have bk : Blk W0 w.heap.size 31 #[.int .i64 0, .int .i64 0, .int .i64 0, .int .i64 0, .int .i64 0, .int .i64 0] := by rw [← hW]; exact Blk.new _ _ _
    have g0 : Below w.heap.size w W0 := by rw [← hW]; repeat' (first | with_reducible assumption | with_reducible exact Below.refl _ _ | (with_reducible refine Below.setCell ?_ ?_ _) | (with_reducible refine Below.alloc ?_ ?_ _) | (with_reducible refine Below.drew ?_) | (with_reducible refine below_dr ?_ _) | (with_reducible refine Below.trans ?_ (Below.mono (by with_reducible assumption) ?_)) | omega | (simp; done) | (simp; omega))
    have bz : w.heap.size < W0.heap.size := bk.lt
    clear hW
    refine (PL.out _ ((RD.out.below g0).more (by omega))).mono ?_
    rintro e W1 ⟨rfl, b1⟩
    have z1 := b1.size
    have g1 : Below w.heap.size w W1 := g0.trans (b1.mono g0.size)
    have bk1 := bk.carry b1
    have f0 := bk1.frozen 0
    have f1 := bk1.frozen 1
    have f2 := bk1.frozen 2
    have f3 := bk1.frozen 3
    have f4 := bk1.frozen 4
    have f5 := bk1.frozen 5
    have c0 := bk1.cell 0 rfl
    have c1 := bk1.cell 1 rfl
    have c2 := bk1.cell 2 rfl
    have c3 := bk1.cell 3 rfl
    have c4 := bk1.cell 4 rfl
    have c5 := bk1.cell 5 rfl
    go_wp2
    have bf := (((((bk1.set_ 0 (.int .i64 0)).set_ 1 (.int .i64 0)).set_ 2 (.int .i64 0)).set_ 3 (.int .i64 0)).set_ 4 (.int .i64 0)).set_ 5 (.int .i64 0)
    have r0 := bf.cell 0 rfl
    have r1 := bf.cell 1 rfl
    have r2 := bf.cell 2 rfl
    have r3 := bf.cell 3 rfl
    have r4 := bf.cell 4 rfl
    have r5 := bf.cell 5 rfl
    refine bodyPost_ret (v := .tuple #[.agg #[.int .i64 0, .int .i64 0, .int .i64 0, .int .i64 0, .int .i64 0, .int .i64 0], .int .i64 1]) (by simp [results, Try.results17, go_sem, r0, r1, r2, r3, r4, r5]) rfl (FitRet.no X.out.1 X.out.2 ?_)
    repeat' (first | with_reducible assumption | with_reducible exact Below.refl _ _ | (with_reducible refine Below.setCell ?_ ?_ _) | (with_reducible refine Below.alloc ?_ ?_ _) | (with_reducible refine Below.drew ?_) | (with_reducible refine below_dr ?_ _) | (with_reducible refine Below.trans ?_ (Below.mono (by with_reducible assumption) ?_)) | omega | (simp; done) | (simp; omega))
  have hok : fitOk l = true := by unfold fitOk; rw [hv]; simp [h3]
  rw [hv] at PL
  rcases ht : tolB t with _ | _
  · have X := Lib.hid (fit_tol hok ht)
    have TN := Lib.hid (tol_no ht)
    clear ht hv hok
    obtain ⟨n, hn⟩ : ∃ n, n = l.length := ⟨_, rfl⟩
    rw [← hn] at hl PL h3 ⊢
    (try rw [← hn] at FT)
    have HN := Lib.hid hn
    clear hn
    have h3' : ¬ (n : Int) < 3 := by omega
    have h3'' : (3 : Int) ≤ (n : Int) := by omega
    go_enter Try.func17, Try.ntmps17
    go_wp2_with fail
    generalize hW : w.alloc (.cells #[.int .i64 0, .int .i64 0, .int .i64 0, .int .i64 0, .int .i64 0, .int .i64 0] 31) = W0
    have bk : Blk W0 w.heap.size 31 #[.int .i64 0, .int .i64 0, .int .i64 0, .int .i64 0, .int .i64 0, .int .i64 0] := by rw [← hW]; exact Blk.new _ _ _
    have g0 : Below w.heap.size w W0 := by rw [← hW]; repeat' (first | with_reducible assumption | with_reducible exact Below.refl _ _ | (with_reducible refine Below.setCell ?_ ?_ _) | (with_reducible refine Below.alloc ?_ ?_ _) | (with_reducible refine Below.drew ?_) | (with_reducible refine below_dr ?_ _) | (with_reducible refine Below.trans ?_ (Below.mono (by with_reducible assumption) ?_)) | omega | (simp; done) | (simp; omega))
    have bz : w.heap.size < W0.heap.size := bk.lt
    clear hW
    refine (PL.out _ ((RD.out.below g0).more (by omega))).mono ?_
    rintro e W1 ⟨rfl, b1⟩
    have z1 := b1.size
    have g1 : Below w.heap.size w W1 := g0.trans (b1.mono g0.size)
    have bk1 := bk.carry b1
    go_wp2_with fail
    refine (l09Tol_no _ _ TN.out).mono ?_
    rintro e W2 ⟨rfl, rfl⟩
    have f0 := bk1.frozen 0
    have f1 := bk1.frozen 1
    have f2 := bk1.frozen 2
    have f3 := bk1.frozen 3
    have f4 := bk1.frozen 4
    have f5 := bk1.frozen 5
    have c0 := bk1.cell 0 rfl
    have c1 := bk1.cell 1 rfl
    have c2 := bk1.cell 2 rfl
    have c3 := bk1.cell 3 rfl
    have c4 := bk1.cell 4 rfl
    have c5 := bk1.cell 5 rfl
    go_wp2
    have bf := (((((bk1.set_ 0 (.int .i64 0)).set_ 1 (.int .i64 0)).set_ 2 (.int .i64 0)).set_ 3 (.int .i64 0)).set_ 4 (.int .i64 0)).set_ 5 (.int .i64 0)
    have r0 := bf.cell 0 rfl
    have r1 := bf.cell 1 rfl
    have r2 := bf.cell 2 rfl
    have r3 := bf.cell 3 rfl
    have r4 := bf.cell 4 rfl
    have r5 := bf.cell 5 rfl
    refine bodyPost_ret (v := .tuple #[.agg #[.int .i64 0, .int .i64 0, .int .i64 0, .int .i64 0, .int .i64 0, .int .i64 0], .int .i64 2]) (by simp [results, Try.results17, go_sem, r0, r1, r2, r3, r4, r5]) rfl (FitRet.no X.out.1 X.out.2 ?_)
    repeat' (first | with_reducible assumption | with_reducible exact Below.refl _ _ | (with_reducible refine Below.setCell ?_ ?_ _) | (with_reducible refine Below.alloc ?_ ?_ _) | (with_reducible refine Below.drew ?_) | (with_reducible refine below_dr ?_ _) | (with_reducible refine Below.trans ?_ (Below.mono (by with_reducible assumption) ?_)) | omega | (simp; done) | (simp; omega))
  obtain ⟨t1, t2⟩ := tol_yes ht
  obtain ⟨l400, l3, pv, _⟩ := fit_parts hok
  have FT := Lib.hid (fun w rd => l16Fit_any (ptAt l 0).1 (ptAt l 0).2 (ptAt l 1).1 (ptAt l 1).2 (ptAt l (l.length - 1)).1 (ptAt l (l.length - 1)).2 (ptAt l (l.length - 2)).1 (ptAt l (l.length - 2)).2 t l A c w l400 l3 rd pv (pt_some (by omega)) (pt_some (by omega)) (pt_some (by omega)) (pt_some (by omega)) t1 t2)
  rw [show fqG (ptAt l 0).1 (ptAt l 0).2 (ptAt l 1).1 (ptAt l 1).2 (ptAt l (l.length - 1)).1 (ptAt l (l.length - 1)).2 (ptAt l (l.length - 2)).1 (ptAt l (l.length - 2)).2 l t = fitG l t from rfl, show fqX (ptAt l 0).1 (ptAt l 0).2 (ptAt l 1).1 (ptAt l 1).2 (ptAt l (l.length - 1)).1 (ptAt l (l.length - 1)).2 (ptAt l (l.length - 2)).1 (ptAt l (l.length - 2)).2 = fitX l from rfl, show fqY (ptAt l 0).1 (ptAt l 0).2 (ptAt l 1).1 (ptAt l 1).2 (ptAt l (l.length - 1)).1 (ptAt l (l.length - 1)).2 (ptAt l (l.length - 2)).1 (ptAt l (l.length - 2)).2 = fitY l from rfl] at FT
  unfold RT6 at FT
  rcases hG : fitG l t with _ | _
  · have X := Lib.hid (fit_far hok ht hG)
    rw [hG] at FT
    simp only [pk, cond_false] at FT
    clear ht hv hok pv hG
    obtain ⟨n, hn⟩ : ∃ n, n = l.length := ⟨_, rfl⟩
    rw [← hn] at hl PL h3 ⊢
    (try rw [← hn] at FT)
    have HN := Lib.hid hn
    clear hn
    have h3' : ¬ (n : Int) < 3 := by omega
    have h3'' : (3 : Int) ≤ (n : Int) := by omega
    go_enter Try.func17, Try.ntmps17
    go_wp2_with fail
    generalize hW : w.alloc (.cells #[.int .i64 0, .int .i64 0, .int .i64 0, .int .i64 0, .int .i64 0, .int .i64 0] 31) = W0
    have bk : Blk W0 w.heap.size 31 #[.int .i64 0, .int .i64 0, .int .i64 0, .int .i64 0, .int .i64 0, .int .i64 0] := by rw [← hW]; exact Blk.new _ _ _
    have g0 : Below w.heap.size w W0 := by rw [← hW]; repeat' (first | with_reducible assumption | with_reducible exact Below.refl _ _ | (with_reducible refine Below.setCell ?_ ?_ _) | (with_reducible refine Below.alloc ?_ ?_ _) | (with_reducible refine Below.drew ?_) | (with_reducible refine below_dr ?_ _) | (with_reducible refine Below.trans ?_ (Below.mono (by with_reducible assumption) ?_)) | omega | (simp; done) | (simp; omega))
    have bz : w.heap.size < W0.heap.size := bk.lt
    clear hW
    refine (PL.out _ ((RD.out.below g0).more (by omega))).mono ?_
    rintro e W1 ⟨rfl, b1⟩
    have z1 := b1.size
    have g1 : Below w.heap.size w W1 := g0.trans (b1.mono g0.size)
    have bk1 := bk.carry b1
    go_wp2_with fail
    refine (l09Tol_yes _ _ t1 t2).mono ?_
    rintro e W2 ⟨rfl, rfl⟩
    go_wp2_with fail
    refine (FT.out _ ((RD.out.below g1).more (by omega))).mono ?_
    rintro e W3 ⟨rfl, b3⟩
    have z3 := b3.size
    have g3 : Below w.heap.size w W3 := g1.trans (b3.mono g1.size)
    have bk3 := bk1.carry b3
    have zz3 : w.heap.size < W3.heap.size := by omega
    have f0 := bk3.frozen 0
    have f1 := bk3.frozen 1
    have f2 := bk3.frozen 2
    have f3 := bk3.frozen 3
    have f4 := bk3.frozen 4
    have f5 := bk3.frozen 5
    have c0 := bk3.cell 0 rfl
    have c1 := bk3.cell 1 rfl
    have c2 := bk3.cell 2 rfl
    have c3 := bk3.cell 3 rfl
    have c4 := bk3.cell 4 rfl
    have c5 := bk3.cell 5 rfl
    go_wp2
    have bf := (((((bk3.set_ 0 (.int .i64 0)).set_ 1 (.int .i64 0)).set_ 2 (.int .i64 0)).set_ 3 (.int .i64 0)).set_ 4 (.int .i64 0)).set_ 5 (.int .i64 0)
    replace bf := bf.alloc (.cells #[.int .i64 0, .int .i64 0, .int .i64 0, .int .i64 0, .int .i64 0, .int .i64 0] 31)
    have r0 := bf.cell 0 rfl
    have r1 := bf.cell 1 rfl
    have r2 := bf.cell 2 rfl
    have r3 := bf.cell 3 rfl
    have r4 := bf.cell 4 rfl
    have r5 := bf.cell 5 rfl
    refine bodyPost_ret (v := .tuple #[.agg #[.int .i64 0, .int .i64 0, .int .i64 0, .int .i64 0, .int .i64 0, .int .i64 0], .int .i64 3]) (by simp [results, Try.results17, go_sem, r0, r1, r2, r3, r4, r5]) rfl (FitRet.no X.out.1 X.out.2 ?_)
    repeat' (first | with_reducible assumption | with_reducible exact Below.refl _ _ | (with_reducible refine Below.setCell ?_ ?_ _) | (with_reducible refine Below.alloc ?_ ?_ _) | (with_reducible refine Below.drew ?_) | (with_reducible refine below_dr ?_ _) | (with_reducible refine Below.trans ?_ (Below.mono (by with_reducible assumption) ?_)) | omega | (simp; done) | (simp; omega))
  have X : RT6 ((ptAt l 0).1) ((ptAt l 0).2) (fitX l) (fitY l) ((ptAt l (l.length - 1)).1) ((ptAt l (l.length - 1)).2) (.int .i64 0) = RT6 (pk (fitE l t) ((ptAt l 0).1)) (pk (fitE l t) ((ptAt l 0).2)) (pk (fitE l t) (fitX l)) (pk (fitE l t) (fitY l)) (pk (fitE l t) ((ptAt l (l.length - 1)).1)) (pk (fitE l t) ((ptAt l (l.length - 1)).2)) (.int .i64 (fitC l t)) := by rw [(fit_yes hok ht hG).1, ← (fit_yes hok ht hG).2]; rfl
  have X := Lib.hid X
  unfold FitRet
  rw [hG] at FT
  simp only [pk, cond_true] at FT
  clear ht hv hok pv hG
  obtain ⟨R, hR⟩ : ∃ R, R = RT6 (pk (fitE l t) ((ptAt l 0).1)) (pk (fitE l t) ((ptAt l 0).2)) (pk (fitE l t) (fitX l)) (pk (fitE l t) (fitY l)) (pk (fitE l t) ((ptAt l (l.length - 1)).1)) (pk (fitE l t) ((ptAt l (l.length - 1)).2)) (.int .i64 (fitC l t)) := ⟨_, rfl⟩
  rw [← hR] at X ⊢
  clear hR
  generalize (ptAt l 0).1 = q0 at X FT
  generalize (ptAt l 0).2 = q1 at X FT
  generalize fitX l = q2 at X FT
  generalize fitY l = q3 at X FT
  generalize (ptAt l (l.length - 1)).1 = q4 at X FT
  generalize (ptAt l (l.length - 1)).2 = q5 at X FT
  obtain ⟨n, hn⟩ : ∃ n, n = l.length := ⟨_, rfl⟩
  rw [← hn] at hl PL h3 ⊢
  (try rw [← hn] at FT)
  have HN := Lib.hid hn
  clear hn
  have h3' : ¬ (n : Int) < 3 := by omega
  have h3'' : (3 : Int) ≤ (n : Int) := by omega
  go_enter Try.func17, Try.ntmps17
  go_wp2_with fail
  generalize hW : w.alloc (.cells #[.int .i64 0, .int .i64 0, .int .i64 0, .int .i64 0, .int .i64 0, .int .i64 0] 31) = W0
  have bk : Blk W0 w.heap.size 31 #[.int .i64 0, .int .i64 0, .int .i64 0, .int .i64 0, .int .i64 0, .int .i64 0] := by rw [← hW]; exact Blk.new _ _ _
  have g0 : Below w.heap.size w W0 := by rw [← hW]; repeat' (first | with_reducible assumption | with_reducible exact Below.refl _ _ | (with_reducible refine Below.setCell ?_ ?_ _) | (with_reducible refine Below.alloc ?_ ?_ _) | (with_reducible refine Below.drew ?_) | (with_reducible refine below_dr ?_ _) | (with_reducible refine Below.trans ?_ (Below.mono (by with_reducible assumption) ?_)) | omega | (simp; done) | (simp; omega))
  have bz : w.heap.size < W0.heap.size := bk.lt
  clear hW
  refine (PL.out _ ((RD.out.below g0).more (by omega))).mono ?_
  rintro e W1 ⟨rfl, b1⟩
  have z1 := b1.size
  have g1 : Below w.heap.size w W1 := g0.trans (b1.mono g0.size)
  have bk1 := bk.carry b1
  go_wp2_with fail
  refine (l09Tol_yes _ _ t1 t2).mono ?_
  rintro e W2 ⟨rfl, rfl⟩
  go_wp2_with fail
  refine (FT.out _ ((RD.out.below g1).more (by omega))).mono ?_
  rintro e W3 ⟨rfl, b3⟩
  have z3 := b3.size
  have g3 : Below w.heap.size w W3 := g1.trans (b3.mono g1.size)
  have bk3 := bk1.carry b3
  have zz3 : w.heap.size < W3.heap.size := by omega
  have f0 := bk3.frozen 0
  have f1 := bk3.frozen 1
  have f2 := bk3.frozen 2
  have f3 := bk3.frozen 3
  have f4 := bk3.frozen 4
  have f5 := bk3.frozen 5
  have c0 := bk3.cell 0 rfl
  have c1 := bk3.cell 1 rfl
  have c2 := bk3.cell 2 rfl
  have c3 := bk3.cell 3 rfl
  have c4 := bk3.cell 4 rfl
  have c5 := bk3.cell 5 rfl
  go_wp2
  have bf := ((((((bk3.set_ 0 (.int .i64 q0)).set_ 1 (.int .i64 q1)).set_ 2 (.int .i64 q2)).set_ 3 (.int .i64 q3)).set_ 4 (.int .i64 q4)).set_ 5 (.int .i64 q5)).alloc (.cells #[.int .i64 q0, .int .i64 q1, .int .i64 q2, .int .i64 q3, .int .i64 q4, .int .i64 q5] 31)
  have r0 := bf.cell 0 rfl
  have r1 := bf.cell 1 rfl
  have r2 := bf.cell 2 rfl
  have r3 := bf.cell 3 rfl
  have r4 := bf.cell 4 rfl
  have r5 := bf.cell 5 rfl
  refine bodyPost_ret (v := .tuple #[.agg #[.int .i64 q0, .int .i64 q1, .int .i64 q2, .int .i64 q3, .int .i64 q4, .int .i64 q5], .int .i64 0]) (by simp [results, Try.results17, go_sem, r0, r1, r2, r3, r4, r5]) rfl ⟨?_, ?_⟩
  · exact X.out
  repeat' (first | with_reducible assumption | with_reducible exact Below.refl _ _ | (with_reducible refine Below.setCell ?_ ?_ _) | (with_reducible refine Below.alloc ?_ ?_ _) | (with_reducible refine Below.drew ?_) | (with_reducible refine below_dr ?_ _) | (with_reducible refine Below.trans ?_ (Below.mono (by with_reducible assumption) ?_)) | omega | (simp; done) | (simp; omega))
end Go.Proofs.Yticgomikfleabaa
