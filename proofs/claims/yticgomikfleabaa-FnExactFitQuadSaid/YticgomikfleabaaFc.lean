/- Walks: whether points are near a path, on both sides. -/
import Derived.Test.YticgomikfleabaaNuW
import Derived.Test.YticgomikfleabaaVd
namespace Go.Proofs.Yticgomikfleabaa
open Go.RowKit
set_option linter.unusedVariables false
/-- Is the point near the k-th piece of a path (the piece ahead of point k; the first point alone at 0)? -/
def segB (l : List APt) (x y r : Int) (k : Nat) : Bool := match l[k - 1]?, l[k]? with | some a, some b => nearV a.1 a.2 b.1 b.2 x y r | _, _ => false
def nrV (l : List APt) (x y r : Int) : Bool := (List.range l.length).any (segB l x y r)
theorem seg_is {l : List APt} {x y r : Int} {k : Nat} {a1 a2 b1 b2 : Int} (ha : l[k - 1]? = some (a1, a2)) (hb : l[k]? = some (b1, b2)) : segB l x y r k = nearV a1 a2 b1 b2 x y r := by unfold segB; rw [ha, hb]
theorem nr_yes {l : List APt} {x y r : Int} {k : Nat} (hk : k < l.length) (h : segB l x y r k = true) : true = nrV l x y r := by
  symm; unfold nrV; rw [List.any_eq_true]; exact ⟨k, by simpa using hk, h⟩
theorem nr_no {l : List APt} {x y r : Int} (h : ∀ j, j < l.length → segB l x y r j = false) : false = nrV l x y r := by
  symm; unfold nrV; rw [List.any_eq_false]; intro j hj; rw [h j (by simpa using hj)]; simp
theorem near_end {ax ay bx ey x y r : Int} (hb : okB bx ey = true) (h : nearV ax ay ax ay x y r = true) : nearV ax ay bx ey x y r = true := by
  unfold nearV at *
  simp only [Bool.and_eq_true, decide_eq_true_eq] at h
  obtain ⟨⟨⟨⟨⟨h1, -⟩, h2⟩, h3⟩, h4⟩, h5⟩ := h
  have e : nearQ ax ay bx ey x y (r * r) = true := by
    refine (near_yes (Or.inl ?_)).symm
    unfold nearQ at h5
    rw [show alongI ax ay ax ay x y = 0 by unfold alongI; simp] at h5
    simpa using h5
  simp [h1, hb, h2, h3, h4, e]
theorem seg_one {l : List APt} {x y r : Int} (hv : ptsUp l l.length = true) (hn : 1 < l.length) (h : segB l x y r 0 = true) : segB l x y r 1 = true := by
  obtain ⟨⟨a1, a2⟩, ha⟩ : ∃ a, l[0]? = some a := ⟨l[0]'(by omega), List.getElem?_eq_getElem (by omega)⟩
  obtain ⟨⟨b1, b2⟩, hb⟩ : ∃ a, l[1]? = some a := ⟨l[1]'(by omega), List.getElem?_eq_getElem (by omega)⟩
  rw [seg_is (k := 0) ha ha] at h
  rw [seg_is (k := 1) ha hb]
  exact near_end (pts_all hv hb) h
/-- Are all points of a list near a path? -/
def alB (a l : List APt) (r : Int) (k : Nat) : Bool := match a[k]? with | some p => nrV l p.1 p.2 r | none => true
def alV (a l : List APt) (r : Int) : Bool := (List.range a.length).all (alB a l r)
theorem al_is {a l : List APt} {r : Int} {k : Nat} {x y : Int} (h : a[k]? = some (x, y)) : alB a l r k = nrV l x y r := by unfold alB; rw [h]
theorem al_no {a l : List APt} {r : Int} {k : Nat} (hk : k < a.length) (h : alB a l r k = false) : false = alV a l r := by
  symm; unfold alV; rw [List.all_eq_false]; exact ⟨k, by simpa using hk, by simp [h]⟩
theorem al_yes {a l : List APt} {r : Int} (h : ∀ j, j < a.length → alB a l r j = true) : true = alV a l r := by
  symm; unfold alV; rw [List.all_eq_true]; intro j hj; exact h j (by simpa using hj)
theorem below_one {k : Nat} {Q : Nat → Prop} (h : ∀ j, j < k → Q j) (hk : Q k) : ∀ j, j < k + 1 → Q j := fun j hj => by
  rcases Nat.lt_or_ge j k with h2 | h2
  · exact h j h2
  · obtain rfl : j = k := by omega
    exact hk
theorem from_one {k : Nat} {Q : Nat → Prop} (h : ∀ j, 1 ≤ j → j < k + 1 → Q j) (hk : Q (k + 1)) : ∀ j, 1 ≤ j → j < k + 1 + 1 → Q j := fun j h0 hj => by
  rcases Nat.lt_or_ge j (k + 1) with h2 | h2
  · exact h j h0 h2
  · obtain rfl : j = k + 1 := by omega
    exact hk
set_option maxHeartbeats 6400000 in
theorem nearTo1_any (l : List APt) (A : Option Addr) (c Bs Bd : Nat) (x y r : Int) (w : World) (hl : l.length ≤ 1048576) (h1 : 1 ≤ l.length) (rd : Rd cPt 2 w w.heap.size A l)
    (s0 : w.cell? ⟨Bs, 0, none⟩ = some (.slice A l.length c)) (d0 : w.cell? ⟨Bd, 0, none⟩ = some (.int .i64 r)) (hs : Bs < w.heap.size) (hd : Bd < w.heap.size) :
    Calls Try.prog 111 #[.agg #[.int .i64 x, .int .i64 y], .pointer (some ⟨Bs, 0, none⟩), .pointer (some ⟨Bd, 0, none⟩)] w fun e w' => e = .returned (.bool (nrV l x y r)) ∧ Below w.heap.size w w' := by
  have CN := Lib.hid (fun a b c d w => implNear_any a b c d x y r w)
  obtain ⟨⟨f1, f2⟩, hf0⟩ : ∃ a, l[0]? = some a := ⟨l[0]'(by omega), List.getElem?_eq_getElem (by omega)⟩
  obtain ⟨n, hn⟩ : ∃ n, n = l.length := ⟨_, rfl⟩
  rw [← hn] at hl h1 s0
  have HN := Lib.hid hn
  clear hn
  obtain ⟨g0, o0, hA0, hg0, hc0⟩ := rd.elem hf0
  have v0 : w.cell? ⟨g0, o0, none⟩ = some (.int .i64 f1) := by have := hc0 0 _ rfl; simpa using this
  have v1 : w.cell? ⟨g0, o0 + 1, none⟩ = some (.int .i64 f2) := by have := hc0 1 _ rfl; simpa using this
  have HA0 := Lib.hid hA0
  rw [hA0] at s0
  clear hA0 hc0
  have HF0 := Lib.hid hf0
  clear hf0
  have RD := Lib.hid rd
  clear rd
  have hn0 : (0 : Int) < (n : Int) := by omega
  go_enter Try.func111, Try.ntmps111
  go_wp2_with fail
  generalize hW : ((w.alloc (.cells #[.int .i64 x, .int .i64 y] 29)).alloc (.cells #[.int .i64 f1, .int .i64 f2] 29)) = W0
  have hb0 : Below w.heap.size w W0 := by rw [← hW]; repeat' (first | with_reducible assumption | with_reducible exact Below.refl _ _ | (with_reducible refine Below.setCell ?_ ?_ _) | (with_reducible refine Below.alloc ?_ ?_ _) | (with_reducible refine Below.drew ?_) | (with_reducible refine below_dr ?_ _) | (with_reducible refine Below.trans ?_ (Below.mono (by with_reducible assumption) ?_)) | omega | (simp; done) | (simp; omega))
  have z0 : w.heap.size + 1 < W0.heap.size := by rw [← hW]; simp
  have p0 : W0.cell? ⟨w.heap.size, 0, none⟩ = some (.int .i64 x) := by rw [← hW]; simp [go_sem]
  have p1 : W0.cell? ⟨w.heap.size, 1, none⟩ = some (.int .i64 y) := by rw [← hW]; simp [go_sem]
  have q0 : W0.cell? ⟨w.heap.size + 1, 0, none⟩ = some (.int .i64 f1) := by rw [← hW]; simp [go_sem]
  have q1 : W0.cell? ⟨w.heap.size + 1, 1, none⟩ = some (.int .i64 f2) := by rw [← hW]; simp [go_sem]
  have u0 : W0.frozen? ⟨w.heap.size + 1, 0, none⟩ = false := by rw [← hW]; simp [go_sem]
  have u1 : W0.frozen? ⟨w.heap.size + 1, 1, none⟩ = false := by rw [← hW]; simp [go_sem]
  clear hW v0 v1
  go_loopw [13] (fun i wr => ∃ (k : Nat) (a1 a2 : Int), k ≤ n ∧ i = .int .i64 k ∧ l[k - 1]? = some (a1, a2) ∧ (∀ j, j < k → segB l x y r j = false) ∧ Below w.heap.size w wr ∧ w.heap.size + 1 < wr.heap.size ∧ wr.cell? ⟨w.heap.size, 0, none⟩ = some (.int .i64 x) ∧ wr.cell? ⟨w.heap.size, 1, none⟩ = some (.int .i64 y) ∧
      wr.cell? ⟨w.heap.size + 1, 0, none⟩ = some (.int .i64 a1) ∧ wr.cell? ⟨w.heap.size + 1, 1, none⟩ = some (.int .i64 a2) ∧ wr.frozen? ⟨w.heap.size + 1, 0, none⟩ = false ∧ wr.frozen? ⟨w.heap.size + 1, 1, none⟩ = false) (fun i _ => n - (intOf i).toNat)
  case atStart => exact ⟨0, f1, f2, Nat.zero_le _, rfl, HF0.out, fun j h => by omega, hb0, z0, p0, p1, q0, q1, u0, u1⟩
  case round =>
    clear hb0 z0 p0 p1 q0 q1 u0 u1
    obtain ⟨k, a1, a2, hk, rfl, hpr, hno, hbl, hzr, p0, p1, q0, q1, u0, u1⟩ := hrel
    have HNO := Lib.hid hno
    have HPR := Lib.hid hpr
    clear hno hpr
    have hzw := hbl.size
    have hzr0 : w.heap.size < wr.heap.size := by omega
    have hzd : Bd < wr.heap.size := by omega
    have ds : wr.cell? ⟨Bd, 0, none⟩ = some (.int .i64 r) := (hbl.cell (p := ⟨Bd, 0, none⟩) hd).trans d0
    by_cases hlt : k < n
    · obtain ⟨⟨x0, x1⟩, ha⟩ : ∃ a, l[k]? = some a := ⟨l[k]'(by have := HN.out; omega), List.getElem?_eq_getElem (by have := HN.out; omega)⟩
      obtain ⟨g, o, hA, hg, hc⟩ := (RD.out.below hbl).elem ha
      have hA2 := HA0.out.symm.trans hA
      obtain ⟨rfl, rfl⟩ : g0 = g ∧ o0 = o := by injection hA2 with h; injection h with h1 h2; exact ⟨h1, h2⟩
      have c0 : wr.cell? ⟨g0, o0 + k * 2, none⟩ = some (.int .i64 x0) := hc 0 _ rfl
      have c1 : wr.cell? ⟨g0, o0 + k * 2 + 1, none⟩ = some (.int .i64 x1) := hc 1 _ rfl
      have HA := Lib.hid ha
      clear hc ha hA hA2
      have hki : (k : Int) < (n : Int) := by omega
      rcases hv : nearV a1 a2 x0 x1 x y r with _ | _
      · have HV := Lib.hid hv
        clear hv
        go_wp2_with fail
        refine (CN.out _ _ _ _ _).mono ?_
        rw [HV.out]
        rintro e w1 ⟨rfl, hb1⟩
        obtain ⟨hc1, hf1⟩ := bcell hb1
        have hz1 := hb1.size
        simp only [World.size_alloc] at hc1 hf1 hz1
        have e0 : w1.cell? ⟨wr.heap.size, 0, none⟩ = some (.int .i64 x0) := (hc1 _ _ (by omega)).trans (by simp [go_sem])
        have e1 : w1.cell? ⟨wr.heap.size, 1, none⟩ = some (.int .i64 x1) := (hc1 _ _ (by omega)).trans (by simp [go_sem])
        have p0' : w1.cell? ⟨w.heap.size, 0, none⟩ = some (.int .i64 x) := (hc1 _ _ (by omega)).trans ((cell_alloc_at _ _ (by omega)).trans p0)
        have p1' : w1.cell? ⟨w.heap.size, 1, none⟩ = some (.int .i64 y) := (hc1 _ _ (by omega)).trans ((cell_alloc_at _ _ (by omega)).trans p1)
        have q0' : w1.cell? ⟨w.heap.size + 1, 0, none⟩ = some (.int .i64 a1) := (hc1 _ _ (by omega)).trans ((cell_alloc_at _ _ (by omega)).trans q0)
        have q1' : w1.cell? ⟨w.heap.size + 1, 1, none⟩ = some (.int .i64 a2) := (hc1 _ _ (by omega)).trans ((cell_alloc_at _ _ (by omega)).trans q1)
        have u0' : w1.frozen? ⟨w.heap.size + 1, 0, none⟩ = false := (hf1 _ _ (by omega)).trans ((World.frozen?_alloc_old _ _ _ (by simp only; omega)).trans u0)
        have u1' : w1.frozen? ⟨w.heap.size + 1, 1, none⟩ = false := (hf1 _ _ (by omega)).trans ((World.frozen?_alloc_old _ _ _ (by simp only; omega)).trans u1)
        have bel1 : Below w.heap.size w w1 := by repeat' (first | with_reducible assumption | with_reducible exact Below.refl _ _ | (with_reducible refine Below.setCell ?_ ?_ _) | (with_reducible refine Below.alloc ?_ ?_ _) | (with_reducible refine Below.drew ?_) | (with_reducible refine below_dr ?_ _) | (with_reducible refine Below.trans ?_ (Below.mono (by with_reducible assumption) ?_)) | omega | (simp; done) | (simp; omega))
        have zz1 : w.heap.size + 1 < w1.heap.size := by omega
        clear hc1 hf1 p0 p1 q0 q1 u0 u1 c0 c1
        go_wp2
        go_roundw
        case rel =>
          have ra := AtL.of2 q0' q1' zz1
          have rb := ra.store2 (a := .int .i64 x0) (b := .int .i64 x1)
          have rp := (AtL.of2 p0' p1' (by omega) : AtL (w.heap.size) [.int .i64 x, .int .i64 y] w1)
          have rq := (rp.far (h := w.heap.size + 1) (by omega) 0 (.int .i64 x0)).far (h := w.heap.size + 1) (by omega) 1 (.int .i64 x1)
          exact ⟨k + 1, x0, x1, by omega, by go_num, HA.out, below_one HNO.out ((seg_is HPR.out HA.out).trans HV.out), by repeat' (first | with_reducible assumption | with_reducible exact Below.refl _ _ | (with_reducible refine Below.setCell ?_ ?_ _) | (with_reducible refine Below.alloc ?_ ?_ _) | (with_reducible refine Below.drew ?_) | (with_reducible refine below_dr ?_ _) | (with_reducible refine Below.trans ?_ (Below.mono (by with_reducible assumption) ?_)) | omega | (simp; done) | (simp; omega)), by simp; omega, rq.cell 0 rfl, rq.cell 1 rfl, rb.cell 0 rfl, rb.cell 1 rfl, by simp [u0'], by simp [u1']⟩
        case measure => simp [intOf]; omega
      · have HV := Lib.hid hv
        clear hv
        go_wp2_with fail
        refine (CN.out _ _ _ _ _).mono ?_
        rw [HV.out]
        rintro e w1 ⟨rfl, hb1⟩
        go_wp2
        go_ret
        exact ⟨ret_bool (nr_yes (k := k) (by have := HN.out; omega) ((seg_is HPR.out HA.out).trans HV.out)), by repeat' (first | with_reducible assumption | with_reducible exact Below.refl _ _ | (with_reducible refine Below.setCell ?_ ?_ _) | (with_reducible refine Below.alloc ?_ ?_ _) | (with_reducible refine Below.drew ?_) | (with_reducible refine below_dr ?_ _) | (with_reducible refine Below.trans ?_ (Below.mono (by with_reducible assumption) ?_)) | omega | (simp; done) | (simp; omega))⟩
    · obtain rfl : k = n := by omega
      go_wp2
      go_ret
      exact ⟨ret_bool (nr_no (by rw [← HN.out]; exact HNO.out)), hbl⟩
set_option maxHeartbeats 1600000 in
theorem areAll1_any (l : List APt) (A : Option Addr) (c Bs Bd Bh : Nat) (x y r : Int) (w : World) (hl : l.length ≤ 1048576) (h1 : 1 ≤ l.length) (rd : Rd cPt 2 w w.heap.size A l) (s0 : w.cell? ⟨Bs, 0, none⟩ = some (.slice A l.length c)) (d0 : w.cell? ⟨Bd, 0, none⟩ = some (.int .i64 r)) (hs : Bs < w.heap.size) (hd : Bd < w.heap.size)
    (b0 : w.cell? ⟨Bh, 0, none⟩ = some (.func (.func 111) #[] #[.pointer (some ⟨Bs, 0, none⟩), .pointer (some ⟨Bd, 0, none⟩)])) (hh : Bh < w.heap.size) :
    Calls Try.prog 110 #[.agg #[.int .i64 x, .int .i64 y], .pointer (some ⟨Bh, 0, none⟩)] w fun e w' => e = .returned (.bool (!(nrV l x y r))) ∧ Below w.heap.size w w' := by
  have N := Lib.hid (fun (w' : World) (rd : Rd cPt 2 w' w'.heap.size A l) s0 d0 hs hd => nearTo1_any l A c Bs Bd x y r w' hl h1 rd s0 d0 hs hd)
  have hn : ∃ n, n = l.length := ⟨_, rfl⟩
  generalize nrV l x y r = v at *
  have RD := Lib.hid rd
  clear rd hl h1
  go_enter Try.func110, Try.ntmps110
  go_wp2_with (go_at_call 111; refine (N.out _ ((RD.out.alloc (Nat.le_refl _) _).more (by simp)) ((cell_alloc_at _ _ (by omega)).trans s0) ((cell_alloc_at _ _ (by omega)).trans d0) (by simp; omega) (by simp; omega)).mono ?_; rintro e w1 ⟨rfl, hb1⟩)
  go_ret
  exact ⟨rfl, by repeat' (first | with_reducible assumption | with_reducible exact Below.refl _ _ | (with_reducible refine Below.setCell ?_ ?_ _) | (with_reducible refine Below.alloc ?_ ?_ _) | (with_reducible refine Below.drew ?_) | (with_reducible refine below_dr ?_ _) | (with_reducible refine Below.trans ?_ (Below.mono (by with_reducible assumption) ?_)) | omega | (simp; done) | (simp; omega))⟩
set_option maxHeartbeats 3200000 in
theorem indexFunc_any (a l : List APt) (A C : Option Addr) (ca c Bs Bd Bh : Nat) (r : Int) (w : World) (ha : a.length ≤ 1048576) (ra : Rd cPt 2 w w.heap.size C a) (hl : l.length ≤ 1048576) (h1 : 1 ≤ l.length) (rd : Rd cPt 2 w w.heap.size A l) (s0 : w.cell? ⟨Bs, 0, none⟩ = some (.slice A l.length c)) (d0 : w.cell? ⟨Bd, 0, none⟩ = some (.int .i64 r)) (hs : Bs < w.heap.size) (hd : Bd < w.heap.size)
    (b0 : w.cell? ⟨Bh, 0, none⟩ = some (.func (.func 111) #[] #[.pointer (some ⟨Bs, 0, none⟩), .pointer (some ⟨Bd, 0, none⟩)])) (hh : Bh < w.heap.size) :
    Calls Try.prog 117 #[.slice C a.length ca, .func (.func 110) #[] #[.pointer (some ⟨Bh, 0, none⟩)]] w fun e w' => (∃ i : Int, e = .returned (.int .i64 i) ∧ decide (0 ≤ i) = !(alV a l r)) ∧ Below w.heap.size w w' := by
  have N := Lib.hid (fun (x y : Int) (w' : World) (rd : Rd cPt 2 w' w'.heap.size A l) s0 d0 hs hd b0 hh => areAll1_any l A c Bs Bd Bh x y r w' hl h1 rd s0 d0 hs hd b0 hh)
  have RD := Lib.hid rd
  have RA := Lib.hid ra
  have S0 := Lib.hid s0
  have D0 := Lib.hid d0
  have B0 := Lib.hid b0
  clear rd ra hl h1 s0 d0 b0
  obtain ⟨n, hn⟩ : ∃ n, n = a.length := ⟨_, rfl⟩
  rw [← hn] at ha ⊢
  have HN := Lib.hid hn
  clear hn
  go_enter Try.func117, Try.ntmps117
  go_wp2
  go_loopw [5, 8] (fun u i wr => ∃ k : Nat, k ≤ n ∧ i = .int .i64 k ∧ (∀ j, j < k → alB a l r j = true) ∧ Below w.heap.size w wr) (fun u i _ => n - (intOf i).toNat)
  case atStart => exact ⟨0, Nat.zero_le _, rfl, fun j h => by omega, Below.refl _ _⟩
  case round =>
    obtain ⟨k, hk, rfl, hyes, hbl⟩ := hrel
    have HY := Lib.hid hyes
    clear hyes
    have hzw := hbl.size
    by_cases hlt : k < n
    · obtain ⟨⟨x0, x1⟩, ha⟩ : ∃ p, a[k]? = some p := ⟨a[k]'(by have := HN.out; omega), List.getElem?_eq_getElem (by have := HN.out; omega)⟩
      obtain ⟨g, o, rfl, hg, hc⟩ := (RA.out.below hbl).elem ha
      have c0 : wr.cell? ⟨g, o + k * 2, none⟩ = some (.int .i64 x0) := hc 0 _ rfl
      have c1 : wr.cell? ⟨g, o + k * 2 + 1, none⟩ = some (.int .i64 x1) := hc 1 _ rfl
      have HA := Lib.hid ha
      clear hc ha
      have hki : (k : Int) < (n : Int) := by omega
      rcases hv : nrV l x0 x1 r with _ | _
      · have HV := Lib.hid hv
        clear hv
        go_wp2_with (go_at_call 110; refine (N.out _ _ _ ((RD.out.below hbl).more (by omega)) ((hbl.cell (p := ⟨Bs, 0, none⟩) hs).trans S0.out) ((hbl.cell (p := ⟨Bd, 0, none⟩) hd).trans D0.out) (by omega) (by omega) ((hbl.cell (p := ⟨Bh, 0, none⟩) hh).trans B0.out) (by omega)).mono ?_; rw [HV.out]; rintro e w1 ⟨rfl, hb1⟩)
        go_ret
        exact ⟨⟨_, rfl, by rw [← al_no (k := k) (by have := HN.out; omega) ((al_is HA.out).trans HV.out)]; simp⟩, by repeat' (first | with_reducible assumption | with_reducible exact Below.refl _ _ | (with_reducible refine Below.setCell ?_ ?_ _) | (with_reducible refine Below.alloc ?_ ?_ _) | (with_reducible refine Below.drew ?_) | (with_reducible refine below_dr ?_ _) | (with_reducible refine Below.trans ?_ (Below.mono (by with_reducible assumption) ?_)) | omega | (simp; done) | (simp; omega))⟩
      · have HV := Lib.hid hv
        clear hv
        go_wp2_with (go_at_call 110; refine (N.out _ _ _ ((RD.out.below hbl).more (by omega)) ((hbl.cell (p := ⟨Bs, 0, none⟩) hs).trans S0.out) ((hbl.cell (p := ⟨Bd, 0, none⟩) hd).trans D0.out) (by omega) (by omega) ((hbl.cell (p := ⟨Bh, 0, none⟩) hh).trans B0.out) (by omega)).mono ?_; rw [HV.out]; rintro e w1 ⟨rfl, hb1⟩)
        go_roundw
        case rel => exact ⟨k + 1, by omega, by go_num, below_one HY.out ((al_is HA.out).trans HV.out), by repeat' (first | with_reducible assumption | with_reducible exact Below.refl _ _ | (with_reducible refine Below.setCell ?_ ?_ _) | (with_reducible refine Below.alloc ?_ ?_ _) | (with_reducible refine Below.drew ?_) | (with_reducible refine below_dr ?_ _) | (with_reducible refine Below.trans ?_ (Below.mono (by with_reducible assumption) ?_)) | omega | (simp; done) | (simp; omega))⟩
        case measure => simp [intOf]; omega
    · obtain rfl : k = n := by omega
      go_wp2
      go_ret
      exact ⟨⟨_, rfl, by rw [← al_yes (by rw [← HN.out]; exact HY.out)]; rfl⟩, hbl⟩
set_option maxHeartbeats 1600000 in
theorem containsFunc_any (a l : List APt) (A C : Option Addr) (ca c Bs Bd Bh : Nat) (r : Int) (w : World) (ha : a.length ≤ 1048576) (ra : Rd cPt 2 w w.heap.size C a) (hl : l.length ≤ 1048576) (h1 : 1 ≤ l.length) (rd : Rd cPt 2 w w.heap.size A l) (s0 : w.cell? ⟨Bs, 0, none⟩ = some (.slice A l.length c)) (d0 : w.cell? ⟨Bd, 0, none⟩ = some (.int .i64 r)) (hs : Bs < w.heap.size) (hd : Bd < w.heap.size)
    (b0 : w.cell? ⟨Bh, 0, none⟩ = some (.func (.func 111) #[] #[.pointer (some ⟨Bs, 0, none⟩), .pointer (some ⟨Bd, 0, none⟩)])) (hh : Bh < w.heap.size) :
    Calls Try.prog 109 #[.slice C a.length ca, .func (.func 110) #[] #[.pointer (some ⟨Bh, 0, none⟩)]] w fun e w' => e = .returned (.bool (!(alV a l r))) ∧ Below w.heap.size w w' := by
  have N := Lib.hid (indexFunc_any a l A C ca c Bs Bd Bh r w ha ra hl h1 rd s0 d0 hs hd b0 hh)
  clear ra rd s0 d0 b0 hl h1 ha
  generalize a.length = n at *
  generalize alV a l r = v at *
  go_enter Try.func109, Try.ntmps109
  go_wp2_with fail
  refine N.out.mono ?_
  rintro e w1 ⟨⟨i, rfl, hi⟩, hb1⟩
  go_wp2
  go_ret
  exact ⟨rfl, hb1⟩
set_option maxHeartbeats 1600000 in
theorem areAll_any (a l : List APt) (A C : Option Addr) (ca c Bs Bd : Nat) (r : Int) (w : World) (ha : a.length ≤ 1048576) (ra : Rd cPt 2 w w.heap.size C a) (hl : l.length ≤ 1048576) (h1 : 1 ≤ l.length) (rd : Rd cPt 2 w w.heap.size A l) (s0 : w.cell? ⟨Bs, 0, none⟩ = some (.slice A l.length c)) (d0 : w.cell? ⟨Bd, 0, none⟩ = some (.int .i64 r)) (hs : Bs < w.heap.size) (hd : Bd < w.heap.size) :
    Calls Try.prog 84 #[.slice C a.length ca, .func (.func 111) #[] #[.pointer (some ⟨Bs, 0, none⟩), .pointer (some ⟨Bd, 0, none⟩)]] w fun e w' => e = .returned (.bool (alV a l r)) ∧ Below w.heap.size w w' := by
  have N := Lib.hid (fun (w' : World) (Bh : Nat) (ra : Rd cPt 2 w' w'.heap.size C a) (rd : Rd cPt 2 w' w'.heap.size A l) s0 d0 hs hd b0 hh => containsFunc_any a l A C ca c Bs Bd Bh r w' ha ra hl h1 rd s0 d0 hs hd b0 hh)
  have RD := Lib.hid rd
  have RA := Lib.hid ra
  clear rd ra hl h1 ha
  generalize a.length = n at *
  generalize alV a l r = v at *
  go_enter Try.func84, Try.ntmps84
  go_wp2_with fail
  refine (N.out _ _ ((RA.out.alloc (Nat.le_refl _) _).more (by simp)) ((RD.out.alloc (Nat.le_refl _) _).more (by simp)) ((cell_alloc_at _ _ (by omega)).trans s0) ((cell_alloc_at _ _ (by omega)).trans d0) (by simp; omega) (by simp; omega) (by simp [go_sem]) (by simp)).mono ?_
  rintro e w1 ⟨rfl, hb1⟩
  go_wp2
  go_ret
  exact ⟨by simp, by repeat' (first | with_reducible assumption | with_reducible exact Below.refl _ _ | (with_reducible refine Below.setCell ?_ ?_ _) | (with_reducible refine Below.alloc ?_ ?_ _) | (with_reducible refine Below.drew ?_) | (with_reducible refine below_dr ?_ _) | (with_reducible refine Below.trans ?_ (Below.mono (by with_reducible assumption) ?_)) | omega | (simp; done) | (simp; omega))⟩
set_option maxHeartbeats 1600000 in
theorem nearTo_any (A : Option Addr) (n c : Nat) (r : Int) (w : World) :
    Calls Try.prog 85 #[.slice A n c, .int .i64 r] w fun e w' => e = .returned (.func (.func 111) #[] #[.pointer (some ⟨w.heap.size, 0, none⟩), .pointer (some ⟨w.heap.size + 1, 0, none⟩)]) ∧ Below w.heap.size w w' ∧
      w'.cell? ⟨w.heap.size, 0, none⟩ = some (.slice A n c) ∧ w'.cell? ⟨w.heap.size + 1, 0, none⟩ = some (.int .i64 r) ∧ w.heap.size + 1 < w'.heap.size := by
  go_enter Try.func85, Try.ntmps85
  go_wp2
  go_ret
  exact ⟨rfl, by repeat' (first | with_reducible assumption | with_reducible exact Below.refl _ _ | (with_reducible refine Below.setCell ?_ ?_ _) | (with_reducible refine Below.alloc ?_ ?_ _) | (with_reducible refine Below.drew ?_) | (with_reducible refine below_dr ?_ _) | (with_reducible refine Below.trans ?_ (Below.mono (by with_reducible assumption) ?_)) | omega | (simp; done) | (simp; omega)), by simp [go_sem], by simp [go_sem], by simp⟩
end Go.Proofs.Yticgomikfleabaa
