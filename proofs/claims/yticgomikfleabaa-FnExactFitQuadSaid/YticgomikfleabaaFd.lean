/- Walks: paths near points and near paths, the reference's side; both sides whole. -/
import Derived.Test.YticgomikfleabaaFc
namespace Go.Proofs.Yticgomikfleabaa
open Go.RowKit
set_option linter.unusedVariables false
theorem near_is {ax ay bx ey x y r : Int} (h1 : okB ax ay = true) (h2 : okB bx ey = true) (h3 : okB x y = true) (r0 : 0 ≤ r) (r1 : r ≤ 262144) : nearQ ax ay bx ey x y (r * r) = nearV ax ay bx ey x y r := nv_is h1 h2 h3 r0 r1
set_option maxHeartbeats 3200000 in
theorem l16Near_any (l : List APt) (A : Option Addr) (c : Nat) (x y r : Int) (w : World) (hl : l.length ≤ 1048576) (h1 : 1 ≤ l.length) (rd : Rd cPt 2 w w.heap.size A l) (hv : ptsUp l l.length = true) (vp : okB x y = true) (r0 : 0 ≤ r) (r1 : r ≤ 262144) :
    Calls Try.prog 105 #[.slice A l.length c, .agg #[.int .i64 x, .int .i64 y], .int .i64 r] w fun e w' => e = .returned (.bool (nrV l x y r)) ∧ Below w.heap.size w w' := by
  have CN := Lib.hid (fun a b c d w h1 h2 => l03Near_any a b c d x y r w h1 h2 vp r0 r1)
  have IS := Lib.hid (fun a b c d h1 h2 => near_is (ax := a) (ay := b) (bx := c) (ey := d) h1 h2 vp r0 r1)
  have SO := Lib.hid (fun (hn : 1 < l.length) => seg_one (x := x) (y := y) (r := r) hv hn)
  have PT := Lib.hid (fun (k : Nat) (a b : Int) (h : l[k]? = some (a, b)) => pts_all hv h)
  clear hv vp r0 r1
  have RD := Lib.hid rd
  clear rd
  by_cases hone : l.length = 1
  · obtain ⟨⟨f1, f2⟩, hf0⟩ : ∃ a, l[0]? = some a := ⟨l[0]'(by omega), List.getElem?_eq_getElem (by omega)⟩
    obtain ⟨g0, o0, rfl, hg0, hc0⟩ := RD.out.elem hf0
    have v0 : w.cell? ⟨g0, o0, none⟩ = some (.int .i64 f1) := by have := hc0 0 _ rfl; simpa using this
    have v1 : w.cell? ⟨g0, o0 + 1, none⟩ = some (.int .i64 f2) := by have := hc0 1 _ rfl; simpa using this
    have ok := PT.out _ _ _ hf0
    have N := Lib.hid (fun w => CN.out f1 f2 f1 f2 w ok ok)
    have E := Lib.hid (show nearQ f1 f2 f1 f2 x y (r * r) = nrV l x y r by
      rw [IS.out _ _ _ _ ok ok, ← seg_is (l := l) (k := 0) hf0 hf0]
      rcases hs : segB l x y r 0 with _ | _
      · exact nr_no fun j hj => by obtain rfl : j = 0 := by omega
                                   exact hs
      · exact nr_yes (by omega) hs)
    rw [E.out] at N
    rw [hone]
    clear CN IS SO PT E hc0 ok hf0 hl h1 hone
    go_enter Try.func105, Try.ntmps105
    go_wp2_with fail
    generalize hW : (w.alloc (.cells #[.int .i64 x, .int .i64 y] 29)) = W0
    have hb0 : Below w.heap.size w W0 := by rw [← hW]; repeat' (first | with_reducible assumption | with_reducible exact Below.refl _ _ | (with_reducible refine Below.setCell ?_ ?_ _) | (with_reducible refine Below.alloc ?_ ?_ _) | (with_reducible refine Below.drew ?_) | (with_reducible refine below_dr ?_ _) | (with_reducible refine Below.trans ?_ (Below.mono (by with_reducible assumption) ?_)) | omega | (simp; done) | (simp; omega))
    have hzz : w.heap.size < W0.heap.size := by rw [← hW]; simp
    have p0 : W0.cell? ⟨w.heap.size, 0, none⟩ = some (.int .i64 x) := by rw [← hW]; simp [go_sem]
    have p1 : W0.cell? ⟨w.heap.size, 1, none⟩ = some (.int .i64 y) := by rw [← hW]; simp [go_sem]
    have q0 : W0.cell? ⟨g0, o0, none⟩ = some (.int .i64 f1) := (hb0.cell (p := ⟨g0, o0, none⟩) hg0).trans v0
    have q1 : W0.cell? ⟨g0, o0 + 1, none⟩ = some (.int .i64 f2) := (hb0.cell (p := ⟨g0, o0 + 1, none⟩) hg0).trans v1
    clear hW v0 v1
    have hz0 : w.heap.size < W0.heap.size := hzz
    have hzg : g0 < W0.heap.size := by omega
    go_region_held3 (fun w' => (∀ b o, b < W0.heap.size → w'.cell? ⟨b, o, none⟩ = W0.cell? ⟨b, o, none⟩) ∧ W0.heap.size ≤ w'.heap.size)
      (first | ((try dsimp only); exact ⟨fun b o h => (by (repeat (first | with_reducible exact rfl | (with_reducible refine (cell_drew_at _ _).trans ?_) | (with_reducible refine (cell_set_at _ _ (by first | omega | (simp; done) | (simp; omega))).trans ?_) | (with_reducible refine (cell_alloc_at _ _ (by first | omega | (simp; done) | (simp; omega))).trans ?_) | (with_reducible refine (hcw1 b o (by first | omega | (simp; done) | (simp; omega))).trans ?_)))), (by first | omega | (simp; done) | (simp; omega))⟩) | fail)
      (first | (go_at_call 116; (with_reducible refine (N.out _).mono ?_); rintro e w1 ⟨rfl, hb1⟩; obtain ⟨hcw1, hfw1⟩ := bcell hb1; have hzw1 := hb1.size; (try simp only [World.size_drew] at hcw1 hfw1 hzw1)))
    all_goals
      go_wp2
      go_ret
      exact ⟨rfl, by repeat' (first | with_reducible assumption | with_reducible exact Below.refl _ _ | (with_reducible refine Below.setCell ?_ ?_ _) | (with_reducible refine Below.alloc ?_ ?_ _) | (with_reducible refine Below.drew ?_) | (with_reducible refine below_dr ?_ _) | (with_reducible refine Below.trans ?_ (Below.mono (by with_reducible assumption) ?_)) | omega | (simp; done) | (simp; omega))⟩
  · obtain ⟨n, hn⟩ : ∃ n, n = l.length := ⟨_, rfl⟩
    rw [← hn] at hl h1 hone ⊢
    have HN := Lib.hid hn
    clear hn
    have hne : ((n : Int) == 1) = false := by simp; omega
    have hn2 : 2 ≤ n := by omega
    go_enter Try.func105, Try.ntmps105
    go_wp2_with fail
    generalize hW : (w.alloc (.cells #[.int .i64 x, .int .i64 y] 29)) = W0
    have hb0 : Below w.heap.size w W0 := by rw [← hW]; repeat' (first | with_reducible assumption | with_reducible exact Below.refl _ _ | (with_reducible refine Below.setCell ?_ ?_ _) | (with_reducible refine Below.alloc ?_ ?_ _) | (with_reducible refine Below.drew ?_) | (with_reducible refine below_dr ?_ _) | (with_reducible refine Below.trans ?_ (Below.mono (by with_reducible assumption) ?_)) | omega | (simp; done) | (simp; omega))
    have z0 : w.heap.size < W0.heap.size := by rw [← hW]; simp
    have p0 : W0.cell? ⟨w.heap.size, 0, none⟩ = some (.int .i64 x) := by rw [← hW]; simp [go_sem]
    have p1 : W0.cell? ⟨w.heap.size, 1, none⟩ = some (.int .i64 y) := by rw [← hW]; simp [go_sem]
    clear hW
    go_loopw [7] (fun i wr => ∃ k : Nat, k + 1 ≤ n ∧ i = .int .i64 k ∧ (∀ j, 1 ≤ j → j < k + 1 → segB l x y r j = false) ∧ Below w.heap.size w wr ∧ Below W0.heap.size W0 wr) (fun i _ => n - (intOf i).toNat)
    case atStart => exact ⟨0, by omega, rfl, fun j h h2 => by omega, hb0, Below.refl _ _⟩
    case round =>
      obtain ⟨k, hk, rfl, hno, hbl, hbW⟩ := hrel
      have HNO := Lib.hid hno
      clear hno
      have hzw := hbl.size
      have hzW := hbW.size
      replace p0 := (hbW.cell (p := ⟨w.heap.size, 0, none⟩) z0).trans p0
      replace p1 := (hbW.cell (p := ⟨w.heap.size, 1, none⟩) z0).trans p1
      by_cases hlt : k + 1 < n
      · obtain ⟨⟨x0, x1⟩, ha⟩ : ∃ a, l[k]? = some a := ⟨l[k]'(by have := HN.out; omega), List.getElem?_eq_getElem (by have := HN.out; omega)⟩
        obtain ⟨⟨y0, y1⟩, hb⟩ : ∃ a, l[k + 1]? = some a := ⟨l[k + 1]'(by have := HN.out; omega), List.getElem?_eq_getElem (by have := HN.out; omega)⟩
        obtain ⟨g, o, rfl, hg, hc⟩ := (RD.out.below hbl).elem ha
        obtain ⟨g2, o2, hA2, hg2, hc2⟩ := (RD.out.below hbl).elem hb
        obtain ⟨rfl, rfl⟩ : g = g2 ∧ o = o2 := by injection hA2 with h; injection h with h1 h2; exact ⟨h1, h2⟩
        have c0 : wr.cell? ⟨g, o + k * 2, none⟩ = some (.int .i64 x0) := hc 0 _ rfl
        have c1 : wr.cell? ⟨g, o + k * 2 + 1, none⟩ = some (.int .i64 x1) := hc 1 _ rfl
        have c2 : wr.cell? ⟨g, o + (k + 1) * 2, none⟩ = some (.int .i64 y0) := hc2 0 _ rfl
        have c3 : wr.cell? ⟨g, o + (k + 1) * 2 + 1, none⟩ = some (.int .i64 y1) := hc2 1 _ rfl
        have N := Lib.hid (fun w => CN.out x0 x1 y0 y1 w (PT.out _ _ _ ha) (PT.out _ _ _ hb))
        have E := Lib.hid ((IS.out _ _ _ _ (PT.out _ _ _ ha) (PT.out _ _ _ hb)).trans (seg_is (l := l) (k := k + 1) (x := x) (y := y) (r := r) ha hb).symm)
        rw [E.out] at N
        clear hc hc2 ha hb hA2 E
        have hki : (k : Int) + 1 < (n : Int) := by omega
        have hki0 : (k : Int) < (n : Int) := by omega
        have hkw : IntKind.i64.wrap ((k : Int) + 1) = (k : Int) + 1 := IntWalk.i64_in _ (by omega)
        have hkn : k < n := by omega
        have hk0 : (0 : Int) ≤ (k : Int) + 1 := by omega
        have hkt : ((k : Int) + 1).toNat = k + 1 := by omega
        rcases hs : segB l x y r (k + 1) with _ | _
        · rw [hs] at N
          have HS := Lib.hid hs
          clear hs
          have hwz : w.heap.size < wr.heap.size := by omega
          have hgz : g < wr.heap.size := by omega
          go_wp2_with fail
          go_region_held3 (fun w' => (∀ b o, b < wr.heap.size → w'.cell? ⟨b, o, none⟩ = wr.cell? ⟨b, o, none⟩) ∧ wr.heap.size ≤ w'.heap.size)
            (first | ((try dsimp only); exact ⟨fun b o h => (by (repeat (first | with_reducible exact rfl | (with_reducible refine (cell_drew_at _ _).trans ?_) | (with_reducible refine (cell_set_at _ _ (by first | omega | (simp; done) | (simp; omega))).trans ?_) | (with_reducible refine (cell_alloc_at _ _ (by first | omega | (simp; done) | (simp; omega))).trans ?_) | (with_reducible refine (hcw1 b o (by first | omega | (simp; done) | (simp; omega))).trans ?_)))), (by first | omega | (simp; done) | (simp; omega))⟩) | fail)
            (first | (go_at_call 116; (with_reducible refine (N.out _).mono ?_); rintro e w1 ⟨rfl, hb1⟩; obtain ⟨hcw1, hfw1⟩ := bcell hb1; have hzw1 := hb1.size; (try simp only [World.size_drew] at hcw1 hfw1 hzw1)))
          all_goals
            go_wp2
            go_roundw
            case rel => exact ⟨k + 1, by omega, by go_num, from_one HNO.out HS.out, by repeat' (first | with_reducible assumption | with_reducible exact Below.refl _ _ | (with_reducible refine Below.setCell ?_ ?_ _) | (with_reducible refine Below.alloc ?_ ?_ _) | (with_reducible refine Below.drew ?_) | (with_reducible refine below_dr ?_ _) | (with_reducible refine Below.trans ?_ (Below.mono (by with_reducible assumption) ?_)) | omega | (simp; done) | (simp; omega)), by repeat' (first | with_reducible assumption | with_reducible exact Below.refl _ _ | (with_reducible refine Below.setCell ?_ ?_ _) | (with_reducible refine Below.alloc ?_ ?_ _) | (with_reducible refine Below.drew ?_) | (with_reducible refine below_dr ?_ _) | (with_reducible refine Below.trans ?_ (Below.mono (by with_reducible assumption) ?_)) | omega | (simp; done) | (simp; omega))⟩
            case measure => simp [intOf]; omega
        · rw [hs] at N
          have HS := Lib.hid hs
          clear hs
          have hwz : w.heap.size < wr.heap.size := by omega
          have hgz : g < wr.heap.size := by omega
          go_wp2_with fail
          go_region_held3 (fun w' => (∀ b o, b < wr.heap.size → w'.cell? ⟨b, o, none⟩ = wr.cell? ⟨b, o, none⟩) ∧ wr.heap.size ≤ w'.heap.size)
            (first | ((try dsimp only); exact ⟨fun b o h => (by (repeat (first | with_reducible exact rfl | (with_reducible refine (cell_drew_at _ _).trans ?_) | (with_reducible refine (cell_set_at _ _ (by first | omega | (simp; done) | (simp; omega))).trans ?_) | (with_reducible refine (cell_alloc_at _ _ (by first | omega | (simp; done) | (simp; omega))).trans ?_) | (with_reducible refine (hcw1 b o (by first | omega | (simp; done) | (simp; omega))).trans ?_)))), (by first | omega | (simp; done) | (simp; omega))⟩) | fail)
            (first | (go_at_call 116; (with_reducible refine (N.out _).mono ?_); rintro e w1 ⟨rfl, hb1⟩; obtain ⟨hcw1, hfw1⟩ := bcell hb1; have hzw1 := hb1.size; (try simp only [World.size_drew] at hcw1 hfw1 hzw1)))
          all_goals
            go_wp2
            go_ret
            exact ⟨ret_bool (nr_yes (k := k + 1) (by have := HN.out; omega) HS.out), by repeat' (first | with_reducible assumption | with_reducible exact Below.refl _ _ | (with_reducible refine Below.setCell ?_ ?_ _) | (with_reducible refine Below.alloc ?_ ?_ _) | (with_reducible refine Below.drew ?_) | (with_reducible refine below_dr ?_ _) | (with_reducible refine Below.trans ?_ (Below.mono (by with_reducible assumption) ?_)) | omega | (simp; done) | (simp; omega))⟩
      · obtain rfl : n = k + 1 := by omega
        have X := Lib.hid (show false = nrV l x y r by
          refine nr_no fun j hj => ?_
          rcases Nat.eq_zero_or_pos j with rfl | h
          · rcases hs : segB l x y r 0 with _ | _
            · rfl
            · have h3 := SO.out (by have := HN.out; omega) hs
              have h4 := HNO.out 1 (by omega) (by omega)
              rw [h3] at h4; cases h4
          · exact HNO.out j h (by have := HN.out; omega))
        go_wp2
        go_ret
        exact ⟨ret_bool X.out, hbl⟩
def dsB (r : Int) : Bool := decide (0 ≤ r ∧ r ≤ 262144)
def pwV (a b : List APt) (r : Int) : Bool := vRg a && vRg b && dsB r && alV a b r
def npV (l : List APt) (x y r : Int) : Bool := vRg l && okB x y && dsB r && nrV l x y r
theorem nr_range {l : List APt} {x y r : Int} (h : dsB r = false) : nrV l x y r = false := by
  refine (nr_no fun j hj => ?_).symm
  unfold segB
  split
  · refine (nv_r ?_).symm
    unfold dsB at h; simp at h; omega
  · rfl
theorem al_range {a b : List APt} {r : Int} (h : dsB r = false) (ha : vRg a = true) : alV a b r = false := by
  obtain ⟨h1, _, _⟩ := vRg_parts ha
  obtain ⟨⟨x, y⟩, h0⟩ : ∃ p, a[0]? = some p := ⟨a[0]'(by omega), List.getElem?_eq_getElem (by omega)⟩
  exact (al_no (k := 0) (by omega) ((al_is h0).trans (nr_range h))).symm
theorem pw_prog {a b : List APt} {r : Int} : (vRg a && vRg b && alV a b r) = pwV a b r := by
  unfold pwV
  rcases ha : vRg a with _ | _
  · simp
  rcases hd : dsB r with _ | _
  · rw [al_range hd ha]; simp
  · simp
theorem al_single {l : List APt} {x y r : Int} : alV [(x, y)] l r = nrV l x y r := by simp [alV, alB]
theorem vr_single {x y : Int} : vRg [(x, y)] = okB x y := by simp [vRg, ptsUp, pOk]
theorem np_prog {l : List APt} {x y r : Int} : pwV [(x, y)] l r = npV l x y r := by
  unfold pwV npV; rw [al_single, vr_single]; cases vRg l <;> cases okB x y <;> simp
set_option maxHeartbeats 1600000 in
theorem l16Within_any (a l : List APt) (A C : Option Addr) (ca c : Nat) (r : Int) (w : World) (ha : a.length ≤ 1048576) (ra : Rd cPt 2 w w.heap.size C a) (va : ptsUp a a.length = true) (hl : l.length ≤ 1048576) (h1 : 1 ≤ l.length) (rd : Rd cPt 2 w w.heap.size A l) (hv : ptsUp l l.length = true) (r0 : 0 ≤ r) (r1 : r ≤ 262144) :
    Calls Try.prog 80 #[.slice C a.length ca, .slice A l.length c, .int .i64 r] w fun e w' => e = .returned (.bool (alV a l r)) ∧ Below w.heap.size w w' := by
  have N := Lib.hid (fun (x y : Int) (w' : World) (rd : Rd cPt 2 w' w'.heap.size A l) (vp : okB x y = true) => l16Near_any l A c x y r w' hl h1 rd hv vp r0 r1)
  have PT := Lib.hid (fun (k : Nat) (x y : Int) (h : a[k]? = some (x, y)) => pts_all va h)
  have RD := Lib.hid rd
  have RA := Lib.hid ra
  clear rd ra hl h1 va hv r0 r1
  obtain ⟨n, hn⟩ : ∃ n, n = a.length := ⟨_, rfl⟩
  rw [← hn] at ha ⊢
  have HN := Lib.hid hn
  clear hn
  go_enter Try.func80, Try.ntmps80
  go_wp2
  go_loopw [7] (fun i wr => ∃ k : Nat, k ≤ n ∧ i = .int .i64 k ∧ (∀ j, j < k → alB a l r j = true) ∧ Below w.heap.size w wr) (fun i _ => n - (intOf i).toNat)
  case atStart => exact ⟨0, Nat.zero_le _, rfl, fun j h => by omega, Below.refl _ _⟩
  case round =>
    obtain ⟨k, hk, rfl, hyes, hbl⟩ := hrel
    have HY := Lib.hid hyes
    clear hyes
    have hzw := hbl.size
    by_cases hlt : k < n
    · obtain ⟨⟨x0, x1⟩, ha⟩ : ∃ p, a[k]? = some p := ⟨a[k]'(by have := HN.out; omega), List.getElem?_eq_getElem (by have := HN.out; omega)⟩
      obtain ⟨g, o, rfl, hg, hc⟩ := (RA.out.below hbl).elem ha
      have c0 : wr.cell? ⟨g, o + k * 2, none⟩ = some (.int .i64 x0) := hc 0 _ rfl
      have c1 : wr.cell? ⟨g, o + k * 2 + 1, none⟩ = some (.int .i64 x1) := hc 1 _ rfl
      have HA := Lib.hid ha
      clear hc ha
      have hki : (k : Int) < (n : Int) := by omega
      rcases hv : nrV l x0 x1 r with _ | _
      · have HV := Lib.hid hv
        clear hv
        go_wp2_with (go_at_call 105; refine (N.out _ _ _ ((RD.out.below hbl).more (by omega)) (PT.out _ _ _ HA.out)).mono ?_; rw [HV.out]; rintro e w1 ⟨rfl, hb1⟩)
        go_ret
        exact ⟨ret_bool (al_no (k := k) (by have := HN.out; omega) ((al_is HA.out).trans HV.out)), by repeat' (first | with_reducible assumption | with_reducible exact Below.refl _ _ | (with_reducible refine Below.setCell ?_ ?_ _) | (with_reducible refine Below.alloc ?_ ?_ _) | (with_reducible refine Below.drew ?_) | (with_reducible refine below_dr ?_ _) | (with_reducible refine Below.trans ?_ (Below.mono (by with_reducible assumption) ?_)) | omega | (simp; done) | (simp; omega))⟩
      · have HV := Lib.hid hv
        clear hv
        go_wp2_with (go_at_call 105; refine (N.out _ _ _ ((RD.out.below hbl).more (by omega)) (PT.out _ _ _ HA.out)).mono ?_; rw [HV.out]; rintro e w1 ⟨rfl, hb1⟩)
        go_roundw
        case rel => exact ⟨k + 1, by omega, by go_num, below_one HY.out ((al_is HA.out).trans HV.out), by repeat' (first | with_reducible assumption | with_reducible exact Below.refl _ _ | (with_reducible refine Below.setCell ?_ ?_ _) | (with_reducible refine Below.alloc ?_ ?_ _) | (with_reducible refine Below.drew ?_) | (with_reducible refine below_dr ?_ _) | (with_reducible refine Below.trans ?_ (Below.mono (by with_reducible assumption) ?_)) | omega | (simp; done) | (simp; omega))⟩
        case measure => simp [intOf]; omega
    · obtain rfl : k = n := by omega
      go_wp2
      go_ret
      exact ⟨ret_bool (al_yes (by rw [← HN.out]; exact HY.out)), hbl⟩
set_option maxHeartbeats 1600000 in
theorem l12Path_any (l : List APt) (A : Option Addr) (c : Nat) (w : World) (hl : l.length ≤ 1048576) (r : Rd cPt 2 w w.heap.size A l) :
    Calls Try.prog 47 #[.slice A l.length c] w fun e w' => e = .returned (.bool (vRg l)) ∧ Below w.heap.size w w' := by
  have C := Lib.hid (fun w r => l13Points_rd l A c w hl r)
  obtain ⟨n, hn⟩ : ∃ n, n = l.length := ⟨_, rfl⟩
  by_cases hlen : 1 ≤ l.length ∧ l.length ≤ 400
  case neg =>
    have H := Lib.hid (vRg_len hlen)
    clear C
    rw [← hn] at hlen hl ⊢
    clear hn
    go_enter Try.func47, Try.ntmps47
    go_wp2_with fail
    refine (l00In_no _ _ _ _ (by omega)).mono ?_
    rintro e w1 ⟨rfl, rfl⟩
    go_wp2_with fail
    go_ret
    exact ⟨ret_bool H.out, by repeat' (first | with_reducible assumption | with_reducible exact Below.refl _ _ | (with_reducible refine Below.setCell ?_ ?_ _) | (with_reducible refine Below.alloc ?_ ?_ _) | (with_reducible refine Below.drew ?_) | (with_reducible refine below_dr ?_ _) | (with_reducible refine Below.trans ?_ (Below.mono (by with_reducible assumption) ?_)) | omega | (simp; done) | (simp; omega))⟩
  case pos =>
    obtain ⟨h1, h400⟩ := hlen
    have H := Lib.hid (vRg_is h1 h400)
    rw [← hn] at h1 h400 hl C H ⊢
    clear hn
    go_enter Try.func47, Try.ntmps47
    go_wp2_with fail
    refine (l00In_yes _ _ _ _ (by omega) (by omega)).mono ?_
    rintro e w1 ⟨rfl, rfl⟩
    go_wp2_with fail
    refine (C.out _ r).mono ?_
    rintro e w2 ⟨rfl, hb2⟩
    go_wp2_with fail
    go_ret
    exact ⟨ret_bool H.out, by repeat' (first | with_reducible assumption | with_reducible exact Below.refl _ _ | (with_reducible refine Below.setCell ?_ ?_ _) | (with_reducible refine Below.alloc ?_ ?_ _) | (with_reducible refine Below.drew ?_) | (with_reducible refine below_dr ?_ _) | (with_reducible refine Below.trans ?_ (Below.mono (by with_reducible assumption) ?_)) | omega | (simp; done) | (simp; omega))⟩
set_option maxHeartbeats 1600000 in
theorem isPath_any (l : List APt) (A : Option Addr) (c : Nat) (w : World) (hl : l.length ≤ 1048576) (r : Rd cPt 2 w w.heap.size A l) :
    Calls Try.prog 49 #[.slice A l.length c] w fun e w' => e = .returned (.bool (vRg l)) ∧ Below w.heap.size w w' := by
  have C := Lib.hid (implValidRing_any l A c w hl r)
  clear r
  go_enter Try.func49, Try.ntmps49
  go_wp2_with fail
  refine C.out.mono ?_
  rintro e w2 ⟨rfl, hb2⟩
  go_wp2_with fail
  go_ret
  exact ⟨rfl, by repeat' (first | with_reducible assumption | with_reducible exact Below.refl _ _ | (with_reducible refine Below.setCell ?_ ?_ _) | (with_reducible refine Below.alloc ?_ ?_ _) | (with_reducible refine Below.drew ?_) | (with_reducible refine below_dr ?_ _) | (with_reducible refine Below.trans ?_ (Below.mono (by with_reducible assumption) ?_)) | omega | (simp; done) | (simp; omega))⟩
end Go.Proofs.Yticgomikfleabaa
