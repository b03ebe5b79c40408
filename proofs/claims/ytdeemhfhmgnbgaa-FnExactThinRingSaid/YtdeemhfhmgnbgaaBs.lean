/- Walks: the point of a path that is kept first, the program's side. -/
import Derived.Test.YtdeemhfhmgnbgaaBr
import Derived.Deep.RegionHeld3
namespace Go.Proofs.Ytdeemhfhmgnbgaa
open Go.RowKit
set_option linter.unusedVariables false
theorem Blk.eq2 {w : World} {g : Nat} {t : TypeId} {x y a b : Int} (h : Blk w g t #[.int .i64 x, .int .i64 y]) (e1 : x = a) (e2 : y = b) : Blk w g t #[.int .i64 a, .int .i64 b] := by subst e1 e2; exact h
theorem pt_at {w : World} {B g o : Nat} {l : List APt} {k : Nat} {u v : Int} (r : Rd cPt 2 w B (some ⟨g, o, none⟩) l) (ha : l[k]? = some (u, v)) :
    w.cell? ⟨g, o + k * 2, none⟩ = some (.int .i64 u) ∧ w.cell? ⟨g, o + k * 2 + 1, none⟩ = some (.int .i64 v) := by
  obtain ⟨g', o', hgo, hg', hc⟩ := r.elem ha
  obtain ⟨rfl, rfl⟩ : g = g' ∧ o = o' := by injection hgo with h; injection h with h1 h2; exact ⟨h1, h2⟩
  exact ⟨hc 0 _ rfl, hc 1 _ rfl⟩
theorem Blk.set2P {w : World} {g : Nat} {t : TypeId} {x y a b : Value} (h : Blk w g t #[x, y]) : Blk ((w.setCell ⟨g, 0, none⟩ a).setCell ⟨g, 1, none⟩ b) g t #[a, b] := (h.set_ 0 a).set_ 1 b
theorem mxI_max (a b : Int) : mxI a b = max a b := by unfold mxI; split <;> omega
theorem run_max2 {P : Program} (w : World) (ts : Array TypeId) (t : TypeId) (x y : Int) :
    (Builtin.max_ ts t #[.int .i64 x, .int .i64 y]).run P w = .ok (.int .i64 (mxI x y)) w := by
  have e : ∀ a b : Int, (if b > a then b else a) = mxI a b := by
    intro a b; unfold mxI; rfl
  simp [Builtin.max_, Builtin.max2, e]
theorem eql_yes {a b c d : Int} (h : a = c ∧ b = d) : ∀ w, (Go.binOp BinOp.eql 26 (.agg #[.int .i64 a, .int .i64 b]) (.agg #[.int .i64 c, .int .i64 d])).run Try.prog w = Result.ok (.bool true) w := by
  intro w; obtain ⟨rfl, rfl⟩ := h; simp [go_sem]
theorem eql_no {a b c d : Int} (h : ¬ (a = c ∧ b = d)) : ∀ w, (Go.binOp BinOp.eql 26 (.agg #[.int .i64 a, .int .i64 b]) (.agg #[.int .i64 c, .int .i64 d])).run Try.prog w = Result.ok (.bool false) w := by
  intro w
  by_cases h1 : a = c
  · have h2 : ¬ b = d := fun e => h ⟨h1, e⟩
    subst h1
    simp [go_sem, h2]
  · simp [go_sem, h1]
theorem near_V {ax ay bx ey px py t : Int} (va : okB ax ay = true) (vb : okB bx ey = true) (vp : okB px py = true) (t1 : 1 ≤ t) (t2 : t ≤ 262144) : nearV ax ay bx ey px py t = nrB t (ax, ay) (bx, ey) (px, py) := by
  have h0 : (0 : Int) ≤ t := by omega
  simp [nearV, nrB, va, vb, vp, t2, h0]
theorem turn_bd {ax ay bx ey cx cy : Int} (va : okB ax ay = true) (vb : okB bx ey = true) (vc : okB cx cy = true) : -1099511627776 ≤ turnI ax ay bx ey cx cy ∧ turnI ax ay bx ey cx cy ≤ 1099511627776 := by
  obtain ⟨a1, a2, a3, a4⟩ := okB_bounds va
  obtain ⟨b1, b2, b3, b4⟩ := okB_bounds vb
  obtain ⟨c1, c2, c3, c4⟩ := okB_bounds vc
  have h1 := mulB (a := bx - ax) (b := cy - ay) (A := 524288) (B := 524288) (by omega) (by omega) (by omega) (by omega)
  have h2 := mulB (a := ey - ay) (b := cx - ax) (A := 524288) (B := 524288) (by omega) (by omega) (by omega) (by omega)
  unfold turnI; omega
set_option maxRecDepth 100000 in
set_option maxHeartbeats 12800000 in
theorem outermost_any (l : List APt) (t : Int) (A : Option Addr) (c : Nat) (w : World) (h1 : 1 ≤ l.length) (h2 : l.length ≤ 1000) (hp : ptsUp l l.length = true) (t1 : 1 ≤ t) (t2 : t ≤ 262144) (r : Rd cPt 2 w w.heap.size A l) :
    Calls Try.prog 89 #[.slice A l.length c, .int .i64 t] w fun e w' => e = .returned (.int .i64 ((bestI t l : Nat) : Int)) ∧ Below w.heap.size w w' := by
  obtain ⟨s9, -, HBest', -⟩ := best_both (t := t) h1
  have HBest := Lib.hid HBest'
  clear HBest' s9
  have ha : l[0]? = some (firstP l) := by unfold firstP; rw [List.getElem?_eq_getElem (by omega)]; rfl
  have hz : l[l.length - 1]? = some (lastP l) := by unfold lastP; rw [List.getElem?_eq_getElem (by omega)]; rfl
  rcases hfa : firstP l with ⟨a1, a2⟩
  rcases hfz : lastP l with ⟨z1, z2⟩
  rw [hfa, hfz] at HBest
  rw [hfa] at ha
  rw [hfz] at hz
  clear hfa hfz
  have va := pts_all hp ha
  have vz := pts_all hp hz
  have HP := Lib.hid hp
  clear hp
  obtain ⟨n, hn⟩ : ∃ n, n = l.length := ⟨_, rfl⟩
  rw [← hn] at h1 h2 hz HBest ⊢
  have HN := Lib.hid hn
  clear hn
  obtain ⟨g, o, rfl, hg, -⟩ := r.elem ha
  obtain ⟨p0, p1⟩ := pt_at r ha
  obtain ⟨p2, p3⟩ := pt_at r hz
  simp only [Nat.zero_mul, Nat.add_zero] at p0 p1
  clear ha hz
  have RR := Lib.hid (fun (wr : World) (hbl : Below w.heap.size w wr) => r.below hbl)
  clear r
  have en : IntKind.i64.wrap ((n : Int) - 1) = (((n - 1 : Nat)) : Int) := by rw [show ((n : Int) - 1) = (((n - 1 : Nat)) : Int) by omega]; exact IntWalk.i64_in _ (by omega)
  have en1 : ((n : Int) - 1) = (((n - 1 : Nat)) : Int) := by omega
  have en2 : (((n - 1 : Nat)) : Int) < (n : Int) := by omega
  have en4 : (0 : Int) < (n : Int) := by omega
  have en5 : (0 : Int) ≤ (((n - 1 : Nat)) : Int) := by omega
  have en6 : ((((n - 1 : Nat)) : Int)).toNat = n - 1 := by simp
  have p01 : ∀ o1, (w.alloc o1).cell? ⟨g, o, none⟩ = some (.int .i64 a1) := fun o1 => (Below.cell (B := w.heap.size) (w := w) (by repeat' (first | with_reducible assumption | with_reducible exact Below.refl _ _ | (with_reducible refine Below.setCell ?_ ?_ _) | (with_reducible refine Below.alloc ?_ ?_ _) | (with_reducible refine Below.drew ?_) | (with_reducible refine below_dr ?_ _) | (with_reducible refine Below.trans ?_ (Below.mono (by with_reducible assumption) ?_)) | omega | (simp; done) | (simp; omega))) (p := ⟨g, o, none⟩) hg).trans p0
  have p11 : ∀ o1, (w.alloc o1).cell? ⟨g, o + 1, none⟩ = some (.int .i64 a2) := fun o1 => (Below.cell (B := w.heap.size) (w := w) (by repeat' (first | with_reducible assumption | with_reducible exact Below.refl _ _ | (with_reducible refine Below.setCell ?_ ?_ _) | (with_reducible refine Below.alloc ?_ ?_ _) | (with_reducible refine Below.drew ?_) | (with_reducible refine below_dr ?_ _) | (with_reducible refine Below.trans ?_ (Below.mono (by with_reducible assumption) ?_)) | omega | (simp; done) | (simp; omega))) (p := ⟨g, o + 1, none⟩) hg).trans p1
  have p21 : ∀ o1, (w.alloc o1).cell? ⟨g, o + (n - 1) * 2, none⟩ = some (.int .i64 z1) := fun o1 => (Below.cell (B := w.heap.size) (w := w) (by repeat' (first | with_reducible assumption | with_reducible exact Below.refl _ _ | (with_reducible refine Below.setCell ?_ ?_ _) | (with_reducible refine Below.alloc ?_ ?_ _) | (with_reducible refine Below.drew ?_) | (with_reducible refine below_dr ?_ _) | (with_reducible refine Below.trans ?_ (Below.mono (by with_reducible assumption) ?_)) | omega | (simp; done) | (simp; omega))) (p := ⟨g, o + (n - 1) * 2, none⟩) hg).trans p2
  have p31 : ∀ o1, (w.alloc o1).cell? ⟨g, o + (n - 1) * 2 + 1, none⟩ = some (.int .i64 z2) := fun o1 => (Below.cell (B := w.heap.size) (w := w) (by repeat' (first | with_reducible assumption | with_reducible exact Below.refl _ _ | (with_reducible refine Below.setCell ?_ ?_ _) | (with_reducible refine Below.alloc ?_ ?_ _) | (with_reducible refine Below.drew ?_) | (with_reducible refine below_dr ?_ _) | (with_reducible refine Below.trans ?_ (Below.mono (by with_reducible assumption) ?_)) | omega | (simp; done) | (simp; omega))) (p := ⟨g, o + (n - 1) * 2 + 1, none⟩) hg).trans p3
  have p02 : ∀ o1 o2, ((w.alloc o1).alloc o2).cell? ⟨g, o, none⟩ = some (.int .i64 a1) := fun o1 o2 => (Below.cell (B := w.heap.size) (w := w) (by repeat' (first | with_reducible assumption | with_reducible exact Below.refl _ _ | (with_reducible refine Below.setCell ?_ ?_ _) | (with_reducible refine Below.alloc ?_ ?_ _) | (with_reducible refine Below.drew ?_) | (with_reducible refine below_dr ?_ _) | (with_reducible refine Below.trans ?_ (Below.mono (by with_reducible assumption) ?_)) | omega | (simp; done) | (simp; omega))) (p := ⟨g, o, none⟩) hg).trans p0
  have p12 : ∀ o1 o2, ((w.alloc o1).alloc o2).cell? ⟨g, o + 1, none⟩ = some (.int .i64 a2) := fun o1 o2 => (Below.cell (B := w.heap.size) (w := w) (by repeat' (first | with_reducible assumption | with_reducible exact Below.refl _ _ | (with_reducible refine Below.setCell ?_ ?_ _) | (with_reducible refine Below.alloc ?_ ?_ _) | (with_reducible refine Below.drew ?_) | (with_reducible refine below_dr ?_ _) | (with_reducible refine Below.trans ?_ (Below.mono (by with_reducible assumption) ?_)) | omega | (simp; done) | (simp; omega))) (p := ⟨g, o + 1, none⟩) hg).trans p1
  have p22 : ∀ o1 o2, ((w.alloc o1).alloc o2).cell? ⟨g, o + (n - 1) * 2, none⟩ = some (.int .i64 z1) := fun o1 o2 => (Below.cell (B := w.heap.size) (w := w) (by repeat' (first | with_reducible assumption | with_reducible exact Below.refl _ _ | (with_reducible refine Below.setCell ?_ ?_ _) | (with_reducible refine Below.alloc ?_ ?_ _) | (with_reducible refine Below.drew ?_) | (with_reducible refine below_dr ?_ _) | (with_reducible refine Below.trans ?_ (Below.mono (by with_reducible assumption) ?_)) | omega | (simp; done) | (simp; omega))) (p := ⟨g, o + (n - 1) * 2, none⟩) hg).trans p2
  have p32 : ∀ o1 o2, ((w.alloc o1).alloc o2).cell? ⟨g, o + (n - 1) * 2 + 1, none⟩ = some (.int .i64 z2) := fun o1 o2 => (Below.cell (B := w.heap.size) (w := w) (by repeat' (first | with_reducible assumption | with_reducible exact Below.refl _ _ | (with_reducible refine Below.setCell ?_ ?_ _) | (with_reducible refine Below.alloc ?_ ?_ _) | (with_reducible refine Below.drew ?_) | (with_reducible refine below_dr ?_ _) | (with_reducible refine Below.trans ?_ (Below.mono (by with_reducible assumption) ?_)) | omega | (simp; done) | (simp; omega))) (p := ⟨g, o + (n - 1) * 2 + 1, none⟩) hg).trans p3
  have hg1 : ¬ g = w.heap.size := by omega
  have hg2 : ¬ g = w.heap.size + 1 := by omega
  go_enter Try.func89, Try.ntmps89
  go_upto_region 1 with fail
  go_cut [5, 6] (fun sA sB wx => ∃ q s : Nat, sA = .pointer (some ⟨q, 0, none⟩) ∧ sB = .pointer (some ⟨s, 0, none⟩) ∧ (¬ q = s ∧ w.heap.size ≤ q ∧ w.heap.size ≤ s) ∧ Blk wx q 26 #[.int .i64 a1, .int .i64 a2] ∧ Blk wx s 26 #[.int .i64 z1, .int .i64 z2] ∧ Below w.heap.size w wx)
  case first =>
    go_region
    all_goals
      go_wp2_with fail
      go_meet
    all_goals exact ⟨_, _, rfl, rfl, by first | (simp; done) | (simp; omega), by repeat' (first | with_reducible assumption | with_reducible exact Blk.new _ _ _ | ((with_reducible refine Blk.newAt _ _ _ ?_); (first | rfl | (simp; done) | (simp; omega))) | (with_reducible apply Blk.set2P) | (with_reducible refine Blk.drew ?_) | (with_reducible refine Blk.alloc ?_ _) | (with_reducible refine Blk.far ?_ (by first | omega | (simp; done) | (simp; omega)) _)), by repeat' (first | with_reducible assumption | with_reducible exact Blk.new _ _ _ | ((with_reducible refine Blk.newAt _ _ _ ?_); (first | rfl | (simp; done) | (simp; omega))) | (with_reducible apply Blk.set2P) | (with_reducible refine Blk.drew ?_) | (with_reducible refine Blk.alloc ?_ _) | (with_reducible refine Blk.far ?_ (by first | omega | (simp; done) | (simp; omega)) _)), by repeat' (first | with_reducible assumption | with_reducible exact Below.refl _ _ | (with_reducible refine Below.setCell ?_ ?_ _) | (with_reducible refine Below.alloc ?_ ?_ _) | (with_reducible refine Below.drew ?_) | (with_reducible refine below_dr ?_ _) | (with_reducible refine Below.trans ?_ (Below.mono (by with_reducible assumption) ?_)) | omega | (simp; done) | (simp; omega))⟩
  case rest =>
    clear p0 p1 p2 p3 p01 p02 p11 p12 p21 p22 p31 p32 en en1 en2 en4 en5 en6 hg1 hg2
    obtain ⟨q, s, rfl, rfl, ⟨hqs, hq, hs⟩, b2, b3, g1⟩ := hcut
    go_wp2_with fail
    go_loopw [7, 8, 23] (fun sb sm i wr => ∃ k : Nat, k ≤ n ∧ i = .int .i64 (k : Int) ∧ sb = .int .i64 (otUp t (a1, a2) (z1, z2) l k).1 ∧ sm = .int .i64 (otUp t (a1, a2) (z1, z2) l k).2 ∧ Blk wr q 26 #[.int .i64 a1, .int .i64 a2] ∧ Blk wr s 26 #[.int .i64 z1, .int .i64 z2] ∧ Below w.heap.size w wr) (fun _ _ i _ => n - (intOf i).toNat)
    case atStart => exact ⟨0, Nat.zero_le _, rfl, rfl, rfl, b2, b3, g1⟩
    case round =>
      clear b2 b3 g1
      obtain ⟨k, hk, rfl, rfl, rfl, b2, b3, hbl⟩ := hrel
      have zr := hbl.size
      have l2 := b2.lt
      have l3 := b3.lt
      by_cases hlt : k < n
      case pos =>
        obtain ⟨⟨u, v⟩, hx⟩ : ∃ a, l[k]? = some a := ⟨l[k]'(by have := HN.out; omega), List.getElem?_eq_getElem (by have := HN.out; omega)⟩
        have vp := pts_all HP.out hx
        have HS := Lib.hid (ot_succ (t := t) (a := (a1, a2)) (z := (z1, z2)) hx)
        obtain ⟨p0, p1⟩ := pt_at (RR.out _ hbl) hx
        clear hx
        have hki : (k : Int) < (n : Int) := by omega
        have CT := Lib.hid (fun w => implTurn_any a1 a2 z1 z2 u v w)
        rw [← turnV_is va vz vp] at CT
        have CD := Lib.hid (fun w => implDistSq_any a1 a2 u v w)
        rw [← sqV_is va vp] at CD
        have CN := Lib.hid (fun w => implNear_any a1 a2 z1 z2 u v t w)
        rw [near_V va vz vp t1 t2] at CN
        obtain ⟨bi, hbi⟩ : ∃ b, b = (otUp t (a1, a2) (z1, z2) l k).1 := ⟨_, rfl⟩
        obtain ⟨mo, hmo⟩ : ∃ b, b = (otUp t (a1, a2) (z1, z2) l k).2 := ⟨_, rfl⟩
        rw [← hbi, ← hmo]
        have HE := Lib.hid (show otUp t (a1, a2) (z1, z2) l k = (bi, mo) by rw [hbi, hmo])
        clear hbi hmo
        obtain ⟨D, hD⟩ : ∃ D, D = outB (a1, a2) (z1, z2) (u, v) := ⟨_, rfl⟩
        have HD := Lib.hid hD
        have hD1 : a1 = z1 ∧ a2 = z2 → sqI a1 a2 u v = D := fun h => by rw [hD]; unfold outB; rw [if_pos h]
        have hD2 : ¬ (a1 = z1 ∧ a2 = z2) → mxI (turnI a1 a2 z1 z2 u v) (-turnI a1 a2 z1 z2 u v) = D := fun h => by rw [hD]; unfold outB; rw [if_neg h, mxI_max]
        clear hD
        have htb : -1099511627776 ≤ turnI a1 a2 z1 z2 u v ∧ turnI a1 a2 z1 z2 u v ≤ 1099511627776 := turn_bd va vz vp
        generalize turnI a1 a2 z1 z2 u v = tn at *
        generalize sqI a1 a2 u v = sq at *
        obtain ⟨nb, hnb⟩ : ∃ b, b = nrB t (a1, a2) (z1, z2) (u, v) := ⟨_, rfl⟩
        rw [← hnb] at CN
        have HNB := Lib.hid hnb
        clear hnb va vz vp
        have ew : IntKind.i64.wrap (-tn) = -tn := IntWalk.i64_in _ (by omega)
        have mx2 := fun w ts t x y => @run_max2 Try.prog w ts t x y
        go_upto_region 6 with fail
        generalize hW : wr.alloc (.cells #[.int .i64 u, .int .i64 v] 26) = W1
        obtain ⟨P, hP⟩ : ∃ P, P = wr.heap.size := ⟨_, rfl⟩
        have b4 : Blk W1 P 26 #[.int .i64 u, .int .i64 v] := by rw [← hW, hP]; exact Blk.new _ _ _
        replace b2 : Blk W1 q 26 #[.int .i64 a1, .int .i64 a2] := by rw [← hW]; exact b2.alloc _
        replace b3 : Blk W1 s 26 #[.int .i64 z1, .int .i64 z2] := by rw [← hW]; exact b3.alloc _
        have g2 : Below w.heap.size w W1 := by rw [← hW]; exact hbl.alloc (by omega) _
        rw [← hP]
        clear hW hP hbl p0 p1 l2 l3 zr
        have yb20 : W1.cell? ⟨q, 0, none⟩ = some (.int .i64 a1) := b2.cell 0 rfl
        have yb21 : W1.cell? ⟨q, 1, none⟩ = some (.int .i64 a2) := b2.cell 1 rfl
        have lb2 := b2.lt
        have yb30 : W1.cell? ⟨s, 0, none⟩ = some (.int .i64 z1) := b3.cell 0 rfl
        have yb31 : W1.cell? ⟨s, 1, none⟩ = some (.int .i64 z2) := b3.cell 1 rfl
        have lb3 := b3.lt
        have yb40 : W1.cell? ⟨P, 0, none⟩ = some (.int .i64 u) := b4.cell 0 rfl
        have yb41 : W1.cell? ⟨P, 1, none⟩ = some (.int .i64 v) := b4.cell 1 rfl
        have lb4 := b4.lt
        go_region_held3 (fun w' => (∀ b o, b < W1.heap.size → w'.cell? ⟨b, o, none⟩ = W1.cell? ⟨b, o, none⟩) ∧ W1.heap.size ≤ w'.heap.size)
          (first | ((try dsimp only); exact ⟨fun b o h => (by (repeat (first | with_reducible exact rfl | (with_reducible refine (cell_drew_at _ _).trans ?_) | (with_reducible refine (cell_set_at _ _ (by first | omega | (simp; done) | (simp; omega))).trans ?_) | (with_reducible refine (cell_alloc_at _ _ (by first | omega | (simp; done) | (simp; omega))).trans ?_) | (with_reducible refine (hcwT1 b o (by first | omega | (simp; done) | (simp; omega))).trans ?_) | (with_reducible refine (hcwT2 b o (by first | omega | (simp; done) | (simp; omega))).trans ?_)))), (by first | omega | (simp; done) | (simp; omega))⟩) | fail)
          (first
            | (have hx9 := hzwT1; go_at_call 99; (with_reducible refine (CT.out _).mono ?_); rintro e wT2 ⟨rfl, hbwT2⟩; obtain ⟨hcwT2, hfwT2⟩ := bcell hbwT2; have hzwT2 := hbwT2.size; (try simp only [World.size_drew] at hcwT2 hfwT2 hzwT2); (try simp only [World.size_alloc] at hcwT2 hfwT2 hzwT2))
            | (go_at_call 99; (with_reducible refine (CT.out _).mono ?_); rintro e wT1 ⟨rfl, hbwT1⟩; obtain ⟨hcwT1, hfwT1⟩ := bcell hbwT1; have hzwT1 := hbwT1.size; (try simp only [World.size_drew] at hcwT1 hfwT1 hzwT1); (try simp only [World.size_alloc] at hcwT1 hfwT1 hzwT1)))
        all_goals
          have g3 : Below W1.heap.size W1 wT2 := by clear g2; repeat' (first | with_reducible assumption | with_reducible exact Below.refl _ _ | (with_reducible refine Below.setCell ?_ ?_ _) | (with_reducible refine Below.alloc ?_ ?_ _) | (with_reducible refine Below.drew ?_) | (with_reducible refine below_dr ?_ _) | (with_reducible refine Below.trans ?_ (Below.mono (by with_reducible assumption) ?_)) | omega | (simp; done) | (simp; omega))
          have zT := g3.size
          have g4 : Below w.heap.size w wT2 := g2.trans (g3.mono g2.size)
          clear hbwT1 hbwT2 hfwT1 hfwT2 hcwT1 hcwT2 mx2 CT ew htb
          by_cases he : a1 = z1 ∧ a2 = z2
          case pos =>
            have BC2 := Lib.hid (fun wx (h : Below W1.heap.size W1 wx) => b2.carry h)
            have BC3 := Lib.hid (fun wx (h : Below W1.heap.size W1 wx) => b3.carry h)
            have EQ := eql_yes he
            have e6 := hD1 he
            clear hD1 hD2 he
            rw [e6] at CD
            clear e6
            go_wp2_with fail
            refine (CD.out _).mono ?_
            rintro e wD ⟨rfl, hbwD⟩
            have gq : Below W1.heap.size W1 wD := g3.trans (hbwD.mono zT)
            have gW := gq
            have g5 : Below w.heap.size w wD := g4.trans (hbwD.mono g4.size)
            clear hbwD EQ
            replace b2 := b2.carry gq
            replace b3 := b3.carry gq
            replace b4 := b4.carry gq
            clear yb20 yb21 lb2 yb30 yb31 lb3 yb40 yb41 lb4
            have yb20 : wD.cell? ⟨q, 0, none⟩ = some (.int .i64 a1) := b2.cell 0 rfl
            have yb21 : wD.cell? ⟨q, 1, none⟩ = some (.int .i64 a2) := b2.cell 1 rfl
            have lb2 := b2.lt
            have yb30 : wD.cell? ⟨s, 0, none⟩ = some (.int .i64 z1) := b3.cell 0 rfl
            have yb31 : wD.cell? ⟨s, 1, none⟩ = some (.int .i64 z2) := b3.cell 1 rfl
            have lb3 := b3.lt
            have yb40 : wD.cell? ⟨P, 0, none⟩ = some (.int .i64 u) := b4.cell 0 rfl
            have yb41 : wD.cell? ⟨P, 1, none⟩ = some (.int .i64 v) := b4.cell 1 rfl
            have lb4 := b4.lt
            by_cases hm : mo < D
            case pos =>
              have hd : decide (mo < D) = true := decide_eq_true hm
              have hd2 : decide (D > mo) = true := decide_eq_true hm
              go_wp2_with fail
              refine (CN.out _).mono ?_
              rintro e wN ⟨rfl, hbwN⟩
              have gN : Below w.heap.size w wN := g5.trans (hbwN.mono g5.size)
              skip
              have gNN : Below W1.heap.size W1 wN := gW.trans (hbwN.mono gW.size)
              cases nb
              case false =>
                have HR := Lib.hid (show stp t (a1, a2) (z1, z2) (bi, mo) k (u, v) = ((k : Int), D) by unfold stp; rw [if_pos ⟨by rw [← HD.out]; exact hm, HNB.out.symm⟩, ← HD.out])
                clear hm
                go_wp2_with fail
                go_roundw
                case rel => exact ⟨k + 1, by omega, by go_num, by rw [← HS.out, HE.out, HR.out], by rw [← HS.out, HE.out, HR.out], BC2.out wN gNN, BC3.out wN gNN, gN⟩
                case measure => simp [intOf]; omega
              case true =>
                have HR := Lib.hid (show stp t (a1, a2) (z1, z2) (bi, mo) k (u, v) = (bi, mo) from stp_near _ _ HNB.out.symm)
                clear hm
                go_wp2_with fail
                go_roundw
                case rel => exact ⟨k + 1, by omega, by go_num, by rw [← HS.out, HE.out, HR.out], by rw [← HS.out, HE.out, HR.out], BC2.out wN gNN, BC3.out wN gNN, gN⟩
                case measure => simp [intOf]; omega
            case neg =>
              have hd : decide (mo < D) = false := decide_eq_false hm
              have hd2 : decide (D > mo) = false := decide_eq_false hm
              have HR := Lib.hid (show stp t (a1, a2) (z1, z2) (bi, mo) k (u, v) = (bi, mo) by unfold stp; rw [if_neg (fun h => hm (by rw [HD.out]; exact h.1))])
              clear hm
              go_wp2_with fail
              go_roundw
              case rel => exact ⟨k + 1, by omega, by go_num, by rw [← HS.out, HE.out, HR.out], by rw [← HS.out, HE.out, HR.out], BC2.out wD gW, BC3.out wD gW, g5⟩
              case measure => simp [intOf]; omega
          case neg =>
            have BC2 := Lib.hid (fun wx (h : Below W1.heap.size W1 wx) => b2.carry h)
            have BC3 := Lib.hid (fun wx (h : Below W1.heap.size W1 wx) => b3.carry h)
            have EQ := eql_no he
            have e6 := hD2 he
            clear hD1 hD2 he
            rw [e6]
            clear e6
            have gW := g3
            by_cases hm : mo < D
            case pos =>
              have hd : decide (mo < D) = true := decide_eq_true hm
              have hd2 : decide (D > mo) = true := decide_eq_true hm
              go_wp2_with fail
              refine (CN.out _).mono ?_
              rintro e wN ⟨rfl, hbwN⟩
              have gN : Below w.heap.size w wN := g4.trans (hbwN.mono g4.size)
              skip
              have gNN : Below W1.heap.size W1 wN := gW.trans (hbwN.mono gW.size)
              cases nb
              case false =>
                have HR := Lib.hid (show stp t (a1, a2) (z1, z2) (bi, mo) k (u, v) = ((k : Int), D) by unfold stp; rw [if_pos ⟨by rw [← HD.out]; exact hm, HNB.out.symm⟩, ← HD.out])
                clear hm
                go_wp2_with fail
                go_roundw
                case rel => exact ⟨k + 1, by omega, by go_num, by rw [← HS.out, HE.out, HR.out], by rw [← HS.out, HE.out, HR.out], BC2.out wN gNN, BC3.out wN gNN, gN⟩
                case measure => simp [intOf]; omega
              case true =>
                have HR := Lib.hid (show stp t (a1, a2) (z1, z2) (bi, mo) k (u, v) = (bi, mo) from stp_near _ _ HNB.out.symm)
                clear hm
                go_wp2_with fail
                go_roundw
                case rel => exact ⟨k + 1, by omega, by go_num, by rw [← HS.out, HE.out, HR.out], by rw [← HS.out, HE.out, HR.out], BC2.out wN gNN, BC3.out wN gNN, gN⟩
                case measure => simp [intOf]; omega
            case neg =>
              have hd : decide (mo < D) = false := decide_eq_false hm
              have hd2 : decide (D > mo) = false := decide_eq_false hm
              have HR := Lib.hid (show stp t (a1, a2) (z1, z2) (bi, mo) k (u, v) = (bi, mo) by unfold stp; rw [if_neg (fun h => hm (by rw [HD.out]; exact h.1))])
              clear hm
              go_wp2_with fail
              go_roundw
              case rel => exact ⟨k + 1, by omega, by go_num, by rw [← HS.out, HE.out, HR.out], by rw [← HS.out, HE.out, HR.out], BC2.out wT2 gW, BC3.out wT2 gW, g4⟩
              case measure => simp [intOf]; omega
      case neg =>
        obtain rfl : k = n := by omega
        go_wp2_with fail
        go_ret
        exact ⟨ret_i64 HBest.out, hbl⟩
end Go.Proofs.Ytdeemhfhmgnbgaa
