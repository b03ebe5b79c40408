/- Walks: the edges of a ring, on both sides. -/
import Derived.Test.YtdeemhfhmgnbgaaVm
import Derived.Test.YtdeemhfhmgnbgaaVj
import Derived.Deep.RegionHeld3
import Derived.IntWalk
namespace Go.Proofs.Ytdeemhfhmgnbgaa
open Go.RowKit
set_option linter.unusedVariables false
set_option maxRecDepth 100000 in
set_option maxHeartbeats 6400000 in
theorem ringEdges_any (l : List APt) (A : Option Addr) (c : Nat) (w : World) (hl : l.length ≤ 1048576) (r : Rd cPt 2 w w.heap.size A l) :
    Calls Try.prog 91 #[.agg #[.slice A l.length c]] w fun e w' => ∃ (A' : Option Addr) (c' : Nat), e = .returned (.slice A' (edL l).length c') ∧ OwE 114 w' w.heap.size A' (edL l).length c' (edL l) ∧ Below w.heap.size w w' := by
  obtain ⟨L, hL⟩ : ∃ L, L = edL l := ⟨_, rfl⟩
  rw [← hL]
  have HL := Lib.hid hL
  clear hL
  obtain ⟨n, hn⟩ : ∃ n, n = l.length := ⟨_, rfl⟩
  rw [← hn] at hl ⊢
  have HN := Lib.hid hn
  clear hn
  obtain ⟨i0, hi0, hz0', hz1', hz2'⟩ := einfo_parts infoIE
  have HI0 := Lib.hid hi0
  have HZ0 := Lib.hid hz0'
  have HZ1 := Lib.hid hz1'
  have HZ2 := Lib.hid hz2'
  clear hi0 hz0' hz1' hz2'
  go_enter Try.func91, Try.ntmps91
  go_wp2_with fail
  go_loopw [3, 10] (fun s i wr => ∃ (k : Nat) (A' : Option Addr) (m c' : Nat), k ≤ n ∧ i = .int .i64 (k : Int) ∧ s = .slice A' m c' ∧ OwE 114 wr (w.heap.size + 1) A' m c' (edUp l k) ∧ AtL w.heap.size [.slice A n c] wr ∧ Below w.heap.size w wr) (fun _ i _ => n - (intOf i).toNat)
  case atStart => exact ⟨0, none, 0, 0, Nat.zero_le _, rfl, rfl, OwE.nil _ _, by exact AtL.new _ _ _, by repeat' (first | with_reducible assumption | with_reducible exact Below.refl _ _ | (with_reducible refine Below.setCell ?_ ?_ _) | (with_reducible refine Below.alloc ?_ ?_ _) | (with_reducible refine Below.drew ?_) | (with_reducible refine below_dr ?_ _) | (with_reducible refine Below.trans ?_ (Below.mono (by with_reducible assumption) ?_)) | omega | (simp; done) | (simp; omega))⟩
  case round =>
    obtain ⟨k, A', m, c', hk, rfl, rfl, ow, at1, hbl⟩ := hrel
    have zr := hbl.size
    have lw := at1.lt
    have hmk : m ≤ k := by rw [ow.1]; exact edUp_len _ _
    by_cases hlt : k < n
    case pos =>
      obtain ⟨j, hj⟩ : ∃ j, (k + 1) % l.length = j := ⟨_, rfl⟩
      have hjn : j < n := by rw [← hj, ← HN.out]; exact Nat.mod_lt _ (by omega)
      obtain ⟨⟨x0, x1⟩, ha⟩ : ∃ a, l[k]? = some a := ⟨l[k]'(by have := HN.out; omega), List.getElem?_eq_getElem (by have := HN.out; omega)⟩
      obtain ⟨⟨y0, y1⟩, hb⟩ : ∃ a, l[j]? = some a := ⟨l[j]'(by have := HN.out; omega), List.getElem?_eq_getElem (by have := HN.out; omega)⟩
      obtain ⟨g, o, rfl, hg, hc⟩ := (r.below hbl).elem ha
      obtain ⟨g', o', hgo, hg', hc'⟩ := (r.below hbl).elem hb
      obtain ⟨rfl, rfl⟩ : g = g' ∧ o = o' := by injection hgo with h; injection h with h1 h2; exact ⟨h1, h2⟩
      have p0 : wr.cell? ⟨g, o + k * 2, none⟩ = some (.int .i64 x0) := hc 0 _ rfl
      have p1 : wr.cell? ⟨g, o + k * 2 + 1, none⟩ = some (.int .i64 x1) := hc 1 _ rfl
      have q0 : wr.cell? ⟨g, o + j * 2, none⟩ = some (.int .i64 y0) := hc' 0 _ rfl
      have q1 : wr.cell? ⟨g, o + j * 2 + 1, none⟩ = some (.int .i64 y1) := hc' 1 _ rfl
      have HEN := Lib.hid (fun h => edUp_no ha hj hb h)
      have HEY := Lib.hid (fun h => edUp_yes ha hj hb h)
      have e3 : ((k : Int) + 1).tmod (n : Int) = (j : Int) := by rw [← hj, ← HN.out, show ((k : Int) + 1) = ((k + 1 : Nat) : Int) by omega]; exact (Int.ofNat_tmod _ _).symm
      clear hc hc' hgo ha hb hj r
      have hgw : g < wr.heap.size := by omega
      have hki : (k : Int) < (n : Int) := by omega
      have hji : (j : Int) < (n : Int) := by omega
      have hj0 : (0 : Int) ≤ (j : Int) := by omega
      have e1 : ((n : Int) == 0) = false := by simp; omega
      have e2 : ¬ (n : Int) = 0 := by omega
      have e4 : ¬ n = 0 := by omega
      have b1 : IntKind.i64.wrap ((k : Int) + 1) = (k : Int) + 1 := IntWalk.i64_in _ (by omega)
      have b2 : IntKind.i64.wrap (j : Int) = (j : Int) := IntWalk.i64_in _ (by omega)
      have k0 := at1.cell 0 rfl
      go_upto_region 5 with fail
      generalize hW : wr.alloc (.cells #[.int .i64 x0, .int .i64 x1] 26) = WK
      obtain ⟨Q, hQ⟩ : ∃ Q, Q = wr.heap.size := ⟨_, rfl⟩
      have bkK : Blk WK Q 26 #[.int .i64 x0, .int .i64 x1] := by rw [← hW, hQ]; exact Blk.new _ _ _
      have owK : OwE 114 WK (w.heap.size + 1) A' m c' (edUp l k) := by rw [← hW]; exact ow.alloc _
      have atK : AtL w.heap.size [.slice (some ⟨g, o, none⟩) n c] WK := by rw [← hW]; exact at1.alloc _
      have gK : Below w.heap.size w WK := by rw [← hW]; repeat' (first | with_reducible assumption | with_reducible exact Below.refl _ _ | (with_reducible refine Below.setCell ?_ ?_ _) | (with_reducible refine Below.alloc ?_ ?_ _) | (with_reducible refine Below.drew ?_) | (with_reducible refine below_dr ?_ _) | (with_reducible refine Below.trans ?_ (Below.mono (by with_reducible assumption) ?_)) | omega | (simp; done) | (simp; omega))
      have hh : ∀ p : Addr, p.block < wr.heap.size → WK.cell? p = wr.cell? p := by rw [← hW]; intro p hp; exact World.cell?_alloc_lt _ _ _ hp
      replace q0 := (hh _ (by simpa using hgw)).trans q0
      replace q1 := (hh _ (by simpa using hgw)).trans q1
      have zK : wr.heap.size < WK.heap.size := by rw [← hW]; simp
      rw [← hQ]
      clear hW hQ ow at1 hbl p0 p1 lw hh k0
      have k0 := atK.cell 0 rfl
      have lK := atK.lt
      have lQ := bkK.lt
      have hgK : g < WK.heap.size := by omega
      go_cut [6] (fun s wx => ∃ q : Nat, s = .pointer (some ⟨q, 0, none⟩) ∧ Blk wx q 26 #[.int .i64 y0, .int .i64 y1] ∧ Below WK.heap.size WK wx)
      case first =>
        go_region_held3 (fun w' => (∀ b o, b < WK.heap.size → w'.cell? ⟨b, o, none⟩ = WK.cell? ⟨b, o, none⟩) ∧ WK.heap.size ≤ w'.heap.size)
          (first | ((try dsimp only); exact ⟨fun b o h => (by (repeat (first | with_reducible exact rfl | (with_reducible refine (cell_drew_at _ _).trans ?_) | (with_reducible refine (cell_set_at _ _ (by first | omega | (simp; done) | (simp; omega))).trans ?_) | (with_reducible refine (cell_alloc_at _ _ (by first | omega | (simp; done) | (simp; omega))).trans ?_)))), (by first | omega | (simp; done) | (simp; omega))⟩) | fail)
          (first
            | fail)
        all_goals
          go_wp2_with fail
          go_meet
        all_goals exact ⟨_, rfl, by repeat' (first | with_reducible assumption | with_reducible exact Blk.new _ _ _ | ((with_reducible refine Blk.newAt _ _ _ ?_); (first | rfl | (simp; done))) | (with_reducible apply Blk.set2) | (with_reducible apply Blk.set4) | (with_reducible refine Blk.drew ?_) | (with_reducible refine Blk.carry ?_ (by with_reducible assumption)) | (with_reducible refine Blk.alloc ?_ _) | (with_reducible refine Blk.far ?_ ?_ _) | omega | (simp; done) | (simp; omega)), by repeat' (first | with_reducible assumption | with_reducible exact Below.refl _ _ | (with_reducible refine Below.setCell ?_ ?_ _) | (with_reducible refine Below.alloc ?_ ?_ _) | (with_reducible refine Below.drew ?_) | (with_reducible refine below_dr ?_ _) | (with_reducible refine Below.trans ?_ (Below.mono (by with_reducible assumption) ?_)) | omega | (simp; done) | (simp; omega))⟩
      case rest =>
        obtain ⟨q, rfl, bq, bx⟩ := hcut
        have ow2 := owK.stays bx
        have bk2 := bkK.carry bx
        have at2 := atK.below bx
        have g2 : Below w.heap.size w _ := gK.trans (bx.mono gK.size)
        obtain ⟨wc, rfl⟩ : ∃ W : World, W = wc := ⟨_, rfl⟩
        have zx := bx.size
        have lq := bq.lt
        have l2 := bk2.lt
        have z2 := g2.size
        have s0 := bk2.cell 0 rfl
        have s1 := bk2.cell 1 rfl
        have t0 := bq.cell 0 rfl
        have t1 := bq.cell 1 rfl
        clear owK atK gK bkK bx q0 q1 k0 b1 b2 e1 e2 e3 e4
        have en := fun w => neq_pt (a := y0) (b := y1) (c := x0) (d := x1) w
        by_cases hxy : x0 = y0 ∧ x1 = y1
        case pos =>
          rw [show decide (y0 = x0 ∧ y1 = x1) = true from decide_eq_true ⟨hxy.1.symm, hxy.2.symm⟩] at en
          simp only [Bool.not_true] at en
          have H := Lib.hid (HEN.out hxy)
          clear hxy
          go_wp2_with fail
          go_roundw
          case rel => exact ⟨k + 1, A', m, c', by omega, by go_num, rfl, by rw [← H.out]; exact ow2, at2, g2⟩
          case measure => first | (simp [intOf]; done) | (simp [intOf]; omega)
        case neg =>
          rw [show decide (y0 = x0 ∧ y1 = x1) = false from decide_eq_false (fun h => hxy ⟨h.1.symm, h.2.symm⟩)] at en
          simp only [Bool.not_false] at en
          have H := Lib.hid (HEY.out hxy)
          clear hxy
          have HMX := Lib.hid (show m + 1 ≤ maxLen by unfold maxLen; omega)
          have HBY := Lib.hid (show (m + 1) * 32 ≤ 140737488355328 by omega)
          have HRD := Lib.hid (ereads_new wc x0 x1 y0 y1 114)
          have HOW := Lib.hid (show (wc.alloc (.cells #[.int .i64 x0, .int .i64 x1, .int .i64 y0, .int .i64 y1] 114)).ownsRow (w.heap.size + 1) 114 4 (.slice A' m c') m _ from (ow2.alloc _).2)
          have HRB := Lib.hid ow2.block
          have HBS := Lib.hid (show w.heap.size + 1 ≤ (wc.alloc (.cells #[.int .i64 x0, .int .i64 x1, .int .i64 y0, .int .i64 y1] 114)).heap.size by simp; omega)
          go_wp2_with (at_builtin; refine wpList_append_any _ rfl (.tmp 28) (.tmp 32) _ rfl (w.heap.size + 1) 114 i0 _ 4 32 Try.underlying107 HI0.out HZ0.out HZ1.out HZ2.out rfl (by omega) (.slice A' m c') m _ rfl HOW.out _ (some ⟨wc.heap.size, 0, none⟩) 1 1 [.int .i64 x0, .int .i64 x1, .int .i64 y0, .int .i64 y1] rfl HRD.out (one_e x0 x1 y0 y1) HMX.out HBY.out HBS.out ?_; intro v9 w9 hown9 hg9 hat9; obtain ⟨g9, cap9, rfl, _, _⟩ := hown9.form (by omega); have HOWN9 := Lib.hid hown9; have HG9 := Lib.hid hg9; clear hown9 hg9 hat9)
          have g9b : Below w.heap.size w w9 := below_of_grown (show Below w.heap.size w (wc.alloc (.cells #[.int .i64 x0, .int .i64 x1, .int .i64 y0, .int .i64 y1] 114)) by repeat' (first | with_reducible assumption | with_reducible exact Below.refl _ _ | (with_reducible refine Below.setCell ?_ ?_ _) | (with_reducible refine Below.alloc ?_ ?_ _) | (with_reducible refine Below.drew ?_) | (with_reducible refine below_dr ?_ _) | (with_reducible refine Below.trans ?_ (Below.mono (by with_reducible assumption) ?_)) | omega | (simp; done) | (simp; omega))) HG9.out (by simp; omega) (fun q hq => by have := HRB.out q hq; omega)
          have ow9 : OwE 114 w9 (w.heap.size + 1) (some ⟨g9, 0, none⟩) (m + 1) cap9 (edUp l k ++ [(x0, x1, y0, y1)]) := OwE.grown (by have := ow2.1; simp only [List.length_cons, List.length_nil]; omega) HOWN9.out
          have at9 : AtL w.heap.size [.slice (some ⟨g, o, none⟩) n c] w9 := AtL.grown (at2.alloc _) HG9.out (fun q hq => by have := HRB.out q hq; omega)
          go_roundw
          case rel => exact ⟨k + 1, _, _, _, by omega, by go_num, rfl, by rw [H.out] at ow9; exact ow9, at9, g9b⟩
          case measure => first | (simp [intOf]; done) | (simp [intOf]; omega)
    case neg =>
      obtain rfl : k = n := by omega
      have H := Lib.hid (show edUp l k = L by rw [HL.out, HN.out]; rfl)
      rw [H.out] at ow
      obtain rfl := ow.1
      go_wp2_with fail
      go_ret
      exact ⟨A', c', rfl, ow.base_ (by omega), hbl⟩
set_option maxRecDepth 100000 in
set_option maxHeartbeats 6400000 in
theorem l13Edges_any (l : List APt) (A : Option Addr) (c b p : Nat) (w : World) (hb : b < w.heap.size) (c0 : w.cell? ⟨b, p, none⟩ = some (.slice A l.length c)) (hl : l.length ≤ 1048576) (r : Rd cPt 2 w w.heap.size A l) :
    Calls Try.prog 90 #[.pointer (some ⟨b, p, none⟩)] w fun e w' => ∃ (A' : Option Addr) (c' : Nat), e = .returned (.slice A' (edL l).length c') ∧ OwE 129 w' w.heap.size A' (edL l).length c' (edL l) ∧ Below w.heap.size w w' := by
  obtain ⟨L, hL⟩ : ∃ L, L = edL l := ⟨_, rfl⟩
  rw [← hL]
  have HL := Lib.hid hL
  clear hL
  obtain ⟨n, hn⟩ : ∃ n, n = l.length := ⟨_, rfl⟩
  rw [← hn] at hl c0
  have HN := Lib.hid hn
  clear hn
  obtain ⟨i0, hi0, hz0', hz1', hz2'⟩ := einfo_parts infoSE
  have HI0 := Lib.hid hi0
  have HZ0 := Lib.hid hz0'
  have HZ1 := Lib.hid hz1'
  have HZ2 := Lib.hid hz2'
  clear hi0 hz0' hz1' hz2'
  go_enter Try.func90, Try.ntmps90
  go_wp2_with fail
  go_loopw [3, 5] (fun s i wr => ∃ (k : Nat) (A' : Option Addr) (m c' : Nat), k ≤ n ∧ i = .int .i64 (k : Int) ∧ s = .slice A' m c' ∧ OwE 129 wr w.heap.size A' m c' (edUp l k) ∧ Below w.heap.size w wr) (fun _ i _ => n - (intOf i).toNat)
  case atStart => exact ⟨0, _, 0, 0, Nat.zero_le _, rfl, rfl, OwE.new _ _ (Nat.le_refl _), by repeat' (first | with_reducible assumption | with_reducible exact Below.refl _ _ | (with_reducible refine Below.setCell ?_ ?_ _) | (with_reducible refine Below.alloc ?_ ?_ _) | (with_reducible refine Below.drew ?_) | (with_reducible refine below_dr ?_ _) | (with_reducible refine Below.trans ?_ (Below.mono (by with_reducible assumption) ?_)) | omega | (simp; done) | (simp; omega))⟩
  case round =>
    obtain ⟨k, A', m, c', hk, rfl, rfl, ow, hbl⟩ := hrel
    have zr := hbl.size
    have hmk : m ≤ k := by rw [ow.1]; exact edUp_len _ _
    by_cases hlt : k < n
    case pos =>
      obtain ⟨j, hj⟩ : ∃ j, (k + 1) % l.length = j := ⟨_, rfl⟩
      have hjn : j < n := by rw [← hj, ← HN.out]; exact Nat.mod_lt _ (by omega)
      obtain ⟨⟨x0, x1⟩, ha⟩ : ∃ a, l[k]? = some a := ⟨l[k]'(by have := HN.out; omega), List.getElem?_eq_getElem (by have := HN.out; omega)⟩
      obtain ⟨⟨y0, y1⟩, hb⟩ : ∃ a, l[j]? = some a := ⟨l[j]'(by have := HN.out; omega), List.getElem?_eq_getElem (by have := HN.out; omega)⟩
      obtain ⟨g, o, rfl, hg, hc⟩ := (r.below hbl).elem ha
      obtain ⟨g', o', hgo, hg', hc'⟩ := (r.below hbl).elem hb
      obtain ⟨rfl, rfl⟩ : g = g' ∧ o = o' := by injection hgo with h; injection h with h1 h2; exact ⟨h1, h2⟩
      have p0 : wr.cell? ⟨g, o + k * 2, none⟩ = some (.int .i64 x0) := hc 0 _ rfl
      have p1 : wr.cell? ⟨g, o + k * 2 + 1, none⟩ = some (.int .i64 x1) := hc 1 _ rfl
      have q0 : wr.cell? ⟨g, o + j * 2, none⟩ = some (.int .i64 y0) := hc' 0 _ rfl
      have q1 : wr.cell? ⟨g, o + j * 2 + 1, none⟩ = some (.int .i64 y1) := hc' 1 _ rfl
      have HEN := Lib.hid (fun h => edUp_no ha hj hb h)
      have HEY := Lib.hid (fun h => edUp_yes ha hj hb h)
      have e3 : ((k : Int) + 1).tmod (n : Int) = (j : Int) := by rw [← hj, ← HN.out, show ((k : Int) + 1) = ((k + 1 : Nat) : Int) by omega]; exact (Int.ofNat_tmod _ _).symm
      clear hc hc' hgo ha hb hj r
      have hgw : g < wr.heap.size := by omega
      have hki : (k : Int) < (n : Int) := by omega
      have hji : (j : Int) < (n : Int) := by omega
      have hj0 : (0 : Int) ≤ (j : Int) := by omega
      have e1 : ((n : Int) == 0) = false := by simp; omega
      have e2 : ¬ (n : Int) = 0 := by omega
      have e4 : ¬ n = 0 := by omega
      have b1 : IntKind.i64.wrap ((k : Int) + 1) = (k : Int) + 1 := IntWalk.i64_in _ (by omega)
      have b2 : IntKind.i64.wrap (j : Int) = (j : Int) := IntWalk.i64_in _ (by omega)
      have k0 : wr.cell? ⟨b, p, none⟩ = some (.slice (some ⟨g, o, none⟩) n c) := (hbl.cell (p := ⟨b, p, none⟩) hb).trans c0
      have hbr : b < wr.heap.size := by omega
      clear c0
      go_upto_region 6 with fail
      go_cut [6] (fun s wx => ∃ q : Nat, s = .pointer (some ⟨q, 0, none⟩) ∧ Blk wx q 129 #[.int .i64 x0, .int .i64 x1, .int .i64 y0, .int .i64 y1] ∧ Below wr.heap.size wr wx)
      case first =>
        go_region_held3 (fun w' => (∀ b o, b < wr.heap.size → w'.cell? ⟨b, o, none⟩ = wr.cell? ⟨b, o, none⟩) ∧ wr.heap.size ≤ w'.heap.size)
          (first | ((try dsimp only); exact ⟨fun b o h => (by (repeat (first | with_reducible exact rfl | (with_reducible refine (cell_drew_at _ _).trans ?_) | (with_reducible refine (cell_set_at _ _ (by first | omega | (simp; done) | (simp; omega))).trans ?_) | (with_reducible refine (cell_alloc_at _ _ (by first | omega | (simp; done) | (simp; omega))).trans ?_)))), (by first | omega | (simp; done) | (simp; omega))⟩) | fail)
          (first
            | fail)
        all_goals
          go_wp2_with fail
          go_meet
        all_goals exact ⟨_, rfl, by repeat' (first | with_reducible assumption | with_reducible exact Blk.new _ _ _ | ((with_reducible refine Blk.newAt _ _ _ ?_); (first | rfl | (simp; done))) | (with_reducible apply Blk.set2) | (with_reducible apply Blk.set4) | (with_reducible refine Blk.drew ?_) | (with_reducible refine Blk.carry ?_ (by with_reducible assumption)) | (with_reducible refine Blk.alloc ?_ _) | (with_reducible refine Blk.far ?_ ?_ _) | omega | (simp; done) | (simp; omega)), by repeat' (first | with_reducible assumption | with_reducible exact Below.refl _ _ | (with_reducible refine Below.setCell ?_ ?_ _) | (with_reducible refine Below.alloc ?_ ?_ _) | (with_reducible refine Below.drew ?_) | (with_reducible refine below_dr ?_ _) | (with_reducible refine Below.trans ?_ (Below.mono (by with_reducible assumption) ?_)) | omega | (simp; done) | (simp; omega))⟩
      case rest =>
        obtain ⟨q, rfl, bq, bx⟩ := hcut
        have ow2 := ow.stays bx
        have g2 : Below w.heap.size w _ := hbl.trans (bx.mono zr)
        obtain ⟨wc, rfl⟩ : ∃ W : World, W = wc := ⟨_, rfl⟩
        have lq := bq.lt
        have z2 := g2.size
        have s0 := bq.cell 0 rfl
        have s1 := bq.cell 1 rfl
        have s2 := bq.cell 2 rfl
        have s3 := bq.cell 3 rfl
        clear ow hbl bx q0 q1 p0 p1 k0 b1 b2 e1 e2 e3 e4
        have en := fun w => neq_pt (a := x0) (b := x1) (c := y0) (d := y1) w
        by_cases hxy : x0 = y0 ∧ x1 = y1
        case pos =>
          rw [decide_eq_true hxy] at en
          simp only [Bool.not_true] at en
          have H := Lib.hid (HEN.out hxy)
          clear hxy
          go_wp2_with fail
          go_roundw
          case rel => exact ⟨k + 1, A', m, c', by omega, by go_num, rfl, by rw [← H.out]; exact ow2, g2⟩
          case measure => first | (simp [intOf]; done) | (simp [intOf]; omega)
        case neg =>
          rw [decide_eq_false hxy] at en
          simp only [Bool.not_false] at en
          have H := Lib.hid (HEY.out hxy)
          clear hxy
          have HMX := Lib.hid (show m + 1 ≤ maxLen by unfold maxLen; omega)
          have HBY := Lib.hid (show (m + 1) * 32 ≤ 140737488355328 by omega)
          have HRD := Lib.hid (ereads_new wc x0 x1 y0 y1 129)
          have HOW := Lib.hid (show (wc.alloc (.cells #[.int .i64 x0, .int .i64 x1, .int .i64 y0, .int .i64 y1] 129)).ownsRow (w.heap.size) 129 4 (.slice A' m c') m _ from (ow2.alloc _).2)
          have HRB := Lib.hid ow2.block
          have HBS := Lib.hid (show w.heap.size ≤ (wc.alloc (.cells #[.int .i64 x0, .int .i64 x1, .int .i64 y0, .int .i64 y1] 129)).heap.size by simp; omega)
          go_wp2_with (at_builtin; refine wpList_append_any _ rfl (.tmp 41) (.tmp 43) _ rfl (w.heap.size) 129 i0 _ 4 32 Try.underlying104 HI0.out HZ0.out HZ1.out HZ2.out rfl (by omega) (.slice A' m c') m _ rfl HOW.out _ (some ⟨wc.heap.size, 0, none⟩) 1 1 [.int .i64 x0, .int .i64 x1, .int .i64 y0, .int .i64 y1] rfl HRD.out (one_e x0 x1 y0 y1) HMX.out HBY.out HBS.out ?_; intro v9 w9 hown9 hg9 hat9; obtain ⟨g9, cap9, rfl, _, _⟩ := hown9.form (by omega); have HOWN9 := Lib.hid hown9; have HG9 := Lib.hid hg9; clear hown9 hg9 hat9)
          have g9b : Below w.heap.size w w9 := below_of_grown (show Below w.heap.size w (wc.alloc (.cells #[.int .i64 x0, .int .i64 x1, .int .i64 y0, .int .i64 y1] 129)) by repeat' (first | with_reducible assumption | with_reducible exact Below.refl _ _ | (with_reducible refine Below.setCell ?_ ?_ _) | (with_reducible refine Below.alloc ?_ ?_ _) | (with_reducible refine Below.drew ?_) | (with_reducible refine below_dr ?_ _) | (with_reducible refine Below.trans ?_ (Below.mono (by with_reducible assumption) ?_)) | omega | (simp; done) | (simp; omega))) HG9.out (by simp; omega) (fun q hq => by have := HRB.out q hq; omega)
          have ow9 : OwE 129 w9 (w.heap.size) (some ⟨g9, 0, none⟩) (m + 1) cap9 (edUp l k ++ [(x0, x1, y0, y1)]) := OwE.grown (by have := ow2.1; simp only [List.length_cons, List.length_nil]; omega) HOWN9.out
          go_roundw
          case rel => exact ⟨k + 1, _, _, _, by omega, by go_num, rfl, by rw [H.out] at ow9; exact ow9, g9b⟩
          case measure => first | (simp [intOf]; done) | (simp [intOf]; omega)
    case neg =>
      obtain rfl : k = n := by omega
      have H := Lib.hid (show edUp l k = L by rw [HL.out, HN.out]; rfl)
      rw [H.out] at ow
      obtain rfl := ow.1
      go_wp2_with fail
      go_ret
      exact ⟨A', c', rfl, ow, hbl⟩
end Go.Proofs.Ytdeemhfhmgnbgaa
