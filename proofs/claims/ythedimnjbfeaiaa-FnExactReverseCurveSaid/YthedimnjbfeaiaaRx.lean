/- Walks: a curve turned round, the reference's side. -/
import Derived.Test.YthedimnjbfeaiaaKz
import Derived.Test.YthedimnjbfeaiaaKv2
import Derived.Deep.RegionLaw
namespace Go.Proofs.Ythedimnjbfeaiaa
open Go.RowKit
set_option linter.unusedVariables false
theorem own_one {w : World} {base e s : Nat} {cs : Array Value} (hb : base ≤ w.heap.size) (hs : cs.size = s) : (w.alloc (.cells cs e)).ownsRow base e s (.slice (some ⟨w.heap.size, 0, none⟩) 1 1) 1 cs.toList :=
  ⟨by rw [Array.length_toList, hs]; omega, .inr ⟨w.heap.size, 1, cs, rfl, hb, heap_alloc_new w _, by omega, by unfold maxLen; omega, by omega, by rw [List.take_of_length_le]; rw [Array.length_toList, hs]; omega⟩⟩
set_option maxRecDepth 100000 in
set_option maxHeartbeats 12800000 in
theorem specReverse_t (l : List APt) (A : Option Addr) (c : Nat) (cl : Bool) (t : Int) (ff fl : Bool) (fx fy lx ly : Int) (w : World) (hv : vCur l cl t ff fl fx fy lx ly = true) (hl : l.length ≤ 1048576) (r : Rd cPt 2 w w.heap.size A l) :
    Calls Try.prog 20 #[.agg #[.slice A l.length c, .bool cl, .int .i64 t, .bool ff, .bool fl, .int .i64 fx, .int .i64 fy, .int .i64 lx, .int .i64 ly]] w (Ret_Curve cl t fl ff (-lx) (-ly) (-fx) (-fy) 0 l.reverse w) := by
  obtain ⟨i0, hi0, hz0', hz1', hz2'⟩ := info_parts infoPt
  have HI0 := Lib.hid hi0
  have HZ0 := Lib.hid hz0'
  have HZ1 := Lib.hid hz1'
  have HZ2 := Lib.hid hz2'
  clear hi0 hz0' hz1' hz2'
  obtain ⟨h1, _, _, _, h5, h6, _⟩ := vC_parts hv
  have hlen := len_yes h1
  obtain ⟨b1, b2, b3, b4⟩ := okB_bounds (endB_ok h5)
  obtain ⟨d1, d2, d3, d4⟩ := okB_bounds (endB_ok h6)
  have CV := Lib.hid (fun b w at0 r => l06Ok_any l A c cl t ff fl fx fy lx ly b w hl at0 r)
  simp only [hv] at CV
  unfold Ret_Curve
  rw [List.length_reverse]
  clear hv h1 h5 h6 hl
  have LR := Lib.hid (show l.reverse.length = l.length by simp)
  obtain ⟨n, hn⟩ : ∃ n, n = l.length := ⟨_, rfl⟩
  rw [← hn] at CV LR hlen
  rw [← hn]
  have HN := Lib.hid hn
  clear hn
  have e1 : IntKind.i64.wrap (-fx) = -fx := IntWalk.i64_in _ (by omega)
  have e2 : IntKind.i64.wrap (-fy) = -fy := IntWalk.i64_in _ (by omega)
  have e3 : IntKind.i64.wrap (-lx) = -lx := IntWalk.i64_in _ (by omega)
  have e4 : IntKind.i64.wrap (-ly) = -ly := IntWalk.i64_in _ (by omega)
  have e5 : IntKind.i64.wrap ((n : Int) - 1) = (n : Int) - 1 := IntWalk.i64_in _ (by omega)
  clear b1 b2 b3 b4 d1 d2 d3 d4
  go_enter Try.func20, Try.ntmps20
  go_wp2_with fail
  generalize hW : (w.alloc (.cells #[.slice A n c, .bool cl, .int .i64 t, .bool ff, .bool fl, .int .i64 fx, .int .i64 fy, .int .i64 lx, .int .i64 ly] 32)).alloc (.cells #[.slice none 0 0, .bool false, .int .i64 0, .bool false, .bool false, .int .i64 0, .int .i64 0, .int .i64 0, .int .i64 0] 32) = W0
  have at0 : AtL w.heap.size [.slice A n c, .bool cl, .int .i64 t, .bool ff, .bool fl, .int .i64 fx, .int .i64 fy, .int .i64 lx, .int .i64 ly] W0 := by rw [← hW]; exact (AtL.new w _ _).alloc _
  have bk0 : Blk W0 (w.heap.size + 1) 32 #[.slice none 0 0, .bool false, .int .i64 0, .bool false, .bool false, .int .i64 0, .int .i64 0, .int .i64 0, .int .i64 0] := by rw [← hW]; exact Blk.newAt _ _ _ (by simp)
  have r0 : Rd cPt 2 W0 w.heap.size A l := by rw [← hW]; exact (r.alloc (Nat.le_refl _) _).alloc (by simp) _
  have g0 : Below w.heap.size w W0 := by rw [← hW]; repeat' (first | with_reducible assumption | with_reducible exact Below.refl _ _ | (with_reducible refine Below.setCell ?_ ?_ _) | (with_reducible refine Below.alloc ?_ ?_ _) | (with_reducible refine Below.drew ?_) | (with_reducible refine below_dr ?_ _) | (with_reducible refine Below.trans ?_ (Below.mono (by with_reducible assumption) ?_)) | omega | (simp; done) | (simp; omega))
  have z0 : W0.heap.size = w.heap.size + 1 + 1 := by rw [← hW]; simp
  clear hW r
  refine (CV.out _ _ at0 ?_).mono ?_
  · (refine Rd.more (B := w.heap.size) ?_ (by first | omega | ((try simp only [World.size_setCell]); (try simp only [World.size_drew]); (try simp only [World.size_alloc]); omega) | (simp; done) | (simp; omega))); (repeat' (first | with_reducible assumption | (with_reducible refine Rd.drew ?_) | (with_reducible refine Rd.carry ?_ (by with_reducible assumption) ?_) | (with_reducible refine Rd.alloc ?_ ?_ _) | (with_reducible refine Rd.setCell ?_ ?_ _) | omega | (simp; done) | (simp; omega)))
  rintro e w1 ⟨rfl, hb1⟩
  replace at0 := at0.below hb1
  replace bk0 := bk0.carry hb1
  replace r0 := r0.carry hb1 (by omega)
  replace g0 : Below w.heap.size w w1 := by repeat' (first | with_reducible assumption | with_reducible exact Below.refl _ _ | (with_reducible refine Below.setCell ?_ ?_ _) | (with_reducible refine Below.alloc ?_ ?_ _) | (with_reducible refine Below.drew ?_) | (with_reducible refine below_dr ?_ _) | (with_reducible refine Below.trans ?_ (Below.mono (by with_reducible assumption) ?_)) | omega | (simp; done) | (simp; omega))
  have z1 := hb1.size
  have k0 := at0.cell 0 rfl
  have k1 := at0.cell 1 rfl
  have k2 := at0.cell 2 rfl
  have k3 := at0.cell 3 rfl
  have k4 := at0.cell 4 rfl
  have k5 := at0.cell 5 rfl
  have k6 := at0.cell 6 rfl
  have k7 := at0.cell 7 rfl
  have k8 := at0.cell 8 rfl
  have lt0 := at0.lt
  go_wp2_with fail
  clear k0 k1 k2 k3 k4 k5 k6 k7 k8
  clear lt0 e1 e2 e3 e4
  generalize hW : w1.alloc (.cells #[.slice none 0 0, .bool cl, .int .i64 t, .bool fl, .bool ff, .int .i64 (-lx), .int .i64 (-ly), .int .i64 (-fx), .int .i64 (-fy)] 32) = W2
  have at2 : AtL w.heap.size [.slice A n c, .bool cl, .int .i64 t, .bool ff, .bool fl, .int .i64 fx, .int .i64 fy, .int .i64 lx, .int .i64 ly] W2 := by rw [← hW]; exact at0.alloc _
  have bk2 : Blk W2 (w.heap.size + 1) 32 #[.slice none 0 0, .bool false, .int .i64 0, .bool false, .bool false, .int .i64 0, .int .i64 0, .int .i64 0, .int .i64 0] := by rw [← hW]; exact bk0.alloc _
  have bo2 : Blk W2 w1.heap.size 32 #[.slice none 0 0, .bool cl, .int .i64 t, .bool fl, .bool ff, .int .i64 (-lx), .int .i64 (-ly), .int .i64 (-fx), .int .i64 (-fy)] := by rw [← hW]; exact Blk.new _ _ _
  have r2 : Rd cPt 2 W2 w.heap.size A l := by rw [← hW]; exact r0.alloc (by omega) _
  have g2 : Below w.heap.size w W2 := by rw [← hW]; repeat' (first | with_reducible assumption | with_reducible exact Below.refl _ _ | (with_reducible refine Below.setCell ?_ ?_ _) | (with_reducible refine Below.alloc ?_ ?_ _) | (with_reducible refine Below.drew ?_) | (with_reducible refine below_dr ?_ _) | (with_reducible refine Below.trans ?_ (Below.mono (by with_reducible assumption) ?_)) | omega | (simp; done) | (simp; omega))
  have z2 : W2.heap.size = w1.heap.size + 1 := by rw [← hW]; simp
  clear hW at0 bk0 r0 g0 hb1
  go_loopw [5] (fun i wr => ∃ (k j : Nat) (A' : Option Addr) (c' : Nat), k + j = n ∧ i = .int .i64 ((j : Int) - 1) ∧ AtL w.heap.size [.slice A n c, .bool cl, .int .i64 t, .bool ff, .bool fl, .int .i64 fx, .int .i64 fy, .int .i64 lx, .int .i64 ly] wr ∧ Blk wr (w.heap.size + 1) 32 #[.slice none 0 0, .bool false, .int .i64 0, .bool false, .bool false, .int .i64 0, .int .i64 0, .int .i64 0, .int .i64 0] ∧ Blk wr w1.heap.size 32 #[.slice A' k c', .bool cl, .int .i64 t, .bool fl, .bool ff, .int .i64 (-lx), .int .i64 (-ly), .int .i64 (-fx), .int .i64 (-fy)] ∧ wr.ownsRow (w1.heap.size + 1) 30 2 (.slice A' k c') k (cellsF cPt (l.reverse.take k)) ∧ Rd cPt 2 wr w.heap.size A l ∧ Below w.heap.size w wr) (fun i _ => (intOf i + 1).toNat)
  case atStart => exact ⟨0, n, none, 0, by omega, rfl, at2, bk2, bo2, ⟨rfl, .inl ⟨rfl, rfl⟩⟩, r2, g2⟩
  case round =>
    clear at2 bk2 bo2 r2 g2 e5
    obtain ⟨k, j, A', c', hkj, rfl, at1, bk1, bo1, ow1, r1, g1⟩ := hrel
    have HOB := Lib.hid (fun q (hq : (Value.slice A' k c').ownBlock = some q) => own_block ow1 hq)
    have zo := bo1.lt
    have zk := bk1.lt
    have lt0 := at1.lt
    rcases j with _ | m
    case succ =>
      have ei : (((m + 1 : Nat) : Int) - 1) = (m : Int) := by omega
      simp only [ei]
      have em : IntKind.i64.wrap ((m : Int) - 1) = (m : Int) - 1 := IntWalk.i64_in _ (by omega)
      obtain ⟨⟨x0, x1⟩, ha⟩ : ∃ a, l[m]? = some a := ⟨l[m]'(by have := HN.out; omega), List.getElem?_eq_getElem (by have := HN.out; omega)⟩
      have hcs : cellsF cPt (l.reverse.take k) ++ [.int .i64 x0, .int .i64 x1] = cellsF cPt (l.reverse.take (k + 1)) := by
        have hr : l.reverse[k]? = some (x0, x1) := by rw [List.getElem?_reverse (by have := HN.out; omega), show l.length - 1 - k = m by have := HN.out; omega]; exact ha
        rw [List.take_add_one, hr]; exact cellsF_snoc (f := cPt) (l.reverse.take k) (x0, x1)
      have HCS := Lib.hid hcs
      obtain ⟨g, o, rfl, hg, hc⟩ := r1.elem ha
      have p0 : wr.cell? ⟨g, o + m * 2, none⟩ = some (.int .i64 x0) := hc 0 _ rfl
      have p1 : wr.cell? ⟨g, o + m * 2 + 1, none⟩ = some (.int .i64 x1) := hc 1 _ rfl
      have hmi : (m : Int) < (n : Int) := by omega
      have hm0 : ¬ (m : Int) < 0 := by omega
      clear hc ha hcs
      have hrd : Reads (wr.drew.alloc (.cells #[.int .i64 x0, .int .i64 x1] 30)) (wr.heap.size + 1) 2 (some ⟨wr.heap.size, 0, none⟩) 1 [.int .i64 x0, .int .i64 x1] := by
        have := Reads.of_own (own_one (w := wr.drew) (base := 0) (e := 30) (cs := #[.int .i64 x0, .int .i64 x1]) (s := 2) (Nat.zero_le _) rfl)
        simpa using this
      have HRD := Lib.hid hrd
      have H1C := Lib.hid (show ∀ u ∈ ([.int .i64 x0, .int .i64 x1] : List Value), u.oneCell' = true by intro v hv; simp at hv; rcases hv with rfl | rfl <;> rfl)
      have HMX := Lib.hid (show k + 1 ≤ maxLen by unfold maxLen; omega)
      have HBY := Lib.hid (show (k + 1) * 16 ≤ 140737488355328 by omega)
      have HBS := Lib.hid (show w1.heap.size + 1 ≤ (wr.drew.alloc (.cells #[.int .i64 x0, .int .i64 x1] 30)).heap.size by simp; omega)
      have HO := Lib.hid (World.ownsRow.alloc (own_drew ow1) (.cells #[.int .i64 x0, .int .i64 x1] 30))
      clear hrd
      have k0 := at1.cell 0 rfl
      have k1 := at1.cell 1 rfl
      have k2 := at1.cell 2 rfl
      have k3 := at1.cell 3 rfl
      have k4 := at1.cell 4 rfl
      have k5 := at1.cell 5 rfl
      have k6 := at1.cell 6 rfl
      have k7 := at1.cell 7 rfl
      have k8 := at1.cell 8 rfl
      have y0 := bo1.cell 0 rfl
      have u0 := bo1.frozen 0
      go_wp2_with fail
      go_region_law (go_loud (refine step_append_any _ rfl (.tmp 47) (.tmp 53) _ rfl (w1.heap.size + 1) 30 i0 _ 2 16 Try.underlying29 HI0.out HZ0.out HZ1.out HZ2.out rfl (by omega) _ k (cellsF cPt (l.reverse.take k)) rfl HO.out (wr.heap.size + 1) (some ⟨wr.heap.size, 0, none⟩) 1 1 [.int .i64 x0, .int .i64 x1] rfl HRD.out H1C.out HMX.out HBY.out HBS.out ?_); intro v' w9 hown9 hg9' hat9; obtain ⟨g9, cap9, rfl, _, _⟩ := hown9.form (by omega); have hg9 : (wr.drew.alloc (.cells #[.int .i64 x0, .int .i64 x1] 30)).grownBy w9 (Value.slice A' k c').ownBlock := hg9'; clear hg9'; have pw9 := Blk.grown (bo1.drew.alloc _) hg9 (fun q hq => by have := HOB.out q hq; omega); have yy0 : w9.cell? ⟨w1.heap.size, 0, none⟩ = some (.slice A' k c') := pw9.cell 0 rfl; have yy1 := pw9.frozen 0; have HOWN9 := Lib.hid hown9; have HG9 := Lib.hid hg9; clear hown9 hg9 hat9)
      all_goals
        have hg9 := HG9.out
        have hown9 := HOWN9.out
        have hz9 := hg9.size
        (try simp only [World.size_alloc] at hz9)
        (try simp only [World.size_drew] at hz9)
        rw [HCS.out] at hown9
        go_wp2_with fail
        go_roundw
        case rel =>
          refine ⟨k + 1, m, some ⟨g9, 0, none⟩, cap9, by omega, rfl, ?_, ?_, pw9.set_ 0 _, own_far (b2 := w1.heap.size + 1) hown9 (by simp only; omega) (Nat.le_refl _) _, ?_, ?_⟩
          · exact AtL.far (AtL.grown (at1.drew.alloc _) hg9 (fun q hq => by have := HOB.out q hq; omega)) (by omega) _ _
          · exact Blk.far (Blk.grown (bk1.drew.alloc _) hg9 (fun q hq => by have := HOB.out q hq; omega)) (by simp only; omega) _
          · exact Rd.setCell (Rd.grown2 (Rd.alloc (Rd.drew r1) (by simp only [World.size_drew]; omega) _) hg9 (by simp; omega) (fun q hq => by have := HOB.out q hq; omega)) (by simp only; omega) _
          · exact (below_of_grown ((Below.drew g1).alloc (by simp only [World.size_drew]; omega) _) hg9 (by simp; omega) (fun q hq => by have := HOB.out q hq; omega)).setCell (by simp only; omega) _
        case measure => first | (simp [intOf]; done) | (simp [intOf]; omega)
    case zero =>
      have ei : (((0 : Nat) : Int) - 1) = -1 := rfl
      simp only [ei]
      obtain rfl : n = k := by omega
      rw [List.take_of_length_le (by have := LR.out; omega)] at ow1
      have k0 := at1.cell 0 rfl
      have k1 := at1.cell 1 rfl
      have k2 := at1.cell 2 rfl
      have k3 := at1.cell 3 rfl
      have k4 := at1.cell 4 rfl
      have k5 := at1.cell 5 rfl
      have k6 := at1.cell 6 rfl
      have k7 := at1.cell 7 rfl
      have k8 := at1.cell 8 rfl
      have m0 := bo1.cell 0 rfl
      have m1 := bo1.cell 1 rfl
      have m2 := bo1.cell 2 rfl
      have m3 := bo1.cell 3 rfl
      have m4 := bo1.cell 4 rfl
      have m5 := bo1.cell 5 rfl
      have m6 := bo1.cell 6 rfl
      have m7 := bo1.cell 7 rfl
      have m8 := bo1.cell 8 rfl
      have y0 := bk1.cell 0 rfl
      have y1 := bk1.cell 1 rfl
      have y2 := bk1.cell 2 rfl
      have y3 := bk1.cell 3 rfl
      have y4 := bk1.cell 4 rfl
      have y5 := bk1.cell 5 rfl
      have y6 := bk1.cell 6 rfl
      have y7 := bk1.cell 7 rfl
      have y8 := bk1.cell 8 rfl
      have u0 := bk1.frozen 0
      have u1 := bk1.frozen 1
      have u2 := bk1.frozen 2
      have u3 := bk1.frozen 3
      have u4 := bk1.frozen 4
      have u5 := bk1.frozen 5
      have u6 := bk1.frozen 6
      have u7 := bk1.frozen 7
      have u8 := bk1.frozen 8
      go_wp2_with fail
      refine bodyPost_ret (v := .tuple #[.agg #[.slice A' n c', .bool cl, .int .i64 t, .bool fl, .bool ff, .int .i64 (-lx), .int .i64 (-ly), .int .i64 (-fx), .int .i64 (-fy)], .int .i64 0]) (by simp [results, Try.results20, go_sem, *]) rfl ⟨A', c', rfl, ?_, ?_⟩
      · repeat (first | with_reducible exact own_base ow1 (by omega) | (with_reducible refine own_drew ?_) | (with_reducible refine own_far (b2 := w1.heap.size + 1) ?_ (by simp only; omega) (by omega) _) | (with_reducible refine own_stays ?_ (by with_reducible assumption)))
      · repeat' (first | with_reducible assumption | with_reducible exact Below.refl _ _ | (with_reducible refine Below.setCell ?_ ?_ _) | (with_reducible refine Below.alloc ?_ ?_ _) | (with_reducible refine Below.drew ?_) | (with_reducible refine below_dr ?_ _) | (with_reducible refine Below.trans ?_ (Below.mono (by with_reducible assumption) ?_)) | omega | (simp; done) | (simp; omega))
set_option maxRecDepth 100000 in
set_option maxHeartbeats 3200000 in
theorem specReverse_f (l : List APt) (A : Option Addr) (c : Nat) (cl : Bool) (t : Int) (ff fl : Bool) (fx fy lx ly : Int) (w : World) (hv : vCur l cl t ff fl fx fy lx ly = false) (hl : l.length ≤ 1048576) (r : Rd cPt 2 w w.heap.size A l) :
    Calls Try.prog 20 #[.agg #[.slice A l.length c, .bool cl, .int .i64 t, .bool ff, .bool fl, .int .i64 fx, .int .i64 fy, .int .i64 lx, .int .i64 ly]] w (Ret_Curve false 0 false false 0 0 0 0 1 [] w) := by
  have CV := Lib.hid (fun b w at0 r => l06Ok_any l A c cl t ff fl fx fy lx ly b w hl at0 r)
  simp only [hv] at CV
  clear hv hl
  generalize l.length = n at CV ⊢
  go_enter Try.func20, Try.ntmps20
  go_wp2_with fail
  have bk0 : Blk ((w.alloc (.cells #[.slice A n c, .bool cl, .int .i64 t, .bool ff, .bool fl, .int .i64 fx, .int .i64 fy, .int .i64 lx, .int .i64 ly] 32)).alloc (.cells #[.slice none 0 0, .bool false, .int .i64 0, .bool false, .bool false, .int .i64 0, .int .i64 0, .int .i64 0, .int .i64 0] 32)) (w.heap.size + 1) 32 #[.slice none 0 0, .bool false, .int .i64 0, .bool false, .bool false, .int .i64 0, .int .i64 0, .int .i64 0, .int .i64 0] := Blk.newAt _ _ _ (by simp)
  refine (CV.out _ _ ((AtL.new w _ _).alloc _) ?_).mono ?_
  · (refine Rd.more (B := w.heap.size) ?_ (by first | omega | ((try simp only [World.size_setCell]); (try simp only [World.size_drew]); (try simp only [World.size_alloc]); omega) | (simp; done) | (simp; omega))); (repeat' (first | with_reducible assumption | (with_reducible refine Rd.drew ?_) | (with_reducible refine Rd.carry ?_ (by with_reducible assumption) ?_) | (with_reducible refine Rd.alloc ?_ ?_ _) | (with_reducible refine Rd.setCell ?_ ?_ _) | omega | (simp; done) | (simp; omega)))
  rintro e w1 ⟨rfl, hb1⟩
  replace bk0 := bk0.carry hb1
  have y0 := bk0.cell 0 rfl
  have y1 := bk0.cell 1 rfl
  have y2 := bk0.cell 2 rfl
  have y3 := bk0.cell 3 rfl
  have y4 := bk0.cell 4 rfl
  have y5 := bk0.cell 5 rfl
  have y6 := bk0.cell 6 rfl
  have y7 := bk0.cell 7 rfl
  have y8 := bk0.cell 8 rfl
  have u0 := bk0.frozen 0
  have u1 := bk0.frozen 1
  have u2 := bk0.frozen 2
  have u3 := bk0.frozen 3
  have u4 := bk0.frozen 4
  have u5 := bk0.frozen 5
  have u6 := bk0.frozen 6
  have u7 := bk0.frozen 7
  have u8 := bk0.frozen 8
  have z1 := hb1.size
  (try simp only [World.size_alloc] at z1)
  have lt1 := bk0.lt
  go_wp2_with fail
  refine bodyPost_ret (v := .tuple #[.agg #[.slice none 0 0, .bool false, .int .i64 0, .bool false, .bool false, .int .i64 0, .int .i64 0, .int .i64 0, .int .i64 0], .int .i64 1]) (by simp [results, Try.results20, go_sem, *]) rfl ⟨none, 0, rfl, ⟨rfl, .inl ⟨rfl, rfl⟩⟩, ?_⟩
  repeat' (first | with_reducible assumption | with_reducible exact Below.refl _ _ | (with_reducible refine Below.setCell ?_ ?_ _) | (with_reducible refine Below.alloc ?_ ?_ _) | (with_reducible refine Below.drew ?_) | (with_reducible refine below_dr ?_ _) | (with_reducible refine Below.trans ?_ (Below.mono (by with_reducible assumption) ?_)) | omega | (simp; done) | (simp; omega))
end Go.Proofs.Ythedimnjbfeaiaa
