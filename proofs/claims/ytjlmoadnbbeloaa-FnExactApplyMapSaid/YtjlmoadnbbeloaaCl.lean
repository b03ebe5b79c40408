/- The walk of the function that multiplies a row and a column: three products, added up from the left. -/
import Derived.Test.YtjlmoadnbbeloaaOc
import Derived.Test.YtjlmoadnbbeloaaWDiv2
import Derived.Test.YtjlmoadnbbeloaaAv
import Derived.Deep.RegionHeld3
import Derived.Deep.DeepCutAuto
import Derived.Outline
namespace Go.Proofs.Ytjlmoadnbbeloaa
open Go.RowKit

set_option maxRecDepth 100000 in
theorem row_idx (N D : Nat → Int) (k : Nat) (hk : k < 3) : ∀ w, (Instr.index 66 (.agg #[.int .i64 (N 0), .int .i64 (D 0), .int .i64 (N 1), .int .i64 (D 1), .int .i64 (N 2), .int .i64 (D 2)]) (.int .i64 (k : Int))).run Try.prog w = .ok (.agg #[.int .i64 (N k), .int .i64 (D k)]) w := by
  match k, hk with
  | 0, _ => exact fun _ => by kernel_rfl
  | 1, _ => exact fun _ => by kernel_rfl
  | 2, _ => exact fun _ => by kernel_rfl
/-- Before round k: the sum of k products, in block b. -/
def ARel (N D X Y : Nat → Int) (W0 : World) (b : Nat) (i : Value) (wr : World) : Prop :=
  ∃ (k : Nat) (s t : Int), k ≤ 3 ∧ i = .int .i64 k ∧ accF N D X Y k = some (s, t) ∧ AtL b [.int .i64 s, .int .i64 t] wr ∧ (∀ j, wr.frozen? ⟨b, j, none⟩ = false) ∧ Below b W0 wr
theorem whole_b (n : Int) (w : World) :
    Calls Try.prog 36 #[.int .i64 n] w fun e w' => e = .returned (.agg #[.int .i64 n, .int .i64 1]) ∧ Below w.heap.size w w' :=
  (whole_any n w).mono (by rintro e w' ⟨rfl, rfl⟩; exact ⟨rfl, by repeat' (first | assumption | exact Below.refl _ _ | (refine Below.setCell ?_ ?_ _) | (refine Below.alloc ?_ ?_ _) | (refine below_dr ?_ _) | exact Nat.le_refl _ | (simp; done) | (simp; omega))⟩)
set_option maxRecDepth 100000 in
set_option maxHeartbeats 6400000 in
theorem over1_any (N D X Y : Nat → Int) (rb : Nat) (w : World) (vr : ∀ i, i < 3 → validB (N i) (D i) = true) (vc : ∀ i, i < 3 → validB (X i) (Y i) = true) (hb : rb < w.heap.size) (c0 : w.cell? ⟨rb, 0, none⟩ = some (.int .i64 (N 0))) (c1 : w.cell? ⟨rb, 1, none⟩ = some (.int .i64 (D 0))) (c2 : w.cell? ⟨rb, 2, none⟩ = some (.int .i64 (N 1))) (c3 : w.cell? ⟨rb, 3, none⟩ = some (.int .i64 (D 1))) (c4 : w.cell? ⟨rb, 4, none⟩ = some (.int .i64 (N 2))) (c5 : w.cell? ⟨rb, 5, none⟩ = some (.int .i64 (D 2))) :
    Calls Try.prog 68 #[.agg #[.int .i64 (X 0), .int .i64 (Y 0), .int .i64 (X 1), .int .i64 (Y 1), .int .i64 (X 2), .int .i64 (Y 2)], .pointer (some ⟨rb, 0, none⟩)] w (FRet (accF N D X Y 3) w) := by
  have HR := Lib.hid vr
  have HC := Lib.hid vc
  clear vr vc
  go_enter Try.func68, Try.ntmps68
  go_wp2_with fail
  refine (whole_b _ _).mono ?_
  rintro e w1 ⟨rfl, hbw1⟩
  have g1 : Below w.heap.size w w1 := (by repeat' (first | with_reducible assumption | with_reducible exact Below.refl _ _ | (with_reducible refine Below.setCell ?_ ?_ _) | (with_reducible refine Below.alloc ?_ ?_ _) | (with_reducible refine Below.drew ?_) | (with_reducible refine below_dr ?_ _) | (with_reducible refine Below.trans ?_ (Below.mono (by with_reducible assumption) ?_)) | omega | (simp; done) | (simp; omega)))
  obtain ⟨hcw1, hfw1⟩ := bcell hbw1
  have hzw1 := hbw1.size
  (try simp only [World.size_alloc] at hcw1 hfw1 hzw1)
  have s1 : w1.cell? ⟨w.heap.size, 0, none⟩ = some (.int .i64 (X 0)) := (hcw1 _ _ (by omega)).trans (by first | assumption | (refine (cell_alloc_at _ _ ?_).trans ?_; omega; assumption) | (simp [go_sem]; done) | (simp [go_sem, *]; done))
  have s2 : w1.cell? ⟨w.heap.size, 1, none⟩ = some (.int .i64 (Y 0)) := (hcw1 _ _ (by omega)).trans (by first | assumption | (refine (cell_alloc_at _ _ ?_).trans ?_; omega; assumption) | (simp [go_sem]; done) | (simp [go_sem, *]; done))
  have s3 : w1.cell? ⟨w.heap.size, 2, none⟩ = some (.int .i64 (X 1)) := (hcw1 _ _ (by omega)).trans (by first | assumption | (refine (cell_alloc_at _ _ ?_).trans ?_; omega; assumption) | (simp [go_sem]; done) | (simp [go_sem, *]; done))
  have s4 : w1.cell? ⟨w.heap.size, 3, none⟩ = some (.int .i64 (Y 1)) := (hcw1 _ _ (by omega)).trans (by first | assumption | (refine (cell_alloc_at _ _ ?_).trans ?_; omega; assumption) | (simp [go_sem]; done) | (simp [go_sem, *]; done))
  have s5 : w1.cell? ⟨w.heap.size, 4, none⟩ = some (.int .i64 (X 2)) := (hcw1 _ _ (by omega)).trans (by first | assumption | (refine (cell_alloc_at _ _ ?_).trans ?_; omega; assumption) | (simp [go_sem]; done) | (simp [go_sem, *]; done))
  have s6 : w1.cell? ⟨w.heap.size, 5, none⟩ = some (.int .i64 (Y 2)) := (hcw1 _ _ (by omega)).trans (by first | assumption | (refine (cell_alloc_at _ _ ?_).trans ?_; omega; assumption) | (simp [go_sem]; done) | (simp [go_sem, *]; done))
  have s7 : w1.cell? ⟨w.heap.size + 1, 0, none⟩ = some (.int .i64 0) := (hcw1 _ _ (by omega)).trans (by first | assumption | (refine (cell_alloc_at _ _ ?_).trans ?_; omega; assumption) | (simp [go_sem]; done) | (simp [go_sem, *]; done))
  have s8 : w1.cell? ⟨w.heap.size + 1, 1, none⟩ = some (.int .i64 0) := (hcw1 _ _ (by omega)).trans (by first | assumption | (refine (cell_alloc_at _ _ ?_).trans ?_; omega; assumption) | (simp [go_sem]; done) | (simp [go_sem, *]; done))
  have szq0 : w.heap.size < w1.heap.size := (by omega)
  have sz : w.heap.size + 1 < w1.heap.size := (by omega)
  have fs10 : w1.frozen? ⟨w.heap.size + 1, 0, none⟩ = false := (hfw1 _ _ (by omega)).trans (by first | assumption | (refine (World.frozen?_alloc_old _ _ _ ?_).trans ?_; (simp; omega); assumption) | (simp [go_sem]; done) | (simp [go_sem, *]; done))
  have fs11 : w1.frozen? ⟨w.heap.size + 1, 1, none⟩ = false := (hfw1 _ _ (by omega)).trans (by first | assumption | (refine (World.frozen?_alloc_old _ _ _ ?_).trans ?_; (simp; omega); assumption) | (simp [go_sem]; done) | (simp [go_sem, *]; done))
  clear hcw1 hfw1 hzw1
  have q0 : w1.cell? ⟨rb, 0, none⟩ = some (.int .i64 (N 0)) := (hbw1.cell (p := ⟨rb, 0, none⟩) (by simp; omega)).trans ((cell_alloc_at _ _ (by simp; omega)).trans ((cell_alloc_at _ _ (by omega)).trans c0))
  have q1 : w1.cell? ⟨rb, 1, none⟩ = some (.int .i64 (D 0)) := (hbw1.cell (p := ⟨rb, 1, none⟩) (by simp; omega)).trans ((cell_alloc_at _ _ (by simp; omega)).trans ((cell_alloc_at _ _ (by omega)).trans c1))
  have q2 : w1.cell? ⟨rb, 2, none⟩ = some (.int .i64 (N 1)) := (hbw1.cell (p := ⟨rb, 2, none⟩) (by simp; omega)).trans ((cell_alloc_at _ _ (by simp; omega)).trans ((cell_alloc_at _ _ (by omega)).trans c2))
  have q3 : w1.cell? ⟨rb, 3, none⟩ = some (.int .i64 (D 1)) := (hbw1.cell (p := ⟨rb, 3, none⟩) (by simp; omega)).trans ((cell_alloc_at _ _ (by simp; omega)).trans ((cell_alloc_at _ _ (by omega)).trans c3))
  have q4 : w1.cell? ⟨rb, 4, none⟩ = some (.int .i64 (N 2)) := (hbw1.cell (p := ⟨rb, 4, none⟩) (by simp; omega)).trans ((cell_alloc_at _ _ (by simp; omega)).trans ((cell_alloc_at _ _ (by omega)).trans c4))
  have q5 : w1.cell? ⟨rb, 5, none⟩ = some (.int .i64 (D 2)) := (hbw1.cell (p := ⟨rb, 5, none⟩) (by simp; omega)).trans ((cell_alloc_at _ _ (by simp; omega)).trans ((cell_alloc_at _ _ (by omega)).trans c5))
  have qz : rb < w1.heap.size := by omega
  clear c0 c1 c2 c3 c4 c5 hbw1
  go_wp2_with fail
  go_loopw [12] (fun i wr => ARel N D X Y w1 w1.heap.size i wr) (fun i _ => 3 - (intOf i).toNat)
  case atStart => exact ⟨0, 0, 1, by omega, rfl, rfl, by repeat' (first | with_reducible assumption | with_reducible exact AtL.new _ _ _ | (with_reducible refine AtL.drew ?_) | (with_reducible apply AtL.store2) | (with_reducible refine AtL.alloc ?_ _) | (with_reducible refine AtL.far ?_ ?_ _ _) | (with_reducible refine AtL.below ?_ (by with_reducible assumption)) | omega | (simp; done) | (simp; omega)), fun j => by simp [go_sem], by repeat' (first | with_reducible assumption | with_reducible exact Below.refl _ _ | (with_reducible refine Below.setCell ?_ ?_ _) | (with_reducible refine Below.alloc ?_ ?_ _) | (with_reducible refine Below.drew ?_) | (with_reducible refine below_dr ?_ _) | (with_reducible refine Below.trans ?_ (Below.mono (by with_reducible assumption) ?_)) | omega | (simp; done) | (simp; omega))⟩
  case round =>
    obtain ⟨k, s, t, hk, rfl, ha, hat, hfz, hbl⟩ := hrel
    have HA := Lib.hid ha
    clear ha
    have hz := hbl.size
    by_cases hlt : k < 3
    · have hi := row_idx N D k hlt
      have HR1 := HR.out k hlt
      have HC1 := HC.out k hlt
      have hcol : w1.cell? ⟨w.heap.size, k * 2, none⟩ = some (.int .i64 (X k)) ∧ w1.cell? ⟨w.heap.size, k * 2 + 1, none⟩ = some (.int .i64 (Y k)) := by
        match k, hlt with
        | 0, _ => exact ⟨s1, s2⟩
        | 1, _ => exact ⟨s3, s4⟩
        | 2, _ => exact ⟨s5, s6⟩
      have x0 := (hbl.cell (p := ⟨w.heap.size, k * 2, none⟩) (by simp only; omega)).trans hcol.1
      have x1 := (hbl.cell (p := ⟨w.heap.size, k * 2 + 1, none⟩) (by simp only; omega)).trans hcol.2
      have a0 := hat.cell 0 rfl
      have a1 := hat.cell 1 rfl
      have al := hat.lt
      go_upto_region 5 with fail
      generalize hW : wr.alloc (.cells #[.int .i64 (N k), .int .i64 (D k)] 26) = W2
      have y0 : W2.cell? ⟨wr.heap.size, 0, none⟩ = some (.int .i64 (N k)) := by rw [← hW]; simp [go_sem]
      have y1 : W2.cell? ⟨wr.heap.size, 1, none⟩ = some (.int .i64 (D k)) := by rw [← hW]; simp [go_sem]
      have hat2 : AtL w1.heap.size [.int .i64 s, .int .i64 t] W2 := by rw [← hW]; exact hat.alloc _
      have hfz2 : ∀ j, W2.frozen? ⟨w1.heap.size, j, none⟩ = false := by intro j; rw [← hW]; exact (World.frozen?_alloc_old _ _ _ (by simp only; omega)).trans (hfz j)
      have hbl2 : Below w1.heap.size w1 W2 := by rw [← hW]; exact hbl.alloc hz _
      have z2 : wr.heap.size < W2.heap.size := by rw [← hW]; simp
      have z3 : w.heap.size < W2.heap.size := by omega
      have x2 : W2.cell? ⟨w.heap.size, k * 2, none⟩ = some (.int .i64 (X k)) := by rw [← hW]; exact (cell_alloc_at _ _ (by omega)).trans x0
      have x3 : W2.cell? ⟨w.heap.size, k * 2 + 1, none⟩ = some (.int .i64 (Y k)) := by rw [← hW]; exact (cell_alloc_at _ _ (by omega)).trans x1
      clear hW a0 a1 x0 x1 hcol
      rcases hm : mulF (N k) (D k) (X k) (Y k) with _ | ⟨p, q⟩
      · have C := Lib.hid (fun w => implMul_none HR1 HC1 hm w)
        have hno : accF N D X Y 3 = none := accF_none (k := k + 1) (plusF_none_r' hm) 3 (by omega)
        have HN := Lib.hid hno
        clear hm hno
        go_cut [9] (fun v9 wx => v9 = .int .i64 2 ∧ Below w1.heap.size w1 wx)
        case first =>
          go_region_held3 (fun w' => (∀ b o, b < W2.heap.size → w'.cell? ⟨b, o, none⟩ = W2.cell? ⟨b, o, none⟩) ∧ W2.heap.size ≤ w'.heap.size)
            (first | ((try dsimp only); exact ⟨fun b o h => (by (repeat (first | with_reducible exact rfl | (with_reducible refine (cell_drew_at _ _).trans ?_) | (with_reducible refine (cell_set_at _ _ (by first | omega | (simp; done) | (simp; omega))).trans ?_) | (with_reducible refine (cell_alloc_at _ _ (by first | omega | (simp; done) | (simp; omega))).trans ?_) | (with_reducible refine (hcwC b o (by first | omega | (simp; done) | (simp; omega))).trans ?_)))), (by first | omega | (simp; done) | (simp; omega))⟩) | fail)
            (first
              | (go_at_call 69; (with_reducible refine (C.out _).mono ?_); rintro e wC ⟨rfl, hbwC⟩; obtain ⟨hcwC, hfwC⟩ := bcell hbwC; have hzwC := hbwC.size; (try simp only [World.size_drew] at hcwC hfwC hzwC); (try simp only [World.size_alloc] at hcwC hfwC hzwC); (try have q_wC : W2.heap.size ≤ wC.heap.size := (by omega))))
          all_goals
            go_wp2_with fail
            go_meet
          all_goals exact ⟨rfl, by repeat' (first | with_reducible assumption | with_reducible exact Below.refl _ _ | (with_reducible refine Below.drew ?_) | (with_reducible refine Below.setCell ?_ ?_ _) | (with_reducible refine Below.alloc ?_ ?_ _) | (with_reducible refine Below.trans ?_ (Below.mono (by with_reducible assumption) ?_)) | omega | (simp; done) | (simp; omega))⟩
        case rest =>
          obtain ⟨rfl, hbx⟩ := hcut
          have e0 : wc.cell? ⟨w.heap.size + 1, 0, none⟩ = some (.int .i64 0) := ((hbx).cell (p := ⟨w.heap.size + 1, 0, none⟩) (by simp only; omega)).trans s7
          have e1 : wc.cell? ⟨w.heap.size + 1, 1, none⟩ = some (.int .i64 0) := ((hbx).cell (p := ⟨w.heap.size + 1, 1, none⟩) (by simp only; omega)).trans s8
          have ef0 : wc.frozen? ⟨w.heap.size + 1, 0, none⟩ = false := ((hbx).frozen (p := ⟨w.heap.size + 1, 0, none⟩) (by simp only; omega)).trans fs10
          have ef1 : wc.frozen? ⟨w.heap.size + 1, 1, none⟩ = false := ((hbx).frozen (p := ⟨w.heap.size + 1, 1, none⟩) (by simp only; omega)).trans fs11
          have ez : w.heap.size + 1 < wc.heap.size := by have := (hbx).size; omega
          go_wp2
          have ra := AtL.of2 e0 e1 ez
          have rc := ra.store2 (a := .int .i64 0) (b := .int .i64 0)
          have r0 := rc.cell 0 rfl
          have r1 := rc.cell 1 rfl
          refine bodyPost_ret (v := .tuple #[.agg #[.int .i64 0, .int .i64 0], .int .i64 2]) (by simp [results, Try.results68, go_sem, r0, r1]) rfl (FRet.none HN.out ?_)
          repeat' (first | with_reducible assumption | with_reducible exact Below.refl _ _ | (with_reducible refine Below.setCell ?_ ?_ _) | (with_reducible refine Below.alloc ?_ ?_ _) | (with_reducible refine Below.drew ?_) | (with_reducible refine below_dr ?_ _) | (with_reducible refine Below.trans ?_ (Below.mono (by with_reducible assumption) ?_)) | omega | (simp; done) | (simp; omega))
      · have C := Lib.hid (fun w => implMul_some HR1 HC1 hm w)
        have vp := mulF_ok _ _ hm
        have vs := accF_ok N D X Y k _ _ HA.out
        have hst : accF N D X Y (k + 1) = addF s t p q := plusF_some HA.out hm
        have HS := Lib.hid hst
        clear hst hm
        go_cut [8, 9] (fun v8 v9 wx => LeftP [.int .i64 p, .int .i64 q] v8 wx ∧ v9 = .int .i64 0 ∧ Below (w1.heap.size + 1) W2 wx)
        case first =>
          go_region_held3 (fun w' => (∀ b o, b < W2.heap.size → w'.cell? ⟨b, o, none⟩ = W2.cell? ⟨b, o, none⟩) ∧ W2.heap.size ≤ w'.heap.size)
            (first | ((try dsimp only); exact ⟨fun b o h => (by (repeat (first | with_reducible exact rfl | (with_reducible refine (cell_drew_at _ _).trans ?_) | (with_reducible refine (cell_set_at _ _ (by first | omega | (simp; done) | (simp; omega))).trans ?_) | (with_reducible refine (cell_alloc_at _ _ (by first | omega | (simp; done) | (simp; omega))).trans ?_) | (with_reducible refine (hcwC b o (by first | omega | (simp; done) | (simp; omega))).trans ?_)))), (by first | omega | (simp; done) | (simp; omega))⟩) | fail)
            (first
              | (go_at_call 69; (with_reducible refine (C.out _).mono ?_); rintro e wC ⟨rfl, hbwC⟩; obtain ⟨hcwC, hfwC⟩ := bcell hbwC; have hzwC := hbwC.size; (try simp only [World.size_drew] at hcwC hfwC hzwC); (try simp only [World.size_alloc] at hcwC hfwC hzwC); (try have q_wC : W2.heap.size ≤ wC.heap.size := (by omega))))
          all_goals
            go_wp2_with fail
            go_meet
          all_goals exact ⟨⟨_, rfl, by repeat' (first | with_reducible assumption | with_reducible exact AtL.new _ _ _ | (with_reducible refine AtL.drew ?_) | (with_reducible apply AtL.store2) | (with_reducible refine AtL.alloc ?_ _) | (with_reducible refine AtL.far ?_ ?_ _ _) | (with_reducible refine AtL.below ?_ (by with_reducible assumption)) | omega | (simp; done) | (simp; omega))⟩, rfl, by repeat' (first | with_reducible assumption | with_reducible exact Below.refl _ _ | (with_reducible refine Below.drew ?_) | (with_reducible refine Below.setCell ?_ ?_ _) | (with_reducible refine Below.alloc ?_ ?_ _) | (with_reducible refine Below.trans ?_ (Below.mono (by with_reducible assumption) ?_)) | omega | (simp; done) | (simp; omega))⟩
        case rest =>
          obtain ⟨⟨g8, rfl, at8⟩, rfl, hbx⟩ := hcut
          have p0 := at8.cell 0 rfl
          have p1 := at8.cell 1 rfl
          have l8 := at8.lt
          have b0 : wc.cell? ⟨w1.heap.size, 0, none⟩ = some (.int .i64 s) := ((hbx).cell (p := ⟨w1.heap.size, 0, none⟩) (by simp only; omega)).trans (hat2.cell 0 rfl)
          have b1 : wc.cell? ⟨w1.heap.size, 1, none⟩ = some (.int .i64 t) := ((hbx).cell (p := ⟨w1.heap.size, 1, none⟩) (by simp only; omega)).trans (hat2.cell 1 rfl)
          have bf0 : wc.frozen? ⟨w1.heap.size, 0, none⟩ = false := ((hbx).frozen (p := ⟨w1.heap.size, 0, none⟩) (by simp only; omega)).trans (hfz2 0)
          have bf1 : wc.frozen? ⟨w1.heap.size, 1, none⟩ = false := ((hbx).frozen (p := ⟨w1.heap.size, 1, none⟩) (by simp only; omega)).trans (hfz2 1)
          have bz : w1.heap.size < wc.heap.size := by have := (hbx).size; omega
          have hbc : Below w1.heap.size w1 wc := hbl2.trans (hbx.mono (by omega))
          rcases hd : addF s t p q with _ | ⟨u, v⟩
          · have CA := Lib.hid (fun w => implAdd_none vs vp hd w)
            have HN := Lib.hid (accF_none (k := k + 1) (HS.out.trans hd) 3 (by omega))
            clear hd
            go_wp2_with fail
            refine (CA.out _).mono ?_
            rintro e wA ⟨rfl, hbA⟩
            have hbB : Below (w1.heap.size + 1) W2 wA := hbx.trans (hbA.mono (by omega))
            have hbD : Below w1.heap.size w1 wA := hbl2.trans (hbB.mono (by omega))
            clear b0 b1 bf0 bf1 bz p0 p1 hbA
            have b0 : wA.cell? ⟨w1.heap.size, 0, none⟩ = some (.int .i64 s) := ((hbB).cell (p := ⟨w1.heap.size, 0, none⟩) (by simp only; omega)).trans (hat2.cell 0 rfl)
            have b1 : wA.cell? ⟨w1.heap.size, 1, none⟩ = some (.int .i64 t) := ((hbB).cell (p := ⟨w1.heap.size, 1, none⟩) (by simp only; omega)).trans (hat2.cell 1 rfl)
            have bf0 : wA.frozen? ⟨w1.heap.size, 0, none⟩ = false := ((hbB).frozen (p := ⟨w1.heap.size, 0, none⟩) (by simp only; omega)).trans (hfz2 0)
            have bf1 : wA.frozen? ⟨w1.heap.size, 1, none⟩ = false := ((hbB).frozen (p := ⟨w1.heap.size, 1, none⟩) (by simp only; omega)).trans (hfz2 1)
            have bz : w1.heap.size < wA.heap.size := by have := (hbB).size; omega
            have e0 : wA.cell? ⟨w.heap.size + 1, 0, none⟩ = some (.int .i64 0) := ((hbD).cell (p := ⟨w.heap.size + 1, 0, none⟩) (by simp only; omega)).trans s7
            have e1 : wA.cell? ⟨w.heap.size + 1, 1, none⟩ = some (.int .i64 0) := ((hbD).cell (p := ⟨w.heap.size + 1, 1, none⟩) (by simp only; omega)).trans s8
            have ef0 : wA.frozen? ⟨w.heap.size + 1, 0, none⟩ = false := ((hbD).frozen (p := ⟨w.heap.size + 1, 0, none⟩) (by simp only; omega)).trans fs10
            have ef1 : wA.frozen? ⟨w.heap.size + 1, 1, none⟩ = false := ((hbD).frozen (p := ⟨w.heap.size + 1, 1, none⟩) (by simp only; omega)).trans fs11
            have ez : w.heap.size + 1 < wA.heap.size := by have := (hbD).size; omega
            go_wp2
            have ra := ((AtL.of2 e0 e1 ez).far (h := w1.heap.size) (by omega) 0 (.int .i64 0)).far (h := w1.heap.size) (by omega) 1 (.int .i64 0)
            have rc := ra.store2 (a := .int .i64 0) (b := .int .i64 0)
            have r0 := rc.cell 0 rfl
            have r1 := rc.cell 1 rfl
            refine bodyPost_ret (v := .tuple #[.agg #[.int .i64 0, .int .i64 0], .int .i64 2]) (by simp [results, Try.results68, go_sem, r0, r1]) rfl (FRet.none HN.out ?_)
            repeat' (first | with_reducible assumption | with_reducible exact Below.refl _ _ | (with_reducible refine Below.setCell ?_ ?_ _) | (with_reducible refine Below.alloc ?_ ?_ _) | (with_reducible refine Below.drew ?_) | (with_reducible refine below_dr ?_ _) | (with_reducible refine Below.trans ?_ (Below.mono (by with_reducible assumption) ?_)) | omega | (simp; done) | (simp; omega))
          · have CA := Lib.hid (fun w => implAdd_some vs vp hd w)
            have HN := Lib.hid (HS.out.trans hd)
            clear hd
            go_wp2_with fail
            refine (CA.out _).mono ?_
            rintro e wA ⟨rfl, hbA⟩
            have hbB : Below (w1.heap.size + 1) W2 wA := hbx.trans (hbA.mono (by omega))
            have hbD : Below w1.heap.size w1 wA := hbl2.trans (hbB.mono (by omega))
            clear b0 b1 bf0 bf1 bz p0 p1 hbA
            have b0 : wA.cell? ⟨w1.heap.size, 0, none⟩ = some (.int .i64 s) := ((hbB).cell (p := ⟨w1.heap.size, 0, none⟩) (by simp only; omega)).trans (hat2.cell 0 rfl)
            have b1 : wA.cell? ⟨w1.heap.size, 1, none⟩ = some (.int .i64 t) := ((hbB).cell (p := ⟨w1.heap.size, 1, none⟩) (by simp only; omega)).trans (hat2.cell 1 rfl)
            have bf0 : wA.frozen? ⟨w1.heap.size, 0, none⟩ = false := ((hbB).frozen (p := ⟨w1.heap.size, 0, none⟩) (by simp only; omega)).trans (hfz2 0)
            have bf1 : wA.frozen? ⟨w1.heap.size, 1, none⟩ = false := ((hbB).frozen (p := ⟨w1.heap.size, 1, none⟩) (by simp only; omega)).trans (hfz2 1)
            have bz : w1.heap.size < wA.heap.size := by have := (hbB).size; omega
            go_wp2_with fail
            go_roundw
            case rel => exact ⟨k + 1, u, v, by omega, by go_num, HN.out, (AtL.of2 b0 b1 bz).store2, fun j => (World.frozen?_setCell _ _ _ _).trans ((World.frozen?_setCell _ _ _ _).trans ((hbB.frozen (p := ⟨w1.heap.size, j, none⟩) (by simp only; omega)).trans (hfz2 j))), by repeat' (first | with_reducible assumption | with_reducible exact Below.refl _ _ | (with_reducible refine Below.setCell ?_ ?_ _) | (with_reducible refine Below.alloc ?_ ?_ _) | (with_reducible refine Below.drew ?_) | (with_reducible refine below_dr ?_ _) | (with_reducible refine Below.trans ?_ (Below.mono (by with_reducible assumption) ?_)) | omega | (simp; done) | (simp; omega))⟩
            case measure => simp [intOf]; omega
    · obtain rfl : k = 3 := by omega
      have a0 := hat.cell 0 rfl
      have a1 := hat.cell 1 rfl
      have e0 : wr.cell? ⟨w.heap.size + 1, 0, none⟩ = some (.int .i64 0) := ((hbl).cell (p := ⟨w.heap.size + 1, 0, none⟩) (by simp only; omega)).trans s7
      have e1 : wr.cell? ⟨w.heap.size + 1, 1, none⟩ = some (.int .i64 0) := ((hbl).cell (p := ⟨w.heap.size + 1, 1, none⟩) (by simp only; omega)).trans s8
      have ef0 : wr.frozen? ⟨w.heap.size + 1, 0, none⟩ = false := ((hbl).frozen (p := ⟨w.heap.size + 1, 0, none⟩) (by simp only; omega)).trans fs10
      have ef1 : wr.frozen? ⟨w.heap.size + 1, 1, none⟩ = false := ((hbl).frozen (p := ⟨w.heap.size + 1, 1, none⟩) (by simp only; omega)).trans fs11
      have ez : w.heap.size + 1 < wr.heap.size := by have := (hbl).size; omega
      go_wp2
      have ra := AtL.of2 e0 e1 ez
      have rc := ra.store2 (a := .int .i64 s) (b := .int .i64 t)
      have r0 := rc.cell 0 rfl
      have r1 := rc.cell 1 rfl
      refine bodyPost_ret (v := .tuple #[.agg #[.int .i64 s, .int .i64 t], .int .i64 0]) (by simp [results, Try.results68, go_sem, r0, r1]) rfl (FRet.some HA.out ?_)
      repeat' (first | with_reducible assumption | with_reducible exact Below.refl _ _ | (with_reducible refine Below.setCell ?_ ?_ _) | (with_reducible refine Below.alloc ?_ ?_ _) | (with_reducible refine Below.drew ?_) | (with_reducible refine below_dr ?_ _) | (with_reducible refine Below.trans ?_ (Below.mono (by with_reducible assumption) ?_)) | omega | (simp; done) | (simp; omega))
end Go.Proofs.Ytjlmoadnbbeloaa
