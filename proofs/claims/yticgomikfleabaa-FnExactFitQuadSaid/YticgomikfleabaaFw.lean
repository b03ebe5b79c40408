/- Walks: a curve near a path, the program's side; FitQuad; the law: it returns true. -/
import Derived.Test.YticgomikfleabaaFu
namespace Go.Proofs.Yticgomikfleabaa
open Go.RowKit Go.ChangeShapes Go.WideShapes Go.Deep Go.Joins
set_option linter.unusedVariables false
theorem lm_fqL {a1 a2 b1 b2 z1 z2 y1 y2 : Int} (h : fqL a1 a2 b1 b2 z1 z2 y1 y2 = true) : lmC a1 a2 b1 b2 z1 z2 y1 y2 = 0 ∧ (lmP a1 a2 b1 b2 z1 z2 y1 y2).1 = fqX a1 a2 b1 b2 z1 z2 y1 y2 ∧ (lmP a1 a2 b1 b2 z1 z2 y1 y2).2 = fqY a1 a2 b1 b2 z1 z2 y1 y2 := by
  have h1 : lmC a1 a2 b1 b2 z1 z2 y1 y2 = 0 := by unfold fqL at h; simpa using h
  unfold lmP; rw [if_pos h1]; exact ⟨h1, rfl, rfl⟩
theorem lm_fqN {a1 a2 b1 b2 z1 z2 y1 y2 : Int} (h : fqL a1 a2 b1 b2 z1 z2 y1 y2 = false) : (lmC a1 a2 b1 b2 z1 z2 y1 y2 != 0) = true := by
  unfold fqL at h; simpa using h
set_option maxHeartbeats 3200000 in
theorem areNear_any (a l : List APt) (A C : Option Addr) (ca c : Nat) (r : Int) (w : World) (ha : a.length ≤ 1048576) (a1 : 1 ≤ a.length) (ra : Rd cPt 2 w w.heap.size C a) (hl : l.length ≤ 1048576) (l1 : 1 ≤ l.length) (rd : Rd cPt 2 w w.heap.size A l) :
    Calls Try.prog 52 #[.slice C a.length ca, .slice A l.length c, .int .i64 r] w fun e w' => e = .returned (.bool (alV a l r && alV l a r)) ∧ Below w.heap.size w w' := by
  have N1 := Lib.hid (fun w => nearTo_any A l.length c r w)
  have N2 := Lib.hid (fun w => nearTo_any C a.length ca r w)
  have A1 := Lib.hid (fun Bs Bd w ra rd s0 d0 hs hd => areAll_any a l A C ca c Bs Bd r w ha ra hl l1 rd s0 d0 hs hd)
  have A2 := Lib.hid (fun Bs Bd w ra rd s0 d0 hs hd => areAll_any l a C A c ca Bs Bd r w hl ra ha a1 rd s0 d0 hs hd)
  have RA := Lib.hid ra
  have RD := Lib.hid rd
  clear ra rd ha a1 hl l1
  generalize alV l a r = v2 at *
  generalize a.length = n at *
  generalize l.length = m at *
  rcases hv : alV a l r with _ | _
  · rw [hv] at A1
    clear hv
    go_enter Try.func52, Try.ntmps52
    go_wp2_with fail
    refine (N1.out _).mono ?_
    rintro e w1 ⟨rfl, b1, s0, d0, y1⟩
    have z1 := b1.size
    go_wp2_with fail
    refine (A1.out _ _ _ ((RA.out.below b1).more (by omega)) ((RD.out.below b1).more (by omega)) s0 d0 (by omega) y1).mono ?_
    rintro e w2 ⟨rfl, b2⟩
    go_wp2_with fail
    go_ret
    exact ⟨by simp, by repeat' (first | with_reducible assumption | with_reducible exact Below.refl _ _ | (with_reducible refine Below.setCell ?_ ?_ _) | (with_reducible refine Below.alloc ?_ ?_ _) | (with_reducible refine Below.drew ?_) | (with_reducible refine below_dr ?_ _) | (with_reducible refine Below.trans ?_ (Below.mono (by with_reducible assumption) ?_)) | omega | (simp; done) | (simp; omega))⟩
  · rw [hv] at A1
    clear hv
    go_enter Try.func52, Try.ntmps52
    go_wp2_with fail
    refine (N1.out _).mono ?_
    rintro e w1 ⟨rfl, b1, s0, d0, y1⟩
    have z1 := b1.size
    go_wp2_with fail
    refine (A1.out _ _ _ ((RA.out.below b1).more (by omega)) ((RD.out.below b1).more (by omega)) s0 d0 (by omega) y1).mono ?_
    rintro e w2 ⟨rfl, b2⟩
    have z2 := b2.size
    have g2 : Below w.heap.size w w2 := by repeat' (first | with_reducible assumption | with_reducible exact Below.refl _ _ | (with_reducible refine Below.setCell ?_ ?_ _) | (with_reducible refine Below.alloc ?_ ?_ _) | (with_reducible refine Below.drew ?_) | (with_reducible refine below_dr ?_ _) | (with_reducible refine Below.trans ?_ (Below.mono (by with_reducible assumption) ?_)) | omega | (simp; done) | (simp; omega))
    go_wp2_with fail
    refine (N2.out _).mono ?_
    rintro e w3 ⟨rfl, b3, s3, d3, y3⟩
    have z3 := b3.size
    have g3 : Below w.heap.size w w3 := by repeat' (first | with_reducible assumption | with_reducible exact Below.refl _ _ | (with_reducible refine Below.setCell ?_ ?_ _) | (with_reducible refine Below.alloc ?_ ?_ _) | (with_reducible refine Below.drew ?_) | (with_reducible refine below_dr ?_ _) | (with_reducible refine Below.trans ?_ (Below.mono (by with_reducible assumption) ?_)) | omega | (simp; done) | (simp; omega))
    go_wp2_with fail
    refine (A2.out _ _ _ ((RD.out.below g3).more (by omega)) ((RA.out.below g3).more (by omega)) s3 d3 (by omega) y3).mono ?_
    rintro e w4 ⟨rfl, b4⟩
    go_wp2_with fail
    go_ret
    exact ⟨by simp, by repeat' (first | with_reducible assumption | with_reducible exact Below.refl _ _ | (with_reducible refine Below.setCell ?_ ?_ _) | (with_reducible refine Below.alloc ?_ ?_ _) | (with_reducible refine Below.drew ?_) | (with_reducible refine below_dr ?_ _) | (with_reducible refine Below.trans ?_ (Below.mono (by with_reducible assumption) ?_)) | omega | (simp; done) | (simp; omega))⟩
set_option maxRecDepth 100000 in
set_option maxHeartbeats 25600000 in
theorem implFit_core (a1 a2 b1 b2 z1 z2 y1 y2 t : Int) (l : List APt) (A : Option Addr) (c : Nat) (w : World) (i_t : -9223372036854775808 ≤ t ∧ t ≤ 9223372036854775807) (hl : l.length ≤ 400) (h3 : 3 ≤ l.length) (rd : Rd cPt 2 w w.heap.size A l) (hv : vRg l = true)
    (ha : l[0]? = some (a1, a2)) (hb : l[1]? = some (b1, b2)) (hz : l[l.length - 1]? = some (z1, z2)) (hy : l[l.length - 2]? = some (y1, y2)) (t1 : 1 ≤ t) (t2 : t ≤ 262144) :
    Calls Try.prog 19 #[.slice A l.length c, .int .i64 t] w fun e w' => e = RT6 (pk (fqG a1 a2 b1 b2 z1 z2 y1 y2 l t) a1) (pk (fqG a1 a2 b1 b2 z1 z2 y1 y2 l t) a2) (pk (fqG a1 a2 b1 b2 z1 z2 y1 y2 l t) (fqX a1 a2 b1 b2 z1 z2 y1 y2)) (pk (fqG a1 a2 b1 b2 z1 z2 y1 y2 l t) (fqY a1 a2 b1 b2 z1 z2 y1 y2)) (pk (fqG a1 a2 b1 b2 z1 z2 y1 y2 l t) z1) (pk (fqG a1 a2 b1 b2 z1 z2 y1 y2 l t) z2) (.int .i64 (bif fqG a1 a2 b1 b2 z1 z2 y1 y2 l t then 0 else 3)) ∧ Below w.heap.size w w' := by
  have va := pts_all (vRg_parts hv).2.2 ha
  have vz := pts_all (vRg_parts hv).2.2 hz
  have CL := Lib.hid (fun w => implLinesMeet_any a1 a2 b1 b2 z1 z2 y1 y2 w)
  unfold LmRet at CL
  have IP := Lib.hid (fun w rd => isPath_any l A c w (by omega) rd)
  rw [hv] at IP
  have hG : fqG a1 a2 b1 b2 z1 z2 y1 y2 l t = (fqL a1 a2 b1 b2 z1 z2 y1 y2 && fqB a1 a2 b1 b2 z1 z2 y1 y2 && alV l (fqF a1 a2 b1 b2 z1 z2 y1 y2) t && alV (fqF a1 a2 b1 b2 z1 z2 y1 y2) l t) := rfl
  have HGG := Lib.hid hG
  clear hG hv
  rcases hL : fqL a1 a2 b1 b2 z1 z2 y1 y2 with _ | _
  · have HG : fqG a1 a2 b1 b2 z1 z2 y1 y2 l t = false := by rw [HGG.out, hL]; simp
    have hne := lm_fqN hL
    have HG := Lib.hid HG
    clear HGG hL va vz
    generalize (lmP a1 a2 b1 b2 z1 z2 y1 y2).1 = X at *
    generalize (lmP a1 a2 b1 b2 z1 z2 y1 y2).2 = Y at *
    generalize lmC a1 a2 b1 b2 z1 z2 y1 y2 = lc at *
    obtain ⟨n, hn⟩ : ∃ n, n = l.length := ⟨_, rfl⟩
    obtain ⟨jz, hjz⟩ : ∃ jz, jz = n - 1 := ⟨_, rfl⟩
    obtain ⟨jy, hjy⟩ : ∃ jy, jy = n - 2 := ⟨_, rfl⟩
    rw [← hn] at hl h3 ⊢
    (try rw [← hn] at IP)
    (try rw [← hn] at V2)
    rw [← hn, ← hjz] at hz
    rw [← hn, ← hjy] at hy
    obtain ⟨g, o, rfl, hg, hca⟩ := rd.elem ha
    obtain ⟨g', o', hgo, hg', hcb⟩ := rd.elem hb
    obtain ⟨rfl, rfl⟩ : g = g' ∧ o = o' := by injection hgo with h; injection h with h1 h2; exact ⟨h1, h2⟩
    obtain ⟨g', o', hgo, hg', hcz⟩ := rd.elem hz
    obtain ⟨rfl, rfl⟩ : g = g' ∧ o = o' := by injection hgo with h; injection h with h1 h2; exact ⟨h1, h2⟩
    obtain ⟨g', o', hgo, hg', hcy⟩ := rd.elem hy
    obtain ⟨rfl, rfl⟩ : g = g' ∧ o = o' := by injection hgo with h; injection h with h1 h2; exact ⟨h1, h2⟩
    have pa0 : w.cell? ⟨g, o, none⟩ = some (.int .i64 a1) := by have := hca 0 _ rfl; simpa [Nat.add_assoc] using this
    have pa1 : w.cell? ⟨g, o + 1, none⟩ = some (.int .i64 a2) := by have := hca 1 _ rfl; simpa [Nat.add_assoc] using this
    have pb0 : w.cell? ⟨g, o + 2, none⟩ = some (.int .i64 b1) := by have := hcb 0 _ rfl; simpa [Nat.add_assoc] using this
    have pb1 : w.cell? ⟨g, o + 3, none⟩ = some (.int .i64 b2) := by have := hcb 1 _ rfl; simpa [Nat.add_assoc] using this
    have pz0 : w.cell? ⟨g, o + jz * 2, none⟩ = some (.int .i64 z1) := by have := hcz 0 _ rfl; simpa [Nat.add_assoc] using this
    have pz1 : w.cell? ⟨g, o + jz * 2 + 1, none⟩ = some (.int .i64 z2) := by have := hcz 1 _ rfl; simpa [Nat.add_assoc] using this
    have py0 : w.cell? ⟨g, o + jy * 2, none⟩ = some (.int .i64 y1) := by have := hcy 0 _ rfl; simpa [Nat.add_assoc] using this
    have py1 : w.cell? ⟨g, o + jy * 2 + 1, none⟩ = some (.int .i64 y2) := by have := hcy 1 _ rfl; simpa [Nat.add_assoc] using this
    have RD := Lib.hid rd
    clear hca hcb hcz hcy rd hgo ha hb hz hy
    have m1 : (n : Int) - 1 = (jz : Int) := by omega
    have m2 : (n : Int) - 2 = (jy : Int) := by omega
    have w1' : IntKind.i64.wrap (jz : Int) = (jz : Int) := IntWalk.i64_in _ (by omega)
    have w2' : IntKind.i64.wrap (jy : Int) = (jy : Int) := IntWalk.i64_in _ (by omega)
    have x0 : (0 : Int) < (n : Int) := by omega
    have x1 : (1 : Int) < (n : Int) := by omega
    have x2 : (jz : Int) < (n : Int) := by omega
    have x3 : (jy : Int) < (n : Int) := by omega
    have x4 : 0 < n := by omega
    have x5 : 1 < n := by omega
    have x6 : jz < n := by omega
    have x7 : jy < n := by omega
    have HN := Lib.hid hn
    have HZ := Lib.hid hjz
    have HY := Lib.hid hjy
    clear hn hjz hjy
    have m3 : (jz : Int) - 1 = (jy : Int) := by omega
    have h3' : ¬ (n : Int) < 3 := by omega
    have h3'' : (3 : Int) ≤ (n : Int) := by omega
    go_enter Try.func19, Try.ntmps19
    go_wp2_with fail
    generalize hW : w.alloc (.cells #[.int .i64 0, .int .i64 0, .int .i64 0, .int .i64 0, .int .i64 0, .int .i64 0] 31) = WA
    have bkA : Blk WA w.heap.size 31 #[.int .i64 0, .int .i64 0, .int .i64 0, .int .i64 0, .int .i64 0, .int .i64 0] := by rw [← hW]; exact Blk.new _ _ _
    have gA : Below w.heap.size w WA := by rw [← hW]; repeat' (first | with_reducible assumption | with_reducible exact Below.refl _ _ | (with_reducible refine Below.setCell ?_ ?_ _) | (with_reducible refine Below.alloc ?_ ?_ _) | (with_reducible refine Below.drew ?_) | (with_reducible refine below_dr ?_ _) | (with_reducible refine Below.trans ?_ (Below.mono (by with_reducible assumption) ?_)) | omega | (simp; done) | (simp; omega))
    clear hW
    refine (IP.out _ ((RD.out.below gA).more gA.size)).mono ?_
    rintro e W0 ⟨rfl, b0⟩
    have zA := b0.size
    have bk := bkA.carry b0
    have g0 : Below w.heap.size w W0 := gA.trans (b0.mono gA.size)
    have zW := g0.size
    go_wp2_with fail
    refine (isTol_yes _ _ t1 t2).mono ?_
    rintro e W0' ⟨rfl, rfl⟩
    have qa0 : W0.cell? ⟨g, o, none⟩ = some (.int .i64 a1) := (g0.cell (p := ⟨g, o, none⟩) hg).trans pa0
    have qa1 : W0.cell? ⟨g, o + 1, none⟩ = some (.int .i64 a2) := (g0.cell (p := ⟨g, o + 1, none⟩) hg).trans pa1
    have qb0 : W0.cell? ⟨g, o + 2, none⟩ = some (.int .i64 b1) := (g0.cell (p := ⟨g, o + 2, none⟩) hg).trans pb0
    have qb1 : W0.cell? ⟨g, o + 3, none⟩ = some (.int .i64 b2) := (g0.cell (p := ⟨g, o + 3, none⟩) hg).trans pb1
    have qz0 : W0.cell? ⟨g, o + jz * 2, none⟩ = some (.int .i64 z1) := (g0.cell (p := ⟨g, o + jz * 2, none⟩) hg).trans pz0
    have qz1 : W0.cell? ⟨g, o + jz * 2 + 1, none⟩ = some (.int .i64 z2) := (g0.cell (p := ⟨g, o + jz * 2 + 1, none⟩) hg).trans pz1
    have qy0 : W0.cell? ⟨g, o + jy * 2, none⟩ = some (.int .i64 y1) := (g0.cell (p := ⟨g, o + jy * 2, none⟩) hg).trans py0
    have qy1 : W0.cell? ⟨g, o + jy * 2 + 1, none⟩ = some (.int .i64 y2) := (g0.cell (p := ⟨g, o + jy * 2 + 1, none⟩) hg).trans py1
    have bz : w.heap.size < W0.heap.size := bk.lt
    have hgW : g < W0.heap.size := by omega
    clear IP bkA gA b0 pa0 pa1 pb0 pb1 pz0 pz1 py0 py1
    go_upto_region 6 with fail
    go_cut [7, 8] (fun s7 s8 wx => (∃ (g1 : Nat), s7 = .pointer (some ⟨g1, 0, none⟩) ∧ w.heap.size < g1 ∧ AtL g1 [.int .i64 X, .int .i64 Y] wx) ∧ s8 = .int .i64 lc ∧ Blk wx w.heap.size 31 #[.int .i64 0, .int .i64 0, .int .i64 0, .int .i64 0, .int .i64 0, .int .i64 0] ∧ Below W0.heap.size W0 wx)
    case first =>
      go_region_held3 (fun w' => (∀ b o, b < W0.heap.size → w'.cell? ⟨b, o, none⟩ = W0.cell? ⟨b, o, none⟩) ∧ (∀ b o, b < W0.heap.size → w'.frozen? ⟨b, o, none⟩ = W0.frozen? ⟨b, o, none⟩) ∧ W0.heap.size ≤ w'.heap.size)
        (first | ((try dsimp only); exact ⟨fun b o h => (by (repeat (first | with_reducible exact rfl | (with_reducible refine (cell_drew_at _ _).trans ?_) | (with_reducible refine (cell_set_at _ _ (by first | omega | (simp; done) | (simp; omega))).trans ?_) | (with_reducible refine (cell_alloc_at _ _ (by first | omega | (simp; done) | (simp; omega))).trans ?_) | (with_reducible refine (hcwF b o (by first | omega | (simp; done) | (simp; omega))).trans ?_)))), fun b o h => (by (repeat (first | with_reducible exact rfl | (with_reducible refine (frozen_drew_at _ _).trans ?_) | (with_reducible refine (World.frozen?_setCell _ _ _ _).trans ?_) | (with_reducible refine (frozen_alloc_at _ _ (by first | omega | (simp; done) | (simp; omega))).trans ?_) | (with_reducible refine (hfwF b o (by first | omega | (simp; done) | (simp; omega))).trans ?_)))), (by first | omega | (simp; done) | (simp; omega))⟩) | fail)
        (first
          | (go_at_call 51; (with_reducible refine (CL.out _).mono ?_); rintro e wF ⟨rfl, hbwF⟩; obtain ⟨hcwF, hfwF⟩ := bcell hbwF; have hzwF := hbwF.size; (try simp only [World.size_drew] at hcwF hfwF hzwF); (try simp only [World.size_alloc] at hcwF hfwF hzwF); (try have qW0 : W0.heap.size < wF.heap.size := (by omega))))
      all_goals
        go_wp2_with fail
        go_meet
      all_goals exact ⟨⟨_, rfl, by (try simp only [World.size_drew]); omega, by repeat' (first | ((with_reducible refine AtL.newAt ?_); (first | rfl | (simp; done))) | with_reducible assumption | with_reducible exact AtL.new _ _ _ | (with_reducible refine AtL.drew ?_) | (with_reducible apply AtL.store2) | (with_reducible refine AtL.alloc ?_ _) | (with_reducible refine AtL.far ?_ ?_ _ _) | (with_reducible refine AtL.below ?_ (by with_reducible assumption)) | omega | (simp; done) | (simp; omega))⟩, rfl, by repeat' (first | with_reducible assumption | with_reducible exact Blk.new _ _ _ | (with_reducible refine Blk.drew ?_) | (with_reducible refine Blk.carry ?_ (by with_reducible assumption)) | (with_reducible refine Blk.alloc ?_ _) | (with_reducible refine Blk.far ?_ ?_ _) | omega | (simp; done) | (simp; omega)), by repeat' (first | with_reducible assumption | with_reducible exact Below.refl _ _ | (with_reducible refine Below.setCell ?_ ?_ _) | (with_reducible refine Below.alloc ?_ ?_ _) | (with_reducible refine Below.drew ?_) | (with_reducible refine below_dr ?_ _) | (with_reducible refine Below.trans ?_ (Below.mono (by with_reducible assumption) ?_)) | omega | (simp; done) | (simp; omega))⟩
    case rest =>
      obtain ⟨⟨g1, rfl, gz1, at1⟩, rfl, bk1, bel1⟩ := hcut
      obtain ⟨W1, rfl⟩ : ∃ W : World, W = wc := ⟨_, rfl⟩
      have bzz := bel1.size
      have gW1 : Below w.heap.size w W1 := g0.trans (bel1.mono g0.size)
      have f0 := bk1.frozen 0
      have f1 := bk1.frozen 1
      have f2 := bk1.frozen 2
      have f3 := bk1.frozen 3
      have f4 := bk1.frozen 4
      have f5 := bk1.frozen 5
      have c0 := bk1.cell 0 rfl
      have c1 := bk1.cell 1 rfl
      have c2 := bk1.cell 2 rfl
      have c3 := bk1.cell 3 rfl
      have c4 := bk1.cell 4 rfl
      have c5 := bk1.cell 5 rfl
      go_wp2
      have bf := (((((bk1.set_ 0 (.int .i64 0)).set_ 1 (.int .i64 0)).set_ 2 (.int .i64 0)).set_ 3 (.int .i64 0)).set_ 4 (.int .i64 0)).set_ 5 (.int .i64 0)
      have r0 := bf.cell 0 rfl
      have r1 := bf.cell 1 rfl
      have r2 := bf.cell 2 rfl
      have r3 := bf.cell 3 rfl
      have r4 := bf.cell 4 rfl
      have r5 := bf.cell 5 rfl
      refine bodyPost_ret (v := .tuple #[.agg #[.int .i64 0, .int .i64 0, .int .i64 0, .int .i64 0, .int .i64 0, .int .i64 0], .int .i64 3]) (by simp [results, Try.results19, go_sem, r0, r1, r2, r3, r4, r5]) rfl ⟨?_, ?_⟩
      · first | rfl | (rw [HG.out]; rfl)
      repeat' (first | with_reducible assumption | with_reducible exact Below.refl _ _ | (with_reducible refine Below.setCell ?_ ?_ _) | (with_reducible refine Below.alloc ?_ ?_ _) | (with_reducible refine Below.drew ?_) | (with_reducible refine below_dr ?_ _) | (with_reducible refine Below.trans ?_ (Below.mono (by with_reducible assumption) ?_)) | omega | (simp; done) | (simp; omega))
  have hQ := fq_quad va vz hL
  obtain ⟨e1, e2, e3⟩ := lm_fqL hL
  rw [e1, e2, e3] at CL
  have FL := Lib.hid (fun w => implFlattenQuad_any a1 a2 (fqX a1 a2 b1 b2 z1 z2 y1 y2) (fqY a1 a2 b1 b2 z1 z2 y1 y2) z1 z2 1 w (by omega))
  rw [show flQl a1 a2 (fqX a1 a2 b1 b2 z1 z2 y1 y2) (fqY a1 a2 b1 b2 z1 z2 y1 y2) z1 z2 1 = fqF a1 a2 b1 b2 z1 z2 y1 y2 from rfl] at FL
  unfold FlRet at FL
  clear e1 e2 e3
  rcases hB : fqB a1 a2 b1 b2 z1 z2 y1 y2 with _ | _
  · have HG : fqG a1 a2 b1 b2 z1 z2 y1 y2 l t = false := by rw [HGG.out, hL, hB]; simp
    rw [(fl_big hQ (by omega) (by omega) hB).2] at FL
    have HG := Lib.hid HG
    clear HGG hL hB va vz hQ
    generalize fqX a1 a2 b1 b2 z1 z2 y1 y2 = X at *
    generalize fqY a1 a2 b1 b2 z1 z2 y1 y2 = Y at *
    generalize fqF a1 a2 b1 b2 z1 z2 y1 y2 = G at *
    obtain ⟨n, hn⟩ : ∃ n, n = l.length := ⟨_, rfl⟩
    obtain ⟨jz, hjz⟩ : ∃ jz, jz = n - 1 := ⟨_, rfl⟩
    obtain ⟨jy, hjy⟩ : ∃ jy, jy = n - 2 := ⟨_, rfl⟩
    rw [← hn] at hl h3 ⊢
    (try rw [← hn] at IP)
    (try rw [← hn] at V2)
    rw [← hn, ← hjz] at hz
    rw [← hn, ← hjy] at hy
    obtain ⟨g, o, rfl, hg, hca⟩ := rd.elem ha
    obtain ⟨g', o', hgo, hg', hcb⟩ := rd.elem hb
    obtain ⟨rfl, rfl⟩ : g = g' ∧ o = o' := by injection hgo with h; injection h with h1 h2; exact ⟨h1, h2⟩
    obtain ⟨g', o', hgo, hg', hcz⟩ := rd.elem hz
    obtain ⟨rfl, rfl⟩ : g = g' ∧ o = o' := by injection hgo with h; injection h with h1 h2; exact ⟨h1, h2⟩
    obtain ⟨g', o', hgo, hg', hcy⟩ := rd.elem hy
    obtain ⟨rfl, rfl⟩ : g = g' ∧ o = o' := by injection hgo with h; injection h with h1 h2; exact ⟨h1, h2⟩
    have pa0 : w.cell? ⟨g, o, none⟩ = some (.int .i64 a1) := by have := hca 0 _ rfl; simpa [Nat.add_assoc] using this
    have pa1 : w.cell? ⟨g, o + 1, none⟩ = some (.int .i64 a2) := by have := hca 1 _ rfl; simpa [Nat.add_assoc] using this
    have pb0 : w.cell? ⟨g, o + 2, none⟩ = some (.int .i64 b1) := by have := hcb 0 _ rfl; simpa [Nat.add_assoc] using this
    have pb1 : w.cell? ⟨g, o + 3, none⟩ = some (.int .i64 b2) := by have := hcb 1 _ rfl; simpa [Nat.add_assoc] using this
    have pz0 : w.cell? ⟨g, o + jz * 2, none⟩ = some (.int .i64 z1) := by have := hcz 0 _ rfl; simpa [Nat.add_assoc] using this
    have pz1 : w.cell? ⟨g, o + jz * 2 + 1, none⟩ = some (.int .i64 z2) := by have := hcz 1 _ rfl; simpa [Nat.add_assoc] using this
    have py0 : w.cell? ⟨g, o + jy * 2, none⟩ = some (.int .i64 y1) := by have := hcy 0 _ rfl; simpa [Nat.add_assoc] using this
    have py1 : w.cell? ⟨g, o + jy * 2 + 1, none⟩ = some (.int .i64 y2) := by have := hcy 1 _ rfl; simpa [Nat.add_assoc] using this
    have RD := Lib.hid rd
    clear hca hcb hcz hcy rd hgo ha hb hz hy
    have m1 : (n : Int) - 1 = (jz : Int) := by omega
    have m2 : (n : Int) - 2 = (jy : Int) := by omega
    have w1' : IntKind.i64.wrap (jz : Int) = (jz : Int) := IntWalk.i64_in _ (by omega)
    have w2' : IntKind.i64.wrap (jy : Int) = (jy : Int) := IntWalk.i64_in _ (by omega)
    have x0 : (0 : Int) < (n : Int) := by omega
    have x1 : (1 : Int) < (n : Int) := by omega
    have x2 : (jz : Int) < (n : Int) := by omega
    have x3 : (jy : Int) < (n : Int) := by omega
    have x4 : 0 < n := by omega
    have x5 : 1 < n := by omega
    have x6 : jz < n := by omega
    have x7 : jy < n := by omega
    have HN := Lib.hid hn
    have HZ := Lib.hid hjz
    have HY := Lib.hid hjy
    clear hn hjz hjy
    have m3 : (jz : Int) - 1 = (jy : Int) := by omega
    have h3' : ¬ (n : Int) < 3 := by omega
    have h3'' : (3 : Int) ≤ (n : Int) := by omega
    go_enter Try.func19, Try.ntmps19
    go_wp2_with fail
    generalize hW : w.alloc (.cells #[.int .i64 0, .int .i64 0, .int .i64 0, .int .i64 0, .int .i64 0, .int .i64 0] 31) = WA
    have bkA : Blk WA w.heap.size 31 #[.int .i64 0, .int .i64 0, .int .i64 0, .int .i64 0, .int .i64 0, .int .i64 0] := by rw [← hW]; exact Blk.new _ _ _
    have gA : Below w.heap.size w WA := by rw [← hW]; repeat' (first | with_reducible assumption | with_reducible exact Below.refl _ _ | (with_reducible refine Below.setCell ?_ ?_ _) | (with_reducible refine Below.alloc ?_ ?_ _) | (with_reducible refine Below.drew ?_) | (with_reducible refine below_dr ?_ _) | (with_reducible refine Below.trans ?_ (Below.mono (by with_reducible assumption) ?_)) | omega | (simp; done) | (simp; omega))
    clear hW
    refine (IP.out _ ((RD.out.below gA).more gA.size)).mono ?_
    rintro e W0 ⟨rfl, b0⟩
    have zA := b0.size
    have bk := bkA.carry b0
    have g0 : Below w.heap.size w W0 := gA.trans (b0.mono gA.size)
    have zW := g0.size
    go_wp2_with fail
    refine (isTol_yes _ _ t1 t2).mono ?_
    rintro e W0' ⟨rfl, rfl⟩
    have qa0 : W0.cell? ⟨g, o, none⟩ = some (.int .i64 a1) := (g0.cell (p := ⟨g, o, none⟩) hg).trans pa0
    have qa1 : W0.cell? ⟨g, o + 1, none⟩ = some (.int .i64 a2) := (g0.cell (p := ⟨g, o + 1, none⟩) hg).trans pa1
    have qb0 : W0.cell? ⟨g, o + 2, none⟩ = some (.int .i64 b1) := (g0.cell (p := ⟨g, o + 2, none⟩) hg).trans pb0
    have qb1 : W0.cell? ⟨g, o + 3, none⟩ = some (.int .i64 b2) := (g0.cell (p := ⟨g, o + 3, none⟩) hg).trans pb1
    have qz0 : W0.cell? ⟨g, o + jz * 2, none⟩ = some (.int .i64 z1) := (g0.cell (p := ⟨g, o + jz * 2, none⟩) hg).trans pz0
    have qz1 : W0.cell? ⟨g, o + jz * 2 + 1, none⟩ = some (.int .i64 z2) := (g0.cell (p := ⟨g, o + jz * 2 + 1, none⟩) hg).trans pz1
    have qy0 : W0.cell? ⟨g, o + jy * 2, none⟩ = some (.int .i64 y1) := (g0.cell (p := ⟨g, o + jy * 2, none⟩) hg).trans py0
    have qy1 : W0.cell? ⟨g, o + jy * 2 + 1, none⟩ = some (.int .i64 y2) := (g0.cell (p := ⟨g, o + jy * 2 + 1, none⟩) hg).trans py1
    have bz : w.heap.size < W0.heap.size := bk.lt
    have hgW : g < W0.heap.size := by omega
    clear IP bkA gA b0 pa0 pa1 pb0 pb1 pz0 pz1 py0 py1
    go_upto_region 6 with fail
    go_cut [7, 8] (fun s7 s8 wx => (∃ (g1 : Nat), s7 = .pointer (some ⟨g1, 0, none⟩) ∧ w.heap.size < g1 ∧ AtL g1 [.int .i64 X, .int .i64 Y] wx) ∧ s8 = .int .i64 0 ∧ Blk wx w.heap.size 31 #[.int .i64 0, .int .i64 0, .int .i64 0, .int .i64 0, .int .i64 0, .int .i64 0] ∧ Below W0.heap.size W0 wx)
    case first =>
      go_region_held3 (fun w' => (∀ b o, b < W0.heap.size → w'.cell? ⟨b, o, none⟩ = W0.cell? ⟨b, o, none⟩) ∧ (∀ b o, b < W0.heap.size → w'.frozen? ⟨b, o, none⟩ = W0.frozen? ⟨b, o, none⟩) ∧ W0.heap.size ≤ w'.heap.size)
        (first | ((try dsimp only); exact ⟨fun b o h => (by (repeat (first | with_reducible exact rfl | (with_reducible refine (cell_drew_at _ _).trans ?_) | (with_reducible refine (cell_set_at _ _ (by first | omega | (simp; done) | (simp; omega))).trans ?_) | (with_reducible refine (cell_alloc_at _ _ (by first | omega | (simp; done) | (simp; omega))).trans ?_) | (with_reducible refine (hcwF b o (by first | omega | (simp; done) | (simp; omega))).trans ?_)))), fun b o h => (by (repeat (first | with_reducible exact rfl | (with_reducible refine (frozen_drew_at _ _).trans ?_) | (with_reducible refine (World.frozen?_setCell _ _ _ _).trans ?_) | (with_reducible refine (frozen_alloc_at _ _ (by first | omega | (simp; done) | (simp; omega))).trans ?_) | (with_reducible refine (hfwF b o (by first | omega | (simp; done) | (simp; omega))).trans ?_)))), (by first | omega | (simp; done) | (simp; omega))⟩) | fail)
        (first
          | (go_at_call 51; (with_reducible refine (CL.out _).mono ?_); rintro e wF ⟨rfl, hbwF⟩; obtain ⟨hcwF, hfwF⟩ := bcell hbwF; have hzwF := hbwF.size; (try simp only [World.size_drew] at hcwF hfwF hzwF); (try simp only [World.size_alloc] at hcwF hfwF hzwF); (try have qW0 : W0.heap.size < wF.heap.size := (by omega))))
      all_goals
        go_wp2_with fail
        go_meet
      all_goals exact ⟨⟨_, rfl, by (try simp only [World.size_drew]); omega, by repeat' (first | ((with_reducible refine AtL.newAt ?_); (first | rfl | (simp; done))) | with_reducible assumption | with_reducible exact AtL.new _ _ _ | (with_reducible refine AtL.drew ?_) | (with_reducible apply AtL.store2) | (with_reducible refine AtL.alloc ?_ _) | (with_reducible refine AtL.far ?_ ?_ _ _) | (with_reducible refine AtL.below ?_ (by with_reducible assumption)) | omega | (simp; done) | (simp; omega))⟩, rfl, by repeat' (first | with_reducible assumption | with_reducible exact Blk.new _ _ _ | (with_reducible refine Blk.drew ?_) | (with_reducible refine Blk.carry ?_ (by with_reducible assumption)) | (with_reducible refine Blk.alloc ?_ _) | (with_reducible refine Blk.far ?_ ?_ _) | omega | (simp; done) | (simp; omega)), by repeat' (first | with_reducible assumption | with_reducible exact Below.refl _ _ | (with_reducible refine Below.setCell ?_ ?_ _) | (with_reducible refine Below.alloc ?_ ?_ _) | (with_reducible refine Below.drew ?_) | (with_reducible refine below_dr ?_ _) | (with_reducible refine Below.trans ?_ (Below.mono (by with_reducible assumption) ?_)) | omega | (simp; done) | (simp; omega))⟩
    case rest =>
      obtain ⟨⟨g1, rfl, gz1, at1⟩, rfl, bk1, bel1⟩ := hcut
      obtain ⟨W1, rfl⟩ : ∃ W : World, W = wc := ⟨_, rfl⟩
      have bzz := bel1.size
      have gW1 : Below w.heap.size w W1 := g0.trans (bel1.mono g0.size)
      have ra0 : W1.cell? ⟨g, o, none⟩ = some (.int .i64 a1) := (bel1.cell (p := ⟨g, o, none⟩) hgW).trans qa0
      have ra1 : W1.cell? ⟨g, o + 1, none⟩ = some (.int .i64 a2) := (bel1.cell (p := ⟨g, o + 1, none⟩) hgW).trans qa1
      have rb0 : W1.cell? ⟨g, o + 2, none⟩ = some (.int .i64 b1) := (bel1.cell (p := ⟨g, o + 2, none⟩) hgW).trans qb0
      have rb1 : W1.cell? ⟨g, o + 3, none⟩ = some (.int .i64 b2) := (bel1.cell (p := ⟨g, o + 3, none⟩) hgW).trans qb1
      have rz0 : W1.cell? ⟨g, o + jz * 2, none⟩ = some (.int .i64 z1) := (bel1.cell (p := ⟨g, o + jz * 2, none⟩) hgW).trans qz0
      have rz1 : W1.cell? ⟨g, o + jz * 2 + 1, none⟩ = some (.int .i64 z2) := (bel1.cell (p := ⟨g, o + jz * 2 + 1, none⟩) hgW).trans qz1
      have ry0 : W1.cell? ⟨g, o + jy * 2, none⟩ = some (.int .i64 y1) := (bel1.cell (p := ⟨g, o + jy * 2, none⟩) hgW).trans qy0
      have ry1 : W1.cell? ⟨g, o + jy * 2 + 1, none⟩ = some (.int .i64 y2) := (bel1.cell (p := ⟨g, o + jy * 2 + 1, none⟩) hgW).trans qy1
      have d0 := at1.cell 0 rfl
      have d1 := at1.cell 1 rfl
      have dz := at1.lt
      have gW2 : g < W1.heap.size := by omega
      clear qa0 qa1 qb0 qb1 qz0 qz1 qy0 qy1 CL
      go_upto_region 9 with fail
      go_cut [9] (fun s9 wx => (∃ q : Nat, s9 = .pointer (some ⟨q, 0, none⟩) ∧ w.heap.size < q ∧ AtL q [.int .i64 a1, .int .i64 a2, .int .i64 X, .int .i64 Y, .int .i64 z1, .int .i64 z2] wx) ∧ Blk wx w.heap.size 31 #[.int .i64 0, .int .i64 0, .int .i64 0, .int .i64 0, .int .i64 0, .int .i64 0] ∧ Below W1.heap.size W1 wx)
      case first =>
        go_region_held3 (fun w' => (∀ b o, b < W1.heap.size → w'.cell? ⟨b, o, none⟩ = W1.cell? ⟨b, o, none⟩) ∧ (∀ b o, b < W1.heap.size → w'.frozen? ⟨b, o, none⟩ = W1.frozen? ⟨b, o, none⟩) ∧ W1.heap.size ≤ w'.heap.size)
          (first | ((try dsimp only); exact ⟨fun b o h => (by (repeat (first | with_reducible exact rfl | (with_reducible refine (cell_drew_at _ _).trans ?_) | (with_reducible refine (cell_set_at _ _ (by first | omega | (simp; done) | (simp; omega))).trans ?_) | (with_reducible refine (cell_alloc_at _ _ (by first | omega | (simp; done) | (simp; omega))).trans ?_)))), fun b o h => (by (repeat (first | with_reducible exact rfl | (with_reducible refine (frozen_drew_at _ _).trans ?_) | (with_reducible refine (World.frozen?_setCell _ _ _ _).trans ?_) | (with_reducible refine (frozen_alloc_at _ _ (by first | omega | (simp; done) | (simp; omega))).trans ?_)))), (by first | omega | (simp; done) | (simp; omega))⟩) | fail)
          (first
            | fail)
        all_goals
          go_wp2_with fail
          go_meet
        all_goals exact ⟨⟨_, rfl, by (try simp only [World.size_drew]); omega, by repeat' (first | ((with_reducible refine AtL.newAt ?_); (first | rfl | (simp; done))) | with_reducible assumption | with_reducible exact AtL.new _ _ _ | (with_reducible refine AtL.drew ?_) | (with_reducible apply AtL.store6) | (with_reducible refine AtL.alloc ?_ _) | (with_reducible refine AtL.far ?_ ?_ _ _) | (with_reducible refine AtL.below ?_ (by with_reducible assumption)) | omega | (simp; done) | (simp; omega))⟩, by repeat' (first | with_reducible assumption | with_reducible exact Blk.new _ _ _ | (with_reducible refine Blk.drew ?_) | (with_reducible refine Blk.carry ?_ (by with_reducible assumption)) | (with_reducible refine Blk.alloc ?_ _) | (with_reducible refine Blk.far ?_ ?_ _) | omega | (simp; done) | (simp; omega)), by repeat' (first | with_reducible assumption | with_reducible exact Below.refl _ _ | (with_reducible refine Below.setCell ?_ ?_ _) | (with_reducible refine Below.alloc ?_ ?_ _) | (with_reducible refine Below.drew ?_) | (with_reducible refine below_dr ?_ _) | (with_reducible refine Below.trans ?_ (Below.mono (by with_reducible assumption) ?_)) | omega | (simp; done) | (simp; omega))⟩
      case rest =>
        obtain ⟨⟨q, rfl, gq, at2⟩, bk2, bel2⟩ := hcut
        obtain ⟨W2, rfl⟩ : ∃ W : World, W = wc := ⟨_, rfl⟩
        have bz2 := bel2.size
        have gW2b : Below w.heap.size w W2 := gW1.trans (bel2.mono gW1.size)
        have hz2 := gW2b.size
        have k0 := at2.cell 0 rfl
        have k1 := at2.cell 1 rfl
        have k2 := at2.cell 2 rfl
        have k3 := at2.cell 3 rfl
        have k4 := at2.cell 4 rfl
        have k5 := at2.cell 5 rfl
        have kz := at2.lt
        clear ra0 ra1 rb0 rb1 rz0 rz1 ry0 ry1 d0 d1 dz
        go_wp2_with fail
        refine (FL.out _).mono ?_
        rintro e W3 ⟨Af, kf, rfl, ow, bel3⟩
        have hz3 := bel3.size
        have gW3 : Below w.heap.size w W3 := gW2b.trans (bel3.mono hz2)
        have bk3 := bk2.carry bel3
        have at3 := at2.below bel3
        clear FL k0 k1 k2 k3 k4 k5 kz
        have f0 := bk3.frozen 0
        have f1 := bk3.frozen 1
        have f2 := bk3.frozen 2
        have f3 := bk3.frozen 3
        have f4 := bk3.frozen 4
        have f5 := bk3.frozen 5
        have c0 := bk3.cell 0 rfl
        have c1 := bk3.cell 1 rfl
        have c2 := bk3.cell 2 rfl
        have c3 := bk3.cell 3 rfl
        have c4 := bk3.cell 4 rfl
        have c5 := bk3.cell 5 rfl
        go_wp2
        have bf := (((((bk3.set_ 0 (.int .i64 0)).set_ 1 (.int .i64 0)).set_ 2 (.int .i64 0)).set_ 3 (.int .i64 0)).set_ 4 (.int .i64 0)).set_ 5 (.int .i64 0)
        have r0 := bf.cell 0 rfl
        have r1 := bf.cell 1 rfl
        have r2 := bf.cell 2 rfl
        have r3 := bf.cell 3 rfl
        have r4 := bf.cell 4 rfl
        have r5 := bf.cell 5 rfl
        refine bodyPost_ret (v := .tuple #[.agg #[.int .i64 0, .int .i64 0, .int .i64 0, .int .i64 0, .int .i64 0, .int .i64 0], .int .i64 3]) (by simp [results, Try.results19, go_sem, r0, r1, r2, r3, r4, r5]) rfl ⟨?_, ?_⟩
        · first | rfl | (rw [HG.out]; rfl)
        repeat' (first | with_reducible assumption | with_reducible exact Below.refl _ _ | (with_reducible refine Below.setCell ?_ ?_ _) | (with_reducible refine Below.alloc ?_ ?_ _) | (with_reducible refine Below.drew ?_) | (with_reducible refine below_dr ?_ _) | (with_reducible refine Below.trans ?_ (Below.mono (by with_reducible assumption) ?_)) | omega | (simp; done) | (simp; omega))
  rw [(fl_yes hQ (by omega) (by omega) hB).2] at FL
  obtain ⟨f1, f65, fv⟩ := fq_flat va vz hL hB
  have V1 := Lib.hid (fun A c A' c' w ra rd => areNear_any l (fqF a1 a2 b1 b2 z1 z2 y1 y2) A' A c c' t w (by omega) (by omega) ra (by omega) f1 rd)
  clear f1 fv hQ
  rcases hv1 : (alV l (fqF a1 a2 b1 b2 z1 z2 y1 y2) t && alV (fqF a1 a2 b1 b2 z1 z2 y1 y2) l t) with _ | _
  · have HG : fqG a1 a2 b1 b2 z1 z2 y1 y2 l t = false := by rw [HGG.out, hL, hB, Bool.and_assoc, hv1]; rfl
    rw [hv1] at V1
    have HG := Lib.hid HG
    clear HGG hL hB va vz hv1
    generalize fqX a1 a2 b1 b2 z1 z2 y1 y2 = X at *
    generalize fqY a1 a2 b1 b2 z1 z2 y1 y2 = Y at *
    generalize fqF a1 a2 b1 b2 z1 z2 y1 y2 = G at *
    obtain ⟨n, hn⟩ : ∃ n, n = l.length := ⟨_, rfl⟩
    obtain ⟨jz, hjz⟩ : ∃ jz, jz = n - 1 := ⟨_, rfl⟩
    obtain ⟨jy, hjy⟩ : ∃ jy, jy = n - 2 := ⟨_, rfl⟩
    rw [← hn] at hl h3 ⊢
    (try rw [← hn] at IP); (try rw [← hn] at V1)
    (try rw [← hn] at V2)
    rw [← hn, ← hjz] at hz
    rw [← hn, ← hjy] at hy
    obtain ⟨g, o, rfl, hg, hca⟩ := rd.elem ha
    obtain ⟨g', o', hgo, hg', hcb⟩ := rd.elem hb
    obtain ⟨rfl, rfl⟩ : g = g' ∧ o = o' := by injection hgo with h; injection h with h1 h2; exact ⟨h1, h2⟩
    obtain ⟨g', o', hgo, hg', hcz⟩ := rd.elem hz
    obtain ⟨rfl, rfl⟩ : g = g' ∧ o = o' := by injection hgo with h; injection h with h1 h2; exact ⟨h1, h2⟩
    obtain ⟨g', o', hgo, hg', hcy⟩ := rd.elem hy
    obtain ⟨rfl, rfl⟩ : g = g' ∧ o = o' := by injection hgo with h; injection h with h1 h2; exact ⟨h1, h2⟩
    have pa0 : w.cell? ⟨g, o, none⟩ = some (.int .i64 a1) := by have := hca 0 _ rfl; simpa [Nat.add_assoc] using this
    have pa1 : w.cell? ⟨g, o + 1, none⟩ = some (.int .i64 a2) := by have := hca 1 _ rfl; simpa [Nat.add_assoc] using this
    have pb0 : w.cell? ⟨g, o + 2, none⟩ = some (.int .i64 b1) := by have := hcb 0 _ rfl; simpa [Nat.add_assoc] using this
    have pb1 : w.cell? ⟨g, o + 3, none⟩ = some (.int .i64 b2) := by have := hcb 1 _ rfl; simpa [Nat.add_assoc] using this
    have pz0 : w.cell? ⟨g, o + jz * 2, none⟩ = some (.int .i64 z1) := by have := hcz 0 _ rfl; simpa [Nat.add_assoc] using this
    have pz1 : w.cell? ⟨g, o + jz * 2 + 1, none⟩ = some (.int .i64 z2) := by have := hcz 1 _ rfl; simpa [Nat.add_assoc] using this
    have py0 : w.cell? ⟨g, o + jy * 2, none⟩ = some (.int .i64 y1) := by have := hcy 0 _ rfl; simpa [Nat.add_assoc] using this
    have py1 : w.cell? ⟨g, o + jy * 2 + 1, none⟩ = some (.int .i64 y2) := by have := hcy 1 _ rfl; simpa [Nat.add_assoc] using this
    have RD := Lib.hid rd
    clear hca hcb hcz hcy rd hgo ha hb hz hy
    have m1 : (n : Int) - 1 = (jz : Int) := by omega
    have m2 : (n : Int) - 2 = (jy : Int) := by omega
    have w1' : IntKind.i64.wrap (jz : Int) = (jz : Int) := IntWalk.i64_in _ (by omega)
    have w2' : IntKind.i64.wrap (jy : Int) = (jy : Int) := IntWalk.i64_in _ (by omega)
    have x0 : (0 : Int) < (n : Int) := by omega
    have x1 : (1 : Int) < (n : Int) := by omega
    have x2 : (jz : Int) < (n : Int) := by omega
    have x3 : (jy : Int) < (n : Int) := by omega
    have x4 : 0 < n := by omega
    have x5 : 1 < n := by omega
    have x6 : jz < n := by omega
    have x7 : jy < n := by omega
    have HN := Lib.hid hn
    have HZ := Lib.hid hjz
    have HY := Lib.hid hjy
    clear hn hjz hjy
    have m3 : (jz : Int) - 1 = (jy : Int) := by omega
    have h3' : ¬ (n : Int) < 3 := by omega
    have h3'' : (3 : Int) ≤ (n : Int) := by omega
    go_enter Try.func19, Try.ntmps19
    go_wp2_with fail
    generalize hW : w.alloc (.cells #[.int .i64 0, .int .i64 0, .int .i64 0, .int .i64 0, .int .i64 0, .int .i64 0] 31) = WA
    have bkA : Blk WA w.heap.size 31 #[.int .i64 0, .int .i64 0, .int .i64 0, .int .i64 0, .int .i64 0, .int .i64 0] := by rw [← hW]; exact Blk.new _ _ _
    have gA : Below w.heap.size w WA := by rw [← hW]; repeat' (first | with_reducible assumption | with_reducible exact Below.refl _ _ | (with_reducible refine Below.setCell ?_ ?_ _) | (with_reducible refine Below.alloc ?_ ?_ _) | (with_reducible refine Below.drew ?_) | (with_reducible refine below_dr ?_ _) | (with_reducible refine Below.trans ?_ (Below.mono (by with_reducible assumption) ?_)) | omega | (simp; done) | (simp; omega))
    clear hW
    refine (IP.out _ ((RD.out.below gA).more gA.size)).mono ?_
    rintro e W0 ⟨rfl, b0⟩
    have zA := b0.size
    have bk := bkA.carry b0
    have g0 : Below w.heap.size w W0 := gA.trans (b0.mono gA.size)
    have zW := g0.size
    go_wp2_with fail
    refine (isTol_yes _ _ t1 t2).mono ?_
    rintro e W0' ⟨rfl, rfl⟩
    have qa0 : W0.cell? ⟨g, o, none⟩ = some (.int .i64 a1) := (g0.cell (p := ⟨g, o, none⟩) hg).trans pa0
    have qa1 : W0.cell? ⟨g, o + 1, none⟩ = some (.int .i64 a2) := (g0.cell (p := ⟨g, o + 1, none⟩) hg).trans pa1
    have qb0 : W0.cell? ⟨g, o + 2, none⟩ = some (.int .i64 b1) := (g0.cell (p := ⟨g, o + 2, none⟩) hg).trans pb0
    have qb1 : W0.cell? ⟨g, o + 3, none⟩ = some (.int .i64 b2) := (g0.cell (p := ⟨g, o + 3, none⟩) hg).trans pb1
    have qz0 : W0.cell? ⟨g, o + jz * 2, none⟩ = some (.int .i64 z1) := (g0.cell (p := ⟨g, o + jz * 2, none⟩) hg).trans pz0
    have qz1 : W0.cell? ⟨g, o + jz * 2 + 1, none⟩ = some (.int .i64 z2) := (g0.cell (p := ⟨g, o + jz * 2 + 1, none⟩) hg).trans pz1
    have qy0 : W0.cell? ⟨g, o + jy * 2, none⟩ = some (.int .i64 y1) := (g0.cell (p := ⟨g, o + jy * 2, none⟩) hg).trans py0
    have qy1 : W0.cell? ⟨g, o + jy * 2 + 1, none⟩ = some (.int .i64 y2) := (g0.cell (p := ⟨g, o + jy * 2 + 1, none⟩) hg).trans py1
    have bz : w.heap.size < W0.heap.size := bk.lt
    have hgW : g < W0.heap.size := by omega
    clear IP bkA gA b0 pa0 pa1 pb0 pb1 pz0 pz1 py0 py1
    go_upto_region 6 with fail
    go_cut [7, 8] (fun s7 s8 wx => (∃ (g1 : Nat), s7 = .pointer (some ⟨g1, 0, none⟩) ∧ w.heap.size < g1 ∧ AtL g1 [.int .i64 X, .int .i64 Y] wx) ∧ s8 = .int .i64 0 ∧ Blk wx w.heap.size 31 #[.int .i64 0, .int .i64 0, .int .i64 0, .int .i64 0, .int .i64 0, .int .i64 0] ∧ Below W0.heap.size W0 wx)
    case first =>
      go_region_held3 (fun w' => (∀ b o, b < W0.heap.size → w'.cell? ⟨b, o, none⟩ = W0.cell? ⟨b, o, none⟩) ∧ (∀ b o, b < W0.heap.size → w'.frozen? ⟨b, o, none⟩ = W0.frozen? ⟨b, o, none⟩) ∧ W0.heap.size ≤ w'.heap.size)
        (first | ((try dsimp only); exact ⟨fun b o h => (by (repeat (first | with_reducible exact rfl | (with_reducible refine (cell_drew_at _ _).trans ?_) | (with_reducible refine (cell_set_at _ _ (by first | omega | (simp; done) | (simp; omega))).trans ?_) | (with_reducible refine (cell_alloc_at _ _ (by first | omega | (simp; done) | (simp; omega))).trans ?_) | (with_reducible refine (hcwF b o (by first | omega | (simp; done) | (simp; omega))).trans ?_)))), fun b o h => (by (repeat (first | with_reducible exact rfl | (with_reducible refine (frozen_drew_at _ _).trans ?_) | (with_reducible refine (World.frozen?_setCell _ _ _ _).trans ?_) | (with_reducible refine (frozen_alloc_at _ _ (by first | omega | (simp; done) | (simp; omega))).trans ?_) | (with_reducible refine (hfwF b o (by first | omega | (simp; done) | (simp; omega))).trans ?_)))), (by first | omega | (simp; done) | (simp; omega))⟩) | fail)
        (first
          | (go_at_call 51; (with_reducible refine (CL.out _).mono ?_); rintro e wF ⟨rfl, hbwF⟩; obtain ⟨hcwF, hfwF⟩ := bcell hbwF; have hzwF := hbwF.size; (try simp only [World.size_drew] at hcwF hfwF hzwF); (try simp only [World.size_alloc] at hcwF hfwF hzwF); (try have qW0 : W0.heap.size < wF.heap.size := (by omega))))
      all_goals
        go_wp2_with fail
        go_meet
      all_goals exact ⟨⟨_, rfl, by (try simp only [World.size_drew]); omega, by repeat' (first | ((with_reducible refine AtL.newAt ?_); (first | rfl | (simp; done))) | with_reducible assumption | with_reducible exact AtL.new _ _ _ | (with_reducible refine AtL.drew ?_) | (with_reducible apply AtL.store2) | (with_reducible refine AtL.alloc ?_ _) | (with_reducible refine AtL.far ?_ ?_ _ _) | (with_reducible refine AtL.below ?_ (by with_reducible assumption)) | omega | (simp; done) | (simp; omega))⟩, rfl, by repeat' (first | with_reducible assumption | with_reducible exact Blk.new _ _ _ | (with_reducible refine Blk.drew ?_) | (with_reducible refine Blk.carry ?_ (by with_reducible assumption)) | (with_reducible refine Blk.alloc ?_ _) | (with_reducible refine Blk.far ?_ ?_ _) | omega | (simp; done) | (simp; omega)), by repeat' (first | with_reducible assumption | with_reducible exact Below.refl _ _ | (with_reducible refine Below.setCell ?_ ?_ _) | (with_reducible refine Below.alloc ?_ ?_ _) | (with_reducible refine Below.drew ?_) | (with_reducible refine below_dr ?_ _) | (with_reducible refine Below.trans ?_ (Below.mono (by with_reducible assumption) ?_)) | omega | (simp; done) | (simp; omega))⟩
    case rest =>
      obtain ⟨⟨g1, rfl, gz1, at1⟩, rfl, bk1, bel1⟩ := hcut
      obtain ⟨W1, rfl⟩ : ∃ W : World, W = wc := ⟨_, rfl⟩
      have bzz := bel1.size
      have gW1 : Below w.heap.size w W1 := g0.trans (bel1.mono g0.size)
      have ra0 : W1.cell? ⟨g, o, none⟩ = some (.int .i64 a1) := (bel1.cell (p := ⟨g, o, none⟩) hgW).trans qa0
      have ra1 : W1.cell? ⟨g, o + 1, none⟩ = some (.int .i64 a2) := (bel1.cell (p := ⟨g, o + 1, none⟩) hgW).trans qa1
      have rb0 : W1.cell? ⟨g, o + 2, none⟩ = some (.int .i64 b1) := (bel1.cell (p := ⟨g, o + 2, none⟩) hgW).trans qb0
      have rb1 : W1.cell? ⟨g, o + 3, none⟩ = some (.int .i64 b2) := (bel1.cell (p := ⟨g, o + 3, none⟩) hgW).trans qb1
      have rz0 : W1.cell? ⟨g, o + jz * 2, none⟩ = some (.int .i64 z1) := (bel1.cell (p := ⟨g, o + jz * 2, none⟩) hgW).trans qz0
      have rz1 : W1.cell? ⟨g, o + jz * 2 + 1, none⟩ = some (.int .i64 z2) := (bel1.cell (p := ⟨g, o + jz * 2 + 1, none⟩) hgW).trans qz1
      have ry0 : W1.cell? ⟨g, o + jy * 2, none⟩ = some (.int .i64 y1) := (bel1.cell (p := ⟨g, o + jy * 2, none⟩) hgW).trans qy0
      have ry1 : W1.cell? ⟨g, o + jy * 2 + 1, none⟩ = some (.int .i64 y2) := (bel1.cell (p := ⟨g, o + jy * 2 + 1, none⟩) hgW).trans qy1
      have d0 := at1.cell 0 rfl
      have d1 := at1.cell 1 rfl
      have dz := at1.lt
      have gW2 : g < W1.heap.size := by omega
      clear qa0 qa1 qb0 qb1 qz0 qz1 qy0 qy1 CL
      go_upto_region 9 with fail
      go_cut [9] (fun s9 wx => (∃ q : Nat, s9 = .pointer (some ⟨q, 0, none⟩) ∧ w.heap.size < q ∧ AtL q [.int .i64 a1, .int .i64 a2, .int .i64 X, .int .i64 Y, .int .i64 z1, .int .i64 z2] wx) ∧ Blk wx w.heap.size 31 #[.int .i64 0, .int .i64 0, .int .i64 0, .int .i64 0, .int .i64 0, .int .i64 0] ∧ Below W1.heap.size W1 wx)
      case first =>
        go_region_held3 (fun w' => (∀ b o, b < W1.heap.size → w'.cell? ⟨b, o, none⟩ = W1.cell? ⟨b, o, none⟩) ∧ (∀ b o, b < W1.heap.size → w'.frozen? ⟨b, o, none⟩ = W1.frozen? ⟨b, o, none⟩) ∧ W1.heap.size ≤ w'.heap.size)
          (first | ((try dsimp only); exact ⟨fun b o h => (by (repeat (first | with_reducible exact rfl | (with_reducible refine (cell_drew_at _ _).trans ?_) | (with_reducible refine (cell_set_at _ _ (by first | omega | (simp; done) | (simp; omega))).trans ?_) | (with_reducible refine (cell_alloc_at _ _ (by first | omega | (simp; done) | (simp; omega))).trans ?_)))), fun b o h => (by (repeat (first | with_reducible exact rfl | (with_reducible refine (frozen_drew_at _ _).trans ?_) | (with_reducible refine (World.frozen?_setCell _ _ _ _).trans ?_) | (with_reducible refine (frozen_alloc_at _ _ (by first | omega | (simp; done) | (simp; omega))).trans ?_)))), (by first | omega | (simp; done) | (simp; omega))⟩) | fail)
          (first
            | fail)
        all_goals
          go_wp2_with fail
          go_meet
        all_goals exact ⟨⟨_, rfl, by (try simp only [World.size_drew]); omega, by repeat' (first | ((with_reducible refine AtL.newAt ?_); (first | rfl | (simp; done))) | with_reducible assumption | with_reducible exact AtL.new _ _ _ | (with_reducible refine AtL.drew ?_) | (with_reducible apply AtL.store6) | (with_reducible refine AtL.alloc ?_ _) | (with_reducible refine AtL.far ?_ ?_ _ _) | (with_reducible refine AtL.below ?_ (by with_reducible assumption)) | omega | (simp; done) | (simp; omega))⟩, by repeat' (first | with_reducible assumption | with_reducible exact Blk.new _ _ _ | (with_reducible refine Blk.drew ?_) | (with_reducible refine Blk.carry ?_ (by with_reducible assumption)) | (with_reducible refine Blk.alloc ?_ _) | (with_reducible refine Blk.far ?_ ?_ _) | omega | (simp; done) | (simp; omega)), by repeat' (first | with_reducible assumption | with_reducible exact Below.refl _ _ | (with_reducible refine Below.setCell ?_ ?_ _) | (with_reducible refine Below.alloc ?_ ?_ _) | (with_reducible refine Below.drew ?_) | (with_reducible refine below_dr ?_ _) | (with_reducible refine Below.trans ?_ (Below.mono (by with_reducible assumption) ?_)) | omega | (simp; done) | (simp; omega))⟩
      case rest =>
        obtain ⟨⟨q, rfl, gq, at2⟩, bk2, bel2⟩ := hcut
        obtain ⟨W2, rfl⟩ : ∃ W : World, W = wc := ⟨_, rfl⟩
        have bz2 := bel2.size
        have gW2b : Below w.heap.size w W2 := gW1.trans (bel2.mono gW1.size)
        have hz2 := gW2b.size
        have k0 := at2.cell 0 rfl
        have k1 := at2.cell 1 rfl
        have k2 := at2.cell 2 rfl
        have k3 := at2.cell 3 rfl
        have k4 := at2.cell 4 rfl
        have k5 := at2.cell 5 rfl
        have kz := at2.lt
        clear ra0 ra1 rb0 rb1 rz0 rz1 ry0 ry1 d0 d1 dz
        go_wp2_with fail
        refine (FL.out _).mono ?_
        rintro e W3 ⟨Af, kf, rfl, ow, bel3⟩
        have hz3 := bel3.size
        have gW3 : Below w.heap.size w W3 := gW2b.trans (bel3.mono hz2)
        have bk3 := bk2.carry bel3
        have at3 := at2.below bel3
        clear FL k0 k1 k2 k3 k4 k5 kz
        go_wp2_with fail
        refine (V1.out _ _ _ _ _ ((RD.out.below gW3).more (by omega)) (Rd.of_own (fun a => cPt_len a) (by omega) ow (Nat.le_refl _))).mono ?_
        rintro e W4 ⟨rfl, bel4⟩
        have hz4 := bel4.size
        have gW4 : Below w.heap.size w W4 := gW3.trans (bel4.mono gW3.size)
        have bk4 := bk3.carry bel4
        have at4 := at3.below bel4
        have f0 := bk4.frozen 0
        have f1 := bk4.frozen 1
        have f2 := bk4.frozen 2
        have f3 := bk4.frozen 3
        have f4 := bk4.frozen 4
        have f5 := bk4.frozen 5
        have c0 := bk4.cell 0 rfl
        have c1 := bk4.cell 1 rfl
        have c2 := bk4.cell 2 rfl
        have c3 := bk4.cell 3 rfl
        have c4 := bk4.cell 4 rfl
        have c5 := bk4.cell 5 rfl
        go_wp2
        have bf := (((((bk4.set_ 0 (.int .i64 0)).set_ 1 (.int .i64 0)).set_ 2 (.int .i64 0)).set_ 3 (.int .i64 0)).set_ 4 (.int .i64 0)).set_ 5 (.int .i64 0)
        have r0 := bf.cell 0 rfl
        have r1 := bf.cell 1 rfl
        have r2 := bf.cell 2 rfl
        have r3 := bf.cell 3 rfl
        have r4 := bf.cell 4 rfl
        have r5 := bf.cell 5 rfl
        refine bodyPost_ret (v := .tuple #[.agg #[.int .i64 0, .int .i64 0, .int .i64 0, .int .i64 0, .int .i64 0, .int .i64 0], .int .i64 3]) (by simp [results, Try.results19, go_sem, r0, r1, r2, r3, r4, r5]) rfl ⟨?_, ?_⟩
        · first | rfl | (rw [HG.out]; rfl)
        repeat' (first | with_reducible assumption | with_reducible exact Below.refl _ _ | (with_reducible refine Below.setCell ?_ ?_ _) | (with_reducible refine Below.alloc ?_ ?_ _) | (with_reducible refine Below.drew ?_) | (with_reducible refine below_dr ?_ _) | (with_reducible refine Below.trans ?_ (Below.mono (by with_reducible assumption) ?_)) | omega | (simp; done) | (simp; omega))
  · have HG : fqG a1 a2 b1 b2 z1 z2 y1 y2 l t = true := by rw [HGG.out, hL, hB, Bool.and_assoc, hv1]; rfl
    rw [hv1] at V1
    have HG := Lib.hid HG
    clear HGG hL hB va vz hv1
    generalize fqX a1 a2 b1 b2 z1 z2 y1 y2 = X at *
    generalize fqY a1 a2 b1 b2 z1 z2 y1 y2 = Y at *
    generalize fqF a1 a2 b1 b2 z1 z2 y1 y2 = G at *
    obtain ⟨n, hn⟩ : ∃ n, n = l.length := ⟨_, rfl⟩
    obtain ⟨jz, hjz⟩ : ∃ jz, jz = n - 1 := ⟨_, rfl⟩
    obtain ⟨jy, hjy⟩ : ∃ jy, jy = n - 2 := ⟨_, rfl⟩
    rw [← hn] at hl h3 ⊢
    (try rw [← hn] at IP); (try rw [← hn] at V1)
    (try rw [← hn] at V2)
    rw [← hn, ← hjz] at hz
    rw [← hn, ← hjy] at hy
    obtain ⟨g, o, rfl, hg, hca⟩ := rd.elem ha
    obtain ⟨g', o', hgo, hg', hcb⟩ := rd.elem hb
    obtain ⟨rfl, rfl⟩ : g = g' ∧ o = o' := by injection hgo with h; injection h with h1 h2; exact ⟨h1, h2⟩
    obtain ⟨g', o', hgo, hg', hcz⟩ := rd.elem hz
    obtain ⟨rfl, rfl⟩ : g = g' ∧ o = o' := by injection hgo with h; injection h with h1 h2; exact ⟨h1, h2⟩
    obtain ⟨g', o', hgo, hg', hcy⟩ := rd.elem hy
    obtain ⟨rfl, rfl⟩ : g = g' ∧ o = o' := by injection hgo with h; injection h with h1 h2; exact ⟨h1, h2⟩
    have pa0 : w.cell? ⟨g, o, none⟩ = some (.int .i64 a1) := by have := hca 0 _ rfl; simpa [Nat.add_assoc] using this
    have pa1 : w.cell? ⟨g, o + 1, none⟩ = some (.int .i64 a2) := by have := hca 1 _ rfl; simpa [Nat.add_assoc] using this
    have pb0 : w.cell? ⟨g, o + 2, none⟩ = some (.int .i64 b1) := by have := hcb 0 _ rfl; simpa [Nat.add_assoc] using this
    have pb1 : w.cell? ⟨g, o + 3, none⟩ = some (.int .i64 b2) := by have := hcb 1 _ rfl; simpa [Nat.add_assoc] using this
    have pz0 : w.cell? ⟨g, o + jz * 2, none⟩ = some (.int .i64 z1) := by have := hcz 0 _ rfl; simpa [Nat.add_assoc] using this
    have pz1 : w.cell? ⟨g, o + jz * 2 + 1, none⟩ = some (.int .i64 z2) := by have := hcz 1 _ rfl; simpa [Nat.add_assoc] using this
    have py0 : w.cell? ⟨g, o + jy * 2, none⟩ = some (.int .i64 y1) := by have := hcy 0 _ rfl; simpa [Nat.add_assoc] using this
    have py1 : w.cell? ⟨g, o + jy * 2 + 1, none⟩ = some (.int .i64 y2) := by have := hcy 1 _ rfl; simpa [Nat.add_assoc] using this
    have RD := Lib.hid rd
    clear hca hcb hcz hcy rd hgo ha hb hz hy
    have m1 : (n : Int) - 1 = (jz : Int) := by omega
    have m2 : (n : Int) - 2 = (jy : Int) := by omega
    have w1' : IntKind.i64.wrap (jz : Int) = (jz : Int) := IntWalk.i64_in _ (by omega)
    have w2' : IntKind.i64.wrap (jy : Int) = (jy : Int) := IntWalk.i64_in _ (by omega)
    have x0 : (0 : Int) < (n : Int) := by omega
    have x1 : (1 : Int) < (n : Int) := by omega
    have x2 : (jz : Int) < (n : Int) := by omega
    have x3 : (jy : Int) < (n : Int) := by omega
    have x4 : 0 < n := by omega
    have x5 : 1 < n := by omega
    have x6 : jz < n := by omega
    have x7 : jy < n := by omega
    have HN := Lib.hid hn
    have HZ := Lib.hid hjz
    have HY := Lib.hid hjy
    clear hn hjz hjy
    have m3 : (jz : Int) - 1 = (jy : Int) := by omega
    have h3' : ¬ (n : Int) < 3 := by omega
    have h3'' : (3 : Int) ≤ (n : Int) := by omega
    go_enter Try.func19, Try.ntmps19
    go_wp2_with fail
    generalize hW : w.alloc (.cells #[.int .i64 0, .int .i64 0, .int .i64 0, .int .i64 0, .int .i64 0, .int .i64 0] 31) = WA
    have bkA : Blk WA w.heap.size 31 #[.int .i64 0, .int .i64 0, .int .i64 0, .int .i64 0, .int .i64 0, .int .i64 0] := by rw [← hW]; exact Blk.new _ _ _
    have gA : Below w.heap.size w WA := by rw [← hW]; repeat' (first | with_reducible assumption | with_reducible exact Below.refl _ _ | (with_reducible refine Below.setCell ?_ ?_ _) | (with_reducible refine Below.alloc ?_ ?_ _) | (with_reducible refine Below.drew ?_) | (with_reducible refine below_dr ?_ _) | (with_reducible refine Below.trans ?_ (Below.mono (by with_reducible assumption) ?_)) | omega | (simp; done) | (simp; omega))
    clear hW
    refine (IP.out _ ((RD.out.below gA).more gA.size)).mono ?_
    rintro e W0 ⟨rfl, b0⟩
    have zA := b0.size
    have bk := bkA.carry b0
    have g0 : Below w.heap.size w W0 := gA.trans (b0.mono gA.size)
    have zW := g0.size
    go_wp2_with fail
    refine (isTol_yes _ _ t1 t2).mono ?_
    rintro e W0' ⟨rfl, rfl⟩
    have qa0 : W0.cell? ⟨g, o, none⟩ = some (.int .i64 a1) := (g0.cell (p := ⟨g, o, none⟩) hg).trans pa0
    have qa1 : W0.cell? ⟨g, o + 1, none⟩ = some (.int .i64 a2) := (g0.cell (p := ⟨g, o + 1, none⟩) hg).trans pa1
    have qb0 : W0.cell? ⟨g, o + 2, none⟩ = some (.int .i64 b1) := (g0.cell (p := ⟨g, o + 2, none⟩) hg).trans pb0
    have qb1 : W0.cell? ⟨g, o + 3, none⟩ = some (.int .i64 b2) := (g0.cell (p := ⟨g, o + 3, none⟩) hg).trans pb1
    have qz0 : W0.cell? ⟨g, o + jz * 2, none⟩ = some (.int .i64 z1) := (g0.cell (p := ⟨g, o + jz * 2, none⟩) hg).trans pz0
    have qz1 : W0.cell? ⟨g, o + jz * 2 + 1, none⟩ = some (.int .i64 z2) := (g0.cell (p := ⟨g, o + jz * 2 + 1, none⟩) hg).trans pz1
    have qy0 : W0.cell? ⟨g, o + jy * 2, none⟩ = some (.int .i64 y1) := (g0.cell (p := ⟨g, o + jy * 2, none⟩) hg).trans py0
    have qy1 : W0.cell? ⟨g, o + jy * 2 + 1, none⟩ = some (.int .i64 y2) := (g0.cell (p := ⟨g, o + jy * 2 + 1, none⟩) hg).trans py1
    have bz : w.heap.size < W0.heap.size := bk.lt
    have hgW : g < W0.heap.size := by omega
    clear IP bkA gA b0 pa0 pa1 pb0 pb1 pz0 pz1 py0 py1
    go_upto_region 6 with fail
    go_cut [7, 8] (fun s7 s8 wx => (∃ (g1 : Nat), s7 = .pointer (some ⟨g1, 0, none⟩) ∧ w.heap.size < g1 ∧ AtL g1 [.int .i64 X, .int .i64 Y] wx) ∧ s8 = .int .i64 0 ∧ Blk wx w.heap.size 31 #[.int .i64 0, .int .i64 0, .int .i64 0, .int .i64 0, .int .i64 0, .int .i64 0] ∧ Below W0.heap.size W0 wx)
    case first =>
      go_region_held3 (fun w' => (∀ b o, b < W0.heap.size → w'.cell? ⟨b, o, none⟩ = W0.cell? ⟨b, o, none⟩) ∧ (∀ b o, b < W0.heap.size → w'.frozen? ⟨b, o, none⟩ = W0.frozen? ⟨b, o, none⟩) ∧ W0.heap.size ≤ w'.heap.size)
        (first | ((try dsimp only); exact ⟨fun b o h => (by (repeat (first | with_reducible exact rfl | (with_reducible refine (cell_drew_at _ _).trans ?_) | (with_reducible refine (cell_set_at _ _ (by first | omega | (simp; done) | (simp; omega))).trans ?_) | (with_reducible refine (cell_alloc_at _ _ (by first | omega | (simp; done) | (simp; omega))).trans ?_) | (with_reducible refine (hcwF b o (by first | omega | (simp; done) | (simp; omega))).trans ?_)))), fun b o h => (by (repeat (first | with_reducible exact rfl | (with_reducible refine (frozen_drew_at _ _).trans ?_) | (with_reducible refine (World.frozen?_setCell _ _ _ _).trans ?_) | (with_reducible refine (frozen_alloc_at _ _ (by first | omega | (simp; done) | (simp; omega))).trans ?_) | (with_reducible refine (hfwF b o (by first | omega | (simp; done) | (simp; omega))).trans ?_)))), (by first | omega | (simp; done) | (simp; omega))⟩) | fail)
        (first
          | (go_at_call 51; (with_reducible refine (CL.out _).mono ?_); rintro e wF ⟨rfl, hbwF⟩; obtain ⟨hcwF, hfwF⟩ := bcell hbwF; have hzwF := hbwF.size; (try simp only [World.size_drew] at hcwF hfwF hzwF); (try simp only [World.size_alloc] at hcwF hfwF hzwF); (try have qW0 : W0.heap.size < wF.heap.size := (by omega))))
      all_goals
        go_wp2_with fail
        go_meet
      all_goals exact ⟨⟨_, rfl, by (try simp only [World.size_drew]); omega, by repeat' (first | ((with_reducible refine AtL.newAt ?_); (first | rfl | (simp; done))) | with_reducible assumption | with_reducible exact AtL.new _ _ _ | (with_reducible refine AtL.drew ?_) | (with_reducible apply AtL.store2) | (with_reducible refine AtL.alloc ?_ _) | (with_reducible refine AtL.far ?_ ?_ _ _) | (with_reducible refine AtL.below ?_ (by with_reducible assumption)) | omega | (simp; done) | (simp; omega))⟩, rfl, by repeat' (first | with_reducible assumption | with_reducible exact Blk.new _ _ _ | (with_reducible refine Blk.drew ?_) | (with_reducible refine Blk.carry ?_ (by with_reducible assumption)) | (with_reducible refine Blk.alloc ?_ _) | (with_reducible refine Blk.far ?_ ?_ _) | omega | (simp; done) | (simp; omega)), by repeat' (first | with_reducible assumption | with_reducible exact Below.refl _ _ | (with_reducible refine Below.setCell ?_ ?_ _) | (with_reducible refine Below.alloc ?_ ?_ _) | (with_reducible refine Below.drew ?_) | (with_reducible refine below_dr ?_ _) | (with_reducible refine Below.trans ?_ (Below.mono (by with_reducible assumption) ?_)) | omega | (simp; done) | (simp; omega))⟩
    case rest =>
      obtain ⟨⟨g1, rfl, gz1, at1⟩, rfl, bk1, bel1⟩ := hcut
      obtain ⟨W1, rfl⟩ : ∃ W : World, W = wc := ⟨_, rfl⟩
      have bzz := bel1.size
      have gW1 : Below w.heap.size w W1 := g0.trans (bel1.mono g0.size)
      have ra0 : W1.cell? ⟨g, o, none⟩ = some (.int .i64 a1) := (bel1.cell (p := ⟨g, o, none⟩) hgW).trans qa0
      have ra1 : W1.cell? ⟨g, o + 1, none⟩ = some (.int .i64 a2) := (bel1.cell (p := ⟨g, o + 1, none⟩) hgW).trans qa1
      have rb0 : W1.cell? ⟨g, o + 2, none⟩ = some (.int .i64 b1) := (bel1.cell (p := ⟨g, o + 2, none⟩) hgW).trans qb0
      have rb1 : W1.cell? ⟨g, o + 3, none⟩ = some (.int .i64 b2) := (bel1.cell (p := ⟨g, o + 3, none⟩) hgW).trans qb1
      have rz0 : W1.cell? ⟨g, o + jz * 2, none⟩ = some (.int .i64 z1) := (bel1.cell (p := ⟨g, o + jz * 2, none⟩) hgW).trans qz0
      have rz1 : W1.cell? ⟨g, o + jz * 2 + 1, none⟩ = some (.int .i64 z2) := (bel1.cell (p := ⟨g, o + jz * 2 + 1, none⟩) hgW).trans qz1
      have ry0 : W1.cell? ⟨g, o + jy * 2, none⟩ = some (.int .i64 y1) := (bel1.cell (p := ⟨g, o + jy * 2, none⟩) hgW).trans qy0
      have ry1 : W1.cell? ⟨g, o + jy * 2 + 1, none⟩ = some (.int .i64 y2) := (bel1.cell (p := ⟨g, o + jy * 2 + 1, none⟩) hgW).trans qy1
      have d0 := at1.cell 0 rfl
      have d1 := at1.cell 1 rfl
      have dz := at1.lt
      have gW2 : g < W1.heap.size := by omega
      clear qa0 qa1 qb0 qb1 qz0 qz1 qy0 qy1 CL
      go_upto_region 9 with fail
      go_cut [9] (fun s9 wx => (∃ q : Nat, s9 = .pointer (some ⟨q, 0, none⟩) ∧ w.heap.size < q ∧ AtL q [.int .i64 a1, .int .i64 a2, .int .i64 X, .int .i64 Y, .int .i64 z1, .int .i64 z2] wx) ∧ Blk wx w.heap.size 31 #[.int .i64 0, .int .i64 0, .int .i64 0, .int .i64 0, .int .i64 0, .int .i64 0] ∧ Below W1.heap.size W1 wx)
      case first =>
        go_region_held3 (fun w' => (∀ b o, b < W1.heap.size → w'.cell? ⟨b, o, none⟩ = W1.cell? ⟨b, o, none⟩) ∧ (∀ b o, b < W1.heap.size → w'.frozen? ⟨b, o, none⟩ = W1.frozen? ⟨b, o, none⟩) ∧ W1.heap.size ≤ w'.heap.size)
          (first | ((try dsimp only); exact ⟨fun b o h => (by (repeat (first | with_reducible exact rfl | (with_reducible refine (cell_drew_at _ _).trans ?_) | (with_reducible refine (cell_set_at _ _ (by first | omega | (simp; done) | (simp; omega))).trans ?_) | (with_reducible refine (cell_alloc_at _ _ (by first | omega | (simp; done) | (simp; omega))).trans ?_)))), fun b o h => (by (repeat (first | with_reducible exact rfl | (with_reducible refine (frozen_drew_at _ _).trans ?_) | (with_reducible refine (World.frozen?_setCell _ _ _ _).trans ?_) | (with_reducible refine (frozen_alloc_at _ _ (by first | omega | (simp; done) | (simp; omega))).trans ?_)))), (by first | omega | (simp; done) | (simp; omega))⟩) | fail)
          (first
            | fail)
        all_goals
          go_wp2_with fail
          go_meet
        all_goals exact ⟨⟨_, rfl, by (try simp only [World.size_drew]); omega, by repeat' (first | ((with_reducible refine AtL.newAt ?_); (first | rfl | (simp; done))) | with_reducible assumption | with_reducible exact AtL.new _ _ _ | (with_reducible refine AtL.drew ?_) | (with_reducible apply AtL.store6) | (with_reducible refine AtL.alloc ?_ _) | (with_reducible refine AtL.far ?_ ?_ _ _) | (with_reducible refine AtL.below ?_ (by with_reducible assumption)) | omega | (simp; done) | (simp; omega))⟩, by repeat' (first | with_reducible assumption | with_reducible exact Blk.new _ _ _ | (with_reducible refine Blk.drew ?_) | (with_reducible refine Blk.carry ?_ (by with_reducible assumption)) | (with_reducible refine Blk.alloc ?_ _) | (with_reducible refine Blk.far ?_ ?_ _) | omega | (simp; done) | (simp; omega)), by repeat' (first | with_reducible assumption | with_reducible exact Below.refl _ _ | (with_reducible refine Below.setCell ?_ ?_ _) | (with_reducible refine Below.alloc ?_ ?_ _) | (with_reducible refine Below.drew ?_) | (with_reducible refine below_dr ?_ _) | (with_reducible refine Below.trans ?_ (Below.mono (by with_reducible assumption) ?_)) | omega | (simp; done) | (simp; omega))⟩
      case rest =>
        obtain ⟨⟨q, rfl, gq, at2⟩, bk2, bel2⟩ := hcut
        obtain ⟨W2, rfl⟩ : ∃ W : World, W = wc := ⟨_, rfl⟩
        have bz2 := bel2.size
        have gW2b : Below w.heap.size w W2 := gW1.trans (bel2.mono gW1.size)
        have hz2 := gW2b.size
        have k0 := at2.cell 0 rfl
        have k1 := at2.cell 1 rfl
        have k2 := at2.cell 2 rfl
        have k3 := at2.cell 3 rfl
        have k4 := at2.cell 4 rfl
        have k5 := at2.cell 5 rfl
        have kz := at2.lt
        clear ra0 ra1 rb0 rb1 rz0 rz1 ry0 ry1 d0 d1 dz
        go_wp2_with fail
        refine (FL.out _).mono ?_
        rintro e W3 ⟨Af, kf, rfl, ow, bel3⟩
        have hz3 := bel3.size
        have gW3 : Below w.heap.size w W3 := gW2b.trans (bel3.mono hz2)
        have bk3 := bk2.carry bel3
        have at3 := at2.below bel3
        clear FL k0 k1 k2 k3 k4 k5 kz
        go_wp2_with fail
        refine (V1.out _ _ _ _ _ ((RD.out.below gW3).more (by omega)) (Rd.of_own (fun a => cPt_len a) (by omega) ow (Nat.le_refl _))).mono ?_
        rintro e W4 ⟨rfl, bel4⟩
        have hz4 := bel4.size
        have gW4 : Below w.heap.size w W4 := gW3.trans (bel4.mono gW3.size)
        have bk4 := bk3.carry bel4
        have at4 := at3.below bel4
        have ne1 : ¬ w.heap.size = q := by omega
        have k0 := at4.cell 0 rfl
        have k1 := at4.cell 1 rfl
        have k2 := at4.cell 2 rfl
        have k3 := at4.cell 3 rfl
        have k4 := at4.cell 4 rfl
        have k5 := at4.cell 5 rfl
        have kz := at4.lt
        have f0 := bk4.frozen 0
        have f1 := bk4.frozen 1
        have f2 := bk4.frozen 2
        have f3 := bk4.frozen 3
        have f4 := bk4.frozen 4
        have f5 := bk4.frozen 5
        have c0 := bk4.cell 0 rfl
        have c1 := bk4.cell 1 rfl
        have c2 := bk4.cell 2 rfl
        have c3 := bk4.cell 3 rfl
        have c4 := bk4.cell 4 rfl
        have c5 := bk4.cell 5 rfl
        go_wp2
        have bf := ((((((bk4.set_ 0 (.int .i64 a1)).set_ 1 (.int .i64 a2)).set_ 2 (.int .i64 X)).set_ 3 (.int .i64 Y)).set_ 4 (.int .i64 z1)).set_ 5 (.int .i64 z2))
        have r0 := bf.cell 0 rfl
        have r1 := bf.cell 1 rfl
        have r2 := bf.cell 2 rfl
        have r3 := bf.cell 3 rfl
        have r4 := bf.cell 4 rfl
        have r5 := bf.cell 5 rfl
        refine bodyPost_ret (v := .tuple #[.agg #[.int .i64 a1, .int .i64 a2, .int .i64 X, .int .i64 Y, .int .i64 z1, .int .i64 z2], .int .i64 0]) (by simp [results, Try.results19, go_sem, r0, r1, r2, r3, r4, r5]) rfl ⟨?_, ?_⟩
        · first | rfl | (rw [HG.out]; rfl)
        repeat' (first | with_reducible assumption | with_reducible exact Below.refl _ _ | (with_reducible refine Below.setCell ?_ ?_ _) | (with_reducible refine Below.alloc ?_ ?_ _) | (with_reducible refine Below.drew ?_) | (with_reducible refine below_dr ?_ _) | (with_reducible refine Below.trans ?_ (Below.mono (by with_reducible assumption) ?_)) | omega | (simp; done) | (simp; omega))
set_option maxRecDepth 100000 in
set_option maxHeartbeats 12800000 in
theorem implFitQuad_any (l : List APt) (A : Option Addr) (c : Nat) (t : Int) (w : World) (i_t : -9223372036854775808 ≤ t ∧ t ≤ 9223372036854775807) (hl : l.length ≤ 1048576) (rd : Rd cPt 2 w w.heap.size A l) :
    Calls Try.prog 19 #[.slice A l.length c, .int .i64 t] w (FitRet l t w) := by
  have RD := Lib.hid rd
  by_cases h3 : l.length < 3
  · have X := Lib.hid (fit_bad (l := l) (t := t) (by unfold fitOk; rw [show decide (3 ≤ l.length) = false from decide_eq_false (by omega), Bool.and_false]))
    obtain ⟨n, hn⟩ : ∃ n, n = l.length := ⟨_, rfl⟩
    (try rw [← hn] at IP)
    (try rw [← hn] at h3)
    rw [← hn] at hl ⊢
    have HN := Lib.hid hn
    clear hn
    have h3' : (n : Int) < 3 := by omega
    clear rd RD
    go_enter Try.func19, Try.ntmps19
    go_upto_region 2 with fail
    generalize hW : w.alloc (.cells #[.int .i64 0, .int .i64 0, .int .i64 0, .int .i64 0, .int .i64 0, .int .i64 0] 31) = W0
    have bk : Blk W0 w.heap.size 31 #[.int .i64 0, .int .i64 0, .int .i64 0, .int .i64 0, .int .i64 0, .int .i64 0] := by rw [← hW]; exact Blk.new _ _ _
    have g0 : Below w.heap.size w W0 := by rw [← hW]; repeat' (first | with_reducible assumption | with_reducible exact Below.refl _ _ | (with_reducible refine Below.setCell ?_ ?_ _) | (with_reducible refine Below.alloc ?_ ?_ _) | (with_reducible refine Below.drew ?_) | (with_reducible refine below_dr ?_ _) | (with_reducible refine Below.trans ?_ (Below.mono (by with_reducible assumption) ?_)) | omega | (simp; done) | (simp; omega))
    have bz : w.heap.size < W0.heap.size := bk.lt
    clear hW
    have f0 := bk.frozen 0
    have f1 := bk.frozen 1
    have f2 := bk.frozen 2
    have f3 := bk.frozen 3
    have f4 := bk.frozen 4
    have f5 := bk.frozen 5
    have c0 := bk.cell 0 rfl
    have c1 := bk.cell 1 rfl
    have c2 := bk.cell 2 rfl
    have c3 := bk.cell 3 rfl
    have c4 := bk.cell 4 rfl
    have c5 := bk.cell 5 rfl
    go_wp2
    have bf := (((((bk.set_ 0 (.int .i64 0)).set_ 1 (.int .i64 0)).set_ 2 (.int .i64 0)).set_ 3 (.int .i64 0)).set_ 4 (.int .i64 0)).set_ 5 (.int .i64 0)
    have r0 := bf.cell 0 rfl
    have r1 := bf.cell 1 rfl
    have r2 := bf.cell 2 rfl
    have r3 := bf.cell 3 rfl
    have r4 := bf.cell 4 rfl
    have r5 := bf.cell 5 rfl
    refine bodyPost_ret (v := .tuple #[.agg #[.int .i64 0, .int .i64 0, .int .i64 0, .int .i64 0, .int .i64 0, .int .i64 0], .int .i64 1]) (by simp [results, Try.results19, go_sem, r0, r1, r2, r3, r4, r5]) rfl (FitRet.no X.out.1 X.out.2 ?_)
    repeat' (first | with_reducible assumption | with_reducible exact Below.refl _ _ | (with_reducible refine Below.setCell ?_ ?_ _) | (with_reducible refine Below.alloc ?_ ?_ _) | (with_reducible refine Below.drew ?_) | (with_reducible refine below_dr ?_ _) | (with_reducible refine Below.trans ?_ (Below.mono (by with_reducible assumption) ?_)) | omega | (simp; done) | (simp; omega))
  have IP := Lib.hid (fun w rd => isPath_any l A c w hl rd)
  clear rd
  rcases hv : vRg l with _ | _
  · have X := Lib.hid (fit_bad (l := l) (t := t) (by unfold fitOk; rw [hv]; rfl))
    rw [hv] at IP
    clear hv
    obtain ⟨n, hn⟩ : ∃ n, n = l.length := ⟨_, rfl⟩
    (try rw [← hn] at IP)
    (try rw [← hn] at h3)
    rw [← hn] at hl ⊢
    have HN := Lib.hid hn
    clear hn
    have h3' : ¬ (n : Int) < 3 := by omega
    have h3'' : (3 : Int) ≤ (n : Int) := by omega
    go_enter Try.func19, Try.ntmps19
    go_wp2_with fail
    generalize hW : w.alloc (.cells #[.int .i64 0, .int .i64 0, .int .i64 0, .int .i64 0, .int .i64 0, .int .i64 0] 31) = W0
    have bk : Blk W0 w.heap.size 31 #[.int .i64 0, .int .i64 0, .int .i64 0, .int .i64 0, .int .i64 0, .int .i64 0] := by rw [← hW]; exact Blk.new _ _ _
    have g0 : Below w.heap.size w W0 := by rw [← hW]; repeat' (first | with_reducible assumption | with_reducible exact Below.refl _ _ | (with_reducible refine Below.setCell ?_ ?_ _) | (with_reducible refine Below.alloc ?_ ?_ _) | (with_reducible refine Below.drew ?_) | (with_reducible refine below_dr ?_ _) | (with_reducible refine Below.trans ?_ (Below.mono (by with_reducible assumption) ?_)) | omega | (simp; done) | (simp; omega))
    have bz : w.heap.size < W0.heap.size := bk.lt
    clear hW
    refine (IP.out _ ((RD.out.below g0).more (by omega))).mono ?_
    rintro e W1 ⟨rfl, b1⟩
    have z1 := b1.size
    have g1 : Below w.heap.size w W1 := g0.trans (b1.mono g0.size)
    have bk1 := bk.carry b1
    have f0 := bk1.frozen 0
    have f1 := bk1.frozen 1
    have f2 := bk1.frozen 2
    have f3 := bk1.frozen 3
    have f4 := bk1.frozen 4
    have f5 := bk1.frozen 5
    have c0 := bk1.cell 0 rfl
    have c1 := bk1.cell 1 rfl
    have c2 := bk1.cell 2 rfl
    have c3 := bk1.cell 3 rfl
    have c4 := bk1.cell 4 rfl
    have c5 := bk1.cell 5 rfl
    go_wp2
    have bf := (((((bk1.set_ 0 (.int .i64 0)).set_ 1 (.int .i64 0)).set_ 2 (.int .i64 0)).set_ 3 (.int .i64 0)).set_ 4 (.int .i64 0)).set_ 5 (.int .i64 0)
    have r0 := bf.cell 0 rfl
    have r1 := bf.cell 1 rfl
    have r2 := bf.cell 2 rfl
    have r3 := bf.cell 3 rfl
    have r4 := bf.cell 4 rfl
    have r5 := bf.cell 5 rfl
    refine bodyPost_ret (v := .tuple #[.agg #[.int .i64 0, .int .i64 0, .int .i64 0, .int .i64 0, .int .i64 0, .int .i64 0], .int .i64 1]) (by simp [results, Try.results19, go_sem, r0, r1, r2, r3, r4, r5]) rfl (FitRet.no X.out.1 X.out.2 ?_)
    repeat' (first | with_reducible assumption | with_reducible exact Below.refl _ _ | (with_reducible refine Below.setCell ?_ ?_ _) | (with_reducible refine Below.alloc ?_ ?_ _) | (with_reducible refine Below.drew ?_) | (with_reducible refine below_dr ?_ _) | (with_reducible refine Below.trans ?_ (Below.mono (by with_reducible assumption) ?_)) | omega | (simp; done) | (simp; omega))
  have hok : fitOk l = true := by unfold fitOk; rw [hv]; simp; omega
  rcases ht : tolB t with _ | _
  · have X := Lib.hid (fit_tol hok ht)
    have TN := Lib.hid (tol_no ht)
    rw [hv] at IP
    clear ht hv hok
    obtain ⟨n, hn⟩ : ∃ n, n = l.length := ⟨_, rfl⟩
    (try rw [← hn] at IP)
    (try rw [← hn] at h3)
    rw [← hn] at hl ⊢
    have HN := Lib.hid hn
    clear hn
    have h3' : ¬ (n : Int) < 3 := by omega
    have h3'' : (3 : Int) ≤ (n : Int) := by omega
    go_enter Try.func19, Try.ntmps19
    go_wp2_with fail
    generalize hW : w.alloc (.cells #[.int .i64 0, .int .i64 0, .int .i64 0, .int .i64 0, .int .i64 0, .int .i64 0] 31) = W0
    have bk : Blk W0 w.heap.size 31 #[.int .i64 0, .int .i64 0, .int .i64 0, .int .i64 0, .int .i64 0, .int .i64 0] := by rw [← hW]; exact Blk.new _ _ _
    have g0 : Below w.heap.size w W0 := by rw [← hW]; repeat' (first | with_reducible assumption | with_reducible exact Below.refl _ _ | (with_reducible refine Below.setCell ?_ ?_ _) | (with_reducible refine Below.alloc ?_ ?_ _) | (with_reducible refine Below.drew ?_) | (with_reducible refine below_dr ?_ _) | (with_reducible refine Below.trans ?_ (Below.mono (by with_reducible assumption) ?_)) | omega | (simp; done) | (simp; omega))
    have bz : w.heap.size < W0.heap.size := bk.lt
    clear hW
    refine (IP.out _ ((RD.out.below g0).more (by omega))).mono ?_
    rintro e W1 ⟨rfl, b1⟩
    have z1 := b1.size
    have g1 : Below w.heap.size w W1 := g0.trans (b1.mono g0.size)
    have bk1 := bk.carry b1
    go_wp2_with fail
    refine (isTol_no _ _ TN.out).mono ?_
    rintro e W2 ⟨rfl, rfl⟩
    have f0 := bk1.frozen 0
    have f1 := bk1.frozen 1
    have f2 := bk1.frozen 2
    have f3 := bk1.frozen 3
    have f4 := bk1.frozen 4
    have f5 := bk1.frozen 5
    have c0 := bk1.cell 0 rfl
    have c1 := bk1.cell 1 rfl
    have c2 := bk1.cell 2 rfl
    have c3 := bk1.cell 3 rfl
    have c4 := bk1.cell 4 rfl
    have c5 := bk1.cell 5 rfl
    go_wp2
    have bf := (((((bk1.set_ 0 (.int .i64 0)).set_ 1 (.int .i64 0)).set_ 2 (.int .i64 0)).set_ 3 (.int .i64 0)).set_ 4 (.int .i64 0)).set_ 5 (.int .i64 0)
    have r0 := bf.cell 0 rfl
    have r1 := bf.cell 1 rfl
    have r2 := bf.cell 2 rfl
    have r3 := bf.cell 3 rfl
    have r4 := bf.cell 4 rfl
    have r5 := bf.cell 5 rfl
    refine bodyPost_ret (v := .tuple #[.agg #[.int .i64 0, .int .i64 0, .int .i64 0, .int .i64 0, .int .i64 0, .int .i64 0], .int .i64 2]) (by simp [results, Try.results19, go_sem, r0, r1, r2, r3, r4, r5]) rfl (FitRet.no X.out.1 X.out.2 ?_)
    repeat' (first | with_reducible assumption | with_reducible exact Below.refl _ _ | (with_reducible refine Below.setCell ?_ ?_ _) | (with_reducible refine Below.alloc ?_ ?_ _) | (with_reducible refine Below.drew ?_) | (with_reducible refine below_dr ?_ _) | (with_reducible refine Below.trans ?_ (Below.mono (by with_reducible assumption) ?_)) | omega | (simp; done) | (simp; omega))
  obtain ⟨t1, t2⟩ := tol_yes ht
  obtain ⟨l400, l3, pv, _⟩ := fit_parts hok
  have FT := implFit_core (ptAt l 0).1 (ptAt l 0).2 (ptAt l 1).1 (ptAt l 1).2 (ptAt l (l.length - 1)).1 (ptAt l (l.length - 1)).2 (ptAt l (l.length - 2)).1 (ptAt l (l.length - 2)).2 t l A c w i_t l400 l3 RD.out hv (pt_some (by omega)) (pt_some (by omega)) (pt_some (by omega)) (pt_some (by omega)) t1 t2
  rw [show fqG (ptAt l 0).1 (ptAt l 0).2 (ptAt l 1).1 (ptAt l 1).2 (ptAt l (l.length - 1)).1 (ptAt l (l.length - 1)).2 (ptAt l (l.length - 2)).1 (ptAt l (l.length - 2)).2 l t = fitG l t from rfl, show fqX (ptAt l 0).1 (ptAt l 0).2 (ptAt l 1).1 (ptAt l 1).2 (ptAt l (l.length - 1)).1 (ptAt l (l.length - 1)).2 (ptAt l (l.length - 2)).1 (ptAt l (l.length - 2)).2 = fitX l from rfl, show fqY (ptAt l 0).1 (ptAt l 0).2 (ptAt l 1).1 (ptAt l 1).2 (ptAt l (l.length - 1)).1 (ptAt l (l.length - 1)).2 (ptAt l (l.length - 2)).1 (ptAt l (l.length - 2)).2 = fitY l from rfl] at FT
  refine FT.mono ?_
  rintro e w' ⟨rfl, hb⟩
  refine ⟨?_, hb⟩
  have e1 : fitE l t = fitG l t := by unfold fitE; rw [hok, ht]; rfl
  have e2 : fitC l t = bif fitG l t then 0 else 3 := by unfold fitC; rw [hok, ht]; rfl
  rw [e1, e2]
set_option maxRecDepth 100000 in
theorem open_rowPt {H : Type} {enc : TypeId × Value → H} {w : World} {r : Reach} {base b0 : Nat} {spare : Nat → Bool} {held : Bool} {v : Value} {d : DataW H} {p : List MemPlace} (hv : Value.okWide Try.prog w r b0 (43 : Nat) v) (h : DataW.Trod enc Try.prog w base spare held (43 : Nat) v d p) :
    ∃ (l : List APt) (A : Option Addr) (c : Nat), v = .slice A l.length c ∧ l.length ≤ c ∧ c ≤ maxLen ∧ Rd cPt 2 w w.heap.size A l := by
  obtain ⟨a, n, c, rfl⟩ := okWide_slice Try.underlying43 hv
  obtain ⟨fuel, hf⟩ := h
  obtain ⟨A, n', c', l, hcs, hl, hnc, hcm, hr, -⟩ := open_PtS hf
  simp [Value.cells] at hcs
  obtain ⟨rfl, rfl, rfl⟩ := hcs
  exact ⟨l, a, c, by rw [hl], by omega, hcm, hr⟩
set_option maxHeartbeats 1600000 in
theorem eqQuad_same (x0 : Int) (x1 : Int) (x2 : Int) (x3 : Int) (x4 : Int) (x5 : Int) (w : World) :
    Calls Try.prog 20 #[.agg #[.int .i64 x0, .int .i64 x1, .int .i64 x2, .int .i64 x3, .int .i64 x4, .int .i64 x5], .agg #[.int .i64 x0, .int .i64 x1, .int .i64 x2, .int .i64 x3, .int .i64 x4, .int .i64 x5]] w fun e w' => e = .returned (.bool true) ∧ Below w.heap.size w w' := by
  go_enter Try.func20, Try.ntmps20
  go_wp2_with fail
  refine (eqPt_same x0 x1 _).mono ?_
  rintro e wZ0 ⟨rfl, hbwZ0⟩
  obtain ⟨hcwZ0, hfwZ0⟩ := bcell hbwZ0
  have hzwZ0 := hbwZ0.size
  (try simp only [World.size_setCell] at hcwZ0 hfwZ0 hzwZ0)
  (try simp only [World.size_drew] at hcwZ0 hfwZ0 hzwZ0)
  (try simp only [World.size_alloc] at hcwZ0 hfwZ0 hzwZ0)
  have qwZ00 : w.heap.size < wZ0.heap.size := by omega
  have qwZ01 : w.heap.size + 1 < wZ0.heap.size := by omega
  go_wp2_with fail
  refine (eqPt_same x2 x3 _).mono ?_
  rintro e wZ1 ⟨rfl, hbwZ1⟩
  obtain ⟨hcwZ1, hfwZ1⟩ := bcell hbwZ1
  have hzwZ1 := hbwZ1.size
  (try simp only [World.size_setCell] at hcwZ1 hfwZ1 hzwZ1)
  (try simp only [World.size_drew] at hcwZ1 hfwZ1 hzwZ1)
  (try simp only [World.size_alloc] at hcwZ1 hfwZ1 hzwZ1)
  have qwZ10 : w.heap.size < wZ1.heap.size := by omega
  have qwZ11 : w.heap.size + 1 < wZ1.heap.size := by omega
  go_wp2_with fail
  refine (eqPt_same x4 x5 _).mono ?_
  rintro e wZ2 ⟨rfl, hbwZ2⟩
  obtain ⟨hcwZ2, hfwZ2⟩ := bcell hbwZ2
  have hzwZ2 := hbwZ2.size
  (try simp only [World.size_setCell] at hcwZ2 hfwZ2 hzwZ2)
  (try simp only [World.size_drew] at hcwZ2 hfwZ2 hzwZ2)
  (try simp only [World.size_alloc] at hcwZ2 hfwZ2 hzwZ2)
  have qwZ20 : w.heap.size < wZ2.heap.size := by omega
  have qwZ21 : w.heap.size + 1 < wZ2.heap.size := by omega
  go_wp2_with fail
  go_ret
  exact ⟨rfl, by repeat' (first | with_reducible assumption | with_reducible exact Below.refl _ _ | (with_reducible refine Below.setCell ?_ ?_ _) | (with_reducible refine Below.alloc ?_ ?_ _) | (with_reducible refine Below.drew ?_) | (with_reducible refine below_dr ?_ _) | (with_reducible refine Below.trans ?_ (Below.mono (by with_reducible assumption) ?_)) | omega | (simp; done) | (simp; omega))⟩
set_option maxRecDepth 100000 in
set_option maxHeartbeats 6400000 in
theorem walk_FitQuad (al : List APt) (aA : Option Addr) (ac : Nat) (t : Int)  (w_t : (Lit.int .i64 t).wf = true) (w : World) (nc_a : al.length ≤ ac) (cm_a : ac ≤ maxLen) (rd_a : Rd cPt 2 w w.heap.size aA al) :
    Calls Try.prog 5 #[.slice aA al.length ac, .int .i64 t] w fun e w' => e = .returned (.bool true) ∧ Below w.heap.size w w' := by
  have hm_a : al.length ≤ 9223372036854775807 := by unfold maxLen at cm_a; omega
  clear nc_a cm_a
  have i_t := i64_bounds w_t
  clear w_t
  have C1 := Lib.hid (fun A c w ha ra => specFitQuad_any al A c t w i_t ha ra)
  have C2 := Lib.hid (fun A c w ha ra => implFitQuad_any al A c t w i_t ha ra)
  unfold FitRet RT6 at C1 C2
  generalize pk (fitE al t) (ptAt al 0).1 = q0 at C1 C2
  generalize pk (fitE al t) (ptAt al 0).2 = q1 at C1 C2
  generalize pk (fitE al t) (fitX al) = q2 at C1 C2
  generalize pk (fitE al t) (fitY al) = q3 at C1 C2
  generalize pk (fitE al t) (ptAt al (al.length - 1)).1 = q4 at C1 C2
  generalize pk (fitE al t) (ptAt al (al.length - 1)).2 = q5 at C1 C2
  generalize fitC al t = cc at C1 C2
  have e_cc : (cc != cc) = false := by simp
  clear i_t
  go_enter Try.func5, Try.ntmps5
  go_wp2_with fail
  have rd_aw : Rd cPt 2 w (w.heap.size) aA al := rd_a
  clear rd_a
  have hV0 : 0 ≤ (1048576 : Int) ∧ (1048576 : Int) ≤ 1048576 := by omega
  rcases Int.lt_or_le 1048576 (al.length : Int) with hfit | hfit
  · refine (szPtS_no al aA ac 1048576 _ (by omega) (by omega) hm_a hfit).mono ?_
    rintro e wN ⟨rfl, hb⟩
    go_wp2_with fail
    go_ret
    exact ⟨rfl, by repeat' (first | with_reducible assumption | with_reducible exact Below.refl _ _ | (with_reducible refine Below.setCell ?_ ?_ _) | (with_reducible refine Below.alloc ?_ ?_ _) | (with_reducible refine Below.drew ?_) | (with_reducible refine below_dr ?_ _) | (with_reducible refine Below.trans ?_ (Below.mono (by with_reducible assumption) ?_)) | omega | (simp; done) | (simp; omega))⟩
  have hl_a : al.length ≤ 1048576 := by omega
  refine (szPtS_yes al aA ac 1048576 _ (by omega) (by omega) hm_a hfit).mono ?_
  obtain ⟨V0, hV⟩ : ∃ V : Int, V = 1048576 - al.length := ⟨_, rfl⟩
  have hVV : 0 ≤ V0 ∧ V0 ≤ 1048576 := by omega
  rw [← hV]
  rintro e wS0 ⟨rfl, hbwS0⟩
  clear hV hfit hV0
  obtain ⟨hV0_0, hV1_0⟩ := hVV
  have zwS0 := hbwS0.size
  (try simp only [World.size_setCell] at zwS0)
  (try simp only [World.size_drew] at zwS0)
  (try simp only [World.size_alloc] at zwS0)
  have qwS0 : w.heap.size ≤ wS0.heap.size := by omega
  have rd_awS0 : Rd cPt 2 wS0 (w.heap.size) aA al := by repeat' (first | with_reducible assumption | (with_reducible refine Rd.drew ?_) | (with_reducible refine Rd.carry ?_ (by with_reducible assumption) ?_) | (with_reducible refine Rd.alloc ?_ ?_ _) | (with_reducible refine Rd.setCell ?_ ?_ _) | omega | (simp; done) | (simp; omega))
  have bn : Below w.heap.size w wS0 := by repeat' (first | with_reducible assumption | with_reducible exact Below.refl _ _ | (with_reducible refine Below.setCell ?_ ?_ _) | (with_reducible refine Below.alloc ?_ ?_ _) | (with_reducible refine Below.drew ?_) | (with_reducible refine below_dr ?_ _) | (with_reducible refine Below.trans ?_ (Below.mono (by with_reducible assumption) ?_)) | omega | (simp; done) | (simp; omega))
  have bwS0 := Lib.hid bn
  clear bn
  clear hbwS0
  clear rd_aw
  go_wp2_with fail
  refine (toPtS_any al aA ac _ hl_a ?_).mono ?_
  · (refine Rd.more (B := w.heap.size) ?_ (by first | omega | ((try simp only [World.size_setCell]); (try simp only [World.size_drew]); (try simp only [World.size_alloc]); omega) | (simp; done) | (simp; omega))); (repeat' (first | with_reducible assumption | (with_reducible refine Rd.drew ?_) | (with_reducible refine Rd.carry ?_ (by with_reducible assumption) ?_) | (with_reducible refine Rd.alloc ?_ ?_ _) | (with_reducible refine Rd.setCell ?_ ?_ _) | omega | (simp; done) | (simp; omega)))
  intro e wA0 hq
  obtain ⟨gA_a, rfl, ow, hbwA0⟩ := hq
  have zwA0 := hbwA0.size
  (try simp only [World.size_setCell] at zwA0)
  (try simp only [World.size_drew] at zwA0)
  (try simp only [World.size_alloc] at zwA0)
  have qwA0 : w.heap.size ≤ wA0.heap.size := by omega
  have rd_awA0 : Rd cPt 2 wA0 (w.heap.size) aA al := by repeat' (first | with_reducible assumption | (with_reducible refine Rd.drew ?_) | (with_reducible refine Rd.carry ?_ (by with_reducible assumption) ?_) | (with_reducible refine Rd.alloc ?_ ?_ _) | (with_reducible refine Rd.setCell ?_ ?_ _) | omega | (simp; done) | (simp; omega))
  have bp := bwS0.out
  have bn : Below w.heap.size w wA0 := by repeat' (first | with_reducible assumption | with_reducible exact Below.refl _ _ | (with_reducible refine Below.setCell ?_ ?_ _) | (with_reducible refine Below.alloc ?_ ?_ _) | (with_reducible refine Below.drew ?_) | (with_reducible refine below_dr ?_ _) | (with_reducible refine Below.trans ?_ (Below.mono (by with_reducible assumption) ?_)) | omega | (simp; done) | (simp; omega))
  have bwA0 := Lib.hid bn
  clear bn
  clear bp bwS0
  clear hbwA0
  clear rd_awS0
  have ra_awA0 : Rd cPt 2 wA0 (wA0.heap.size) (some ⟨gA_a, 0, none⟩) al := Rd.of_own (fun a => cPt_len a) (by omega) ow (Nat.le_refl _)
  clear ow
  go_wp2_with fail
  refine (C1.out (some ⟨gA_a, 0, none⟩) al.length _ hl_a ?_).mono ?_
  · (refine Rd.more (B := wA0.heap.size) ?_ (by first | omega | ((try simp only [World.size_setCell]); (try simp only [World.size_drew]); (try simp only [World.size_alloc]); omega) | (simp; done) | (simp; omega))); (repeat' (first | with_reducible assumption | (with_reducible refine Rd.drew ?_) | (with_reducible refine Rd.carry ?_ (by with_reducible assumption) ?_) | (with_reducible refine Rd.alloc ?_ ?_ _) | (with_reducible refine Rd.setCell ?_ ?_ _) | omega | (simp; done) | (simp; omega)))
  rintro e wB ⟨rfl, hbwB⟩
  have zwB := hbwB.size
  (try simp only [World.size_setCell] at zwB)
  (try simp only [World.size_drew] at zwB)
  (try simp only [World.size_alloc] at zwB)
  have qwB : w.heap.size ≤ wB.heap.size := by omega
  have rd_awB : Rd cPt 2 wB (w.heap.size) aA al := by repeat' (first | with_reducible assumption | (with_reducible refine Rd.drew ?_) | (with_reducible refine Rd.carry ?_ (by with_reducible assumption) ?_) | (with_reducible refine Rd.alloc ?_ ?_ _) | (with_reducible refine Rd.setCell ?_ ?_ _) | omega | (simp; done) | (simp; omega))
  have ra_awB : Rd cPt 2 wB (wA0.heap.size) (some ⟨gA_a, 0, none⟩) al := by repeat' (first | with_reducible assumption | (with_reducible refine Rd.drew ?_) | (with_reducible refine Rd.carry ?_ (by with_reducible assumption) ?_) | (with_reducible refine Rd.alloc ?_ ?_ _) | (with_reducible refine Rd.setCell ?_ ?_ _) | omega | (simp; done) | (simp; omega))
  have bp := bwA0.out
  have bn : Below w.heap.size w wB := by repeat' (first | with_reducible assumption | with_reducible exact Below.refl _ _ | (with_reducible refine Below.setCell ?_ ?_ _) | (with_reducible refine Below.alloc ?_ ?_ _) | (with_reducible refine Below.drew ?_) | (with_reducible refine below_dr ?_ _) | (with_reducible refine Below.trans ?_ (Below.mono (by with_reducible assumption) ?_)) | omega | (simp; done) | (simp; omega))
  have bwB := Lib.hid bn
  clear bn
  clear bp bwA0
  clear hbwB
  clear rd_awA0
  clear ra_awA0
  clear ra_awB
  go_wp2_with fail
  refine (toPtS_any al aA ac _ hl_a ?_).mono ?_
  · (refine Rd.more (B := w.heap.size) ?_ (by first | omega | ((try simp only [World.size_setCell]); (try simp only [World.size_drew]); (try simp only [World.size_alloc]); omega) | (simp; done) | (simp; omega))); (repeat' (first | with_reducible assumption | (with_reducible refine Rd.drew ?_) | (with_reducible refine Rd.carry ?_ (by with_reducible assumption) ?_) | (with_reducible refine Rd.alloc ?_ ?_ _) | (with_reducible refine Rd.setCell ?_ ?_ _) | omega | (simp; done) | (simp; omega)))
  intro e wX0 hq
  obtain ⟨gX_a, rfl, ow, hbwX0⟩ := hq
  have zwX0 := hbwX0.size
  (try simp only [World.size_setCell] at zwX0)
  (try simp only [World.size_drew] at zwX0)
  (try simp only [World.size_alloc] at zwX0)
  have qwX0 : w.heap.size ≤ wX0.heap.size := by omega
  have rd_awX0 : Rd cPt 2 wX0 (w.heap.size) aA al := by repeat' (first | with_reducible assumption | (with_reducible refine Rd.drew ?_) | (with_reducible refine Rd.carry ?_ (by with_reducible assumption) ?_) | (with_reducible refine Rd.alloc ?_ ?_ _) | (with_reducible refine Rd.setCell ?_ ?_ _) | omega | (simp; done) | (simp; omega))
  have bx_wwX0 : AtL (wB.heap.size) [.int .i64 q0, .int .i64 q1, .int .i64 q2, .int .i64 q3, .int .i64 q4, .int .i64 q5] wX0 := by repeat' (first | with_reducible assumption | with_reducible exact AtL.new _ _ _ | ((with_reducible refine AtL.newAt ?_); (first | rfl | (simp; done))) | (with_reducible refine AtL.drew ?_) | (with_reducible refine AtL.below ?_ (by with_reducible assumption)) | (with_reducible refine AtL.alloc ?_ _) | (with_reducible refine AtL.far ?_ ?_ _ _) | omega | (simp; done) | (simp; omega))
  have bp := bwB.out
  have bn : Below w.heap.size w wX0 := by repeat' (first | with_reducible assumption | with_reducible exact Below.refl _ _ | (with_reducible refine Below.setCell ?_ ?_ _) | (with_reducible refine Below.alloc ?_ ?_ _) | (with_reducible refine Below.drew ?_) | (with_reducible refine below_dr ?_ _) | (with_reducible refine Below.trans ?_ (Below.mono (by with_reducible assumption) ?_)) | omega | (simp; done) | (simp; omega))
  have bwX0 := Lib.hid bn
  clear bn
  clear bp bwB
  clear hbwX0
  clear rd_awB
  have rx_awX0 : Rd cPt 2 wX0 (wX0.heap.size) (some ⟨gX_a, 0, none⟩) al := Rd.of_own (fun a => cPt_len a) (by omega) ow (Nat.le_refl _)
  clear ow
  go_wp2_with fail
  refine (C2.out (some ⟨gX_a, 0, none⟩) al.length _ hl_a ?_).mono ?_
  · (refine Rd.more (B := wX0.heap.size) ?_ (by first | omega | ((try simp only [World.size_setCell]); (try simp only [World.size_drew]); (try simp only [World.size_alloc]); omega) | (simp; done) | (simp; omega))); (repeat' (first | with_reducible assumption | (with_reducible refine Rd.drew ?_) | (with_reducible refine Rd.carry ?_ (by with_reducible assumption) ?_) | (with_reducible refine Rd.alloc ?_ ?_ _) | (with_reducible refine Rd.setCell ?_ ?_ _) | omega | (simp; done) | (simp; omega)))
  rintro e wI ⟨rfl, hbwI⟩
  have zwI := hbwI.size
  (try simp only [World.size_setCell] at zwI)
  (try simp only [World.size_drew] at zwI)
  (try simp only [World.size_alloc] at zwI)
  have qwI : w.heap.size ≤ wI.heap.size := by omega
  have rd_awI : Rd cPt 2 wI (w.heap.size) aA al := by repeat' (first | with_reducible assumption | (with_reducible refine Rd.drew ?_) | (with_reducible refine Rd.carry ?_ (by with_reducible assumption) ?_) | (with_reducible refine Rd.alloc ?_ ?_ _) | (with_reducible refine Rd.setCell ?_ ?_ _) | omega | (simp; done) | (simp; omega))
  have bx_wwI : AtL (wB.heap.size) [.int .i64 q0, .int .i64 q1, .int .i64 q2, .int .i64 q3, .int .i64 q4, .int .i64 q5] wI := by repeat' (first | with_reducible assumption | with_reducible exact AtL.new _ _ _ | ((with_reducible refine AtL.newAt ?_); (first | rfl | (simp; done))) | (with_reducible refine AtL.drew ?_) | (with_reducible refine AtL.below ?_ (by with_reducible assumption)) | (with_reducible refine AtL.alloc ?_ _) | (with_reducible refine AtL.far ?_ ?_ _ _) | omega | (simp; done) | (simp; omega))
  have rx_awI : Rd cPt 2 wI (wX0.heap.size) (some ⟨gX_a, 0, none⟩) al := by repeat' (first | with_reducible assumption | (with_reducible refine Rd.drew ?_) | (with_reducible refine Rd.carry ?_ (by with_reducible assumption) ?_) | (with_reducible refine Rd.alloc ?_ ?_ _) | (with_reducible refine Rd.setCell ?_ ?_ _) | omega | (simp; done) | (simp; omega))
  have bp := bwX0.out
  have bn : Below w.heap.size w wI := by repeat' (first | with_reducible assumption | with_reducible exact Below.refl _ _ | (with_reducible refine Below.setCell ?_ ?_ _) | (with_reducible refine Below.alloc ?_ ?_ _) | (with_reducible refine Below.drew ?_) | (with_reducible refine below_dr ?_ _) | (with_reducible refine Below.trans ?_ (Below.mono (by with_reducible assumption) ?_)) | omega | (simp; done) | (simp; omega))
  have bwI := Lib.hid bn
  clear bn
  clear bp bwX0
  clear hbwI
  clear rd_awX0
  clear bx_wwX0
  clear rx_awX0
  have kbx_w0 := bx_wwI.cell 0 rfl
  have kbx_w1 := bx_wwI.cell 1 rfl
  have kbx_w2 := bx_wwI.cell 2 rfl
  have kbx_w3 := bx_wwI.cell 3 rfl
  have kbx_w4 := bx_wwI.cell 4 rfl
  have kbx_w5 := bx_wwI.cell 5 rfl
  have lbx_w := bx_wwI.lt
  go_wp2_with fail
  clear kbx_w0 kbx_w1 kbx_w2 kbx_w3 kbx_w4 kbx_w5 lbx_w
  refine (eqQuad_same q0 q1 q2 q3 q4 q5 _).mono ?_
  rintro e wQ ⟨rfl, hbwQ⟩
  clear bx_wwI
  have zwQ := hbwQ.size
  (try simp only [World.size_setCell] at zwQ)
  (try simp only [World.size_drew] at zwQ)
  (try simp only [World.size_alloc] at zwQ)
  have qwQ : w.heap.size ≤ wQ.heap.size := by omega
  have rd_awQ : Rd cPt 2 wQ (w.heap.size) aA al := by repeat' (first | with_reducible assumption | (with_reducible refine Rd.drew ?_) | (with_reducible refine Rd.carry ?_ (by with_reducible assumption) ?_) | (with_reducible refine Rd.alloc ?_ ?_ _) | (with_reducible refine Rd.setCell ?_ ?_ _) | omega | (simp; done) | (simp; omega))
  have rx_awQ : Rd cPt 2 wQ (wX0.heap.size) (some ⟨gX_a, 0, none⟩) al := by repeat' (first | with_reducible assumption | (with_reducible refine Rd.drew ?_) | (with_reducible refine Rd.carry ?_ (by with_reducible assumption) ?_) | (with_reducible refine Rd.alloc ?_ ?_ _) | (with_reducible refine Rd.setCell ?_ ?_ _) | omega | (simp; done) | (simp; omega))
  have bp := bwI.out
  have bn : Below w.heap.size w wQ := by repeat' (first | with_reducible assumption | with_reducible exact Below.refl _ _ | (with_reducible refine Below.setCell ?_ ?_ _) | (with_reducible refine Below.alloc ?_ ?_ _) | (with_reducible refine Below.drew ?_) | (with_reducible refine below_dr ?_ _) | (with_reducible refine Below.trans ?_ (Below.mono (by with_reducible assumption) ?_)) | omega | (simp; done) | (simp; omega))
  have bwQ := Lib.hid bn
  clear bn
  clear bp bwI
  clear hbwQ
  clear rd_awI
  clear rx_awI
  go_wp2_with fail
  refine (toPtS_any al aA ac _ hl_a ?_).mono ?_
  · (refine Rd.more (B := w.heap.size) ?_ (by first | omega | ((try simp only [World.size_setCell]); (try simp only [World.size_drew]); (try simp only [World.size_alloc]); omega) | (simp; done) | (simp; omega))); (repeat' (first | with_reducible assumption | (with_reducible refine Rd.drew ?_) | (with_reducible refine Rd.carry ?_ (by with_reducible assumption) ?_) | (with_reducible refine Rd.alloc ?_ ?_ _) | (with_reducible refine Rd.setCell ?_ ?_ _) | omega | (simp; done) | (simp; omega)))
  intro e wT0 hq
  obtain ⟨gT_a, rfl, ow, hbwT0⟩ := hq
  have zwT0 := hbwT0.size
  (try simp only [World.size_setCell] at zwT0)
  (try simp only [World.size_drew] at zwT0)
  (try simp only [World.size_alloc] at zwT0)
  have qwT0 : w.heap.size ≤ wT0.heap.size := by omega
  have rd_awT0 : Rd cPt 2 wT0 (w.heap.size) aA al := by repeat' (first | with_reducible assumption | (with_reducible refine Rd.drew ?_) | (with_reducible refine Rd.carry ?_ (by with_reducible assumption) ?_) | (with_reducible refine Rd.alloc ?_ ?_ _) | (with_reducible refine Rd.setCell ?_ ?_ _) | omega | (simp; done) | (simp; omega))
  have rx_awT0 : Rd cPt 2 wT0 (wX0.heap.size) (some ⟨gX_a, 0, none⟩) al := by repeat' (first | with_reducible assumption | (with_reducible refine Rd.drew ?_) | (with_reducible refine Rd.carry ?_ (by with_reducible assumption) ?_) | (with_reducible refine Rd.alloc ?_ ?_ _) | (with_reducible refine Rd.setCell ?_ ?_ _) | omega | (simp; done) | (simp; omega))
  have bp := bwQ.out
  have bn : Below w.heap.size w wT0 := by repeat' (first | with_reducible assumption | with_reducible exact Below.refl _ _ | (with_reducible refine Below.setCell ?_ ?_ _) | (with_reducible refine Below.alloc ?_ ?_ _) | (with_reducible refine Below.drew ?_) | (with_reducible refine below_dr ?_ _) | (with_reducible refine Below.trans ?_ (Below.mono (by with_reducible assumption) ?_)) | omega | (simp; done) | (simp; omega))
  have bwT0 := Lib.hid bn
  clear bn
  clear bp bwQ
  clear hbwT0
  clear rd_awQ
  clear rx_awQ
  have rt_awT0 : Rd cPt 2 wT0 (wT0.heap.size) (some ⟨gT_a, 0, none⟩) al := Rd.of_own (fun a => cPt_len a) (by omega) ow (Nat.le_refl _)
  clear ow
  go_wp2_with fail
  refine (eqPtS_same al (some ⟨gX_a, 0, none⟩) (some ⟨gT_a, 0, none⟩) al.length al.length _ (by omega) ?_ ?_).mono ?_
  · (refine Rd.more (B := wX0.heap.size) ?_ (by first | omega | ((try simp only [World.size_setCell]); (try simp only [World.size_drew]); (try simp only [World.size_alloc]); omega) | (simp; done) | (simp; omega))); (repeat' (first | with_reducible assumption | (with_reducible refine Rd.drew ?_) | (with_reducible refine Rd.carry ?_ (by with_reducible assumption) ?_) | (with_reducible refine Rd.alloc ?_ ?_ _) | (with_reducible refine Rd.setCell ?_ ?_ _) | omega | (simp; done) | (simp; omega)))
  · (refine Rd.more (B := wT0.heap.size) ?_ (by first | omega | ((try simp only [World.size_setCell]); (try simp only [World.size_drew]); (try simp only [World.size_alloc]); omega) | (simp; done) | (simp; omega))); (repeat' (first | with_reducible assumption | (with_reducible refine Rd.drew ?_) | (with_reducible refine Rd.carry ?_ (by with_reducible assumption) ?_) | (with_reducible refine Rd.alloc ?_ ?_ _) | (with_reducible refine Rd.setCell ?_ ?_ _) | omega | (simp; done) | (simp; omega)))
  rintro e wE0 ⟨rfl, hbwE0⟩
  have zwE0 := hbwE0.size
  (try simp only [World.size_setCell] at zwE0)
  (try simp only [World.size_drew] at zwE0)
  (try simp only [World.size_alloc] at zwE0)
  have qwE0 : w.heap.size ≤ wE0.heap.size := by omega
  have rd_awE0 : Rd cPt 2 wE0 (w.heap.size) aA al := by repeat' (first | with_reducible assumption | (with_reducible refine Rd.drew ?_) | (with_reducible refine Rd.carry ?_ (by with_reducible assumption) ?_) | (with_reducible refine Rd.alloc ?_ ?_ _) | (with_reducible refine Rd.setCell ?_ ?_ _) | omega | (simp; done) | (simp; omega))
  have rx_awE0 : Rd cPt 2 wE0 (wX0.heap.size) (some ⟨gX_a, 0, none⟩) al := by repeat' (first | with_reducible assumption | (with_reducible refine Rd.drew ?_) | (with_reducible refine Rd.carry ?_ (by with_reducible assumption) ?_) | (with_reducible refine Rd.alloc ?_ ?_ _) | (with_reducible refine Rd.setCell ?_ ?_ _) | omega | (simp; done) | (simp; omega))
  have rt_awE0 : Rd cPt 2 wE0 (wT0.heap.size) (some ⟨gT_a, 0, none⟩) al := by repeat' (first | with_reducible assumption | (with_reducible refine Rd.drew ?_) | (with_reducible refine Rd.carry ?_ (by with_reducible assumption) ?_) | (with_reducible refine Rd.alloc ?_ ?_ _) | (with_reducible refine Rd.setCell ?_ ?_ _) | omega | (simp; done) | (simp; omega))
  have bp := bwT0.out
  have bn : Below w.heap.size w wE0 := by repeat' (first | with_reducible assumption | with_reducible exact Below.refl _ _ | (with_reducible refine Below.setCell ?_ ?_ _) | (with_reducible refine Below.alloc ?_ ?_ _) | (with_reducible refine Below.drew ?_) | (with_reducible refine below_dr ?_ _) | (with_reducible refine Below.trans ?_ (Below.mono (by with_reducible assumption) ?_)) | omega | (simp; done) | (simp; omega))
  have bwE0 := Lib.hid bn
  clear bn
  clear bp bwT0
  clear hbwE0
  clear rd_awT0
  clear rx_awT0
  clear rt_awT0
  clear rt_awE0
  clear rx_awE0
  go_wp2_with fail
  go_ret
  have bp := bwE0.out
  exact ⟨rfl, by repeat' (first | with_reducible assumption | with_reducible exact Below.refl _ _ | (with_reducible refine Below.setCell ?_ ?_ _) | (with_reducible refine Below.alloc ?_ ?_ _) | (with_reducible refine Below.drew ?_) | (with_reducible refine below_dr ?_ _) | (with_reducible refine Below.trans ?_ (Below.mono (by with_reducible assumption) ?_)) | omega | (simp; done) | (simp; omega))⟩
end Go.Proofs.Yticgomikfleabaa
