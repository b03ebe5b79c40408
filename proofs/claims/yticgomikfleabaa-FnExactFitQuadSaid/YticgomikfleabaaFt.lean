/- Walks: a curve near a path, the reference's side. -/
import Derived.Test.YticgomikfleabaaFs
namespace Go.Proofs.Yticgomikfleabaa
open Go.RowKit
set_option linter.unusedVariables false
def pk (g : Bool) (v : Int) : Int := bif g then v else 0
def RT6 (v0 v1 v2 v3 v4 v5 : Int) (c : Value) : Ending := .returned (.tuple #[.agg #[.int .i64 v0, .int .i64 v1, .int .i64 v2, .int .i64 v3, .int .i64 v4, .int .i64 v5], c])
theorem fqL_par {a1 a2 b1 b2 z1 z2 y1 y2 : Int} (h : (okB a1 a2 && okB b1 b2 && okB z1 z2 && okB y1 y2) = true) (h2 : turnI z1 z2 y1 y2 a1 a2 = turnI z1 z2 y1 y2 b1 b2) : false = fqL a1 a2 b1 b2 z1 z2 y1 y2 := by
  unfold fqL; rw [(lm_par h h2).1]; rfl
theorem fqL_far {a1 a2 b1 b2 z1 z2 y1 y2 : Int} (h : (okB a1 a2 && okB b1 b2 && okB z1 z2 && okB y1 y2) = true) (h2 : ¬ turnI z1 z2 y1 y2 a1 a2 = turnI z1 z2 y1 y2 b1 b2) : okB (lnP a1 a2 b1 b2 z1 z2 y1 y2).1 (lnP a1 a2 b1 b2 z1 z2 y1 y2).2 = fqL a1 a2 b1 b2 z1 z2 y1 y2 := by
  unfold fqL
  rcases hv : okB (lnP a1 a2 b1 b2 z1 z2 y1 y2).1 (lnP a1 a2 b1 b2 z1 z2 y1 y2).2 with _ | _
  · rw [(lm_far h h2 hv).1]; rfl
  · rw [(lm_yes h h2 hv).1]; rfl
theorem l16Lines_g (a1 a2 b1 b2 z1 z2 y1 y2 : Int) (w : World) (va : okB a1 a2 = true) (vb : okB b1 b2 = true) (vz : okB z1 z2 = true) (vy : okB y1 y2 = true) :
    Calls Try.prog 79 #[.agg #[.int .i64 a1, .int .i64 a2], .agg #[.int .i64 b1, .int .i64 b2], .agg #[.int .i64 z1, .int .i64 z2], .agg #[.int .i64 y1, .int .i64 y2]] w fun e w' => ∃ X Y : Int, e = .returned (.tuple #[.agg #[.int .i64 X, .int .i64 Y], .bool (fqL a1 a2 b1 b2 z1 z2 y1 y2)]) ∧ (fqL a1 a2 b1 b2 z1 z2 y1 y2 = true → X = fqX a1 a2 b1 b2 z1 z2 y1 y2 ∧ Y = fqY a1 a2 b1 b2 z1 z2 y1 y2) ∧ Below w.heap.size w w' := by
  have hv : (okB a1 a2 && okB b1 b2 && okB z1 z2 && okB y1 y2) = true := by simp [*]
  by_cases ht : turnI z1 z2 y1 y2 a1 a2 = turnI z1 z2 y1 y2 b1 b2
  · refine (l16Lines_par a1 a2 b1 b2 z1 z2 y1 y2 w va vb vz vy ht).mono ?_
    rintro e w' ⟨rfl, hb⟩
    exact ⟨0, 0, by rw [fqL_par hv ht], fun h => (by rw [← fqL_par hv ht] at h; cases h), hb⟩
  · refine (l16Lines_far a1 a2 b1 b2 z1 z2 y1 y2 w va vb vz vy ht).mono ?_
    rintro e w' ⟨rfl, hb⟩
    exact ⟨(lnP a1 a2 b1 b2 z1 z2 y1 y2).1, (lnP a1 a2 b1 b2 z1 z2 y1 y2).2, by rw [fqL_far hv ht], fun h => ⟨rfl, rfl⟩, hb⟩
theorem rt6 {g : Bool} {a b c d e f : Int} {v : Value} (h : g = false) : RT6 0 0 0 0 0 0 v = RT6 (pk g a) (pk g b) (pk g c) (pk g d) (pk g e) (pk g f) v := by subst h; rfl
theorem rt6y {g : Bool} {a b c d e f : Int} {v : Value} (h : g = true) : RT6 a b c d e f v = RT6 (pk g a) (pk g b) (pk g c) (pk g d) (pk g e) (pk g f) v := by subst h; rfl
set_option maxRecDepth 100000 in
set_option maxHeartbeats 25600000 in
theorem l16Fit_any (a1 a2 b1 b2 z1 z2 y1 y2 t : Int) (l : List APt) (A : Option Addr) (c : Nat) (w : World) (hl : l.length ≤ 400) (h3 : 3 ≤ l.length) (rd : Rd cPt 2 w w.heap.size A l) (hv : ptsUp l l.length = true)
    (ha : l[0]? = some (a1, a2)) (hb : l[1]? = some (b1, b2)) (hz : l[l.length - 1]? = some (z1, z2)) (hy : l[l.length - 2]? = some (y1, y2)) (t1 : 1 ≤ t) (t2 : t ≤ 262144) :
    Calls Try.prog 48 #[.slice A l.length c, .int .i64 t] w fun e w' => e = RT6 (pk (fqG a1 a2 b1 b2 z1 z2 y1 y2 l t) a1) (pk (fqG a1 a2 b1 b2 z1 z2 y1 y2 l t) a2) (pk (fqG a1 a2 b1 b2 z1 z2 y1 y2 l t) (fqX a1 a2 b1 b2 z1 z2 y1 y2)) (pk (fqG a1 a2 b1 b2 z1 z2 y1 y2 l t) (fqY a1 a2 b1 b2 z1 z2 y1 y2)) (pk (fqG a1 a2 b1 b2 z1 z2 y1 y2 l t) z1) (pk (fqG a1 a2 b1 b2 z1 z2 y1 y2 l t) z2) (.bool (fqG a1 a2 b1 b2 z1 z2 y1 y2 l t)) ∧ Below w.heap.size w w' := by
  have va := pts_all hv ha
  have vb := pts_all hv hb
  have vz := pts_all hv hz
  have vy := pts_all hv hy
  have CL := Lib.hid (fun w => l16Lines_g a1 a2 b1 b2 z1 z2 y1 y2 w va vb vz vy)
  have hG : fqG a1 a2 b1 b2 z1 z2 y1 y2 l t = (fqL a1 a2 b1 b2 z1 z2 y1 y2 && fqB a1 a2 b1 b2 z1 z2 y1 y2 && alV l (fqF a1 a2 b1 b2 z1 z2 y1 y2) t && alV (fqF a1 a2 b1 b2 z1 z2 y1 y2) l t) := rfl
  have HGG := Lib.hid hG
  clear hG
  rcases hL : fqL a1 a2 b1 b2 z1 z2 y1 y2 with _ | _
  · have HG : fqG a1 a2 b1 b2 z1 z2 y1 y2 l t = false := by rw [HGG.out, hL]; simp
    rw [hL] at CL
    have HG := Lib.hid HG
    clear HGG hL va vb vz vy hv
    generalize fqX a1 a2 b1 b2 z1 z2 y1 y2 = X at *
    generalize fqY a1 a2 b1 b2 z1 z2 y1 y2 = Y at *
    obtain ⟨n, hn⟩ : ∃ n, n = l.length := ⟨_, rfl⟩
    obtain ⟨jz, hjz⟩ : ∃ jz, jz = n - 1 := ⟨_, rfl⟩
    obtain ⟨jy, hjy⟩ : ∃ jy, jy = n - 2 := ⟨_, rfl⟩
    rw [← hn] at hl h3 ⊢
    (try rw [← hn] at V1)
    (try rw [← hn] at V2)
    rw [← hn, ← hjz] at hz
    rw [← hn, ← hjy] at hy
    obtain ⟨g, o, rfl, hg, hca⟩ := rd.elem ha
    obtain ⟨g', o', hgo, hg', hcb⟩ := rd.elem hb
    obtain ⟨rfl, rfl⟩ : g = g' ∧ o = o' := by injection hgo with h; injection h with h1 h2; exact ⟨h1, h2⟩
    obtain ⟨g', o', hgo, hg', hcz⟩ := rd.elem hz
    obtain ⟨rfl, rfl⟩ : g = g' ∧ o = o' := by injection hgo with h; injection h with h1 h2; exact ⟨h1, h2⟩
    obtain ⟨g', o', hgo, hg', hcy⟩ := rd.elem hy
    obtain ⟨rfl, rfl⟩ : g = g' ∧ o = o' := by injection hgo with h; injection h with h1 h2; exact ⟨h1, h2⟩
    have pa0 : w.cell? ⟨g, o, none⟩ = some (.int .i64 a1) := by have := hca 0 _ rfl; simpa [Nat.add_assoc] using this
    have pa1 : w.cell? ⟨g, o + 1, none⟩ = some (.int .i64 a2) := by have := hca 1 _ rfl; simpa [Nat.add_assoc] using this
    have pb0 : w.cell? ⟨g, o + 2, none⟩ = some (.int .i64 b1) := by have := hcb 0 _ rfl; simpa [Nat.add_assoc] using this
    have pb1 : w.cell? ⟨g, o + 3, none⟩ = some (.int .i64 b2) := by have := hcb 1 _ rfl; simpa [Nat.add_assoc] using this
    have pz0 : w.cell? ⟨g, o + jz * 2, none⟩ = some (.int .i64 z1) := by have := hcz 0 _ rfl; simpa [Nat.add_assoc] using this
    have pz1 : w.cell? ⟨g, o + jz * 2 + 1, none⟩ = some (.int .i64 z2) := by have := hcz 1 _ rfl; simpa [Nat.add_assoc] using this
    have py0 : w.cell? ⟨g, o + jy * 2, none⟩ = some (.int .i64 y1) := by have := hcy 0 _ rfl; simpa [Nat.add_assoc] using this
    have py1 : w.cell? ⟨g, o + jy * 2 + 1, none⟩ = some (.int .i64 y2) := by have := hcy 1 _ rfl; simpa [Nat.add_assoc] using this
    have RD := Lib.hid rd
    clear hca hcb hcz hcy rd hgo ha hb hz hy
    have m1 : (n : Int) - 1 = (jz : Int) := by omega
    have m2 : (n : Int) - 2 = (jy : Int) := by omega
    have w1' : IntKind.i64.wrap (jz : Int) = (jz : Int) := IntWalk.i64_in _ (by omega)
    have w2' : IntKind.i64.wrap (jy : Int) = (jy : Int) := IntWalk.i64_in _ (by omega)
    have x0 : (0 : Int) < (n : Int) := by omega
    have x1 : (1 : Int) < (n : Int) := by omega
    have x2 : (jz : Int) < (n : Int) := by omega
    have x3 : (jy : Int) < (n : Int) := by omega
    have x4 : 0 < n := by omega
    have x5 : 1 < n := by omega
    have x6 : jz < n := by omega
    have x7 : jy < n := by omega
    have HN := Lib.hid hn
    have HZ := Lib.hid hjz
    have HY := Lib.hid hjy
    clear hn hjz hjy
    go_enter Try.func48, Try.ntmps48
    go_upto_region 2 with fail
    generalize hW : w.alloc (.cells #[.int .i64 0, .int .i64 0, .int .i64 0, .int .i64 0, .int .i64 0, .int .i64 0] 31) = W0
    have bk : Blk W0 w.heap.size 31 #[.int .i64 0, .int .i64 0, .int .i64 0, .int .i64 0, .int .i64 0, .int .i64 0] := by rw [← hW]; exact Blk.new _ _ _
    have g0 : Below w.heap.size w W0 := by rw [← hW]; repeat' (first | with_reducible assumption | with_reducible exact Below.refl _ _ | (with_reducible refine Below.setCell ?_ ?_ _) | (with_reducible refine Below.alloc ?_ ?_ _) | (with_reducible refine Below.drew ?_) | (with_reducible refine below_dr ?_ _) | (with_reducible refine Below.trans ?_ (Below.mono (by with_reducible assumption) ?_)) | omega | (simp; done) | (simp; omega))
    have qa0 : W0.cell? ⟨g, o, none⟩ = some (.int .i64 a1) := (g0.cell (p := ⟨g, o, none⟩) hg).trans pa0
    have qa1 : W0.cell? ⟨g, o + 1, none⟩ = some (.int .i64 a2) := (g0.cell (p := ⟨g, o + 1, none⟩) hg).trans pa1
    have qb0 : W0.cell? ⟨g, o + 2, none⟩ = some (.int .i64 b1) := (g0.cell (p := ⟨g, o + 2, none⟩) hg).trans pb0
    have qb1 : W0.cell? ⟨g, o + 3, none⟩ = some (.int .i64 b2) := (g0.cell (p := ⟨g, o + 3, none⟩) hg).trans pb1
    have qz0 : W0.cell? ⟨g, o + jz * 2, none⟩ = some (.int .i64 z1) := (g0.cell (p := ⟨g, o + jz * 2, none⟩) hg).trans pz0
    have qz1 : W0.cell? ⟨g, o + jz * 2 + 1, none⟩ = some (.int .i64 z2) := (g0.cell (p := ⟨g, o + jz * 2 + 1, none⟩) hg).trans pz1
    have qy0 : W0.cell? ⟨g, o + jy * 2, none⟩ = some (.int .i64 y1) := (g0.cell (p := ⟨g, o + jy * 2, none⟩) hg).trans py0
    have qy1 : W0.cell? ⟨g, o + jy * 2 + 1, none⟩ = some (.int .i64 y2) := (g0.cell (p := ⟨g, o + jy * 2 + 1, none⟩) hg).trans py1
    have bz : w.heap.size < W0.heap.size := bk.lt
    have hgW : g < W0.heap.size := by omega
    clear hW pa0 pa1 pb0 pb1 pz0 pz1 py0 py1
    go_cut [7, 8] (fun s7 s8 wx => (∃ (g1 : Nat) (X' Y' : Int), s7 = .pointer (some ⟨g1, 0, none⟩) ∧ w.heap.size < g1 ∧ AtL g1 [.int .i64 X', .int .i64 Y'] wx) ∧ s8 = .bool false ∧ Blk wx w.heap.size 31 #[.int .i64 0, .int .i64 0, .int .i64 0, .int .i64 0, .int .i64 0, .int .i64 0] ∧ Below W0.heap.size W0 wx)
    case first =>
      go_region_held3 (fun w' => (∀ b o, b < W0.heap.size → w'.cell? ⟨b, o, none⟩ = W0.cell? ⟨b, o, none⟩) ∧ (∀ b o, b < W0.heap.size → w'.frozen? ⟨b, o, none⟩ = W0.frozen? ⟨b, o, none⟩) ∧ W0.heap.size ≤ w'.heap.size)
        (first | ((try dsimp only); exact ⟨fun b o h => (by (repeat (first | with_reducible exact rfl | (with_reducible refine (cell_drew_at _ _).trans ?_) | (with_reducible refine (cell_set_at _ _ (by first | omega | (simp; done) | (simp; omega))).trans ?_) | (with_reducible refine (cell_alloc_at _ _ (by first | omega | (simp; done) | (simp; omega))).trans ?_) | (with_reducible refine (hcwF b o (by first | omega | (simp; done) | (simp; omega))).trans ?_)))), fun b o h => (by (repeat (first | with_reducible exact rfl | (with_reducible refine (frozen_drew_at _ _).trans ?_) | (with_reducible refine (World.frozen?_setCell _ _ _ _).trans ?_) | (with_reducible refine (frozen_alloc_at _ _ (by first | omega | (simp; done) | (simp; omega))).trans ?_) | (with_reducible refine (hfwF b o (by first | omega | (simp; done) | (simp; omega))).trans ?_)))), (by first | omega | (simp; done) | (simp; omega))⟩) | fail)
        (first
          | (go_at_call 79; (with_reducible refine (CL.out _).mono ?_); rintro e wF ⟨X', Y', rfl, hXY, hbwF⟩; obtain ⟨hcwF, hfwF⟩ := bcell hbwF; have hzwF := hbwF.size; (try simp only [World.size_drew] at hcwF hfwF hzwF); (try simp only [World.size_alloc] at hcwF hfwF hzwF); (try have qW0 : W0.heap.size < wF.heap.size := (by omega))))
      all_goals
        go_wp2_with fail
        go_meet
      all_goals exact ⟨⟨_, X', Y', rfl, by (try simp only [World.size_drew]); omega, by repeat' (first | ((with_reducible refine AtL.newAt ?_); (first | rfl | (simp; done))) | with_reducible assumption | with_reducible exact AtL.new _ _ _ | (with_reducible refine AtL.drew ?_) | (with_reducible apply AtL.store2) | (with_reducible refine AtL.alloc ?_ _) | (with_reducible refine AtL.far ?_ ?_ _ _) | (with_reducible refine AtL.below ?_ (by with_reducible assumption)) | omega | (simp; done) | (simp; omega))⟩, rfl, by repeat' (first | with_reducible assumption | with_reducible exact Blk.new _ _ _ | (with_reducible refine Blk.drew ?_) | (with_reducible refine Blk.carry ?_ (by with_reducible assumption)) | (with_reducible refine Blk.alloc ?_ _) | (with_reducible refine Blk.far ?_ ?_ _) | omega | (simp; done) | (simp; omega)), by repeat' (first | with_reducible assumption | with_reducible exact Below.refl _ _ | (with_reducible refine Below.setCell ?_ ?_ _) | (with_reducible refine Below.alloc ?_ ?_ _) | (with_reducible refine Below.drew ?_) | (with_reducible refine below_dr ?_ _) | (with_reducible refine Below.trans ?_ (Below.mono (by with_reducible assumption) ?_)) | omega | (simp; done) | (simp; omega))⟩
    case rest =>
      obtain ⟨⟨g1, X', Y', rfl, gz1, at1⟩, rfl, bk1, bel1⟩ := hcut
      obtain ⟨W1, rfl⟩ : ∃ W : World, W = wc := ⟨_, rfl⟩
      have bzz := bel1.size
      have gW1 : Below w.heap.size w W1 := g0.trans (bel1.mono g0.size)
      have f0 := bk1.frozen 0
      have f1 := bk1.frozen 1
      have f2 := bk1.frozen 2
      have f3 := bk1.frozen 3
      have f4 := bk1.frozen 4
      have f5 := bk1.frozen 5
      have c0 := bk1.cell 0 rfl
      have c1 := bk1.cell 1 rfl
      have c2 := bk1.cell 2 rfl
      have c3 := bk1.cell 3 rfl
      have c4 := bk1.cell 4 rfl
      have c5 := bk1.cell 5 rfl
      go_wp2
      have bf := (((((bk1.set_ 0 (.int .i64 0)).set_ 1 (.int .i64 0)).set_ 2 (.int .i64 0)).set_ 3 (.int .i64 0)).set_ 4 (.int .i64 0)).set_ 5 (.int .i64 0)
      have r0 := bf.cell 0 rfl
      have r1 := bf.cell 1 rfl
      have r2 := bf.cell 2 rfl
      have r3 := bf.cell 3 rfl
      have r4 := bf.cell 4 rfl
      have r5 := bf.cell 5 rfl
      refine bodyPost_ret (v := .tuple #[.agg #[.int .i64 0, .int .i64 0, .int .i64 0, .int .i64 0, .int .i64 0, .int .i64 0], .bool false]) (by simp [results, Try.results48, go_sem, r0, r1, r2, r3, r4, r5]) rfl ⟨?_, ?_⟩
      · first | rfl | (rw [HG.out]; rfl)
      repeat' (first | with_reducible assumption | with_reducible exact Below.refl _ _ | (with_reducible refine Below.setCell ?_ ?_ _) | (with_reducible refine Below.alloc ?_ ?_ _) | (with_reducible refine Below.drew ?_) | (with_reducible refine below_dr ?_ _) | (with_reducible refine Below.trans ?_ (Below.mono (by with_reducible assumption) ?_)) | omega | (simp; done) | (simp; omega))
  have hQ := fq_quad va vz hL
  rw [hL] at CL
  have FL := Lib.hid (fun (b : Nat) (w : World) hb c0 c1 c2 c3 c4 c5 => l10Flat_any a1 a2 (fqX a1 a2 b1 b2 z1 z2 y1 y2) (fqY a1 a2 b1 b2 z1 z2 y1 y2) z1 z2 1 b w hb c0 c1 c2 c3 c4 c5 hQ (by omega) (by omega))
  rw [show flQl a1 a2 (fqX a1 a2 b1 b2 z1 z2 y1 y2) (fqY a1 a2 b1 b2 z1 z2 y1 y2) z1 z2 1 = fqF a1 a2 b1 b2 z1 z2 y1 y2 from rfl, show lvB (szQ a1 a2 (fqX a1 a2 b1 b2 z1 z2 y1 y2) (fqY a1 a2 b1 b2 z1 z2 y1 y2) z1 z2) 1 = fqB a1 a2 b1 b2 z1 z2 y1 y2 from rfl] at FL
  unfold FlRet at FL
  clear hQ
  rcases hB : fqB a1 a2 b1 b2 z1 z2 y1 y2 with _ | _
  · have HG : fqG a1 a2 b1 b2 z1 z2 y1 y2 l t = false := by rw [HGG.out, hL, hB]; simp
    rw [hB] at FL
    have HG := Lib.hid HG
    clear HGG hL hB va vb vz vy hv
    generalize fqX a1 a2 b1 b2 z1 z2 y1 y2 = X at *
    generalize fqY a1 a2 b1 b2 z1 z2 y1 y2 = Y at *
    generalize fqF a1 a2 b1 b2 z1 z2 y1 y2 = G at *
    obtain ⟨n, hn⟩ : ∃ n, n = l.length := ⟨_, rfl⟩
    obtain ⟨jz, hjz⟩ : ∃ jz, jz = n - 1 := ⟨_, rfl⟩
    obtain ⟨jy, hjy⟩ : ∃ jy, jy = n - 2 := ⟨_, rfl⟩
    rw [← hn] at hl h3 ⊢
    (try rw [← hn] at V1)
    (try rw [← hn] at V2)
    rw [← hn, ← hjz] at hz
    rw [← hn, ← hjy] at hy
    obtain ⟨g, o, rfl, hg, hca⟩ := rd.elem ha
    obtain ⟨g', o', hgo, hg', hcb⟩ := rd.elem hb
    obtain ⟨rfl, rfl⟩ : g = g' ∧ o = o' := by injection hgo with h; injection h with h1 h2; exact ⟨h1, h2⟩
    obtain ⟨g', o', hgo, hg', hcz⟩ := rd.elem hz
    obtain ⟨rfl, rfl⟩ : g = g' ∧ o = o' := by injection hgo with h; injection h with h1 h2; exact ⟨h1, h2⟩
    obtain ⟨g', o', hgo, hg', hcy⟩ := rd.elem hy
    obtain ⟨rfl, rfl⟩ : g = g' ∧ o = o' := by injection hgo with h; injection h with h1 h2; exact ⟨h1, h2⟩
    have pa0 : w.cell? ⟨g, o, none⟩ = some (.int .i64 a1) := by have := hca 0 _ rfl; simpa [Nat.add_assoc] using this
    have pa1 : w.cell? ⟨g, o + 1, none⟩ = some (.int .i64 a2) := by have := hca 1 _ rfl; simpa [Nat.add_assoc] using this
    have pb0 : w.cell? ⟨g, o + 2, none⟩ = some (.int .i64 b1) := by have := hcb 0 _ rfl; simpa [Nat.add_assoc] using this
    have pb1 : w.cell? ⟨g, o + 3, none⟩ = some (.int .i64 b2) := by have := hcb 1 _ rfl; simpa [Nat.add_assoc] using this
    have pz0 : w.cell? ⟨g, o + jz * 2, none⟩ = some (.int .i64 z1) := by have := hcz 0 _ rfl; simpa [Nat.add_assoc] using this
    have pz1 : w.cell? ⟨g, o + jz * 2 + 1, none⟩ = some (.int .i64 z2) := by have := hcz 1 _ rfl; simpa [Nat.add_assoc] using this
    have py0 : w.cell? ⟨g, o + jy * 2, none⟩ = some (.int .i64 y1) := by have := hcy 0 _ rfl; simpa [Nat.add_assoc] using this
    have py1 : w.cell? ⟨g, o + jy * 2 + 1, none⟩ = some (.int .i64 y2) := by have := hcy 1 _ rfl; simpa [Nat.add_assoc] using this
    have RD := Lib.hid rd
    clear hca hcb hcz hcy rd hgo ha hb hz hy
    have m1 : (n : Int) - 1 = (jz : Int) := by omega
    have m2 : (n : Int) - 2 = (jy : Int) := by omega
    have w1' : IntKind.i64.wrap (jz : Int) = (jz : Int) := IntWalk.i64_in _ (by omega)
    have w2' : IntKind.i64.wrap (jy : Int) = (jy : Int) := IntWalk.i64_in _ (by omega)
    have x0 : (0 : Int) < (n : Int) := by omega
    have x1 : (1 : Int) < (n : Int) := by omega
    have x2 : (jz : Int) < (n : Int) := by omega
    have x3 : (jy : Int) < (n : Int) := by omega
    have x4 : 0 < n := by omega
    have x5 : 1 < n := by omega
    have x6 : jz < n := by omega
    have x7 : jy < n := by omega
    have HN := Lib.hid hn
    have HZ := Lib.hid hjz
    have HY := Lib.hid hjy
    clear hn hjz hjy
    go_enter Try.func48, Try.ntmps48
    go_upto_region 2 with fail
    generalize hW : w.alloc (.cells #[.int .i64 0, .int .i64 0, .int .i64 0, .int .i64 0, .int .i64 0, .int .i64 0] 31) = W0
    have bk : Blk W0 w.heap.size 31 #[.int .i64 0, .int .i64 0, .int .i64 0, .int .i64 0, .int .i64 0, .int .i64 0] := by rw [← hW]; exact Blk.new _ _ _
    have g0 : Below w.heap.size w W0 := by rw [← hW]; repeat' (first | with_reducible assumption | with_reducible exact Below.refl _ _ | (with_reducible refine Below.setCell ?_ ?_ _) | (with_reducible refine Below.alloc ?_ ?_ _) | (with_reducible refine Below.drew ?_) | (with_reducible refine below_dr ?_ _) | (with_reducible refine Below.trans ?_ (Below.mono (by with_reducible assumption) ?_)) | omega | (simp; done) | (simp; omega))
    have qa0 : W0.cell? ⟨g, o, none⟩ = some (.int .i64 a1) := (g0.cell (p := ⟨g, o, none⟩) hg).trans pa0
    have qa1 : W0.cell? ⟨g, o + 1, none⟩ = some (.int .i64 a2) := (g0.cell (p := ⟨g, o + 1, none⟩) hg).trans pa1
    have qb0 : W0.cell? ⟨g, o + 2, none⟩ = some (.int .i64 b1) := (g0.cell (p := ⟨g, o + 2, none⟩) hg).trans pb0
    have qb1 : W0.cell? ⟨g, o + 3, none⟩ = some (.int .i64 b2) := (g0.cell (p := ⟨g, o + 3, none⟩) hg).trans pb1
    have qz0 : W0.cell? ⟨g, o + jz * 2, none⟩ = some (.int .i64 z1) := (g0.cell (p := ⟨g, o + jz * 2, none⟩) hg).trans pz0
    have qz1 : W0.cell? ⟨g, o + jz * 2 + 1, none⟩ = some (.int .i64 z2) := (g0.cell (p := ⟨g, o + jz * 2 + 1, none⟩) hg).trans pz1
    have qy0 : W0.cell? ⟨g, o + jy * 2, none⟩ = some (.int .i64 y1) := (g0.cell (p := ⟨g, o + jy * 2, none⟩) hg).trans py0
    have qy1 : W0.cell? ⟨g, o + jy * 2 + 1, none⟩ = some (.int .i64 y2) := (g0.cell (p := ⟨g, o + jy * 2 + 1, none⟩) hg).trans py1
    have bz : w.heap.size < W0.heap.size := bk.lt
    have hgW : g < W0.heap.size := by omega
    clear hW pa0 pa1 pb0 pb1 pz0 pz1 py0 py1
    go_cut [7, 8] (fun s7 s8 wx => (∃ (g1 : Nat), s7 = .pointer (some ⟨g1, 0, none⟩) ∧ w.heap.size < g1 ∧ AtL g1 [.int .i64 X, .int .i64 Y] wx) ∧ s8 = .bool true ∧ Blk wx w.heap.size 31 #[.int .i64 0, .int .i64 0, .int .i64 0, .int .i64 0, .int .i64 0, .int .i64 0] ∧ Below W0.heap.size W0 wx)
    case first =>
      go_region_held3 (fun w' => (∀ b o, b < W0.heap.size → w'.cell? ⟨b, o, none⟩ = W0.cell? ⟨b, o, none⟩) ∧ (∀ b o, b < W0.heap.size → w'.frozen? ⟨b, o, none⟩ = W0.frozen? ⟨b, o, none⟩) ∧ W0.heap.size ≤ w'.heap.size)
        (first | ((try dsimp only); exact ⟨fun b o h => (by (repeat (first | with_reducible exact rfl | (with_reducible refine (cell_drew_at _ _).trans ?_) | (with_reducible refine (cell_set_at _ _ (by first | omega | (simp; done) | (simp; omega))).trans ?_) | (with_reducible refine (cell_alloc_at _ _ (by first | omega | (simp; done) | (simp; omega))).trans ?_) | (with_reducible refine (hcwF b o (by first | omega | (simp; done) | (simp; omega))).trans ?_)))), fun b o h => (by (repeat (first | with_reducible exact rfl | (with_reducible refine (frozen_drew_at _ _).trans ?_) | (with_reducible refine (World.frozen?_setCell _ _ _ _).trans ?_) | (with_reducible refine (frozen_alloc_at _ _ (by first | omega | (simp; done) | (simp; omega))).trans ?_) | (with_reducible refine (hfwF b o (by first | omega | (simp; done) | (simp; omega))).trans ?_)))), (by first | omega | (simp; done) | (simp; omega))⟩) | fail)
        (first
          | (go_at_call 79; (with_reducible refine (CL.out _).mono ?_); rintro e wF ⟨X', Y', rfl, hXY, hbwF⟩; obtain ⟨hcwF, hfwF⟩ := bcell hbwF; have hzwF := hbwF.size; (try simp only [World.size_drew] at hcwF hfwF hzwF); (try simp only [World.size_alloc] at hcwF hfwF hzwF); (try have qW0 : W0.heap.size < wF.heap.size := (by omega))))
      all_goals
        obtain ⟨e1, e2⟩ : X' = X ∧ Y' = Y := by first | exact hXY rfl | exact hXY trivial | exact hXY
        subst e1
        subst e2
        go_wp2_with fail
        go_meet
      all_goals exact ⟨⟨_, rfl, by (try simp only [World.size_drew]); omega, by repeat' (first | ((with_reducible refine AtL.newAt ?_); (first | rfl | (simp; done))) | with_reducible assumption | with_reducible exact AtL.new _ _ _ | (with_reducible refine AtL.drew ?_) | (with_reducible apply AtL.store2) | (with_reducible refine AtL.alloc ?_ _) | (with_reducible refine AtL.far ?_ ?_ _ _) | (with_reducible refine AtL.below ?_ (by with_reducible assumption)) | omega | (simp; done) | (simp; omega))⟩, rfl, by repeat' (first | with_reducible assumption | with_reducible exact Blk.new _ _ _ | (with_reducible refine Blk.drew ?_) | (with_reducible refine Blk.carry ?_ (by with_reducible assumption)) | (with_reducible refine Blk.alloc ?_ _) | (with_reducible refine Blk.far ?_ ?_ _) | omega | (simp; done) | (simp; omega)), by repeat' (first | with_reducible assumption | with_reducible exact Below.refl _ _ | (with_reducible refine Below.setCell ?_ ?_ _) | (with_reducible refine Below.alloc ?_ ?_ _) | (with_reducible refine Below.drew ?_) | (with_reducible refine below_dr ?_ _) | (with_reducible refine Below.trans ?_ (Below.mono (by with_reducible assumption) ?_)) | omega | (simp; done) | (simp; omega))⟩
    case rest =>
      obtain ⟨⟨g1, rfl, gz1, at1⟩, rfl, bk1, bel1⟩ := hcut
      obtain ⟨W1, rfl⟩ : ∃ W : World, W = wc := ⟨_, rfl⟩
      have bzz := bel1.size
      have gW1 : Below w.heap.size w W1 := g0.trans (bel1.mono g0.size)
      have ra0 : W1.cell? ⟨g, o, none⟩ = some (.int .i64 a1) := (bel1.cell (p := ⟨g, o, none⟩) hgW).trans qa0
      have ra1 : W1.cell? ⟨g, o + 1, none⟩ = some (.int .i64 a2) := (bel1.cell (p := ⟨g, o + 1, none⟩) hgW).trans qa1
      have rb0 : W1.cell? ⟨g, o + 2, none⟩ = some (.int .i64 b1) := (bel1.cell (p := ⟨g, o + 2, none⟩) hgW).trans qb0
      have rb1 : W1.cell? ⟨g, o + 3, none⟩ = some (.int .i64 b2) := (bel1.cell (p := ⟨g, o + 3, none⟩) hgW).trans qb1
      have rz0 : W1.cell? ⟨g, o + jz * 2, none⟩ = some (.int .i64 z1) := (bel1.cell (p := ⟨g, o + jz * 2, none⟩) hgW).trans qz0
      have rz1 : W1.cell? ⟨g, o + jz * 2 + 1, none⟩ = some (.int .i64 z2) := (bel1.cell (p := ⟨g, o + jz * 2 + 1, none⟩) hgW).trans qz1
      have ry0 : W1.cell? ⟨g, o + jy * 2, none⟩ = some (.int .i64 y1) := (bel1.cell (p := ⟨g, o + jy * 2, none⟩) hgW).trans qy0
      have ry1 : W1.cell? ⟨g, o + jy * 2 + 1, none⟩ = some (.int .i64 y2) := (bel1.cell (p := ⟨g, o + jy * 2 + 1, none⟩) hgW).trans qy1
      have d0 := at1.cell 0 rfl
      have d1 := at1.cell 1 rfl
      have dz := at1.lt
      have gW2 : g < W1.heap.size := by omega
      clear qa0 qa1 qb0 qb1 qz0 qz1 qy0 qy1 CL
      go_upto_region 5 with fail
      go_cut [9] (fun s9 wx => (∃ q : Nat, s9 = .pointer (some ⟨q, 0, none⟩) ∧ w.heap.size < q ∧ AtL q [.int .i64 a1, .int .i64 a2, .int .i64 X, .int .i64 Y, .int .i64 z1, .int .i64 z2] wx) ∧ Blk wx w.heap.size 31 #[.int .i64 0, .int .i64 0, .int .i64 0, .int .i64 0, .int .i64 0, .int .i64 0] ∧ Below W1.heap.size W1 wx)
      case first =>
        go_region_held3 (fun w' => (∀ b o, b < W1.heap.size → w'.cell? ⟨b, o, none⟩ = W1.cell? ⟨b, o, none⟩) ∧ (∀ b o, b < W1.heap.size → w'.frozen? ⟨b, o, none⟩ = W1.frozen? ⟨b, o, none⟩) ∧ W1.heap.size ≤ w'.heap.size)
          (first | ((try dsimp only); exact ⟨fun b o h => (by (repeat (first | with_reducible exact rfl | (with_reducible refine (cell_drew_at _ _).trans ?_) | (with_reducible refine (cell_set_at _ _ (by first | omega | (simp; done) | (simp; omega))).trans ?_) | (with_reducible refine (cell_alloc_at _ _ (by first | omega | (simp; done) | (simp; omega))).trans ?_)))), fun b o h => (by (repeat (first | with_reducible exact rfl | (with_reducible refine (frozen_drew_at _ _).trans ?_) | (with_reducible refine (World.frozen?_setCell _ _ _ _).trans ?_) | (with_reducible refine (frozen_alloc_at _ _ (by first | omega | (simp; done) | (simp; omega))).trans ?_)))), (by first | omega | (simp; done) | (simp; omega))⟩) | fail)
          (first
            | fail)
        all_goals
          go_wp2_with fail
          go_meet
        all_goals exact ⟨⟨_, rfl, by (try simp only [World.size_drew]); omega, by repeat' (first | ((with_reducible refine AtL.newAt ?_); (first | rfl | (simp; done))) | with_reducible assumption | with_reducible exact AtL.new _ _ _ | (with_reducible refine AtL.drew ?_) | (with_reducible apply AtL.store6) | (with_reducible refine AtL.alloc ?_ _) | (with_reducible refine AtL.far ?_ ?_ _ _) | (with_reducible refine AtL.below ?_ (by with_reducible assumption)) | omega | (simp; done) | (simp; omega))⟩, by repeat' (first | with_reducible assumption | with_reducible exact Blk.new _ _ _ | (with_reducible refine Blk.drew ?_) | (with_reducible refine Blk.carry ?_ (by with_reducible assumption)) | (with_reducible refine Blk.alloc ?_ _) | (with_reducible refine Blk.far ?_ ?_ _) | omega | (simp; done) | (simp; omega)), by repeat' (first | with_reducible assumption | with_reducible exact Below.refl _ _ | (with_reducible refine Below.setCell ?_ ?_ _) | (with_reducible refine Below.alloc ?_ ?_ _) | (with_reducible refine Below.drew ?_) | (with_reducible refine below_dr ?_ _) | (with_reducible refine Below.trans ?_ (Below.mono (by with_reducible assumption) ?_)) | omega | (simp; done) | (simp; omega))⟩
      case rest =>
        obtain ⟨⟨q, rfl, gq, at2⟩, bk2, bel2⟩ := hcut
        obtain ⟨W2, rfl⟩ : ∃ W : World, W = wc := ⟨_, rfl⟩
        have bz2 := bel2.size
        have gW2b : Below w.heap.size w W2 := gW1.trans (bel2.mono gW1.size)
        have hz2 := gW2b.size
        have k0 := at2.cell 0 rfl
        have k1 := at2.cell 1 rfl
        have k2 := at2.cell 2 rfl
        have k3 := at2.cell 3 rfl
        have k4 := at2.cell 4 rfl
        have k5 := at2.cell 5 rfl
        have kz := at2.lt
        clear ra0 ra1 rb0 rb1 rz0 rz1 ry0 ry1 d0 d1 dz
        go_wp2_with fail
        refine (FL.out _ _ kz k0 k1 k2 k3 k4 k5).mono ?_
        rintro e W3 ⟨Af, kf, rfl, ow, bel3⟩
        have hz3 := bel3.size
        have gW3 : Below w.heap.size w W3 := gW2b.trans (bel3.mono hz2)
        have bk3 := bk2.carry bel3
        have at3 := at2.below bel3
        clear FL k0 k1 k2 k3 k4 k5 kz
        have f0 := bk3.frozen 0
        have f1 := bk3.frozen 1
        have f2 := bk3.frozen 2
        have f3 := bk3.frozen 3
        have f4 := bk3.frozen 4
        have f5 := bk3.frozen 5
        have c0 := bk3.cell 0 rfl
        have c1 := bk3.cell 1 rfl
        have c2 := bk3.cell 2 rfl
        have c3 := bk3.cell 3 rfl
        have c4 := bk3.cell 4 rfl
        have c5 := bk3.cell 5 rfl
        go_wp2
        have bf := (((((bk3.set_ 0 (.int .i64 0)).set_ 1 (.int .i64 0)).set_ 2 (.int .i64 0)).set_ 3 (.int .i64 0)).set_ 4 (.int .i64 0)).set_ 5 (.int .i64 0)
        have r0 := bf.cell 0 rfl
        have r1 := bf.cell 1 rfl
        have r2 := bf.cell 2 rfl
        have r3 := bf.cell 3 rfl
        have r4 := bf.cell 4 rfl
        have r5 := bf.cell 5 rfl
        refine bodyPost_ret (v := .tuple #[.agg #[.int .i64 0, .int .i64 0, .int .i64 0, .int .i64 0, .int .i64 0, .int .i64 0], .bool false]) (by simp [results, Try.results48, go_sem, r0, r1, r2, r3, r4, r5]) rfl ⟨?_, ?_⟩
        · first | rfl | (rw [HG.out]; rfl)
        repeat' (first | with_reducible assumption | with_reducible exact Below.refl _ _ | (with_reducible refine Below.setCell ?_ ?_ _) | (with_reducible refine Below.alloc ?_ ?_ _) | (with_reducible refine Below.drew ?_) | (with_reducible refine below_dr ?_ _) | (with_reducible refine Below.trans ?_ (Below.mono (by with_reducible assumption) ?_)) | omega | (simp; done) | (simp; omega))
  rw [hB] at FL
  obtain ⟨f1, f65, fv⟩ := fq_flat va vz hL hB
  have V1 := Lib.hid (fun A c A' c' w ra rd => l16Within_any l (fqF a1 a2 b1 b2 z1 z2 y1 y2) A' A c c' t w (by omega) ra hv (by omega) f1 rd fv (by omega) t2)
  have V2 := Lib.hid (fun A c A' c' w ra rd => l16Within_any (fqF a1 a2 b1 b2 z1 z2 y1 y2) l A' A c c' t w (by omega) ra fv (by omega) (by omega) rd hv (by omega) t2)
  clear f1 fv
  rcases hv1 : alV l (fqF a1 a2 b1 b2 z1 z2 y1 y2) t with _ | _
  · have HG : fqG a1 a2 b1 b2 z1 z2 y1 y2 l t = false := by rw [HGG.out, hL, hB, hv1]; simp
    rw [hv1] at V1
    have HG := Lib.hid HG
    clear HGG hL hB va vb vz vy hv hv1 V2
    generalize fqX a1 a2 b1 b2 z1 z2 y1 y2 = X at *
    generalize fqY a1 a2 b1 b2 z1 z2 y1 y2 = Y at *
    generalize fqF a1 a2 b1 b2 z1 z2 y1 y2 = G at *
    obtain ⟨n, hn⟩ : ∃ n, n = l.length := ⟨_, rfl⟩
    obtain ⟨jz, hjz⟩ : ∃ jz, jz = n - 1 := ⟨_, rfl⟩
    obtain ⟨jy, hjy⟩ : ∃ jy, jy = n - 2 := ⟨_, rfl⟩
    rw [← hn] at hl h3 ⊢
    (try rw [← hn] at V1)
    (try rw [← hn] at V2)
    rw [← hn, ← hjz] at hz
    rw [← hn, ← hjy] at hy
    obtain ⟨g, o, rfl, hg, hca⟩ := rd.elem ha
    obtain ⟨g', o', hgo, hg', hcb⟩ := rd.elem hb
    obtain ⟨rfl, rfl⟩ : g = g' ∧ o = o' := by injection hgo with h; injection h with h1 h2; exact ⟨h1, h2⟩
    obtain ⟨g', o', hgo, hg', hcz⟩ := rd.elem hz
    obtain ⟨rfl, rfl⟩ : g = g' ∧ o = o' := by injection hgo with h; injection h with h1 h2; exact ⟨h1, h2⟩
    obtain ⟨g', o', hgo, hg', hcy⟩ := rd.elem hy
    obtain ⟨rfl, rfl⟩ : g = g' ∧ o = o' := by injection hgo with h; injection h with h1 h2; exact ⟨h1, h2⟩
    have pa0 : w.cell? ⟨g, o, none⟩ = some (.int .i64 a1) := by have := hca 0 _ rfl; simpa [Nat.add_assoc] using this
    have pa1 : w.cell? ⟨g, o + 1, none⟩ = some (.int .i64 a2) := by have := hca 1 _ rfl; simpa [Nat.add_assoc] using this
    have pb0 : w.cell? ⟨g, o + 2, none⟩ = some (.int .i64 b1) := by have := hcb 0 _ rfl; simpa [Nat.add_assoc] using this
    have pb1 : w.cell? ⟨g, o + 3, none⟩ = some (.int .i64 b2) := by have := hcb 1 _ rfl; simpa [Nat.add_assoc] using this
    have pz0 : w.cell? ⟨g, o + jz * 2, none⟩ = some (.int .i64 z1) := by have := hcz 0 _ rfl; simpa [Nat.add_assoc] using this
    have pz1 : w.cell? ⟨g, o + jz * 2 + 1, none⟩ = some (.int .i64 z2) := by have := hcz 1 _ rfl; simpa [Nat.add_assoc] using this
    have py0 : w.cell? ⟨g, o + jy * 2, none⟩ = some (.int .i64 y1) := by have := hcy 0 _ rfl; simpa [Nat.add_assoc] using this
    have py1 : w.cell? ⟨g, o + jy * 2 + 1, none⟩ = some (.int .i64 y2) := by have := hcy 1 _ rfl; simpa [Nat.add_assoc] using this
    have RD := Lib.hid rd
    clear hca hcb hcz hcy rd hgo ha hb hz hy
    have m1 : (n : Int) - 1 = (jz : Int) := by omega
    have m2 : (n : Int) - 2 = (jy : Int) := by omega
    have w1' : IntKind.i64.wrap (jz : Int) = (jz : Int) := IntWalk.i64_in _ (by omega)
    have w2' : IntKind.i64.wrap (jy : Int) = (jy : Int) := IntWalk.i64_in _ (by omega)
    have x0 : (0 : Int) < (n : Int) := by omega
    have x1 : (1 : Int) < (n : Int) := by omega
    have x2 : (jz : Int) < (n : Int) := by omega
    have x3 : (jy : Int) < (n : Int) := by omega
    have x4 : 0 < n := by omega
    have x5 : 1 < n := by omega
    have x6 : jz < n := by omega
    have x7 : jy < n := by omega
    have HN := Lib.hid hn
    have HZ := Lib.hid hjz
    have HY := Lib.hid hjy
    clear hn hjz hjy
    go_enter Try.func48, Try.ntmps48
    go_upto_region 2 with fail
    generalize hW : w.alloc (.cells #[.int .i64 0, .int .i64 0, .int .i64 0, .int .i64 0, .int .i64 0, .int .i64 0] 31) = W0
    have bk : Blk W0 w.heap.size 31 #[.int .i64 0, .int .i64 0, .int .i64 0, .int .i64 0, .int .i64 0, .int .i64 0] := by rw [← hW]; exact Blk.new _ _ _
    have g0 : Below w.heap.size w W0 := by rw [← hW]; repeat' (first | with_reducible assumption | with_reducible exact Below.refl _ _ | (with_reducible refine Below.setCell ?_ ?_ _) | (with_reducible refine Below.alloc ?_ ?_ _) | (with_reducible refine Below.drew ?_) | (with_reducible refine below_dr ?_ _) | (with_reducible refine Below.trans ?_ (Below.mono (by with_reducible assumption) ?_)) | omega | (simp; done) | (simp; omega))
    have qa0 : W0.cell? ⟨g, o, none⟩ = some (.int .i64 a1) := (g0.cell (p := ⟨g, o, none⟩) hg).trans pa0
    have qa1 : W0.cell? ⟨g, o + 1, none⟩ = some (.int .i64 a2) := (g0.cell (p := ⟨g, o + 1, none⟩) hg).trans pa1
    have qb0 : W0.cell? ⟨g, o + 2, none⟩ = some (.int .i64 b1) := (g0.cell (p := ⟨g, o + 2, none⟩) hg).trans pb0
    have qb1 : W0.cell? ⟨g, o + 3, none⟩ = some (.int .i64 b2) := (g0.cell (p := ⟨g, o + 3, none⟩) hg).trans pb1
    have qz0 : W0.cell? ⟨g, o + jz * 2, none⟩ = some (.int .i64 z1) := (g0.cell (p := ⟨g, o + jz * 2, none⟩) hg).trans pz0
    have qz1 : W0.cell? ⟨g, o + jz * 2 + 1, none⟩ = some (.int .i64 z2) := (g0.cell (p := ⟨g, o + jz * 2 + 1, none⟩) hg).trans pz1
    have qy0 : W0.cell? ⟨g, o + jy * 2, none⟩ = some (.int .i64 y1) := (g0.cell (p := ⟨g, o + jy * 2, none⟩) hg).trans py0
    have qy1 : W0.cell? ⟨g, o + jy * 2 + 1, none⟩ = some (.int .i64 y2) := (g0.cell (p := ⟨g, o + jy * 2 + 1, none⟩) hg).trans py1
    have bz : w.heap.size < W0.heap.size := bk.lt
    have hgW : g < W0.heap.size := by omega
    clear hW pa0 pa1 pb0 pb1 pz0 pz1 py0 py1
    go_cut [7, 8] (fun s7 s8 wx => (∃ (g1 : Nat), s7 = .pointer (some ⟨g1, 0, none⟩) ∧ w.heap.size < g1 ∧ AtL g1 [.int .i64 X, .int .i64 Y] wx) ∧ s8 = .bool true ∧ Blk wx w.heap.size 31 #[.int .i64 0, .int .i64 0, .int .i64 0, .int .i64 0, .int .i64 0, .int .i64 0] ∧ Below W0.heap.size W0 wx)
    case first =>
      go_region_held3 (fun w' => (∀ b o, b < W0.heap.size → w'.cell? ⟨b, o, none⟩ = W0.cell? ⟨b, o, none⟩) ∧ (∀ b o, b < W0.heap.size → w'.frozen? ⟨b, o, none⟩ = W0.frozen? ⟨b, o, none⟩) ∧ W0.heap.size ≤ w'.heap.size)
        (first | ((try dsimp only); exact ⟨fun b o h => (by (repeat (first | with_reducible exact rfl | (with_reducible refine (cell_drew_at _ _).trans ?_) | (with_reducible refine (cell_set_at _ _ (by first | omega | (simp; done) | (simp; omega))).trans ?_) | (with_reducible refine (cell_alloc_at _ _ (by first | omega | (simp; done) | (simp; omega))).trans ?_) | (with_reducible refine (hcwF b o (by first | omega | (simp; done) | (simp; omega))).trans ?_)))), fun b o h => (by (repeat (first | with_reducible exact rfl | (with_reducible refine (frozen_drew_at _ _).trans ?_) | (with_reducible refine (World.frozen?_setCell _ _ _ _).trans ?_) | (with_reducible refine (frozen_alloc_at _ _ (by first | omega | (simp; done) | (simp; omega))).trans ?_) | (with_reducible refine (hfwF b o (by first | omega | (simp; done) | (simp; omega))).trans ?_)))), (by first | omega | (simp; done) | (simp; omega))⟩) | fail)
        (first
          | (go_at_call 79; (with_reducible refine (CL.out _).mono ?_); rintro e wF ⟨X', Y', rfl, hXY, hbwF⟩; obtain ⟨hcwF, hfwF⟩ := bcell hbwF; have hzwF := hbwF.size; (try simp only [World.size_drew] at hcwF hfwF hzwF); (try simp only [World.size_alloc] at hcwF hfwF hzwF); (try have qW0 : W0.heap.size < wF.heap.size := (by omega))))
      all_goals
        obtain ⟨e1, e2⟩ : X' = X ∧ Y' = Y := by first | exact hXY rfl | exact hXY trivial | exact hXY
        subst e1
        subst e2
        go_wp2_with fail
        go_meet
      all_goals exact ⟨⟨_, rfl, by (try simp only [World.size_drew]); omega, by repeat' (first | ((with_reducible refine AtL.newAt ?_); (first | rfl | (simp; done))) | with_reducible assumption | with_reducible exact AtL.new _ _ _ | (with_reducible refine AtL.drew ?_) | (with_reducible apply AtL.store2) | (with_reducible refine AtL.alloc ?_ _) | (with_reducible refine AtL.far ?_ ?_ _ _) | (with_reducible refine AtL.below ?_ (by with_reducible assumption)) | omega | (simp; done) | (simp; omega))⟩, rfl, by repeat' (first | with_reducible assumption | with_reducible exact Blk.new _ _ _ | (with_reducible refine Blk.drew ?_) | (with_reducible refine Blk.carry ?_ (by with_reducible assumption)) | (with_reducible refine Blk.alloc ?_ _) | (with_reducible refine Blk.far ?_ ?_ _) | omega | (simp; done) | (simp; omega)), by repeat' (first | with_reducible assumption | with_reducible exact Below.refl _ _ | (with_reducible refine Below.setCell ?_ ?_ _) | (with_reducible refine Below.alloc ?_ ?_ _) | (with_reducible refine Below.drew ?_) | (with_reducible refine below_dr ?_ _) | (with_reducible refine Below.trans ?_ (Below.mono (by with_reducible assumption) ?_)) | omega | (simp; done) | (simp; omega))⟩
    case rest =>
      obtain ⟨⟨g1, rfl, gz1, at1⟩, rfl, bk1, bel1⟩ := hcut
      obtain ⟨W1, rfl⟩ : ∃ W : World, W = wc := ⟨_, rfl⟩
      have bzz := bel1.size
      have gW1 : Below w.heap.size w W1 := g0.trans (bel1.mono g0.size)
      have ra0 : W1.cell? ⟨g, o, none⟩ = some (.int .i64 a1) := (bel1.cell (p := ⟨g, o, none⟩) hgW).trans qa0
      have ra1 : W1.cell? ⟨g, o + 1, none⟩ = some (.int .i64 a2) := (bel1.cell (p := ⟨g, o + 1, none⟩) hgW).trans qa1
      have rb0 : W1.cell? ⟨g, o + 2, none⟩ = some (.int .i64 b1) := (bel1.cell (p := ⟨g, o + 2, none⟩) hgW).trans qb0
      have rb1 : W1.cell? ⟨g, o + 3, none⟩ = some (.int .i64 b2) := (bel1.cell (p := ⟨g, o + 3, none⟩) hgW).trans qb1
      have rz0 : W1.cell? ⟨g, o + jz * 2, none⟩ = some (.int .i64 z1) := (bel1.cell (p := ⟨g, o + jz * 2, none⟩) hgW).trans qz0
      have rz1 : W1.cell? ⟨g, o + jz * 2 + 1, none⟩ = some (.int .i64 z2) := (bel1.cell (p := ⟨g, o + jz * 2 + 1, none⟩) hgW).trans qz1
      have ry0 : W1.cell? ⟨g, o + jy * 2, none⟩ = some (.int .i64 y1) := (bel1.cell (p := ⟨g, o + jy * 2, none⟩) hgW).trans qy0
      have ry1 : W1.cell? ⟨g, o + jy * 2 + 1, none⟩ = some (.int .i64 y2) := (bel1.cell (p := ⟨g, o + jy * 2 + 1, none⟩) hgW).trans qy1
      have d0 := at1.cell 0 rfl
      have d1 := at1.cell 1 rfl
      have dz := at1.lt
      have gW2 : g < W1.heap.size := by omega
      clear qa0 qa1 qb0 qb1 qz0 qz1 qy0 qy1 CL
      go_upto_region 5 with fail
      go_cut [9] (fun s9 wx => (∃ q : Nat, s9 = .pointer (some ⟨q, 0, none⟩) ∧ w.heap.size < q ∧ AtL q [.int .i64 a1, .int .i64 a2, .int .i64 X, .int .i64 Y, .int .i64 z1, .int .i64 z2] wx) ∧ Blk wx w.heap.size 31 #[.int .i64 0, .int .i64 0, .int .i64 0, .int .i64 0, .int .i64 0, .int .i64 0] ∧ Below W1.heap.size W1 wx)
      case first =>
        go_region_held3 (fun w' => (∀ b o, b < W1.heap.size → w'.cell? ⟨b, o, none⟩ = W1.cell? ⟨b, o, none⟩) ∧ (∀ b o, b < W1.heap.size → w'.frozen? ⟨b, o, none⟩ = W1.frozen? ⟨b, o, none⟩) ∧ W1.heap.size ≤ w'.heap.size)
          (first | ((try dsimp only); exact ⟨fun b o h => (by (repeat (first | with_reducible exact rfl | (with_reducible refine (cell_drew_at _ _).trans ?_) | (with_reducible refine (cell_set_at _ _ (by first | omega | (simp; done) | (simp; omega))).trans ?_) | (with_reducible refine (cell_alloc_at _ _ (by first | omega | (simp; done) | (simp; omega))).trans ?_)))), fun b o h => (by (repeat (first | with_reducible exact rfl | (with_reducible refine (frozen_drew_at _ _).trans ?_) | (with_reducible refine (World.frozen?_setCell _ _ _ _).trans ?_) | (with_reducible refine (frozen_alloc_at _ _ (by first | omega | (simp; done) | (simp; omega))).trans ?_)))), (by first | omega | (simp; done) | (simp; omega))⟩) | fail)
          (first
            | fail)
        all_goals
          go_wp2_with fail
          go_meet
        all_goals exact ⟨⟨_, rfl, by (try simp only [World.size_drew]); omega, by repeat' (first | ((with_reducible refine AtL.newAt ?_); (first | rfl | (simp; done))) | with_reducible assumption | with_reducible exact AtL.new _ _ _ | (with_reducible refine AtL.drew ?_) | (with_reducible apply AtL.store6) | (with_reducible refine AtL.alloc ?_ _) | (with_reducible refine AtL.far ?_ ?_ _ _) | (with_reducible refine AtL.below ?_ (by with_reducible assumption)) | omega | (simp; done) | (simp; omega))⟩, by repeat' (first | with_reducible assumption | with_reducible exact Blk.new _ _ _ | (with_reducible refine Blk.drew ?_) | (with_reducible refine Blk.carry ?_ (by with_reducible assumption)) | (with_reducible refine Blk.alloc ?_ _) | (with_reducible refine Blk.far ?_ ?_ _) | omega | (simp; done) | (simp; omega)), by repeat' (first | with_reducible assumption | with_reducible exact Below.refl _ _ | (with_reducible refine Below.setCell ?_ ?_ _) | (with_reducible refine Below.alloc ?_ ?_ _) | (with_reducible refine Below.drew ?_) | (with_reducible refine below_dr ?_ _) | (with_reducible refine Below.trans ?_ (Below.mono (by with_reducible assumption) ?_)) | omega | (simp; done) | (simp; omega))⟩
      case rest =>
        obtain ⟨⟨q, rfl, gq, at2⟩, bk2, bel2⟩ := hcut
        obtain ⟨W2, rfl⟩ : ∃ W : World, W = wc := ⟨_, rfl⟩
        have bz2 := bel2.size
        have gW2b : Below w.heap.size w W2 := gW1.trans (bel2.mono gW1.size)
        have hz2 := gW2b.size
        have k0 := at2.cell 0 rfl
        have k1 := at2.cell 1 rfl
        have k2 := at2.cell 2 rfl
        have k3 := at2.cell 3 rfl
        have k4 := at2.cell 4 rfl
        have k5 := at2.cell 5 rfl
        have kz := at2.lt
        clear ra0 ra1 rb0 rb1 rz0 rz1 ry0 ry1 d0 d1 dz
        go_wp2_with fail
        refine (FL.out _ _ kz k0 k1 k2 k3 k4 k5).mono ?_
        rintro e W3 ⟨Af, kf, rfl, ow, bel3⟩
        have hz3 := bel3.size
        have gW3 : Below w.heap.size w W3 := gW2b.trans (bel3.mono hz2)
        have bk3 := bk2.carry bel3
        have at3 := at2.below bel3
        clear FL k0 k1 k2 k3 k4 k5 kz
        go_wp2_with fail
        refine (V1.out _ _ _ _ _ ((RD.out.below gW3).more (by omega)) (Rd.of_own (fun a => cPt_len a) (by omega) ow (Nat.le_refl _))).mono ?_
        rintro e W4 ⟨rfl, bel4⟩
        have hz4 := bel4.size
        have gW4 : Below w.heap.size w W4 := gW3.trans (bel4.mono gW3.size)
        have bk4 := bk3.carry bel4
        have at4 := at3.below bel4
        have RF := (Rd.of_own (fun a => cPt_len a) (by omega) ow (Nat.le_refl _)).below bel4
        have f0 := bk4.frozen 0
        have f1 := bk4.frozen 1
        have f2 := bk4.frozen 2
        have f3 := bk4.frozen 3
        have f4 := bk4.frozen 4
        have f5 := bk4.frozen 5
        have c0 := bk4.cell 0 rfl
        have c1 := bk4.cell 1 rfl
        have c2 := bk4.cell 2 rfl
        have c3 := bk4.cell 3 rfl
        have c4 := bk4.cell 4 rfl
        have c5 := bk4.cell 5 rfl
        go_wp2
        have bf := (((((bk4.set_ 0 (.int .i64 0)).set_ 1 (.int .i64 0)).set_ 2 (.int .i64 0)).set_ 3 (.int .i64 0)).set_ 4 (.int .i64 0)).set_ 5 (.int .i64 0)
        have r0 := bf.cell 0 rfl
        have r1 := bf.cell 1 rfl
        have r2 := bf.cell 2 rfl
        have r3 := bf.cell 3 rfl
        have r4 := bf.cell 4 rfl
        have r5 := bf.cell 5 rfl
        refine bodyPost_ret (v := .tuple #[.agg #[.int .i64 0, .int .i64 0, .int .i64 0, .int .i64 0, .int .i64 0, .int .i64 0], .bool false]) (by simp [results, Try.results48, go_sem, r0, r1, r2, r3, r4, r5]) rfl ⟨?_, ?_⟩
        · first | rfl | (rw [HG.out]; rfl)
        repeat' (first | with_reducible assumption | with_reducible exact Below.refl _ _ | (with_reducible refine Below.setCell ?_ ?_ _) | (with_reducible refine Below.alloc ?_ ?_ _) | (with_reducible refine Below.drew ?_) | (with_reducible refine below_dr ?_ _) | (with_reducible refine Below.trans ?_ (Below.mono (by with_reducible assumption) ?_)) | omega | (simp; done) | (simp; omega))
  rw [hv1] at V1
  rcases hv2 : alV (fqF a1 a2 b1 b2 z1 z2 y1 y2) l t with _ | _
  · have HG : fqG a1 a2 b1 b2 z1 z2 y1 y2 l t = false := by rw [HGG.out, hL, hB, hv1, hv2]; simp
    rw [hv2] at V2
    have HG := Lib.hid HG
    clear HGG hL hB va vb vz vy hv hv1 hv2
    generalize fqX a1 a2 b1 b2 z1 z2 y1 y2 = X at *
    generalize fqY a1 a2 b1 b2 z1 z2 y1 y2 = Y at *
    generalize fqF a1 a2 b1 b2 z1 z2 y1 y2 = G at *
    obtain ⟨n, hn⟩ : ∃ n, n = l.length := ⟨_, rfl⟩
    obtain ⟨jz, hjz⟩ : ∃ jz, jz = n - 1 := ⟨_, rfl⟩
    obtain ⟨jy, hjy⟩ : ∃ jy, jy = n - 2 := ⟨_, rfl⟩
    rw [← hn] at hl h3 ⊢
    (try rw [← hn] at V1)
    (try rw [← hn] at V2)
    rw [← hn, ← hjz] at hz
    rw [← hn, ← hjy] at hy
    obtain ⟨g, o, rfl, hg, hca⟩ := rd.elem ha
    obtain ⟨g', o', hgo, hg', hcb⟩ := rd.elem hb
    obtain ⟨rfl, rfl⟩ : g = g' ∧ o = o' := by injection hgo with h; injection h with h1 h2; exact ⟨h1, h2⟩
    obtain ⟨g', o', hgo, hg', hcz⟩ := rd.elem hz
    obtain ⟨rfl, rfl⟩ : g = g' ∧ o = o' := by injection hgo with h; injection h with h1 h2; exact ⟨h1, h2⟩
    obtain ⟨g', o', hgo, hg', hcy⟩ := rd.elem hy
    obtain ⟨rfl, rfl⟩ : g = g' ∧ o = o' := by injection hgo with h; injection h with h1 h2; exact ⟨h1, h2⟩
    have pa0 : w.cell? ⟨g, o, none⟩ = some (.int .i64 a1) := by have := hca 0 _ rfl; simpa [Nat.add_assoc] using this
    have pa1 : w.cell? ⟨g, o + 1, none⟩ = some (.int .i64 a2) := by have := hca 1 _ rfl; simpa [Nat.add_assoc] using this
    have pb0 : w.cell? ⟨g, o + 2, none⟩ = some (.int .i64 b1) := by have := hcb 0 _ rfl; simpa [Nat.add_assoc] using this
    have pb1 : w.cell? ⟨g, o + 3, none⟩ = some (.int .i64 b2) := by have := hcb 1 _ rfl; simpa [Nat.add_assoc] using this
    have pz0 : w.cell? ⟨g, o + jz * 2, none⟩ = some (.int .i64 z1) := by have := hcz 0 _ rfl; simpa [Nat.add_assoc] using this
    have pz1 : w.cell? ⟨g, o + jz * 2 + 1, none⟩ = some (.int .i64 z2) := by have := hcz 1 _ rfl; simpa [Nat.add_assoc] using this
    have py0 : w.cell? ⟨g, o + jy * 2, none⟩ = some (.int .i64 y1) := by have := hcy 0 _ rfl; simpa [Nat.add_assoc] using this
    have py1 : w.cell? ⟨g, o + jy * 2 + 1, none⟩ = some (.int .i64 y2) := by have := hcy 1 _ rfl; simpa [Nat.add_assoc] using this
    have RD := Lib.hid rd
    clear hca hcb hcz hcy rd hgo ha hb hz hy
    have m1 : (n : Int) - 1 = (jz : Int) := by omega
    have m2 : (n : Int) - 2 = (jy : Int) := by omega
    have w1' : IntKind.i64.wrap (jz : Int) = (jz : Int) := IntWalk.i64_in _ (by omega)
    have w2' : IntKind.i64.wrap (jy : Int) = (jy : Int) := IntWalk.i64_in _ (by omega)
    have x0 : (0 : Int) < (n : Int) := by omega
    have x1 : (1 : Int) < (n : Int) := by omega
    have x2 : (jz : Int) < (n : Int) := by omega
    have x3 : (jy : Int) < (n : Int) := by omega
    have x4 : 0 < n := by omega
    have x5 : 1 < n := by omega
    have x6 : jz < n := by omega
    have x7 : jy < n := by omega
    have HN := Lib.hid hn
    have HZ := Lib.hid hjz
    have HY := Lib.hid hjy
    clear hn hjz hjy
    go_enter Try.func48, Try.ntmps48
    go_upto_region 2 with fail
    generalize hW : w.alloc (.cells #[.int .i64 0, .int .i64 0, .int .i64 0, .int .i64 0, .int .i64 0, .int .i64 0] 31) = W0
    have bk : Blk W0 w.heap.size 31 #[.int .i64 0, .int .i64 0, .int .i64 0, .int .i64 0, .int .i64 0, .int .i64 0] := by rw [← hW]; exact Blk.new _ _ _
    have g0 : Below w.heap.size w W0 := by rw [← hW]; repeat' (first | with_reducible assumption | with_reducible exact Below.refl _ _ | (with_reducible refine Below.setCell ?_ ?_ _) | (with_reducible refine Below.alloc ?_ ?_ _) | (with_reducible refine Below.drew ?_) | (with_reducible refine below_dr ?_ _) | (with_reducible refine Below.trans ?_ (Below.mono (by with_reducible assumption) ?_)) | omega | (simp; done) | (simp; omega))
    have qa0 : W0.cell? ⟨g, o, none⟩ = some (.int .i64 a1) := (g0.cell (p := ⟨g, o, none⟩) hg).trans pa0
    have qa1 : W0.cell? ⟨g, o + 1, none⟩ = some (.int .i64 a2) := (g0.cell (p := ⟨g, o + 1, none⟩) hg).trans pa1
    have qb0 : W0.cell? ⟨g, o + 2, none⟩ = some (.int .i64 b1) := (g0.cell (p := ⟨g, o + 2, none⟩) hg).trans pb0
    have qb1 : W0.cell? ⟨g, o + 3, none⟩ = some (.int .i64 b2) := (g0.cell (p := ⟨g, o + 3, none⟩) hg).trans pb1
    have qz0 : W0.cell? ⟨g, o + jz * 2, none⟩ = some (.int .i64 z1) := (g0.cell (p := ⟨g, o + jz * 2, none⟩) hg).trans pz0
    have qz1 : W0.cell? ⟨g, o + jz * 2 + 1, none⟩ = some (.int .i64 z2) := (g0.cell (p := ⟨g, o + jz * 2 + 1, none⟩) hg).trans pz1
    have qy0 : W0.cell? ⟨g, o + jy * 2, none⟩ = some (.int .i64 y1) := (g0.cell (p := ⟨g, o + jy * 2, none⟩) hg).trans py0
    have qy1 : W0.cell? ⟨g, o + jy * 2 + 1, none⟩ = some (.int .i64 y2) := (g0.cell (p := ⟨g, o + jy * 2 + 1, none⟩) hg).trans py1
    have bz : w.heap.size < W0.heap.size := bk.lt
    have hgW : g < W0.heap.size := by omega
    clear hW pa0 pa1 pb0 pb1 pz0 pz1 py0 py1
    go_cut [7, 8] (fun s7 s8 wx => (∃ (g1 : Nat), s7 = .pointer (some ⟨g1, 0, none⟩) ∧ w.heap.size < g1 ∧ AtL g1 [.int .i64 X, .int .i64 Y] wx) ∧ s8 = .bool true ∧ Blk wx w.heap.size 31 #[.int .i64 0, .int .i64 0, .int .i64 0, .int .i64 0, .int .i64 0, .int .i64 0] ∧ Below W0.heap.size W0 wx)
    case first =>
      go_region_held3 (fun w' => (∀ b o, b < W0.heap.size → w'.cell? ⟨b, o, none⟩ = W0.cell? ⟨b, o, none⟩) ∧ (∀ b o, b < W0.heap.size → w'.frozen? ⟨b, o, none⟩ = W0.frozen? ⟨b, o, none⟩) ∧ W0.heap.size ≤ w'.heap.size)
        (first | ((try dsimp only); exact ⟨fun b o h => (by (repeat (first | with_reducible exact rfl | (with_reducible refine (cell_drew_at _ _).trans ?_) | (with_reducible refine (cell_set_at _ _ (by first | omega | (simp; done) | (simp; omega))).trans ?_) | (with_reducible refine (cell_alloc_at _ _ (by first | omega | (simp; done) | (simp; omega))).trans ?_) | (with_reducible refine (hcwF b o (by first | omega | (simp; done) | (simp; omega))).trans ?_)))), fun b o h => (by (repeat (first | with_reducible exact rfl | (with_reducible refine (frozen_drew_at _ _).trans ?_) | (with_reducible refine (World.frozen?_setCell _ _ _ _).trans ?_) | (with_reducible refine (frozen_alloc_at _ _ (by first | omega | (simp; done) | (simp; omega))).trans ?_) | (with_reducible refine (hfwF b o (by first | omega | (simp; done) | (simp; omega))).trans ?_)))), (by first | omega | (simp; done) | (simp; omega))⟩) | fail)
        (first
          | (go_at_call 79; (with_reducible refine (CL.out _).mono ?_); rintro e wF ⟨X', Y', rfl, hXY, hbwF⟩; obtain ⟨hcwF, hfwF⟩ := bcell hbwF; have hzwF := hbwF.size; (try simp only [World.size_drew] at hcwF hfwF hzwF); (try simp only [World.size_alloc] at hcwF hfwF hzwF); (try have qW0 : W0.heap.size < wF.heap.size := (by omega))))
      all_goals
        obtain ⟨e1, e2⟩ : X' = X ∧ Y' = Y := by first | exact hXY rfl | exact hXY trivial | exact hXY
        subst e1
        subst e2
        go_wp2_with fail
        go_meet
      all_goals exact ⟨⟨_, rfl, by (try simp only [World.size_drew]); omega, by repeat' (first | ((with_reducible refine AtL.newAt ?_); (first | rfl | (simp; done))) | with_reducible assumption | with_reducible exact AtL.new _ _ _ | (with_reducible refine AtL.drew ?_) | (with_reducible apply AtL.store2) | (with_reducible refine AtL.alloc ?_ _) | (with_reducible refine AtL.far ?_ ?_ _ _) | (with_reducible refine AtL.below ?_ (by with_reducible assumption)) | omega | (simp; done) | (simp; omega))⟩, rfl, by repeat' (first | with_reducible assumption | with_reducible exact Blk.new _ _ _ | (with_reducible refine Blk.drew ?_) | (with_reducible refine Blk.carry ?_ (by with_reducible assumption)) | (with_reducible refine Blk.alloc ?_ _) | (with_reducible refine Blk.far ?_ ?_ _) | omega | (simp; done) | (simp; omega)), by repeat' (first | with_reducible assumption | with_reducible exact Below.refl _ _ | (with_reducible refine Below.setCell ?_ ?_ _) | (with_reducible refine Below.alloc ?_ ?_ _) | (with_reducible refine Below.drew ?_) | (with_reducible refine below_dr ?_ _) | (with_reducible refine Below.trans ?_ (Below.mono (by with_reducible assumption) ?_)) | omega | (simp; done) | (simp; omega))⟩
    case rest =>
      obtain ⟨⟨g1, rfl, gz1, at1⟩, rfl, bk1, bel1⟩ := hcut
      obtain ⟨W1, rfl⟩ : ∃ W : World, W = wc := ⟨_, rfl⟩
      have bzz := bel1.size
      have gW1 : Below w.heap.size w W1 := g0.trans (bel1.mono g0.size)
      have ra0 : W1.cell? ⟨g, o, none⟩ = some (.int .i64 a1) := (bel1.cell (p := ⟨g, o, none⟩) hgW).trans qa0
      have ra1 : W1.cell? ⟨g, o + 1, none⟩ = some (.int .i64 a2) := (bel1.cell (p := ⟨g, o + 1, none⟩) hgW).trans qa1
      have rb0 : W1.cell? ⟨g, o + 2, none⟩ = some (.int .i64 b1) := (bel1.cell (p := ⟨g, o + 2, none⟩) hgW).trans qb0
      have rb1 : W1.cell? ⟨g, o + 3, none⟩ = some (.int .i64 b2) := (bel1.cell (p := ⟨g, o + 3, none⟩) hgW).trans qb1
      have rz0 : W1.cell? ⟨g, o + jz * 2, none⟩ = some (.int .i64 z1) := (bel1.cell (p := ⟨g, o + jz * 2, none⟩) hgW).trans qz0
      have rz1 : W1.cell? ⟨g, o + jz * 2 + 1, none⟩ = some (.int .i64 z2) := (bel1.cell (p := ⟨g, o + jz * 2 + 1, none⟩) hgW).trans qz1
      have ry0 : W1.cell? ⟨g, o + jy * 2, none⟩ = some (.int .i64 y1) := (bel1.cell (p := ⟨g, o + jy * 2, none⟩) hgW).trans qy0
      have ry1 : W1.cell? ⟨g, o + jy * 2 + 1, none⟩ = some (.int .i64 y2) := (bel1.cell (p := ⟨g, o + jy * 2 + 1, none⟩) hgW).trans qy1
      have d0 := at1.cell 0 rfl
      have d1 := at1.cell 1 rfl
      have dz := at1.lt
      have gW2 : g < W1.heap.size := by omega
      clear qa0 qa1 qb0 qb1 qz0 qz1 qy0 qy1 CL
      go_upto_region 5 with fail
      go_cut [9] (fun s9 wx => (∃ q : Nat, s9 = .pointer (some ⟨q, 0, none⟩) ∧ w.heap.size < q ∧ AtL q [.int .i64 a1, .int .i64 a2, .int .i64 X, .int .i64 Y, .int .i64 z1, .int .i64 z2] wx) ∧ Blk wx w.heap.size 31 #[.int .i64 0, .int .i64 0, .int .i64 0, .int .i64 0, .int .i64 0, .int .i64 0] ∧ Below W1.heap.size W1 wx)
      case first =>
        go_region_held3 (fun w' => (∀ b o, b < W1.heap.size → w'.cell? ⟨b, o, none⟩ = W1.cell? ⟨b, o, none⟩) ∧ (∀ b o, b < W1.heap.size → w'.frozen? ⟨b, o, none⟩ = W1.frozen? ⟨b, o, none⟩) ∧ W1.heap.size ≤ w'.heap.size)
          (first | ((try dsimp only); exact ⟨fun b o h => (by (repeat (first | with_reducible exact rfl | (with_reducible refine (cell_drew_at _ _).trans ?_) | (with_reducible refine (cell_set_at _ _ (by first | omega | (simp; done) | (simp; omega))).trans ?_) | (with_reducible refine (cell_alloc_at _ _ (by first | omega | (simp; done) | (simp; omega))).trans ?_)))), fun b o h => (by (repeat (first | with_reducible exact rfl | (with_reducible refine (frozen_drew_at _ _).trans ?_) | (with_reducible refine (World.frozen?_setCell _ _ _ _).trans ?_) | (with_reducible refine (frozen_alloc_at _ _ (by first | omega | (simp; done) | (simp; omega))).trans ?_)))), (by first | omega | (simp; done) | (simp; omega))⟩) | fail)
          (first
            | fail)
        all_goals
          go_wp2_with fail
          go_meet
        all_goals exact ⟨⟨_, rfl, by (try simp only [World.size_drew]); omega, by repeat' (first | ((with_reducible refine AtL.newAt ?_); (first | rfl | (simp; done))) | with_reducible assumption | with_reducible exact AtL.new _ _ _ | (with_reducible refine AtL.drew ?_) | (with_reducible apply AtL.store6) | (with_reducible refine AtL.alloc ?_ _) | (with_reducible refine AtL.far ?_ ?_ _ _) | (with_reducible refine AtL.below ?_ (by with_reducible assumption)) | omega | (simp; done) | (simp; omega))⟩, by repeat' (first | with_reducible assumption | with_reducible exact Blk.new _ _ _ | (with_reducible refine Blk.drew ?_) | (with_reducible refine Blk.carry ?_ (by with_reducible assumption)) | (with_reducible refine Blk.alloc ?_ _) | (with_reducible refine Blk.far ?_ ?_ _) | omega | (simp; done) | (simp; omega)), by repeat' (first | with_reducible assumption | with_reducible exact Below.refl _ _ | (with_reducible refine Below.setCell ?_ ?_ _) | (with_reducible refine Below.alloc ?_ ?_ _) | (with_reducible refine Below.drew ?_) | (with_reducible refine below_dr ?_ _) | (with_reducible refine Below.trans ?_ (Below.mono (by with_reducible assumption) ?_)) | omega | (simp; done) | (simp; omega))⟩
      case rest =>
        obtain ⟨⟨q, rfl, gq, at2⟩, bk2, bel2⟩ := hcut
        obtain ⟨W2, rfl⟩ : ∃ W : World, W = wc := ⟨_, rfl⟩
        have bz2 := bel2.size
        have gW2b : Below w.heap.size w W2 := gW1.trans (bel2.mono gW1.size)
        have hz2 := gW2b.size
        have k0 := at2.cell 0 rfl
        have k1 := at2.cell 1 rfl
        have k2 := at2.cell 2 rfl
        have k3 := at2.cell 3 rfl
        have k4 := at2.cell 4 rfl
        have k5 := at2.cell 5 rfl
        have kz := at2.lt
        clear ra0 ra1 rb0 rb1 rz0 rz1 ry0 ry1 d0 d1 dz
        go_wp2_with fail
        refine (FL.out _ _ kz k0 k1 k2 k3 k4 k5).mono ?_
        rintro e W3 ⟨Af, kf, rfl, ow, bel3⟩
        have hz3 := bel3.size
        have gW3 : Below w.heap.size w W3 := gW2b.trans (bel3.mono hz2)
        have bk3 := bk2.carry bel3
        have at3 := at2.below bel3
        clear FL k0 k1 k2 k3 k4 k5 kz
        go_wp2_with fail
        refine (V1.out _ _ _ _ _ ((RD.out.below gW3).more (by omega)) (Rd.of_own (fun a => cPt_len a) (by omega) ow (Nat.le_refl _))).mono ?_
        rintro e W4 ⟨rfl, bel4⟩
        have hz4 := bel4.size
        have gW4 : Below w.heap.size w W4 := gW3.trans (bel4.mono gW3.size)
        have bk4 := bk3.carry bel4
        have at4 := at3.below bel4
        have RF := (Rd.of_own (fun a => cPt_len a) (by omega) ow (Nat.le_refl _)).below bel4
        go_wp2_with fail
        refine (V2.out _ _ _ _ _ (RF.more (by omega)) ((RD.out.below gW4).more (by omega))).mono ?_
        rintro e W5 ⟨rfl, bel5⟩
        have hz5 := bel5.size
        have gW5 : Below w.heap.size w W5 := gW4.trans (bel5.mono gW4.size)
        have bk5 := bk4.carry bel5
        have at5 := at4.below bel5
        have f0 := bk5.frozen 0
        have f1 := bk5.frozen 1
        have f2 := bk5.frozen 2
        have f3 := bk5.frozen 3
        have f4 := bk5.frozen 4
        have f5 := bk5.frozen 5
        have c0 := bk5.cell 0 rfl
        have c1 := bk5.cell 1 rfl
        have c2 := bk5.cell 2 rfl
        have c3 := bk5.cell 3 rfl
        have c4 := bk5.cell 4 rfl
        have c5 := bk5.cell 5 rfl
        go_wp2
        have bf := (((((bk5.set_ 0 (.int .i64 0)).set_ 1 (.int .i64 0)).set_ 2 (.int .i64 0)).set_ 3 (.int .i64 0)).set_ 4 (.int .i64 0)).set_ 5 (.int .i64 0)
        have r0 := bf.cell 0 rfl
        have r1 := bf.cell 1 rfl
        have r2 := bf.cell 2 rfl
        have r3 := bf.cell 3 rfl
        have r4 := bf.cell 4 rfl
        have r5 := bf.cell 5 rfl
        refine bodyPost_ret (v := .tuple #[.agg #[.int .i64 0, .int .i64 0, .int .i64 0, .int .i64 0, .int .i64 0, .int .i64 0], .bool false]) (by simp [results, Try.results48, go_sem, r0, r1, r2, r3, r4, r5]) rfl ⟨?_, ?_⟩
        · first | rfl | (rw [HG.out]; rfl)
        repeat' (first | with_reducible assumption | with_reducible exact Below.refl _ _ | (with_reducible refine Below.setCell ?_ ?_ _) | (with_reducible refine Below.alloc ?_ ?_ _) | (with_reducible refine Below.drew ?_) | (with_reducible refine below_dr ?_ _) | (with_reducible refine Below.trans ?_ (Below.mono (by with_reducible assumption) ?_)) | omega | (simp; done) | (simp; omega))
  · have HG : fqG a1 a2 b1 b2 z1 z2 y1 y2 l t = true := by rw [HGG.out, hL, hB, hv1, hv2]; simp
    rw [hv2] at V2
    have HG := Lib.hid HG
    clear HGG hL hB va vb vz vy hv hv1 hv2
    generalize fqX a1 a2 b1 b2 z1 z2 y1 y2 = X at *
    generalize fqY a1 a2 b1 b2 z1 z2 y1 y2 = Y at *
    generalize fqF a1 a2 b1 b2 z1 z2 y1 y2 = G at *
    obtain ⟨n, hn⟩ : ∃ n, n = l.length := ⟨_, rfl⟩
    obtain ⟨jz, hjz⟩ : ∃ jz, jz = n - 1 := ⟨_, rfl⟩
    obtain ⟨jy, hjy⟩ : ∃ jy, jy = n - 2 := ⟨_, rfl⟩
    rw [← hn] at hl h3 ⊢
    (try rw [← hn] at V1)
    (try rw [← hn] at V2)
    rw [← hn, ← hjz] at hz
    rw [← hn, ← hjy] at hy
    obtain ⟨g, o, rfl, hg, hca⟩ := rd.elem ha
    obtain ⟨g', o', hgo, hg', hcb⟩ := rd.elem hb
    obtain ⟨rfl, rfl⟩ : g = g' ∧ o = o' := by injection hgo with h; injection h with h1 h2; exact ⟨h1, h2⟩
    obtain ⟨g', o', hgo, hg', hcz⟩ := rd.elem hz
    obtain ⟨rfl, rfl⟩ : g = g' ∧ o = o' := by injection hgo with h; injection h with h1 h2; exact ⟨h1, h2⟩
    obtain ⟨g', o', hgo, hg', hcy⟩ := rd.elem hy
    obtain ⟨rfl, rfl⟩ : g = g' ∧ o = o' := by injection hgo with h; injection h with h1 h2; exact ⟨h1, h2⟩
    have pa0 : w.cell? ⟨g, o, none⟩ = some (.int .i64 a1) := by have := hca 0 _ rfl; simpa [Nat.add_assoc] using this
    have pa1 : w.cell? ⟨g, o + 1, none⟩ = some (.int .i64 a2) := by have := hca 1 _ rfl; simpa [Nat.add_assoc] using this
    have pb0 : w.cell? ⟨g, o + 2, none⟩ = some (.int .i64 b1) := by have := hcb 0 _ rfl; simpa [Nat.add_assoc] using this
    have pb1 : w.cell? ⟨g, o + 3, none⟩ = some (.int .i64 b2) := by have := hcb 1 _ rfl; simpa [Nat.add_assoc] using this
    have pz0 : w.cell? ⟨g, o + jz * 2, none⟩ = some (.int .i64 z1) := by have := hcz 0 _ rfl; simpa [Nat.add_assoc] using this
    have pz1 : w.cell? ⟨g, o + jz * 2 + 1, none⟩ = some (.int .i64 z2) := by have := hcz 1 _ rfl; simpa [Nat.add_assoc] using this
    have py0 : w.cell? ⟨g, o + jy * 2, none⟩ = some (.int .i64 y1) := by have := hcy 0 _ rfl; simpa [Nat.add_assoc] using this
    have py1 : w.cell? ⟨g, o + jy * 2 + 1, none⟩ = some (.int .i64 y2) := by have := hcy 1 _ rfl; simpa [Nat.add_assoc] using this
    have RD := Lib.hid rd
    clear hca hcb hcz hcy rd hgo ha hb hz hy
    have m1 : (n : Int) - 1 = (jz : Int) := by omega
    have m2 : (n : Int) - 2 = (jy : Int) := by omega
    have w1' : IntKind.i64.wrap (jz : Int) = (jz : Int) := IntWalk.i64_in _ (by omega)
    have w2' : IntKind.i64.wrap (jy : Int) = (jy : Int) := IntWalk.i64_in _ (by omega)
    have x0 : (0 : Int) < (n : Int) := by omega
    have x1 : (1 : Int) < (n : Int) := by omega
    have x2 : (jz : Int) < (n : Int) := by omega
    have x3 : (jy : Int) < (n : Int) := by omega
    have x4 : 0 < n := by omega
    have x5 : 1 < n := by omega
    have x6 : jz < n := by omega
    have x7 : jy < n := by omega
    have HN := Lib.hid hn
    have HZ := Lib.hid hjz
    have HY := Lib.hid hjy
    clear hn hjz hjy
    go_enter Try.func48, Try.ntmps48
    go_upto_region 2 with fail
    generalize hW : w.alloc (.cells #[.int .i64 0, .int .i64 0, .int .i64 0, .int .i64 0, .int .i64 0, .int .i64 0] 31) = W0
    have bk : Blk W0 w.heap.size 31 #[.int .i64 0, .int .i64 0, .int .i64 0, .int .i64 0, .int .i64 0, .int .i64 0] := by rw [← hW]; exact Blk.new _ _ _
    have g0 : Below w.heap.size w W0 := by rw [← hW]; repeat' (first | with_reducible assumption | with_reducible exact Below.refl _ _ | (with_reducible refine Below.setCell ?_ ?_ _) | (with_reducible refine Below.alloc ?_ ?_ _) | (with_reducible refine Below.drew ?_) | (with_reducible refine below_dr ?_ _) | (with_reducible refine Below.trans ?_ (Below.mono (by with_reducible assumption) ?_)) | omega | (simp; done) | (simp; omega))
    have qa0 : W0.cell? ⟨g, o, none⟩ = some (.int .i64 a1) := (g0.cell (p := ⟨g, o, none⟩) hg).trans pa0
    have qa1 : W0.cell? ⟨g, o + 1, none⟩ = some (.int .i64 a2) := (g0.cell (p := ⟨g, o + 1, none⟩) hg).trans pa1
    have qb0 : W0.cell? ⟨g, o + 2, none⟩ = some (.int .i64 b1) := (g0.cell (p := ⟨g, o + 2, none⟩) hg).trans pb0
    have qb1 : W0.cell? ⟨g, o + 3, none⟩ = some (.int .i64 b2) := (g0.cell (p := ⟨g, o + 3, none⟩) hg).trans pb1
    have qz0 : W0.cell? ⟨g, o + jz * 2, none⟩ = some (.int .i64 z1) := (g0.cell (p := ⟨g, o + jz * 2, none⟩) hg).trans pz0
    have qz1 : W0.cell? ⟨g, o + jz * 2 + 1, none⟩ = some (.int .i64 z2) := (g0.cell (p := ⟨g, o + jz * 2 + 1, none⟩) hg).trans pz1
    have qy0 : W0.cell? ⟨g, o + jy * 2, none⟩ = some (.int .i64 y1) := (g0.cell (p := ⟨g, o + jy * 2, none⟩) hg).trans py0
    have qy1 : W0.cell? ⟨g, o + jy * 2 + 1, none⟩ = some (.int .i64 y2) := (g0.cell (p := ⟨g, o + jy * 2 + 1, none⟩) hg).trans py1
    have bz : w.heap.size < W0.heap.size := bk.lt
    have hgW : g < W0.heap.size := by omega
    clear hW pa0 pa1 pb0 pb1 pz0 pz1 py0 py1
    go_cut [7, 8] (fun s7 s8 wx => (∃ (g1 : Nat), s7 = .pointer (some ⟨g1, 0, none⟩) ∧ w.heap.size < g1 ∧ AtL g1 [.int .i64 X, .int .i64 Y] wx) ∧ s8 = .bool true ∧ Blk wx w.heap.size 31 #[.int .i64 0, .int .i64 0, .int .i64 0, .int .i64 0, .int .i64 0, .int .i64 0] ∧ Below W0.heap.size W0 wx)
    case first =>
      go_region_held3 (fun w' => (∀ b o, b < W0.heap.size → w'.cell? ⟨b, o, none⟩ = W0.cell? ⟨b, o, none⟩) ∧ (∀ b o, b < W0.heap.size → w'.frozen? ⟨b, o, none⟩ = W0.frozen? ⟨b, o, none⟩) ∧ W0.heap.size ≤ w'.heap.size)
        (first | ((try dsimp only); exact ⟨fun b o h => (by (repeat (first | with_reducible exact rfl | (with_reducible refine (cell_drew_at _ _).trans ?_) | (with_reducible refine (cell_set_at _ _ (by first | omega | (simp; done) | (simp; omega))).trans ?_) | (with_reducible refine (cell_alloc_at _ _ (by first | omega | (simp; done) | (simp; omega))).trans ?_) | (with_reducible refine (hcwF b o (by first | omega | (simp; done) | (simp; omega))).trans ?_)))), fun b o h => (by (repeat (first | with_reducible exact rfl | (with_reducible refine (frozen_drew_at _ _).trans ?_) | (with_reducible refine (World.frozen?_setCell _ _ _ _).trans ?_) | (with_reducible refine (frozen_alloc_at _ _ (by first | omega | (simp; done) | (simp; omega))).trans ?_) | (with_reducible refine (hfwF b o (by first | omega | (simp; done) | (simp; omega))).trans ?_)))), (by first | omega | (simp; done) | (simp; omega))⟩) | fail)
        (first
          | (go_at_call 79; (with_reducible refine (CL.out _).mono ?_); rintro e wF ⟨X', Y', rfl, hXY, hbwF⟩; obtain ⟨hcwF, hfwF⟩ := bcell hbwF; have hzwF := hbwF.size; (try simp only [World.size_drew] at hcwF hfwF hzwF); (try simp only [World.size_alloc] at hcwF hfwF hzwF); (try have qW0 : W0.heap.size < wF.heap.size := (by omega))))
      all_goals
        obtain ⟨e1, e2⟩ : X' = X ∧ Y' = Y := by first | exact hXY rfl | exact hXY trivial | exact hXY
        subst e1
        subst e2
        go_wp2_with fail
        go_meet
      all_goals exact ⟨⟨_, rfl, by (try simp only [World.size_drew]); omega, by repeat' (first | ((with_reducible refine AtL.newAt ?_); (first | rfl | (simp; done))) | with_reducible assumption | with_reducible exact AtL.new _ _ _ | (with_reducible refine AtL.drew ?_) | (with_reducible apply AtL.store2) | (with_reducible refine AtL.alloc ?_ _) | (with_reducible refine AtL.far ?_ ?_ _ _) | (with_reducible refine AtL.below ?_ (by with_reducible assumption)) | omega | (simp; done) | (simp; omega))⟩, rfl, by repeat' (first | with_reducible assumption | with_reducible exact Blk.new _ _ _ | (with_reducible refine Blk.drew ?_) | (with_reducible refine Blk.carry ?_ (by with_reducible assumption)) | (with_reducible refine Blk.alloc ?_ _) | (with_reducible refine Blk.far ?_ ?_ _) | omega | (simp; done) | (simp; omega)), by repeat' (first | with_reducible assumption | with_reducible exact Below.refl _ _ | (with_reducible refine Below.setCell ?_ ?_ _) | (with_reducible refine Below.alloc ?_ ?_ _) | (with_reducible refine Below.drew ?_) | (with_reducible refine below_dr ?_ _) | (with_reducible refine Below.trans ?_ (Below.mono (by with_reducible assumption) ?_)) | omega | (simp; done) | (simp; omega))⟩
    case rest =>
      obtain ⟨⟨g1, rfl, gz1, at1⟩, rfl, bk1, bel1⟩ := hcut
      obtain ⟨W1, rfl⟩ : ∃ W : World, W = wc := ⟨_, rfl⟩
      have bzz := bel1.size
      have gW1 : Below w.heap.size w W1 := g0.trans (bel1.mono g0.size)
      have ra0 : W1.cell? ⟨g, o, none⟩ = some (.int .i64 a1) := (bel1.cell (p := ⟨g, o, none⟩) hgW).trans qa0
      have ra1 : W1.cell? ⟨g, o + 1, none⟩ = some (.int .i64 a2) := (bel1.cell (p := ⟨g, o + 1, none⟩) hgW).trans qa1
      have rb0 : W1.cell? ⟨g, o + 2, none⟩ = some (.int .i64 b1) := (bel1.cell (p := ⟨g, o + 2, none⟩) hgW).trans qb0
      have rb1 : W1.cell? ⟨g, o + 3, none⟩ = some (.int .i64 b2) := (bel1.cell (p := ⟨g, o + 3, none⟩) hgW).trans qb1
      have rz0 : W1.cell? ⟨g, o + jz * 2, none⟩ = some (.int .i64 z1) := (bel1.cell (p := ⟨g, o + jz * 2, none⟩) hgW).trans qz0
      have rz1 : W1.cell? ⟨g, o + jz * 2 + 1, none⟩ = some (.int .i64 z2) := (bel1.cell (p := ⟨g, o + jz * 2 + 1, none⟩) hgW).trans qz1
      have ry0 : W1.cell? ⟨g, o + jy * 2, none⟩ = some (.int .i64 y1) := (bel1.cell (p := ⟨g, o + jy * 2, none⟩) hgW).trans qy0
      have ry1 : W1.cell? ⟨g, o + jy * 2 + 1, none⟩ = some (.int .i64 y2) := (bel1.cell (p := ⟨g, o + jy * 2 + 1, none⟩) hgW).trans qy1
      have d0 := at1.cell 0 rfl
      have d1 := at1.cell 1 rfl
      have dz := at1.lt
      have gW2 : g < W1.heap.size := by omega
      clear qa0 qa1 qb0 qb1 qz0 qz1 qy0 qy1 CL
      go_upto_region 5 with fail
      go_cut [9] (fun s9 wx => (∃ q : Nat, s9 = .pointer (some ⟨q, 0, none⟩) ∧ w.heap.size < q ∧ AtL q [.int .i64 a1, .int .i64 a2, .int .i64 X, .int .i64 Y, .int .i64 z1, .int .i64 z2] wx) ∧ Blk wx w.heap.size 31 #[.int .i64 0, .int .i64 0, .int .i64 0, .int .i64 0, .int .i64 0, .int .i64 0] ∧ Below W1.heap.size W1 wx)
      case first =>
        go_region_held3 (fun w' => (∀ b o, b < W1.heap.size → w'.cell? ⟨b, o, none⟩ = W1.cell? ⟨b, o, none⟩) ∧ (∀ b o, b < W1.heap.size → w'.frozen? ⟨b, o, none⟩ = W1.frozen? ⟨b, o, none⟩) ∧ W1.heap.size ≤ w'.heap.size)
          (first | ((try dsimp only); exact ⟨fun b o h => (by (repeat (first | with_reducible exact rfl | (with_reducible refine (cell_drew_at _ _).trans ?_) | (with_reducible refine (cell_set_at _ _ (by first | omega | (simp; done) | (simp; omega))).trans ?_) | (with_reducible refine (cell_alloc_at _ _ (by first | omega | (simp; done) | (simp; omega))).trans ?_)))), fun b o h => (by (repeat (first | with_reducible exact rfl | (with_reducible refine (frozen_drew_at _ _).trans ?_) | (with_reducible refine (World.frozen?_setCell _ _ _ _).trans ?_) | (with_reducible refine (frozen_alloc_at _ _ (by first | omega | (simp; done) | (simp; omega))).trans ?_)))), (by first | omega | (simp; done) | (simp; omega))⟩) | fail)
          (first
            | fail)
        all_goals
          go_wp2_with fail
          go_meet
        all_goals exact ⟨⟨_, rfl, by (try simp only [World.size_drew]); omega, by repeat' (first | ((with_reducible refine AtL.newAt ?_); (first | rfl | (simp; done))) | with_reducible assumption | with_reducible exact AtL.new _ _ _ | (with_reducible refine AtL.drew ?_) | (with_reducible apply AtL.store6) | (with_reducible refine AtL.alloc ?_ _) | (with_reducible refine AtL.far ?_ ?_ _ _) | (with_reducible refine AtL.below ?_ (by with_reducible assumption)) | omega | (simp; done) | (simp; omega))⟩, by repeat' (first | with_reducible assumption | with_reducible exact Blk.new _ _ _ | (with_reducible refine Blk.drew ?_) | (with_reducible refine Blk.carry ?_ (by with_reducible assumption)) | (with_reducible refine Blk.alloc ?_ _) | (with_reducible refine Blk.far ?_ ?_ _) | omega | (simp; done) | (simp; omega)), by repeat' (first | with_reducible assumption | with_reducible exact Below.refl _ _ | (with_reducible refine Below.setCell ?_ ?_ _) | (with_reducible refine Below.alloc ?_ ?_ _) | (with_reducible refine Below.drew ?_) | (with_reducible refine below_dr ?_ _) | (with_reducible refine Below.trans ?_ (Below.mono (by with_reducible assumption) ?_)) | omega | (simp; done) | (simp; omega))⟩
      case rest =>
        obtain ⟨⟨q, rfl, gq, at2⟩, bk2, bel2⟩ := hcut
        obtain ⟨W2, rfl⟩ : ∃ W : World, W = wc := ⟨_, rfl⟩
        have bz2 := bel2.size
        have gW2b : Below w.heap.size w W2 := gW1.trans (bel2.mono gW1.size)
        have hz2 := gW2b.size
        have k0 := at2.cell 0 rfl
        have k1 := at2.cell 1 rfl
        have k2 := at2.cell 2 rfl
        have k3 := at2.cell 3 rfl
        have k4 := at2.cell 4 rfl
        have k5 := at2.cell 5 rfl
        have kz := at2.lt
        clear ra0 ra1 rb0 rb1 rz0 rz1 ry0 ry1 d0 d1 dz
        go_wp2_with fail
        refine (FL.out _ _ kz k0 k1 k2 k3 k4 k5).mono ?_
        rintro e W3 ⟨Af, kf, rfl, ow, bel3⟩
        have hz3 := bel3.size
        have gW3 : Below w.heap.size w W3 := gW2b.trans (bel3.mono hz2)
        have bk3 := bk2.carry bel3
        have at3 := at2.below bel3
        clear FL k0 k1 k2 k3 k4 k5 kz
        go_wp2_with fail
        refine (V1.out _ _ _ _ _ ((RD.out.below gW3).more (by omega)) (Rd.of_own (fun a => cPt_len a) (by omega) ow (Nat.le_refl _))).mono ?_
        rintro e W4 ⟨rfl, bel4⟩
        have hz4 := bel4.size
        have gW4 : Below w.heap.size w W4 := gW3.trans (bel4.mono gW3.size)
        have bk4 := bk3.carry bel4
        have at4 := at3.below bel4
        have RF := (Rd.of_own (fun a => cPt_len a) (by omega) ow (Nat.le_refl _)).below bel4
        go_wp2_with fail
        refine (V2.out _ _ _ _ _ (RF.more (by omega)) ((RD.out.below gW4).more (by omega))).mono ?_
        rintro e W5 ⟨rfl, bel5⟩
        have hz5 := bel5.size
        have gW5 : Below w.heap.size w W5 := gW4.trans (bel5.mono gW4.size)
        have bk5 := bk4.carry bel5
        have at5 := at4.below bel5
        have ne1 : ¬ w.heap.size = q := by omega
        have k0 := at5.cell 0 rfl
        have k1 := at5.cell 1 rfl
        have k2 := at5.cell 2 rfl
        have k3 := at5.cell 3 rfl
        have k4 := at5.cell 4 rfl
        have k5 := at5.cell 5 rfl
        have kz := at5.lt
        have f0 := bk5.frozen 0
        have f1 := bk5.frozen 1
        have f2 := bk5.frozen 2
        have f3 := bk5.frozen 3
        have f4 := bk5.frozen 4
        have f5 := bk5.frozen 5
        have c0 := bk5.cell 0 rfl
        have c1 := bk5.cell 1 rfl
        have c2 := bk5.cell 2 rfl
        have c3 := bk5.cell 3 rfl
        have c4 := bk5.cell 4 rfl
        have c5 := bk5.cell 5 rfl
        go_wp2
        have bf := ((((((bk5.set_ 0 (.int .i64 a1)).set_ 1 (.int .i64 a2)).set_ 2 (.int .i64 X)).set_ 3 (.int .i64 Y)).set_ 4 (.int .i64 z1)).set_ 5 (.int .i64 z2))
        have r0 := bf.cell 0 rfl
        have r1 := bf.cell 1 rfl
        have r2 := bf.cell 2 rfl
        have r3 := bf.cell 3 rfl
        have r4 := bf.cell 4 rfl
        have r5 := bf.cell 5 rfl
        refine bodyPost_ret (v := .tuple #[.agg #[.int .i64 a1, .int .i64 a2, .int .i64 X, .int .i64 Y, .int .i64 z1, .int .i64 z2], .bool true]) (by simp [results, Try.results48, go_sem, r0, r1, r2, r3, r4, r5]) rfl ⟨?_, ?_⟩
        · first | rfl | (rw [HG.out]; rfl)
        repeat' (first | with_reducible assumption | with_reducible exact Below.refl _ _ | (with_reducible refine Below.setCell ?_ ?_ _) | (with_reducible refine Below.alloc ?_ ?_ _) | (with_reducible refine Below.drew ?_) | (with_reducible refine below_dr ?_ _) | (with_reducible refine Below.trans ?_ (Below.mono (by with_reducible assumption) ?_)) | omega | (simp; done) | (simp; omega))
end Go.Proofs.Yticgomikfleabaa
