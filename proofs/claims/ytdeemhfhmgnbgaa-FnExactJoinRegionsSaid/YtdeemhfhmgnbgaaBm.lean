/- Walks: the rings of two regions together, the reference's side. -/
import Derived.Test.YtdeemhfhmgnbgaaBj
namespace Go.Proofs.Ytdeemhfhmgnbgaa
open Go.RowKit
set_option linter.unusedVariables false
set_option maxHeartbeats 3200000 in
theorem l13Fit_t (ds : List DRing) (A : Option Addr) (c : Nat) (w : World) (hv : vRn ds = true) (hl : ds.length ≤ 1048576) (hin : ∀ (i : Nat) (d : DRing), ds[i]? = some d → d.length ≤ 1048576) (r : RdRing w w.heap.size A ds) :
    Calls Try.prog 43 #[.agg #[.slice A ds.length c]] w fun e w' => e = .returned (.tuple #[.agg #[.slice A ds.length c], .int .i64 0]) ∧ Below w.heap.size w w' := by
  have CV := Lib.hid (fun b w1 h1 h2 r1 => l13Ok_any ds A c b w1 h1 h2 hl hin r1)
  simp only [hv] at CV
  clear hv hin
  obtain ⟨n, hn⟩ : ∃ n, n = ds.length := ⟨_, rfl⟩
  rw [← hn] at hl CV ⊢
  clear hn
  go_enter Try.func43, Try.ntmps43
  go_wp2_with fail
  refine (CV.out _ _ (by simp; omega) (by simp [go_sem]) (((r.alloc (Nat.le_refl _) _).alloc (by simp) _).more (by simp; omega))).mono ?_
  rintro e w1 ⟨rfl, hb1⟩
  have b1 : Blk w1 w.heap.size 40 #[.slice A n c] := ((Blk.new _ _ _).alloc _).carry hb1
  have b2 : Blk w1 (w.heap.size + 1) 40 #[.slice none 0 0] := (Blk.newAt _ _ _ (by simp)).carry hb1
  have k1 : w1.cell? ⟨w.heap.size, 0, none⟩ = some (.slice A n c) := b1.cell 0 rfl
  have k2 : w1.cell? ⟨w.heap.size + 1, 0, none⟩ = some (.slice none 0 0) := b2.cell 0 rfl
  have f2 := b2.frozen 0
  have l1 := b1.lt
  have l2 := b2.lt
  go_wp2_with fail
  refine bodyPost_ret (v := .tuple #[.agg #[.slice A n c], .int .i64 0]) (by simp [results, Try.results43, go_sem, *]) rfl ⟨rfl, by repeat' (first | with_reducible assumption | with_reducible exact Below.refl _ _ | (with_reducible refine Below.setCell ?_ ?_ _) | (with_reducible refine Below.alloc ?_ ?_ _) | (with_reducible refine Below.drew ?_) | (with_reducible refine below_dr ?_ _) | (with_reducible refine Below.trans ?_ (Below.mono (by with_reducible assumption) ?_)) | omega | (simp; done) | (simp; omega))⟩
set_option maxHeartbeats 3200000 in
theorem l13Fit_f (ds : List DRing) (A : Option Addr) (c : Nat) (w : World) (hv : vRn ds = false) (hl : ds.length ≤ 1048576) (hin : ∀ (i : Nat) (d : DRing), ds[i]? = some d → d.length ≤ 1048576) (r : RdRing w w.heap.size A ds) :
    Calls Try.prog 43 #[.agg #[.slice A ds.length c]] w fun e w' => e = .returned (.tuple #[.agg #[.slice none 0 0], .int .i64 5]) ∧ Below w.heap.size w w' := by
  have CV := Lib.hid (fun b w1 h1 h2 r1 => l13Ok_any ds A c b w1 h1 h2 hl hin r1)
  simp only [hv] at CV
  clear hv hin
  obtain ⟨n, hn⟩ : ∃ n, n = ds.length := ⟨_, rfl⟩
  rw [← hn] at hl CV ⊢
  clear hn
  go_enter Try.func43, Try.ntmps43
  go_wp2_with fail
  refine (CV.out _ _ (by simp; omega) (by simp [go_sem]) (((r.alloc (Nat.le_refl _) _).alloc (by simp) _).more (by simp; omega))).mono ?_
  rintro e w1 ⟨rfl, hb1⟩
  have b1 : Blk w1 w.heap.size 40 #[.slice A n c] := ((Blk.new _ _ _).alloc _).carry hb1
  have b2 : Blk w1 (w.heap.size + 1) 40 #[.slice none 0 0] := (Blk.newAt _ _ _ (by simp)).carry hb1
  have k1 : w1.cell? ⟨w.heap.size, 0, none⟩ = some (.slice A n c) := b1.cell 0 rfl
  have k2 : w1.cell? ⟨w.heap.size + 1, 0, none⟩ = some (.slice none 0 0) := b2.cell 0 rfl
  have f2 := b2.frozen 0
  have l1 := b1.lt
  have l2 := b2.lt
  go_wp2_with fail
  refine bodyPost_ret (v := .tuple #[.agg #[.slice none 0 0], .int .i64 5]) (by simp [results, Try.results43, go_sem, *]) rfl ⟨rfl, by repeat' (first | with_reducible assumption | with_reducible exact Below.refl _ _ | (with_reducible refine Below.setCell ?_ ?_ _) | (with_reducible refine Below.alloc ?_ ?_ _) | (with_reducible refine Below.drew ?_) | (with_reducible refine below_dr ?_ _) | (with_reducible refine Below.trans ?_ (Below.mono (by with_reducible assumption) ?_)) | omega | (simp; done) | (simp; omega))⟩
set_option maxRecDepth 100000 in
set_option maxHeartbeats 6400000 in
theorem specJoin_bad1 (ds1 ds2 : List DRing) (A1 A2 : Option Addr) (c1 c2 : Nat) (w : World) (hv1 : vRn ds1 = false) (hl1 : ds1.length ≤ 1048576) (hl2 : ds2.length ≤ 1048576) (hin1 : ∀ (i : Nat) (d : DRing), ds1[i]? = some d → d.length ≤ 1048576) (hin2 : ∀ (i : Nat) (d : DRing), ds2[i]? = some d → d.length ≤ 1048576) (r1 : RdRing w w.heap.size A1 ds1) (r2 : RdRing w w.heap.size A2 ds2) :
    Calls Try.prog 15 #[.agg #[.slice A1 ds1.length c1], .agg #[.slice A2 ds2.length c2]] w (OutRet 1 [] w) := by
  have CV1 := Lib.hid (fun b w1 h1 h2 r => l13Ok_any ds1 A1 c1 b w1 h1 h2 hl1 hin1 r)
  simp only [hv1] at CV1
  clear hv1 hin1 hin2
  obtain ⟨n1, hn1⟩ : ∃ n, n = ds1.length := ⟨_, rfl⟩
  obtain ⟨n2, hn2⟩ : ∃ n, n = ds2.length := ⟨_, rfl⟩
  rw [← hn1] at hl1 CV1 ⊢
  rw [← hn2] at hl2 ⊢
  have HN1 := Lib.hid hn1
  have HN2 := Lib.hid hn2
  clear hn1 hn2
  unfold OutRet
  go_enter Try.func15, Try.ntmps15
  go_wp2_with fail
  generalize hW : ((w.alloc (.cells #[.slice A1 n1 c1] 40)).alloc (.cells #[.slice A2 n2 c2] 40)).alloc (.cells #[.slice none 0 0] 40) = W0
  have a0 : Blk W0 w.heap.size 40 #[.slice A1 n1 c1] := by rw [← hW]; exact ((Blk.new w _ _).alloc _).alloc _
  have a1 : Blk W0 (w.heap.size + 1) 40 #[.slice A2 n2 c2] := by rw [← hW]; exact (Blk.newAt _ _ _ (by simp)).alloc _
  have a2 : Blk W0 (w.heap.size + 2) 40 #[.slice none 0 0] := by rw [← hW]; exact Blk.newAt _ _ _ (by simp)
  have g0 : Below w.heap.size w W0 := by rw [← hW]; repeat' (first | with_reducible assumption | with_reducible exact Below.refl _ _ | (with_reducible refine Below.setCell ?_ ?_ _) | (with_reducible refine Below.alloc ?_ ?_ _) | (with_reducible refine Below.drew ?_) | (with_reducible refine below_dr ?_ _) | (with_reducible refine Below.trans ?_ (Below.mono (by with_reducible assumption) ?_)) | omega | (simp; done) | (simp; omega))
  have z0 : W0.heap.size = w.heap.size + 3 := by rw [← hW]; simp
  clear hW
  have s1 : RdRing W0 W0.heap.size A1 ds1 := (r1.carry g0 (Nat.le_refl _)).more (by omega)
  have s2 : RdRing W0 W0.heap.size A2 ds2 := (r2.carry g0 (Nat.le_refl _)).more (by omega)
  clear r1 r2
  refine (CV1.out _ _ a0.lt (a0.cell 0 rfl) s1).mono ?_
  rintro e w1 ⟨rfl, hb1⟩
  replace a0 := a0.carry hb1
  replace a1 := a1.carry hb1
  replace a2 := a2.carry hb1
  have z1 := hb1.size
  have s11 : RdRing w1 w1.heap.size A1 ds1 := (s1.carry hb1 (Nat.le_refl _)).more z1
  have s21 : RdRing w1 w1.heap.size A2 ds2 := (s2.carry hb1 (Nat.le_refl _)).more z1
  have g1 : Below w.heap.size w w1 := g0.trans (hb1.mono (by omega))
  clear s1 s2 hb1 g0
  have k2 : w1.cell? ⟨(w.heap.size + 2), 0, none⟩ = some (.slice none 0 0) := a2.cell 0 rfl
  have f2 := a2.frozen 0
  have l2 := a2.lt
  go_wp2_with fail
  refine bodyPost_ret (v := .tuple #[.agg #[.slice none 0 0], .int .i64 1]) (by simp [results, Try.results15, go_sem, *]) rfl ⟨none, 0, rfl, OwnRing.nil _ _ _, by repeat' (first | with_reducible assumption | with_reducible exact Below.refl _ _ | (with_reducible refine Below.setCell ?_ ?_ _) | (with_reducible refine Below.alloc ?_ ?_ _) | (with_reducible refine Below.drew ?_) | (with_reducible refine below_dr ?_ _) | (with_reducible refine Below.trans ?_ (Below.mono (by with_reducible assumption) ?_)) | omega | (simp; done) | (simp; omega))⟩
set_option maxRecDepth 100000 in
set_option maxHeartbeats 6400000 in
theorem specJoin_bad2 (ds1 ds2 : List DRing) (A1 A2 : Option Addr) (c1 c2 : Nat) (w : World) (hv1 : vRn ds1 = true) (hv2 : vRn ds2 = false) (hl1 : ds1.length ≤ 1048576) (hl2 : ds2.length ≤ 1048576) (hin1 : ∀ (i : Nat) (d : DRing), ds1[i]? = some d → d.length ≤ 1048576) (hin2 : ∀ (i : Nat) (d : DRing), ds2[i]? = some d → d.length ≤ 1048576) (r1 : RdRing w w.heap.size A1 ds1) (r2 : RdRing w w.heap.size A2 ds2) :
    Calls Try.prog 15 #[.agg #[.slice A1 ds1.length c1], .agg #[.slice A2 ds2.length c2]] w (OutRet 1 [] w) := by
  have CV1 := Lib.hid (fun b w1 h1 h2 r => l13Ok_any ds1 A1 c1 b w1 h1 h2 hl1 hin1 r)
  simp only [hv1] at CV1
  have CV2 := Lib.hid (fun b w1 h1 h2 r => l13Ok_any ds2 A2 c2 b w1 h1 h2 hl2 hin2 r)
  simp only [hv2] at CV2
  clear hv1 hv2 hin1 hin2
  obtain ⟨n1, hn1⟩ : ∃ n, n = ds1.length := ⟨_, rfl⟩
  obtain ⟨n2, hn2⟩ : ∃ n, n = ds2.length := ⟨_, rfl⟩
  rw [← hn1] at hl1 CV1 ⊢
  rw [← hn2] at hl2 CV2 ⊢
  have HN1 := Lib.hid hn1
  have HN2 := Lib.hid hn2
  clear hn1 hn2
  unfold OutRet
  go_enter Try.func15, Try.ntmps15
  go_wp2_with fail
  generalize hW : ((w.alloc (.cells #[.slice A1 n1 c1] 40)).alloc (.cells #[.slice A2 n2 c2] 40)).alloc (.cells #[.slice none 0 0] 40) = W0
  have a0 : Blk W0 w.heap.size 40 #[.slice A1 n1 c1] := by rw [← hW]; exact ((Blk.new w _ _).alloc _).alloc _
  have a1 : Blk W0 (w.heap.size + 1) 40 #[.slice A2 n2 c2] := by rw [← hW]; exact (Blk.newAt _ _ _ (by simp)).alloc _
  have a2 : Blk W0 (w.heap.size + 2) 40 #[.slice none 0 0] := by rw [← hW]; exact Blk.newAt _ _ _ (by simp)
  have g0 : Below w.heap.size w W0 := by rw [← hW]; repeat' (first | with_reducible assumption | with_reducible exact Below.refl _ _ | (with_reducible refine Below.setCell ?_ ?_ _) | (with_reducible refine Below.alloc ?_ ?_ _) | (with_reducible refine Below.drew ?_) | (with_reducible refine below_dr ?_ _) | (with_reducible refine Below.trans ?_ (Below.mono (by with_reducible assumption) ?_)) | omega | (simp; done) | (simp; omega))
  have z0 : W0.heap.size = w.heap.size + 3 := by rw [← hW]; simp
  clear hW
  have s1 : RdRing W0 W0.heap.size A1 ds1 := (r1.carry g0 (Nat.le_refl _)).more (by omega)
  have s2 : RdRing W0 W0.heap.size A2 ds2 := (r2.carry g0 (Nat.le_refl _)).more (by omega)
  clear r1 r2
  refine (CV1.out _ _ a0.lt (a0.cell 0 rfl) s1).mono ?_
  rintro e w1 ⟨rfl, hb1⟩
  replace a0 := a0.carry hb1
  replace a1 := a1.carry hb1
  replace a2 := a2.carry hb1
  have z1 := hb1.size
  have s11 : RdRing w1 w1.heap.size A1 ds1 := (s1.carry hb1 (Nat.le_refl _)).more z1
  have s21 : RdRing w1 w1.heap.size A2 ds2 := (s2.carry hb1 (Nat.le_refl _)).more z1
  have g1 : Below w.heap.size w w1 := g0.trans (hb1.mono (by omega))
  clear s1 s2 hb1 g0
  go_wp2_with fail
  refine (CV2.out _ _ a1.lt (a1.cell 0 rfl) s21).mono ?_
  rintro e w2 ⟨rfl, hb2⟩
  replace a0 := a0.carry hb2
  replace a1 := a1.carry hb2
  replace a2 := a2.carry hb2
  have z2 := hb2.size
  have g2 : Below w.heap.size w w2 := g1.trans (hb2.mono (by omega))
  have k2 : w2.cell? ⟨(w.heap.size + 2), 0, none⟩ = some (.slice none 0 0) := a2.cell 0 rfl
  have f2 := a2.frozen 0
  have l2 := a2.lt
  go_wp2_with fail
  refine bodyPost_ret (v := .tuple #[.agg #[.slice none 0 0], .int .i64 1]) (by simp [results, Try.results15, go_sem, *]) rfl ⟨none, 0, rfl, OwnRing.nil _ _ _, by repeat' (first | with_reducible assumption | with_reducible exact Below.refl _ _ | (with_reducible refine Below.setCell ?_ ?_ _) | (with_reducible refine Below.alloc ?_ ?_ _) | (with_reducible refine Below.drew ?_) | (with_reducible refine below_dr ?_ _) | (with_reducible refine Below.trans ?_ (Below.mono (by with_reducible assumption) ?_)) | omega | (simp; done) | (simp; omega))⟩
set_option maxRecDepth 100000 in
set_option maxHeartbeats 6400000 in
theorem specJoin_ok (ds1 ds2 : List DRing) (A1 A2 : Option Addr) (c1 c2 : Nat) (w : World) (hv1 : vRn ds1 = true) (hv2 : vRn ds2 = true) (hv : vRn (ds1 ++ ds2) = true) (hl1 : ds1.length ≤ 1048576) (hl2 : ds2.length ≤ 1048576) (hin1 : ∀ (i : Nat) (d : DRing), ds1[i]? = some d → d.length ≤ 1048576) (hin2 : ∀ (i : Nat) (d : DRing), ds2[i]? = some d → d.length ≤ 1048576) (r1 : RdRing w w.heap.size A1 ds1) (r2 : RdRing w w.heap.size A2 ds2) :
    Calls Try.prog 15 #[.agg #[.slice A1 ds1.length c1], .agg #[.slice A2 ds2.length c2]] w (OutRet 0 (ds1 ++ ds2) w) := by
  have CV1 := Lib.hid (fun b w1 h1 h2 r => l13Ok_any ds1 A1 c1 b w1 h1 h2 hl1 hin1 r)
  simp only [hv1] at CV1
  have CV2 := Lib.hid (fun b w1 h1 h2 r => l13Ok_any ds2 A2 c2 b w1 h1 h2 hl2 hin2 r)
  simp only [hv2] at CV2
  have CJ := Lib.hid (fun b1 b2 w1 h1 h2 k1 k2 r1 r2 => l13Join_any ds1 ds2 A1 A2 c1 c2 b1 b2 w1 hv1 hv2 h1 h2 k1 k2 r1 r2)
  have hl : (ds1 ++ ds2).length ≤ 1048576 := by have := (vRn_parts hv1).1; have := (vRn_parts hv2).1; rw [List.length_append]; omega
  have hin : ∀ (i : Nat) (d : DRing), (ds1 ++ ds2)[i]? = some d → d.length ≤ 1048576 := fun i d h => by rcases List.mem_append.1 (List.mem_of_getElem? h) with q | q; exact (by have := (vRg_parts (vRn_each hv1 d q)).2.1; omega); exact (by have := (vRg_parts (vRn_each hv2 d q)).2.1; omega)
  have CF := Lib.hid (fun A c w1 r => l13Fit_t (ds1 ++ ds2) A c w1 hv hl hin r)
  clear hv hv1 hv2 hin1 hin2 hl hin
  obtain ⟨L, hL⟩ : ∃ L, L = (ds1 ++ ds2).length := ⟨_, rfl⟩
  rw [← hL] at CJ CF
  have HL := Lib.hid hL
  clear hL
  obtain ⟨n1, hn1⟩ : ∃ n, n = ds1.length := ⟨_, rfl⟩
  obtain ⟨n2, hn2⟩ : ∃ n, n = ds2.length := ⟨_, rfl⟩
  rw [← hn1] at hl1 CV1 ⊢
  rw [← hn2] at hl2 CV2 ⊢
  have HN1 := Lib.hid hn1
  have HN2 := Lib.hid hn2
  clear hn1 hn2
  rw [← HN1.out, ← HN2.out] at CJ
  unfold OutRet
  go_enter Try.func15, Try.ntmps15
  go_wp2_with fail
  generalize hW : ((w.alloc (.cells #[.slice A1 n1 c1] 40)).alloc (.cells #[.slice A2 n2 c2] 40)).alloc (.cells #[.slice none 0 0] 40) = W0
  have a0 : Blk W0 w.heap.size 40 #[.slice A1 n1 c1] := by rw [← hW]; exact ((Blk.new w _ _).alloc _).alloc _
  have a1 : Blk W0 (w.heap.size + 1) 40 #[.slice A2 n2 c2] := by rw [← hW]; exact (Blk.newAt _ _ _ (by simp)).alloc _
  have a2 : Blk W0 (w.heap.size + 2) 40 #[.slice none 0 0] := by rw [← hW]; exact Blk.newAt _ _ _ (by simp)
  have g0 : Below w.heap.size w W0 := by rw [← hW]; repeat' (first | with_reducible assumption | with_reducible exact Below.refl _ _ | (with_reducible refine Below.setCell ?_ ?_ _) | (with_reducible refine Below.alloc ?_ ?_ _) | (with_reducible refine Below.drew ?_) | (with_reducible refine below_dr ?_ _) | (with_reducible refine Below.trans ?_ (Below.mono (by with_reducible assumption) ?_)) | omega | (simp; done) | (simp; omega))
  have z0 : W0.heap.size = w.heap.size + 3 := by rw [← hW]; simp
  clear hW
  have s1 : RdRing W0 W0.heap.size A1 ds1 := (r1.carry g0 (Nat.le_refl _)).more (by omega)
  have s2 : RdRing W0 W0.heap.size A2 ds2 := (r2.carry g0 (Nat.le_refl _)).more (by omega)
  clear r1 r2
  refine (CV1.out _ _ a0.lt (a0.cell 0 rfl) s1).mono ?_
  rintro e w1 ⟨rfl, hb1⟩
  replace a0 := a0.carry hb1
  replace a1 := a1.carry hb1
  replace a2 := a2.carry hb1
  have z1 := hb1.size
  have s11 : RdRing w1 w1.heap.size A1 ds1 := (s1.carry hb1 (Nat.le_refl _)).more z1
  have s21 : RdRing w1 w1.heap.size A2 ds2 := (s2.carry hb1 (Nat.le_refl _)).more z1
  have g1 : Below w.heap.size w w1 := g0.trans (hb1.mono (by omega))
  clear s1 s2 hb1 g0
  go_wp2_with fail
  refine (CV2.out _ _ a1.lt (a1.cell 0 rfl) s21).mono ?_
  rintro e w2 ⟨rfl, hb2⟩
  replace a0 := a0.carry hb2
  replace a1 := a1.carry hb2
  replace a2 := a2.carry hb2
  have z2 := hb2.size
  have g2 : Below w.heap.size w w2 := g1.trans (hb2.mono (by omega))
  have s12 : RdRing w2 w2.heap.size A1 ds1 := (s11.carry hb2 (Nat.le_refl _)).more z2
  have s22 : RdRing w2 w2.heap.size A2 ds2 := (s21.carry hb2 (Nat.le_refl _)).more z2
  clear s11 s21 hb2 g1
  go_wp2_with fail
  refine (CJ.out _ _ _ a0.lt a1.lt (a0.cell 0 rfl) (a1.cell 0 rfl) s12 s22).mono ?_
  rintro e w3 ⟨A3, c3, rfl, ow3, hb3⟩
  replace a2 := a2.carry hb3
  have z3 := hb3.size
  have g3 : Below w.heap.size w w3 := g2.trans (hb3.mono (by omega))
  clear s12 s22 g2 hb3 a0 a1
  go_wp2_with fail
  refine (CF.out _ _ _ ow3.rd).mono ?_
  rintro e w4 ⟨rfl, hb4⟩
  replace a2 := a2.carry hb4
  have z4 := hb4.size
  have g4 : Below w.heap.size w w4 := g3.trans (hb4.mono (by omega))
  have ow4 := ow3.carry hb4
  clear g3 ow3 hb4
  have k2 : w4.cell? ⟨(w.heap.size + 2), 0, none⟩ = some (.slice none 0 0) := a2.cell 0 rfl
  have f2 := a2.frozen 0
  have l2 := a2.lt
  go_wp2_with fail
  refine bodyPost_ret (v := .tuple #[.agg #[.slice A3 L c3], .int .i64 0]) (by simp [results, Try.results15, go_sem, *]) rfl ⟨A3, c3, by rw [HL.out], ?_, ?_⟩
  · exact ((ow4.mid (Mid.of_set _ (w.heap.size + 2) 0 _) (.inr (by omega))).wide (by omega) (by simp; omega))
  · exact g4.setCell (by simp only; omega) _
set_option maxRecDepth 100000 in
set_option maxHeartbeats 6400000 in
theorem specJoin_full (ds1 ds2 : List DRing) (A1 A2 : Option Addr) (c1 c2 : Nat) (w : World) (hv1 : vRn ds1 = true) (hv2 : vRn ds2 = true) (hv : vRn (ds1 ++ ds2) = false) (hl1 : ds1.length ≤ 1048576) (hl2 : ds2.length ≤ 1048576) (hin1 : ∀ (i : Nat) (d : DRing), ds1[i]? = some d → d.length ≤ 1048576) (hin2 : ∀ (i : Nat) (d : DRing), ds2[i]? = some d → d.length ≤ 1048576) (r1 : RdRing w w.heap.size A1 ds1) (r2 : RdRing w w.heap.size A2 ds2) :
    Calls Try.prog 15 #[.agg #[.slice A1 ds1.length c1], .agg #[.slice A2 ds2.length c2]] w (OutRet 5 [] w) := by
  have CV1 := Lib.hid (fun b w1 h1 h2 r => l13Ok_any ds1 A1 c1 b w1 h1 h2 hl1 hin1 r)
  simp only [hv1] at CV1
  have CV2 := Lib.hid (fun b w1 h1 h2 r => l13Ok_any ds2 A2 c2 b w1 h1 h2 hl2 hin2 r)
  simp only [hv2] at CV2
  have CJ := Lib.hid (fun b1 b2 w1 h1 h2 k1 k2 r1 r2 => l13Join_any ds1 ds2 A1 A2 c1 c2 b1 b2 w1 hv1 hv2 h1 h2 k1 k2 r1 r2)
  have hl : (ds1 ++ ds2).length ≤ 1048576 := by have := (vRn_parts hv1).1; have := (vRn_parts hv2).1; rw [List.length_append]; omega
  have hin : ∀ (i : Nat) (d : DRing), (ds1 ++ ds2)[i]? = some d → d.length ≤ 1048576 := fun i d h => by rcases List.mem_append.1 (List.mem_of_getElem? h) with q | q; exact (by have := (vRg_parts (vRn_each hv1 d q)).2.1; omega); exact (by have := (vRg_parts (vRn_each hv2 d q)).2.1; omega)
  have CF := Lib.hid (fun A c w1 r => l13Fit_f (ds1 ++ ds2) A c w1 hv hl hin r)
  clear hv hv1 hv2 hin1 hin2 hl hin
  obtain ⟨L, hL⟩ : ∃ L, L = (ds1 ++ ds2).length := ⟨_, rfl⟩
  rw [← hL] at CJ CF
  have HL := Lib.hid hL
  clear hL
  obtain ⟨n1, hn1⟩ : ∃ n, n = ds1.length := ⟨_, rfl⟩
  obtain ⟨n2, hn2⟩ : ∃ n, n = ds2.length := ⟨_, rfl⟩
  rw [← hn1] at hl1 CV1 ⊢
  rw [← hn2] at hl2 CV2 ⊢
  have HN1 := Lib.hid hn1
  have HN2 := Lib.hid hn2
  clear hn1 hn2
  rw [← HN1.out, ← HN2.out] at CJ
  unfold OutRet
  go_enter Try.func15, Try.ntmps15
  go_wp2_with fail
  generalize hW : ((w.alloc (.cells #[.slice A1 n1 c1] 40)).alloc (.cells #[.slice A2 n2 c2] 40)).alloc (.cells #[.slice none 0 0] 40) = W0
  have a0 : Blk W0 w.heap.size 40 #[.slice A1 n1 c1] := by rw [← hW]; exact ((Blk.new w _ _).alloc _).alloc _
  have a1 : Blk W0 (w.heap.size + 1) 40 #[.slice A2 n2 c2] := by rw [← hW]; exact (Blk.newAt _ _ _ (by simp)).alloc _
  have a2 : Blk W0 (w.heap.size + 2) 40 #[.slice none 0 0] := by rw [← hW]; exact Blk.newAt _ _ _ (by simp)
  have g0 : Below w.heap.size w W0 := by rw [← hW]; repeat' (first | with_reducible assumption | with_reducible exact Below.refl _ _ | (with_reducible refine Below.setCell ?_ ?_ _) | (with_reducible refine Below.alloc ?_ ?_ _) | (with_reducible refine Below.drew ?_) | (with_reducible refine below_dr ?_ _) | (with_reducible refine Below.trans ?_ (Below.mono (by with_reducible assumption) ?_)) | omega | (simp; done) | (simp; omega))
  have z0 : W0.heap.size = w.heap.size + 3 := by rw [← hW]; simp
  clear hW
  have s1 : RdRing W0 W0.heap.size A1 ds1 := (r1.carry g0 (Nat.le_refl _)).more (by omega)
  have s2 : RdRing W0 W0.heap.size A2 ds2 := (r2.carry g0 (Nat.le_refl _)).more (by omega)
  clear r1 r2
  refine (CV1.out _ _ a0.lt (a0.cell 0 rfl) s1).mono ?_
  rintro e w1 ⟨rfl, hb1⟩
  replace a0 := a0.carry hb1
  replace a1 := a1.carry hb1
  replace a2 := a2.carry hb1
  have z1 := hb1.size
  have s11 : RdRing w1 w1.heap.size A1 ds1 := (s1.carry hb1 (Nat.le_refl _)).more z1
  have s21 : RdRing w1 w1.heap.size A2 ds2 := (s2.carry hb1 (Nat.le_refl _)).more z1
  have g1 : Below w.heap.size w w1 := g0.trans (hb1.mono (by omega))
  clear s1 s2 hb1 g0
  go_wp2_with fail
  refine (CV2.out _ _ a1.lt (a1.cell 0 rfl) s21).mono ?_
  rintro e w2 ⟨rfl, hb2⟩
  replace a0 := a0.carry hb2
  replace a1 := a1.carry hb2
  replace a2 := a2.carry hb2
  have z2 := hb2.size
  have g2 : Below w.heap.size w w2 := g1.trans (hb2.mono (by omega))
  have s12 : RdRing w2 w2.heap.size A1 ds1 := (s11.carry hb2 (Nat.le_refl _)).more z2
  have s22 : RdRing w2 w2.heap.size A2 ds2 := (s21.carry hb2 (Nat.le_refl _)).more z2
  clear s11 s21 hb2 g1
  go_wp2_with fail
  refine (CJ.out _ _ _ a0.lt a1.lt (a0.cell 0 rfl) (a1.cell 0 rfl) s12 s22).mono ?_
  rintro e w3 ⟨A3, c3, rfl, ow3, hb3⟩
  replace a2 := a2.carry hb3
  have z3 := hb3.size
  have g3 : Below w.heap.size w w3 := g2.trans (hb3.mono (by omega))
  clear s12 s22 g2 hb3 a0 a1
  go_wp2_with fail
  refine (CF.out _ _ _ ow3.rd).mono ?_
  rintro e w4 ⟨rfl, hb4⟩
  replace a2 := a2.carry hb4
  have z4 := hb4.size
  have g4 : Below w.heap.size w w4 := g3.trans (hb4.mono (by omega))
  clear g3 ow3 hb4
  have k2 : w4.cell? ⟨(w.heap.size + 2), 0, none⟩ = some (.slice none 0 0) := a2.cell 0 rfl
  have f2 := a2.frozen 0
  have l2 := a2.lt
  go_wp2_with fail
  refine bodyPost_ret (v := .tuple #[.agg #[.slice none 0 0], .int .i64 5]) (by simp [results, Try.results15, go_sem, *]) rfl ⟨none, 0, rfl, OwnRing.nil _ _ _, ?_⟩
  repeat' (first | with_reducible assumption | with_reducible exact Below.refl _ _ | (with_reducible refine Below.setCell ?_ ?_ _) | (with_reducible refine Below.alloc ?_ ?_ _) | (with_reducible refine Below.drew ?_) | (with_reducible refine below_dr ?_ _) | (with_reducible refine Below.trans ?_ (Below.mono (by with_reducible assumption) ?_)) | omega | (simp; done) | (simp; omega))
end Go.Proofs.Ytdeemhfhmgnbgaa
