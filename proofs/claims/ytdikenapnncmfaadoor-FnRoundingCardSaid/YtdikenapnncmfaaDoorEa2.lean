/- Walks: the points that are drawn for a law. -/
import Derived.Test.YtdikenapnncmfaaDoorEa1
import Derived.RegionTactic
import Derived.ChangeAlike
import Derived.BigRegion
import Derived.Deep.RegionWith
namespace Go.Proofs.YtdikenapnncmfaaDoor
open Go.RowKit
set_option linter.unusedVariables false
set_option maxHeartbeats 1600000 in
theorem from_any (A : Option Addr) (n c : Nat) (w : World) : Calls Tryd.prog 24 #[.slice A n c] w fun e w' => e = .returned (.pointer (some ⟨w.heap.size, 0, none⟩)) ∧ w' = w.alloc (.cells #[.slice A n c, .int .i64 0, .int .u64 0] 71) := by
  go_enter Tryd.func24, Tryd.ntmps24
  go_wp2_with fail
  refine bodyPost_ret (v := .pointer (some ⟨w.heap.size, 0, none⟩)) (by simp [results, Tryd.results24, go_sem]) rfl ?_
  exact ⟨rfl, rfl⟩
theorem SrcAt.drew {g : Nat} {A : Option Addr} {n c m : Nat} {w : World} (h : SrcAt g A n c m w) : SrcAt g A n c m w.drew := h
theorem SrcAt.drewN {g : Nat} {A : Option Addr} {n c m : Nat} {w : World} (h : SrcAt g A n c m w) (k : Nat) : SrcAt g A n c m (w.drewN k) := h
theorem blk_onl {g q : Nat} {w w' : World} {t : TypeId} {cs : Array Value} (o : Onl g w w') (k : Blk w q t cs) (hq : ¬ q = g) : Blk w' q t cs := (o.2 q k.lt hq).trans k
def ptV (x y : Int) : Value := .agg #[.int .i64 x, .int .i64 y]
def inC (k : Int) : Prop := -262144 ≤ k ∧ k ≤ 262144
set_option maxRecDepth 100000 in
set_option maxHeartbeats 6400000 in
theorem e8Points_any (A : Option Addr) (n c : Nat) (w : World) (hn : n ≤ 1048576) (h : CodeR A n w w.heap.size) :
    Calls Tryd.prog 7 #[.slice A n c] w fun e w' => ∃ x1 y1 x2 y2 x3 y3 x4 y4 : Int, e = .returned (.tuple #[ptV x1 y1, ptV x2 y2, ptV x3 y3, ptV x4 y4]) ∧ (inC x1 ∧ inC y1 ∧ inC x2 ∧ inC y2) ∧ Below w.heap.size w w' := by
  have H := Lib.hid h
  clear h
  go_enter Tryd.func7, Tryd.ntmps7
  go_wp2_with fail
  refine (from_any A n c _).mono ?_
  rintro e w1 ⟨rfl, hw1⟩
  simp only [World.size_alloc] at hw1 ⊢
  go_wp2_with fail
  generalize hW : World.alloc (World.alloc (World.alloc (World.alloc (World.alloc (World.alloc w _) _) _) _) _) _ = W1
  obtain ⟨B, hB⟩ : ∃ B, B = w.heap.size := ⟨_, rfl⟩
  obtain ⟨G, hG⟩ : ∃ G, G = B + 1 + 1 + 1 + 1 := ⟨_, rfl⟩
  have zz : W1.heap.size = G + 2 := by rw [← hW, hG, hB]; simp
  have r0 : Blk W1 (B) 25 #[.int .i64 0, .int .i64 0] := by
    rw [← hW, hB]
    exact (Blk.alloc (Blk.alloc (Blk.alloc (Blk.alloc (Blk.alloc (Blk.newAt _ _ _ (by simp)) _) _) _) _) _)
  have r1 : Blk W1 (B + 1) 25 #[.int .i64 0, .int .i64 0] := by
    rw [← hW, hB]
    exact (Blk.alloc (Blk.alloc (Blk.alloc (Blk.alloc (Blk.newAt _ _ _ (by simp)) _) _) _) _)
  have r2 : Blk W1 (B + 1 + 1) 25 #[.int .i64 0, .int .i64 0] := by
    rw [← hW, hB]
    exact (Blk.alloc (Blk.alloc (Blk.alloc (Blk.newAt _ _ _ (by simp)) _) _) _)
  have r3 : Blk W1 (B + 1 + 1 + 1) 25 #[.int .i64 0, .int .i64 0] := by
    rw [← hW, hB]
    exact (Blk.alloc (Blk.alloc (Blk.newAt _ _ _ (by simp)) _) _)
  have bl : Below w.heap.size w W1 := by rw [← hW]; repeat' (first | with_reducible assumption | with_reducible exact Below.refl _ _ | (with_reducible refine Below.setCell ?_ ?_ _) | (with_reducible refine Below.alloc ?_ ?_ _) | (with_reducible refine Below.drew ?_) | (with_reducible refine below_dr ?_ _) | (with_reducible refine Below.trans ?_ (Below.mono (by with_reducible assumption) ?_)) | omega | (simp; done) | (simp; omega))
  have sr : SrcAt G A n c 0 W1 := by
    refine ⟨0, 0, Nat.le_refl _, ?_, ?_⟩
    · rw [← hW, hG, hB]; exact Blk.alloc (Blk.newAt _ _ _ (by simp)) _
    · rw [hG, hB]; exact (H.out.keep fun p hp => bl.cell hp).more (by omega)
  have rq : AtL (G + 1) [.int .i64 3, .int .i64 6, .int .i64 30, .int .i64 1000, .int .i64 262144] W1 := by
    rw [← hW, hG, hB]; exact AtL.newAt (by simp)
  clear hW
  rw [← hB] at bl ⊢
  rw [← hG]
  have BL := Lib.hid bl
  clear bl
  have CA := Lib.hid (among_any G (G + 1) A n c 0 W1 (by omega) hn sr (by omega) rq)
  have HN := Lib.hid hn
  have HBB := Lib.hid hB
  have F1 := Lib.hid (And.intro hG (And.intro zz (And.intro r0 (And.intro r1 (And.intro r2 r3)))))
  clear hG hB zz r0 r1 r2 r3 hn H sr rq
  unfold NxRet at CA
  refine CA.out.mono ?_
  clear CA
  rintro e w1 ⟨k, rfl, hk, s1, o1, z1⟩
  have CD := Lib.hid (draw_any G A n c (0 + 2) k w1 (by omega) HN.out hk s1)
  have KD := Lib.hid hk
  have O1 := Lib.hid o1
  clear hk s1 o1 z1
  go_wp2_with fail
  refine CD.out.mono ?_
  clear CD
  rintro e w2 ⟨x1, y1, rfl, hx1, hy1, s2, o2⟩
  have X1 := Lib.hid (And.intro hx1 hy1)
  have S2 := Lib.hid s2
  have O2 := Lib.hid (O1.out.trans o2)
  clear hx1 hy1 s2 o2 O1
  go_wp2_with fail
  generalize hV2 : World.alloc w2 _ = V2
  have P2 := Lib.hid (show SrcAt G A n c (0 + 2 + 10) V2 ∧ Onl G W1 V2 ∧ Onl G w2 V2 ∧ Blk V2 w2.heap.size 25 #[.int .i64 x1, .int .i64 y1] ∧ V2.heap.size = w2.heap.size + 1 by
    have q2 := O2.out.size
    have f := F1.out.2.1
    rw [← hV2]
    exact ⟨S2.out.stay ((Below.refl _ _).alloc (Nat.le_refl _) _), O2.out.alloc (by omega) _, (Onl.refl _ _).alloc (by omega) _, Blk.new _ _ _, by simp⟩)
  have CD := Lib.hid (draw_any G A n c (0 + 2 + 10) k V2 (by omega) HN.out KD.out P2.out.1)
  have Q2 := Lib.hid (show W1.heap.size ≤ w2.heap.size from O2.out.size)
  clear hV2 S2 O2
  refine CD.out.mono ?_
  clear CD
  rintro e w3 ⟨x2, y2, rfl, hx2, hy2, s3, o3⟩
  have X2 := Lib.hid (And.intro hx2 hy2)
  have S3 := Lib.hid s3
  have O3 := Lib.hid o3
  clear hx2 hy2 s3 o3
  go_wp2_with fail
  generalize hV3 : World.alloc w3 _ = V3
  have P3 := Lib.hid (show SrcAt G A n c (0 + 2 + 10 + 10) V3 ∧ Onl G V2 V3 ∧ Blk V3 w3.heap.size 25 #[.int .i64 x2, .int .i64 y2] ∧ V3.heap.size = w3.heap.size + 1 by
    have q3 := O3.out.size
    have f := F1.out.2.1
    have q2 := P2.out.2.1.size
    rw [← hV3]
    exact ⟨S3.out.stay ((Below.refl _ _).alloc (Nat.le_refl _) _), O3.out.alloc (by omega) _, Blk.new _ _ _, by simp⟩)
  have CD := Lib.hid (draw_any G A n c (0 + 2 + 10 + 10) k V3 (by omega) HN.out KD.out P3.out.1)
  have Q3 := Lib.hid O3.out.size
  clear hV3 S3 O3
  refine CD.out.mono ?_
  clear CD
  rintro e w4 ⟨x3, y3, rfl, hx3, hy3, s4, o4⟩
  have S4 := Lib.hid s4
  have O4 := Lib.hid o4
  clear hx3 hy3 s4 o4
  go_wp2_with fail
  generalize hV4 : World.alloc w4 _ = V4
  have P4 := Lib.hid (show SrcAt G A n c (0 + 2 + 10 + 10 + 10) V4 ∧ Onl G V3 V4 ∧ Blk V4 w4.heap.size 25 #[.int .i64 x3, .int .i64 y3] ∧ V4.heap.size = w4.heap.size + 1 by
    have q4 := O4.out.size
    have f := F1.out.2.1
    have q2 := P2.out.2.1.size
    have q3 := P3.out.2.1.size
    rw [← hV4]
    exact ⟨S4.out.stay ((Below.refl _ _).alloc (Nat.le_refl _) _), O4.out.alloc (by omega) _, Blk.new _ _ _, by simp⟩)
  have CD := Lib.hid (fun wd (hs : SrcAt G A n c (0 + 2 + 10 + 10 + 10) wd) => draw_any G A n c (0 + 2 + 10 + 10 + 10) k wd (by omega) HN.out KD.out hs)
  have Q4 := Lib.hid O4.out.size
  clear hV4 S4 O4
  have q2 := P2.out.2.1.size
  have q3 := P3.out.2.1.size
  have q4 := P4.out.2.1.size
  have g0 := F1.out.1
  have g1 := F1.out.2.1
  have g2 := P2.out.2.2.2.2
  have g3 := P3.out.2.2.2
  have g4 := P4.out.2.2.2
  have g5 := Q3.out
  have g6 := Q4.out
  have g7 := (P2.out.2.2.1).size
  have n2 : W1.heap.size ≤ w2.heap.size := Q2.out
  have b1 := blk_onl (P3.out.2.1.trans P4.out.2.1) P2.out.2.2.2.1 (by omega)
  have b2 := blk_onl P4.out.2.1 P3.out.2.2.1 (by omega)
  have b3 := P4.out.2.2.1
  have oa := P2.out.2.1.trans (P3.out.2.1.trans P4.out.2.1)
  have d0 := blk_onl oa F1.out.2.2.1 (by omega)
  have d1 := blk_onl oa F1.out.2.2.2.1 (by omega)
  have d2 := blk_onl oa F1.out.2.2.2.2.1 (by omega)
  have d3 := blk_onl oa F1.out.2.2.2.2.2 (by omega)
  have BV := Lib.hid (show Below B w V4 from BL.out.trans (oa.1.mono (by omega)))
  have ng : B < G := by omega
  have NE := Lib.hid (show (¬ w2.heap.size = G) ∧ (¬ w3.heap.size = G) ∧ (¬ w4.heap.size = G) ∧ (¬ B = G) ∧ (¬ B + 1 = G) ∧ (¬ B + 1 + 1 = G) ∧ ¬ B + 1 + 1 + 1 = G from ⟨by omega, by omega, by omega, by omega, by omega, by omega, by omega⟩)
  have hne : B < w2.heap.size ∧ B + 1 < w2.heap.size ∧ B + 1 + 1 < w2.heap.size ∧ B + 1 + 1 + 1 < w2.heap.size ∧ w2.heap.size < w3.heap.size ∧ w3.heap.size < w4.heap.size := by omega
  obtain ⟨h01, h02, h03, h04, h05, h06⟩ := hne
  clear q2 q3 q4 g0 g1 g2 g3 g4 g5 g6 g7 n2 oa
  have cb10 : V4.cell? ⟨w2.heap.size, 0, none⟩ = some (.int .i64 x1) := b1.cell 0 rfl
  have cb11 : V4.cell? ⟨w2.heap.size, 1, none⟩ = some (.int .i64 y1) := b1.cell 1 rfl
  have cb20 : V4.cell? ⟨w3.heap.size, 0, none⟩ = some (.int .i64 x2) := b2.cell 0 rfl
  have cb21 : V4.cell? ⟨w3.heap.size, 1, none⟩ = some (.int .i64 y2) := b2.cell 1 rfl
  have cb30 : V4.cell? ⟨w4.heap.size, 0, none⟩ = some (.int .i64 x3) := b3.cell 0 rfl
  have cb31 : V4.cell? ⟨w4.heap.size, 1, none⟩ = some (.int .i64 y3) := b3.cell 1 rfl
  have cd00 : V4.cell? ⟨B, 0, none⟩ = some (.int .i64 0) := d0.cell 0 rfl
  have cd01 : V4.cell? ⟨B, 1, none⟩ = some (.int .i64 0) := d0.cell 1 rfl
  have fd00 : V4.frozen? ⟨B, 0, none⟩ = false := d0.frozen 0
  have fd01 : V4.frozen? ⟨B, 1, none⟩ = false := d0.frozen 1
  have cd10 : V4.cell? ⟨B + 1, 0, none⟩ = some (.int .i64 0) := d1.cell 0 rfl
  have cd11 : V4.cell? ⟨B + 1, 1, none⟩ = some (.int .i64 0) := d1.cell 1 rfl
  have fd10 : V4.frozen? ⟨B + 1, 0, none⟩ = false := d1.frozen 0
  have fd11 : V4.frozen? ⟨B + 1, 1, none⟩ = false := d1.frozen 1
  have cd20 : V4.cell? ⟨B + 1 + 1, 0, none⟩ = some (.int .i64 0) := d2.cell 0 rfl
  have cd21 : V4.cell? ⟨B + 1 + 1, 1, none⟩ = some (.int .i64 0) := d2.cell 1 rfl
  have fd20 : V4.frozen? ⟨B + 1 + 1, 0, none⟩ = false := d2.frozen 0
  have fd21 : V4.frozen? ⟨B + 1 + 1, 1, none⟩ = false := d2.frozen 1
  have cd30 : V4.cell? ⟨B + 1 + 1 + 1, 0, none⟩ = some (.int .i64 0) := d3.cell 0 rfl
  have cd31 : V4.cell? ⟨B + 1 + 1 + 1, 1, none⟩ = some (.int .i64 0) := d3.cell 1 rfl
  have fd30 : V4.frozen? ⟨B + 1 + 1 + 1, 0, none⟩ = false := d3.frozen 0
  have fd31 : V4.frozen? ⟨B + 1 + 1 + 1, 1, none⟩ = false := d3.frozen 1
  have HBK := Lib.hid (And.intro b1 (And.intro b2 (And.intro b3 (And.intro d0 (And.intro d1 (And.intro d2 d3))))))
  clear b1 b2 b3 d0 d1 d2 d3
  go_region_with (go_at_call 26; refine (CD.out _ (by first | exact P4.out.1 | exact P4.out.1.drew | exact P4.out.1.drewN _)).mono ?_; rintro e w5 ⟨x4, y4, rfl, -, -, -, o5⟩; obtain ⟨b1, b2, b3, d0, d1, d2, d3⟩ := HBK.out; replace b1 := blk_onl o5 b1 NE.out.1; replace b2 := blk_onl o5 b2 NE.out.2.1; replace b3 := blk_onl o5 b3 NE.out.2.2.1; replace d0 := blk_onl o5 d0 NE.out.2.2.2.1; replace d1 := blk_onl o5 d1 NE.out.2.2.2.2.1; replace d2 := blk_onl o5 d2 NE.out.2.2.2.2.2.1; replace d3 := blk_onl o5 d3 NE.out.2.2.2.2.2.2; have ecb10 : w5.cell? ⟨w2.heap.size, 0, none⟩ = some (.int .i64 x1) := b1.cell 0 rfl; have ecb11 : w5.cell? ⟨w2.heap.size, 1, none⟩ = some (.int .i64 y1) := b1.cell 1 rfl; have ecb20 : w5.cell? ⟨w3.heap.size, 0, none⟩ = some (.int .i64 x2) := b2.cell 0 rfl; have ecb21 : w5.cell? ⟨w3.heap.size, 1, none⟩ = some (.int .i64 y2) := b2.cell 1 rfl; have ecb30 : w5.cell? ⟨w4.heap.size, 0, none⟩ = some (.int .i64 x3) := b3.cell 0 rfl; have ecb31 : w5.cell? ⟨w4.heap.size, 1, none⟩ = some (.int .i64 y3) := b3.cell 1 rfl; have ecd00 : w5.cell? ⟨B, 0, none⟩ = some (.int .i64 0) := d0.cell 0 rfl; have ecd01 : w5.cell? ⟨B, 1, none⟩ = some (.int .i64 0) := d0.cell 1 rfl; have efd00 : w5.frozen? ⟨B, 0, none⟩ = false := d0.frozen 0; have efd01 : w5.frozen? ⟨B, 1, none⟩ = false := d0.frozen 1; have ecd10 : w5.cell? ⟨B + 1, 0, none⟩ = some (.int .i64 0) := d1.cell 0 rfl; have ecd11 : w5.cell? ⟨B + 1, 1, none⟩ = some (.int .i64 0) := d1.cell 1 rfl; have efd10 : w5.frozen? ⟨B + 1, 0, none⟩ = false := d1.frozen 0; have efd11 : w5.frozen? ⟨B + 1, 1, none⟩ = false := d1.frozen 1; have ecd20 : w5.cell? ⟨B + 1 + 1, 0, none⟩ = some (.int .i64 0) := d2.cell 0 rfl; have ecd21 : w5.cell? ⟨B + 1 + 1, 1, none⟩ = some (.int .i64 0) := d2.cell 1 rfl; have efd20 : w5.frozen? ⟨B + 1 + 1, 0, none⟩ = false := d2.frozen 0; have efd21 : w5.frozen? ⟨B + 1 + 1, 1, none⟩ = false := d2.frozen 1; have ecd30 : w5.cell? ⟨B + 1 + 1 + 1, 0, none⟩ = some (.int .i64 0) := d3.cell 0 rfl; have ecd31 : w5.cell? ⟨B + 1 + 1 + 1, 1, none⟩ = some (.int .i64 0) := d3.cell 1 rfl; have efd30 : w5.frozen? ⟨B + 1 + 1 + 1, 0, none⟩ = false := d3.frozen 0; have efd31 : w5.frozen? ⟨B + 1 + 1 + 1, 1, none⟩ = false := d3.frozen 1; have B5 := Lib.hid (show Below B w w5 from (Below.drew BV.out).trans (o5.1.mono (Nat.le_of_lt ng))); clear b1 b2 b3 d0 d1 d2 d3 o5)
  all_goals
    go_wp2_with fail
    refine bodyPost_ret (v := .tuple #[.agg #[.int .i64 x1, .int .i64 y1], .agg #[.int .i64 x2, .int .i64 y2], .agg #[.int .i64 x3, .int .i64 y3], .agg #[.int .i64 x4, .int .i64 y4]]) (by simp [results, Tryd.results7, go_sem, *]) rfl ?_
    refine ⟨x1, y1, x2, y2, x3, y3, x4, y4, rfl, ?_, ?_⟩
    · have a1 := X1.out
      have a2 := X2.out
      have a3 := KD.out
      unfold inC
      omega
    · have hb := HBB.out
      have b5 : Below w.heap.size w w5 := by rw [← hb]; exact B5.out
      repeat' (first | with_reducible assumption | with_reducible exact Below.refl _ _ | (with_reducible refine Below.setCell ?_ ?_ _) | (with_reducible refine Below.alloc ?_ ?_ _) | (with_reducible refine Below.drew ?_) | (with_reducible refine below_dr ?_ _) | (with_reducible refine Below.trans ?_ (Below.mono (by with_reducible assumption) ?_)) | omega | (simp; done) | (simp; omega))
end Go.Proofs.YtdikenapnncmfaaDoor
