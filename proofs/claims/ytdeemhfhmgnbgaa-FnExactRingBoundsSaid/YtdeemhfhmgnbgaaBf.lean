/- Walks: the corners of the box of a ring, on both sides; the law on RingBounds: it returns true. -/
import Derived.Test.YtdeemhfhmgnbgaaBd
import Derived.Test.YtdeemhfhmgnbgaaBb
namespace Go.Proofs.Ytdeemhfhmgnbgaa
open Go.RowKit
set_option linter.unusedVariables false
theorem gb_one_no {l : List APt} (h : vRg l = false) : Gb 0 0 0 0 1 [l] := gb_no (by rw [vRn_one]; exact h)
theorem gb_one_yes {l : List APt} (h : vRg l = true) : Gb (bX1 l l.length) (bY1 l l.length) (bX2 l l.length) (bY2 l l.length) 0 [l] := by
  have := gb_yes (ds := [l]) (by rw [vRn_one]; exact h) (by simp)
  simpa using this
set_option maxRecDepth 100000 in
set_option maxHeartbeats 6400000 in
theorem specRingBounds_any (l : List APt) (A : Option Addr) (c : Nat) (w : World) (hl : l.length ≤ 1048576) (r : Rd cPt 2 w w.heap.size A l) :
    Calls Try.prog 26 #[.agg #[.slice A l.length c]] w (GbRet [l] w) := by
  have CV := Lib.hid (fun w1 h1 h2 r1 => l13Ring_any l A c w.heap.size 0 w1 h1 h2 hl r1)
  rcases hv : vRg l with _ | _
  case false =>
    have HG := Lib.hid (gb_one_no hv)
    rw [hv] at CV
    clear hv
    obtain ⟨n, hn⟩ : ∃ n, n = l.length := ⟨_, rfl⟩
    rw [← hn] at CV hl ⊢
    clear hn
    go_enter Try.func26, Try.ntmps26
    go_wp2_with fail
    refine (CV.out _ (by simp; omega) (by simp [go_sem]) ?_).mono ?_
    · (refine Rd.more (B := w.heap.size) ?_ (by first | omega | ((try simp only [World.size_setCell]); (try simp only [World.size_drew]); (try simp only [World.size_alloc]); omega) | (simp; done) | (simp; omega))); (repeat' (first | with_reducible assumption | (with_reducible refine Rd.drew ?_) | (with_reducible refine Rd.carry ?_ (by with_reducible assumption) ?_) | (with_reducible refine Rd.alloc ?_ ?_ _) | (with_reducible refine Rd.setCell ?_ ?_ _) | omega | (simp; done) | (simp; omega)))
    rintro e w1 ⟨rfl, hb1⟩
    have b1 : Blk w1 (w.heap.size + 1) 26 #[.int .i64 0, .int .i64 0] := Blk.carry (by repeat' (first | with_reducible assumption | with_reducible exact Blk.new _ _ _ | ((with_reducible refine Blk.newAt _ _ _ ?_); (first | rfl | (simp; done) | (simp; omega))) | (with_reducible apply Blk.set2P) | (with_reducible refine Blk.drew ?_) | (with_reducible refine Blk.alloc ?_ _) | (with_reducible refine Blk.far ?_ (by first | omega | (simp; done) | (simp; omega)) _))) hb1
    have b2 : Blk w1 (w.heap.size + 2) 26 #[.int .i64 0, .int .i64 0] := Blk.carry (by repeat' (first | with_reducible assumption | with_reducible exact Blk.new _ _ _ | ((with_reducible refine Blk.newAt _ _ _ ?_); (first | rfl | (simp; done) | (simp; omega))) | (with_reducible apply Blk.set2P) | (with_reducible refine Blk.drew ?_) | (with_reducible refine Blk.alloc ?_ _) | (with_reducible refine Blk.far ?_ (by first | omega | (simp; done) | (simp; omega)) _))) hb1
    have yb10 : w1.cell? ⟨(w.heap.size + 1), 0, none⟩ = some (.int .i64 0) := b1.cell 0 rfl
    have yb11 : w1.cell? ⟨(w.heap.size + 1), 1, none⟩ = some (.int .i64 0) := b1.cell 1 rfl
    have fb10 := b1.frozen 0
    have fb11 := b1.frozen 1
    have lb1 := b1.lt
    have yb20 : w1.cell? ⟨(w.heap.size + 2), 0, none⟩ = some (.int .i64 0) := b2.cell 0 rfl
    have yb21 : w1.cell? ⟨(w.heap.size + 2), 1, none⟩ = some (.int .i64 0) := b2.cell 1 rfl
    have fb20 := b2.frozen 0
    have fb21 := b2.frozen 1
    have lb2 := b2.lt
    go_wp2_with fail
    refine bodyPost_ret (v := .tuple #[.agg #[.int .i64 0, .int .i64 0], .agg #[.int .i64 0, .int .i64 0], .int .i64 1]) (by simp [results, Try.results26, go_sem, *]) rfl (GbRet.mk HG.out ?_)
    repeat' (first | with_reducible assumption | with_reducible exact Below.refl _ _ | (with_reducible refine Below.setCell ?_ ?_ _) | (with_reducible refine Below.alloc ?_ ?_ _) | (with_reducible refine Below.drew ?_) | (with_reducible refine below_dr ?_ _) | (with_reducible refine Below.trans ?_ (Below.mono (by with_reducible assumption) ?_)) | omega | (simp; done) | (simp; omega))
  case true =>
    have HG := Lib.hid (gb_one_yes hv)
    rw [hv] at CV
    obtain ⟨hp, h400, _⟩ := vRg_parts hv
    clear hv
    have CB := Lib.hid (fun A c w1 r1 => l09Corners_rd l A c w1 hp (by omega) r1)
    obtain ⟨n, hn⟩ : ∃ n, n = l.length := ⟨_, rfl⟩
    rw [← hn] at CV CB HG hl ⊢
    obtain ⟨v1, hv1⟩ : ∃ v, v = bX1 l n := ⟨_, rfl⟩
    obtain ⟨v2, hv2⟩ : ∃ v, v = bY1 l n := ⟨_, rfl⟩
    obtain ⟨v3, hv3⟩ : ∃ v, v = bX2 l n := ⟨_, rfl⟩
    obtain ⟨v4, hv4⟩ : ∃ v, v = bY2 l n := ⟨_, rfl⟩
    rw [← hv1, ← hv2, ← hv3, ← hv4] at CB HG
    clear hv1 hv2 hv3 hv4 hn
    go_enter Try.func26, Try.ntmps26
    go_wp2_with fail
    refine (CV.out _ (by simp; omega) (by simp [go_sem]) ?_).mono ?_
    · (refine Rd.more (B := w.heap.size) ?_ (by first | omega | ((try simp only [World.size_setCell]); (try simp only [World.size_drew]); (try simp only [World.size_alloc]); omega) | (simp; done) | (simp; omega))); (repeat' (first | with_reducible assumption | (with_reducible refine Rd.drew ?_) | (with_reducible refine Rd.carry ?_ (by with_reducible assumption) ?_) | (with_reducible refine Rd.alloc ?_ ?_ _) | (with_reducible refine Rd.setCell ?_ ?_ _) | omega | (simp; done) | (simp; omega)))
    rintro e w1 ⟨rfl, hb1⟩
    have b1 : Blk w1 (w.heap.size + 1) 26 #[.int .i64 0, .int .i64 0] := Blk.carry (by repeat' (first | with_reducible assumption | with_reducible exact Blk.new _ _ _ | ((with_reducible refine Blk.newAt _ _ _ ?_); (first | rfl | (simp; done) | (simp; omega))) | (with_reducible apply Blk.set2P) | (with_reducible refine Blk.drew ?_) | (with_reducible refine Blk.alloc ?_ _) | (with_reducible refine Blk.far ?_ (by first | omega | (simp; done) | (simp; omega)) _))) hb1
    have b2 : Blk w1 (w.heap.size + 2) 26 #[.int .i64 0, .int .i64 0] := Blk.carry (by repeat' (first | with_reducible assumption | with_reducible exact Blk.new _ _ _ | ((with_reducible refine Blk.newAt _ _ _ ?_); (first | rfl | (simp; done) | (simp; omega))) | (with_reducible apply Blk.set2P) | (with_reducible refine Blk.drew ?_) | (with_reducible refine Blk.alloc ?_ _) | (with_reducible refine Blk.far ?_ (by first | omega | (simp; done) | (simp; omega)) _))) hb1
    have at1 : AtL w.heap.size [.slice A n c] w1 := AtL.below (by repeat' (first | with_reducible assumption | with_reducible exact AtL.new _ _ _ | ((with_reducible refine AtL.newAt ?_); (first | rfl | (simp; done))) | (with_reducible refine AtL.drew ?_) | (with_reducible refine AtL.below ?_ (by with_reducible assumption)) | (with_reducible refine AtL.alloc ?_ _) | (with_reducible refine AtL.far ?_ ?_ _ _) | omega | (simp; done) | (simp; omega))) hb1
    have k0 := at1.cell 0 rfl
    have lw := at1.lt
    have z1 := hb1.size
    (try simp only [World.size_alloc] at z1)
    have g1 : Below w.heap.size w w1 := by repeat' (first | with_reducible assumption | with_reducible exact Below.refl _ _ | (with_reducible refine Below.setCell ?_ ?_ _) | (with_reducible refine Below.alloc ?_ ?_ _) | (with_reducible refine Below.drew ?_) | (with_reducible refine below_dr ?_ _) | (with_reducible refine Below.trans ?_ (Below.mono (by with_reducible assumption) ?_)) | omega | (simp; done) | (simp; omega))
    have r1 : Rd cPt 2 w1 w1.heap.size A l := (r.below g1).more g1.size
    clear hb1 r CV
    have yb10 : w1.cell? ⟨(w.heap.size + 1), 0, none⟩ = some (.int .i64 0) := b1.cell 0 rfl
    have yb11 : w1.cell? ⟨(w.heap.size + 1), 1, none⟩ = some (.int .i64 0) := b1.cell 1 rfl
    have fb10 := b1.frozen 0
    have fb11 := b1.frozen 1
    have lb1 := b1.lt
    have yb20 : w1.cell? ⟨(w.heap.size + 2), 0, none⟩ = some (.int .i64 0) := b2.cell 0 rfl
    have yb21 : w1.cell? ⟨(w.heap.size + 2), 1, none⟩ = some (.int .i64 0) := b2.cell 1 rfl
    have fb20 := b2.frozen 0
    have fb21 := b2.frozen 1
    have lb2 := b2.lt
    go_wp2_with fail
    refine (CB.out _ _ _ r1).mono ?_
    rintro e w3 ⟨rfl, hb3⟩
    have z3 := hb3.size
    have g3 : Below w.heap.size w w3 := by repeat' (first | with_reducible assumption | with_reducible exact Below.refl _ _ | (with_reducible refine Below.setCell ?_ ?_ _) | (with_reducible refine Below.alloc ?_ ?_ _) | (with_reducible refine Below.drew ?_) | (with_reducible refine below_dr ?_ _) | (with_reducible refine Below.trans ?_ (Below.mono (by with_reducible assumption) ?_)) | omega | (simp; done) | (simp; omega))
    replace b1 := b1.carry hb3
    replace b2 := b2.carry hb3
    clear hb3 r1 at1 k0 lw
    clear yb10 fb10 yb11 fb11 yb20 fb20 yb21 fb21 lb1 lb2
    go_upto_region 4 with fail
    generalize hW : ((w3.alloc (.cells #[.int .i64 v1, .int .i64 v2] 26)).alloc (.cells #[.int .i64 v3, .int .i64 v4] 26)) = W3
    replace b1 : Blk W3 (w.heap.size + 1) 26 #[.int .i64 0, .int .i64 0] := by rw [← hW]; exact (b1.alloc _).alloc _
    replace b2 : Blk W3 (w.heap.size + 2) 26 #[.int .i64 0, .int .i64 0] := by rw [← hW]; exact (b2.alloc _).alloc _
    have b5 : Blk W3 w3.heap.size 26 #[.int .i64 v1, .int .i64 v2] := by rw [← hW]; exact (Blk.new w3 _ _).alloc _
    have b6 : Blk W3 (w3.heap.size + 1) 26 #[.int .i64 v3, .int .i64 v4] := by rw [← hW]; exact Blk.newAt _ _ _ (by simp)
    have g4 : Below w.heap.size w W3 := by rw [← hW]; repeat' (first | with_reducible assumption | with_reducible exact Below.refl _ _ | (with_reducible refine Below.setCell ?_ ?_ _) | (with_reducible refine Below.alloc ?_ ?_ _) | (with_reducible refine Below.drew ?_) | (with_reducible refine below_dr ?_ _) | (with_reducible refine Below.trans ?_ (Below.mono (by with_reducible assumption) ?_)) | omega | (simp; done) | (simp; omega))
    clear hW g3
    have yb10 : W3.cell? ⟨(w.heap.size + 1), 0, none⟩ = some (.int .i64 0) := b1.cell 0 rfl
    have yb11 : W3.cell? ⟨(w.heap.size + 1), 1, none⟩ = some (.int .i64 0) := b1.cell 1 rfl
    have fb10 := b1.frozen 0
    have fb11 := b1.frozen 1
    have lb1 := b1.lt
    have yb20 : W3.cell? ⟨(w.heap.size + 2), 0, none⟩ = some (.int .i64 0) := b2.cell 0 rfl
    have yb21 : W3.cell? ⟨(w.heap.size + 2), 1, none⟩ = some (.int .i64 0) := b2.cell 1 rfl
    have fb20 := b2.frozen 0
    have fb21 := b2.frozen 1
    have lb2 := b2.lt
    have yb50 : W3.cell? ⟨w3.heap.size, 0, none⟩ = some (.int .i64 v1) := b5.cell 0 rfl
    have yb51 : W3.cell? ⟨w3.heap.size, 1, none⟩ = some (.int .i64 v2) := b5.cell 1 rfl
    have lb5 := b5.lt
    have yb60 : W3.cell? ⟨(w3.heap.size + 1), 0, none⟩ = some (.int .i64 v3) := b6.cell 0 rfl
    have yb61 : W3.cell? ⟨(w3.heap.size + 1), 1, none⟩ = some (.int .i64 v4) := b6.cell 1 rfl
    have lb6 := b6.lt
    go_region
    all_goals (try go_wp2_with fail)
    all_goals
      refine bodyPost_ret (v := .tuple #[.agg #[.int .i64 v1, .int .i64 v2], .agg #[.int .i64 v3, .int .i64 v4], .int .i64 0]) (by simp [results, Try.results26, go_sem, *]) rfl (GbRet.mk HG.out ?_)
      repeat' (first | with_reducible assumption | with_reducible exact Below.refl _ _ | (with_reducible refine Below.setCell ?_ ?_ _) | (with_reducible refine Below.alloc ?_ ?_ _) | (with_reducible refine Below.drew ?_) | (with_reducible refine below_dr ?_ _) | (with_reducible refine Below.trans ?_ (Below.mono (by with_reducible assumption) ?_)) | omega | (simp; done) | (simp; omega))
set_option maxRecDepth 100000 in
set_option maxHeartbeats 6400000 in
theorem implRingBounds_any (l : List APt) (A : Option Addr) (c : Nat) (w : World) (hl : l.length ≤ 1048576) (r : Rd cPt 2 w w.heap.size A l) :
    Calls Try.prog 27 #[.agg #[.slice A l.length c]] w (GbRet [l] w) := by
  have CA := Lib.hid (fun w r => alone_any l A c w r)
  have CT := Lib.hid (fun A c w r => implRegionBounds_any [l] A c w (by simp) (hin_one hl) r)
  have HG := Lib.hid (show Gb (gb bX1 [l]) (gb bY1 [l]) (gb bX2 [l]) (gb bY2 [l]) (gbC [l]) [l] from ⟨rfl, rfl, rfl, rfl, rfl⟩)
  unfold GbRet at CT
  simp only [List.length_singleton] at CT
  unfold AlRet at CA
  obtain ⟨v1, hv1⟩ : ∃ v, v = gb bX1 [l] := ⟨_, rfl⟩
  obtain ⟨v2, hv2⟩ : ∃ v, v = gb bY1 [l] := ⟨_, rfl⟩
  obtain ⟨v3, hv3⟩ : ∃ v, v = gb bX2 [l] := ⟨_, rfl⟩
  obtain ⟨v4, hv4⟩ : ∃ v, v = gb bY2 [l] := ⟨_, rfl⟩
  obtain ⟨v5, hv5⟩ : ∃ v, v = gbC [l] := ⟨_, rfl⟩
  rw [← hv1, ← hv2, ← hv3, ← hv4, ← hv5] at CT HG
  clear hv1 hv2 hv3 hv4 hv5
  obtain ⟨n, hn⟩ : ∃ n, n = l.length := ⟨_, rfl⟩
  rw [← hn] at hl CA ⊢
  clear hn
  go_enter Try.func27, Try.ntmps27
  go_wp2_with fail
  refine (CA.out _ ?_).mono ?_
  · (refine Rd.more (B := w.heap.size) ?_ (by first | omega | ((try simp only [World.size_setCell]); (try simp only [World.size_drew]); (try simp only [World.size_alloc]); omega) | (simp; done) | (simp; omega))); (repeat' (first | with_reducible assumption | (with_reducible refine Rd.drew ?_) | (with_reducible refine Rd.carry ?_ (by with_reducible assumption) ?_) | (with_reducible refine Rd.alloc ?_ ?_ _) | (with_reducible refine Rd.setCell ?_ ?_ _) | omega | (simp; done) | (simp; omega)))
  intro e w1 hq1
  obtain ⟨q, rfl, r1, hb1⟩ := hq1
  have b1 : Blk w1 (w.heap.size + 1) 26 #[.int .i64 0, .int .i64 0] := Blk.carry (by repeat' (first | with_reducible assumption | with_reducible exact Blk.new _ _ _ | ((with_reducible refine Blk.newAt _ _ _ ?_); (first | rfl | (simp; done) | (simp; omega))) | (with_reducible apply Blk.set2P) | (with_reducible refine Blk.drew ?_) | (with_reducible refine Blk.alloc ?_ _) | (with_reducible refine Blk.far ?_ (by first | omega | (simp; done) | (simp; omega)) _))) hb1
  have b2 : Blk w1 (w.heap.size + 2) 26 #[.int .i64 0, .int .i64 0] := Blk.carry (by repeat' (first | with_reducible assumption | with_reducible exact Blk.new _ _ _ | ((with_reducible refine Blk.newAt _ _ _ ?_); (first | rfl | (simp; done) | (simp; omega))) | (with_reducible apply Blk.set2P) | (with_reducible refine Blk.drew ?_) | (with_reducible refine Blk.alloc ?_ _) | (with_reducible refine Blk.far ?_ (by first | omega | (simp; done) | (simp; omega)) _))) hb1
  have z1 := hb1.size
  (try simp only [World.size_alloc] at z1)
  have g1 : Below w.heap.size w w1 := by repeat' (first | with_reducible assumption | with_reducible exact Below.refl _ _ | (with_reducible refine Below.setCell ?_ ?_ _) | (with_reducible refine Below.alloc ?_ ?_ _) | (with_reducible refine Below.drew ?_) | (with_reducible refine below_dr ?_ _) | (with_reducible refine Below.trans ?_ (Below.mono (by with_reducible assumption) ?_)) | omega | (simp; done) | (simp; omega))
  clear hb1 r CA
  go_wp2_with fail
  refine (CT.out _ _ _ r1).mono ?_
  rintro e w2 ⟨rfl, hb2⟩
  have z2 := hb2.size
  have g2 : Below w.heap.size w w2 := by repeat' (first | with_reducible assumption | with_reducible exact Below.refl _ _ | (with_reducible refine Below.setCell ?_ ?_ _) | (with_reducible refine Below.alloc ?_ ?_ _) | (with_reducible refine Below.drew ?_) | (with_reducible refine below_dr ?_ _) | (with_reducible refine Below.trans ?_ (Below.mono (by with_reducible assumption) ?_)) | omega | (simp; done) | (simp; omega))
  replace b1 := b1.carry hb2
  replace b2 := b2.carry hb2
  have yb10 : w2.cell? ⟨(w.heap.size + 1), 0, none⟩ = some (.int .i64 0) := b1.cell 0 rfl
  have yb11 : w2.cell? ⟨(w.heap.size + 1), 1, none⟩ = some (.int .i64 0) := b1.cell 1 rfl
  have fb10 := b1.frozen 0
  have fb11 := b1.frozen 1
  have lb1 := b1.lt
  have yb20 : w2.cell? ⟨(w.heap.size + 2), 0, none⟩ = some (.int .i64 0) := b2.cell 0 rfl
  have yb21 : w2.cell? ⟨(w.heap.size + 2), 1, none⟩ = some (.int .i64 0) := b2.cell 1 rfl
  have fb20 := b2.frozen 0
  have fb21 := b2.frozen 1
  have lb2 := b2.lt
  go_wp2_with fail
  refine bodyPost_ret (v := .tuple #[.agg #[.int .i64 v1, .int .i64 v2], .agg #[.int .i64 v3, .int .i64 v4], .int .i64 v5]) (by simp [results, Try.results27, go_sem, *]) rfl (GbRet.mk HG.out ?_)
  repeat' (first | with_reducible assumption | with_reducible exact Below.refl _ _ | (with_reducible refine Below.setCell ?_ ?_ _) | (with_reducible refine Below.alloc ?_ ?_ _) | (with_reducible refine Below.drew ?_) | (with_reducible refine below_dr ?_ _) | (with_reducible refine Below.trans ?_ (Below.mono (by with_reducible assumption) ?_)) | omega | (simp; done) | (simp; omega))
set_option maxRecDepth 100000 in
set_option maxHeartbeats 12800000 in
theorem walk_RingBounds (a : ARing) (w : World) (k_a : okRing w w.heap.size a) :
    Calls Try.prog 6 #[.agg #[.slice a.1 a.2.2.length a.2.1]] w fun e w' => e = .returned (.bool true) ∧ Below w.heap.size w w' := by
  obtain ⟨a0A, a0c, a0l⟩ := a
  obtain ⟨nc_a0, cm_a0, rd_a0, ok_a0⟩ := k_a
  simp only at nc_a0 cm_a0 rd_a0 ok_a0 ⊢
  have hm_a0 : a0l.length ≤ 9223372036854775807 := by unfold maxLen at cm_a0; omega
  have HOK_a0 := Lib.hid (show ∀ (w2 : World) (B : Nat) (i : Nat) (b : APt), a0l[i]? = some b → okPt w2 B b from fun _ _ i b h => ok_a0 i b h)
  clear ok_a0 nc_a0 cm_a0
  have C1 := Lib.hid (fun A c w hl r => specRingBounds_any a0l A c w hl r)
  have C2 := Lib.hid (fun A c w hl r => implRingBounds_any a0l A c w hl r)
  unfold GbRet at C1 C2
  generalize gb bX1 [a0l] = v1 at C1 C2
  generalize gb bY1 [a0l] = v2 at C1 C2
  generalize gb bX2 [a0l] = v3 at C1 C2
  generalize gb bY2 [a0l] = v4 at C1 C2
  generalize gbC [a0l] = code at C1 C2
  have e_c : (code != code) = false := by simp
  go_enter Try.func6, Try.ntmps6
  go_wp2_with fail
  generalize hW : (w.alloc (.cells #[.slice a0A a0l.length a0c] 49)) = W0
  have rd_a0w : Rd cPt 2 w (w.heap.size) a0A a0l := rd_a0
  have bx_aW0 : AtL (w.heap.size) [.slice a0A a0l.length a0c] W0 := by rw [← hW]; repeat' (first | with_reducible assumption | with_reducible exact AtL.new _ _ _ | ((with_reducible refine AtL.newAt ?_); (first | rfl | (simp; done))) | (with_reducible refine AtL.drew ?_) | (with_reducible refine AtL.below ?_ (by with_reducible assumption)) | (with_reducible refine AtL.alloc ?_ _) | (with_reducible refine AtL.far ?_ ?_ _ _) | omega | (simp; done) | (simp; omega))
  have rd_a0W0 : Rd cPt 2 W0 (w.heap.size) a0A a0l := by rw [← hW]; repeat' (first | with_reducible assumption | (with_reducible refine Rd.drew ?_) | (with_reducible refine Rd.carry ?_ (by with_reducible assumption) ?_) | (with_reducible refine Rd.alloc ?_ ?_ _) | (with_reducible refine Rd.setCell ?_ ?_ _) | omega | (simp; done) | (simp; omega))
  have qW0 : w.heap.size ≤ W0.heap.size := by rw [← hW]; simp
  have bn : Below w.heap.size w W0 := by rw [← hW]; repeat' (first | with_reducible assumption | with_reducible exact Below.refl _ _ | (with_reducible refine Below.setCell ?_ ?_ _) | (with_reducible refine Below.alloc ?_ ?_ _) | (with_reducible refine Below.drew ?_) | (with_reducible refine below_dr ?_ _) | (with_reducible refine Below.trans ?_ (Below.mono (by with_reducible assumption) ?_)) | omega | (simp; done) | (simp; omega))
  have bW0 := Lib.hid bn
  clear hW bn
  clear rd_a0w rd_a0
  have hV0 : 0 ≤ (1048576 : Int) ∧ (1048576 : Int) ≤ 1048576 := by omega
  by_cases hfit : ((a0l.length : Nat) : Int) ≤ 1048576
  case neg =>
    replace hfit : 1048576 < ((a0l.length : Nat) : Int) := by omega
    refine (szRing_no a0A a0c a0l 1048576 _ (by omega) (by omega) hm_a0 hfit ?_ (HOK_a0.out _ _)).mono ?_
    · (refine Rd.more (B := w.heap.size) ?_ (by first | omega | ((try simp only [World.size_setCell]); (try simp only [World.size_drew]); (try simp only [World.size_alloc]); omega) | (simp; done) | (simp; omega))); (repeat' (first | with_reducible assumption | (with_reducible refine Rd.drew ?_) | (with_reducible refine Rd.carry ?_ (by with_reducible assumption) ?_) | (with_reducible refine Rd.alloc ?_ ?_ _) | (with_reducible refine Rd.setCell ?_ ?_ _) | omega | (simp; done) | (simp; omega)))
    rintro e wN ⟨rfl, hb⟩
    go_wp2_with fail
    go_ret
    have bp := bW0.out
    exact ⟨rfl, by repeat' (first | with_reducible assumption | with_reducible exact Below.refl _ _ | (with_reducible refine Below.setCell ?_ ?_ _) | (with_reducible refine Below.alloc ?_ ?_ _) | (with_reducible refine Below.drew ?_) | (with_reducible refine below_dr ?_ _) | (with_reducible refine Below.trans ?_ (Below.mono (by with_reducible assumption) ?_)) | omega | (simp; done) | (simp; omega))⟩
  case pos =>
    have hl_a0 : a0l.length ≤ 1048576 := by omega
    refine (szRing_yes a0A a0c a0l 1048576 _ (by omega) (by omega) (by omega) hfit ?_ (HOK_a0.out _ _)).mono ?_
    · (refine Rd.more (B := w.heap.size) ?_ (by first | omega | ((try simp only [World.size_setCell]); (try simp only [World.size_drew]); (try simp only [World.size_alloc]); omega) | (simp; done) | (simp; omega))); (repeat' (first | with_reducible assumption | (with_reducible refine Rd.drew ?_) | (with_reducible refine Rd.carry ?_ (by with_reducible assumption) ?_) | (with_reducible refine Rd.alloc ?_ ?_ _) | (with_reducible refine Rd.setCell ?_ ?_ _) | omega | (simp; done) | (simp; omega)))
    obtain ⟨V0, hV⟩ : ∃ V : Int, V = 1048576 - (a0l.length : Nat) := ⟨_, rfl⟩
    have hVV : 0 ≤ V0 ∧ V0 ≤ 1048576 := by omega
    rw [← hV]
    rintro e wS0 ⟨rfl, hbwS0⟩
    clear hV hfit
    obtain ⟨hV0_0, hV1_0⟩ := hVV
    have zwS0 := hbwS0.size
    (try simp only [World.size_setCell] at zwS0)
    (try simp only [World.size_drew] at zwS0)
    (try simp only [World.size_alloc] at zwS0)
    have qwS0 : w.heap.size ≤ wS0.heap.size := by omega
    have bx_awS0 : AtL (w.heap.size) [.slice a0A a0l.length a0c] wS0 := by repeat' (first | with_reducible assumption | with_reducible exact AtL.new _ _ _ | ((with_reducible refine AtL.newAt ?_); (first | rfl | (simp; done))) | (with_reducible refine AtL.drew ?_) | (with_reducible refine AtL.below ?_ (by with_reducible assumption)) | (with_reducible refine AtL.alloc ?_ _) | (with_reducible refine AtL.far ?_ ?_ _ _) | omega | (simp; done) | (simp; omega))
    have rd_a0wS0 : Rd cPt 2 wS0 (w.heap.size) a0A a0l := by repeat' (first | with_reducible assumption | (with_reducible refine Rd.drew ?_) | (with_reducible refine Rd.carry ?_ (by with_reducible assumption) ?_) | (with_reducible refine Rd.alloc ?_ ?_ _) | (with_reducible refine Rd.setCell ?_ ?_ _) | omega | (simp; done) | (simp; omega))
    have bp := bW0.out
    have bn : Below w.heap.size w wS0 := by repeat' (first | with_reducible assumption | with_reducible exact Below.refl _ _ | (with_reducible refine Below.setCell ?_ ?_ _) | (with_reducible refine Below.alloc ?_ ?_ _) | (with_reducible refine Below.drew ?_) | (with_reducible refine below_dr ?_ _) | (with_reducible refine Below.trans ?_ (Below.mono (by with_reducible assumption) ?_)) | omega | (simp; done) | (simp; omega))
    have bwS0 := Lib.hid bn
    clear bn
    clear bp bW0
    clear hbwS0
    clear bx_aW0
    clear rd_a0W0
    have kbx_a0 := bx_awS0.cell 0 rfl
    have lbx_a := bx_awS0.lt
    go_wp2_with fail
    clear kbx_a0 lbx_a
    refine (toRing_any a0A a0c a0l _ hl_a0 ?_).mono ?_
    · (refine Rd.more (B := w.heap.size) ?_ (by first | omega | ((try simp only [World.size_setCell]); (try simp only [World.size_drew]); (try simp only [World.size_alloc]); omega) | (simp; done) | (simp; omega))); (repeat' (first | with_reducible assumption | (with_reducible refine Rd.drew ?_) | (with_reducible refine Rd.carry ?_ (by with_reducible assumption) ?_) | (with_reducible refine Rd.alloc ?_ ?_ _) | (with_reducible refine Rd.setCell ?_ ?_ _) | omega | (simp; done) | (simp; omega)))
    intro e wA hq
    obtain ⟨gA_a0, rfl, owA_a0, hbwA⟩ := hq
    have zwA := hbwA.size
    (try simp only [World.size_setCell] at zwA)
    (try simp only [World.size_drew] at zwA)
    (try simp only [World.size_alloc] at zwA)
    have qwA : w.heap.size ≤ wA.heap.size := by omega
    have bx_awA : AtL (w.heap.size) [.slice a0A a0l.length a0c] wA := by repeat' (first | with_reducible assumption | with_reducible exact AtL.new _ _ _ | ((with_reducible refine AtL.newAt ?_); (first | rfl | (simp; done))) | (with_reducible refine AtL.drew ?_) | (with_reducible refine AtL.below ?_ (by with_reducible assumption)) | (with_reducible refine AtL.alloc ?_ _) | (with_reducible refine AtL.far ?_ ?_ _ _) | omega | (simp; done) | (simp; omega))
    have rd_a0wA : Rd cPt 2 wA (w.heap.size) a0A a0l := by repeat' (first | with_reducible assumption | (with_reducible refine Rd.drew ?_) | (with_reducible refine Rd.carry ?_ (by with_reducible assumption) ?_) | (with_reducible refine Rd.alloc ?_ ?_ _) | (with_reducible refine Rd.setCell ?_ ?_ _) | omega | (simp; done) | (simp; omega))
    have bp := bwS0.out
    have bn : Below w.heap.size w wA := by repeat' (first | with_reducible assumption | with_reducible exact Below.refl _ _ | (with_reducible refine Below.setCell ?_ ?_ _) | (with_reducible refine Below.alloc ?_ ?_ _) | (with_reducible refine Below.drew ?_) | (with_reducible refine below_dr ?_ _) | (with_reducible refine Below.trans ?_ (Below.mono (by with_reducible assumption) ?_)) | omega | (simp; done) | (simp; omega))
    have bwA := Lib.hid bn
    clear bn
    clear bp bwS0
    clear hbwA
    clear bx_awS0
    clear rd_a0wS0
    go_wp2_with fail
    refine (C1.out (some ⟨gA_a0, 0, none⟩) a0l.length _ hl_a0 ?_).mono ?_
    · (first | exact Rd.of_own (fun a => cPt_len a) (by omega) owA_a0 (by first | exact Nat.le_refl _ | (simp; done)) | exact Rd.drew (Rd.of_own (fun a => cPt_len a) (by omega) owA_a0 (by first | exact Nat.le_refl _ | (simp; done))))
    rintro e wB ⟨rfl, hbwB⟩
    clear owA_a0
    have zwB := hbwB.size
    (try simp only [World.size_setCell] at zwB)
    (try simp only [World.size_drew] at zwB)
    (try simp only [World.size_alloc] at zwB)
    have qwB : w.heap.size ≤ wB.heap.size := by omega
    have bx_awB : AtL (w.heap.size) [.slice a0A a0l.length a0c] wB := by repeat' (first | with_reducible assumption | with_reducible exact AtL.new _ _ _ | ((with_reducible refine AtL.newAt ?_); (first | rfl | (simp; done))) | (with_reducible refine AtL.drew ?_) | (with_reducible refine AtL.below ?_ (by with_reducible assumption)) | (with_reducible refine AtL.alloc ?_ _) | (with_reducible refine AtL.far ?_ ?_ _ _) | omega | (simp; done) | (simp; omega))
    have rd_a0wB : Rd cPt 2 wB (w.heap.size) a0A a0l := by repeat' (first | with_reducible assumption | (with_reducible refine Rd.drew ?_) | (with_reducible refine Rd.carry ?_ (by with_reducible assumption) ?_) | (with_reducible refine Rd.alloc ?_ ?_ _) | (with_reducible refine Rd.setCell ?_ ?_ _) | omega | (simp; done) | (simp; omega))
    have bp := bwA.out
    have bn : Below w.heap.size w wB := by repeat' (first | with_reducible assumption | with_reducible exact Below.refl _ _ | (with_reducible refine Below.setCell ?_ ?_ _) | (with_reducible refine Below.alloc ?_ ?_ _) | (with_reducible refine Below.drew ?_) | (with_reducible refine below_dr ?_ _) | (with_reducible refine Below.trans ?_ (Below.mono (by with_reducible assumption) ?_)) | omega | (simp; done) | (simp; omega))
    have bwB := Lib.hid bn
    clear bn
    clear bp bwA
    clear hbwB
    clear bx_awA
    clear rd_a0wA
    have kbx_a0 := bx_awB.cell 0 rfl
    have lbx_a := bx_awB.lt
    go_wp2_with fail
    clear kbx_a0 lbx_a
    refine (toRing_any a0A a0c a0l _ hl_a0 ?_).mono ?_
    · (refine Rd.more (B := w.heap.size) ?_ (by first | omega | ((try simp only [World.size_setCell]); (try simp only [World.size_drew]); (try simp only [World.size_alloc]); omega) | (simp; done) | (simp; omega))); (repeat' (first | with_reducible assumption | (with_reducible refine Rd.drew ?_) | (with_reducible refine Rd.carry ?_ (by with_reducible assumption) ?_) | (with_reducible refine Rd.alloc ?_ ?_ _) | (with_reducible refine Rd.setCell ?_ ?_ _) | omega | (simp; done) | (simp; omega)))
    intro e wX hq
    obtain ⟨gX_a0, rfl, owX_a0, hbwX⟩ := hq
    have zwX := hbwX.size
    (try simp only [World.size_setCell] at zwX)
    (try simp only [World.size_drew] at zwX)
    (try simp only [World.size_alloc] at zwX)
    have qwX : w.heap.size ≤ wX.heap.size := by omega
    have bx_awX : AtL (w.heap.size) [.slice a0A a0l.length a0c] wX := by repeat' (first | with_reducible assumption | with_reducible exact AtL.new _ _ _ | ((with_reducible refine AtL.newAt ?_); (first | rfl | (simp; done))) | (with_reducible refine AtL.drew ?_) | (with_reducible refine AtL.below ?_ (by with_reducible assumption)) | (with_reducible refine AtL.alloc ?_ _) | (with_reducible refine AtL.far ?_ ?_ _ _) | omega | (simp; done) | (simp; omega))
    have rd_a0wX : Rd cPt 2 wX (w.heap.size) a0A a0l := by repeat' (first | with_reducible assumption | (with_reducible refine Rd.drew ?_) | (with_reducible refine Rd.carry ?_ (by with_reducible assumption) ?_) | (with_reducible refine Rd.alloc ?_ ?_ _) | (with_reducible refine Rd.setCell ?_ ?_ _) | omega | (simp; done) | (simp; omega))
    have bx_w0wX : AtL (wB.heap.size) [.int .i64 v1, .int .i64 v2] wX := by repeat' (first | with_reducible assumption | with_reducible exact AtL.new _ _ _ | ((with_reducible refine AtL.newAt ?_); (first | rfl | (simp; done))) | (with_reducible refine AtL.drew ?_) | (with_reducible refine AtL.below ?_ (by with_reducible assumption)) | (with_reducible refine AtL.alloc ?_ _) | (with_reducible refine AtL.far ?_ ?_ _ _) | omega | (simp; done) | (simp; omega))
    have bx_w1wX : AtL (wB.heap.size + 1) [.int .i64 v3, .int .i64 v4] wX := by repeat' (first | with_reducible assumption | with_reducible exact AtL.new _ _ _ | ((with_reducible refine AtL.newAt ?_); (first | rfl | (simp; done))) | (with_reducible refine AtL.drew ?_) | (with_reducible refine AtL.below ?_ (by with_reducible assumption)) | (with_reducible refine AtL.alloc ?_ _) | (with_reducible refine AtL.far ?_ ?_ _ _) | omega | (simp; done) | (simp; omega))
    have bp := bwB.out
    have bn : Below w.heap.size w wX := by repeat' (first | with_reducible assumption | with_reducible exact Below.refl _ _ | (with_reducible refine Below.setCell ?_ ?_ _) | (with_reducible refine Below.alloc ?_ ?_ _) | (with_reducible refine Below.drew ?_) | (with_reducible refine below_dr ?_ _) | (with_reducible refine Below.trans ?_ (Below.mono (by with_reducible assumption) ?_)) | omega | (simp; done) | (simp; omega))
    have bwX := Lib.hid bn
    clear bn
    clear bp bwB
    clear hbwX
    clear bx_awB
    clear rd_a0wB
    have rx_a0wX : Rd cPt 2 wX (wX.heap.size) (some ⟨gX_a0, 0, none⟩) a0l := Rd.of_own (fun a => cPt_len a) (by omega) owX_a0 (Nat.le_refl _)
    clear owX_a0
    go_wp2_with fail
    refine (C2.out (some ⟨gX_a0, 0, none⟩) a0l.length _ hl_a0 ?_).mono ?_
    · (refine Rd.more (B := wX.heap.size) ?_ (by first | omega | ((try simp only [World.size_setCell]); (try simp only [World.size_drew]); (try simp only [World.size_alloc]); omega) | (simp; done) | (simp; omega))); (repeat' (first | with_reducible assumption | (with_reducible refine Rd.drew ?_) | (with_reducible refine Rd.carry ?_ (by with_reducible assumption) ?_) | (with_reducible refine Rd.alloc ?_ ?_ _) | (with_reducible refine Rd.setCell ?_ ?_ _) | omega | (simp; done) | (simp; omega)))
    rintro e wI ⟨rfl, hbwI⟩
    have zwI := hbwI.size
    (try simp only [World.size_setCell] at zwI)
    (try simp only [World.size_drew] at zwI)
    (try simp only [World.size_alloc] at zwI)
    have qwI : w.heap.size ≤ wI.heap.size := by omega
    have bx_awI : AtL (w.heap.size) [.slice a0A a0l.length a0c] wI := by repeat' (first | with_reducible assumption | with_reducible exact AtL.new _ _ _ | ((with_reducible refine AtL.newAt ?_); (first | rfl | (simp; done))) | (with_reducible refine AtL.drew ?_) | (with_reducible refine AtL.below ?_ (by with_reducible assumption)) | (with_reducible refine AtL.alloc ?_ _) | (with_reducible refine AtL.far ?_ ?_ _ _) | omega | (simp; done) | (simp; omega))
    have rd_a0wI : Rd cPt 2 wI (w.heap.size) a0A a0l := by repeat' (first | with_reducible assumption | (with_reducible refine Rd.drew ?_) | (with_reducible refine Rd.carry ?_ (by with_reducible assumption) ?_) | (with_reducible refine Rd.alloc ?_ ?_ _) | (with_reducible refine Rd.setCell ?_ ?_ _) | omega | (simp; done) | (simp; omega))
    have bx_w0wI : AtL (wB.heap.size) [.int .i64 v1, .int .i64 v2] wI := by repeat' (first | with_reducible assumption | with_reducible exact AtL.new _ _ _ | ((with_reducible refine AtL.newAt ?_); (first | rfl | (simp; done))) | (with_reducible refine AtL.drew ?_) | (with_reducible refine AtL.below ?_ (by with_reducible assumption)) | (with_reducible refine AtL.alloc ?_ _) | (with_reducible refine AtL.far ?_ ?_ _ _) | omega | (simp; done) | (simp; omega))
    have bx_w1wI : AtL (wB.heap.size + 1) [.int .i64 v3, .int .i64 v4] wI := by repeat' (first | with_reducible assumption | with_reducible exact AtL.new _ _ _ | ((with_reducible refine AtL.newAt ?_); (first | rfl | (simp; done))) | (with_reducible refine AtL.drew ?_) | (with_reducible refine AtL.below ?_ (by with_reducible assumption)) | (with_reducible refine AtL.alloc ?_ _) | (with_reducible refine AtL.far ?_ ?_ _ _) | omega | (simp; done) | (simp; omega))
    have rx_a0wI : Rd cPt 2 wI (wX.heap.size) (some ⟨gX_a0, 0, none⟩) a0l := by repeat' (first | with_reducible assumption | (with_reducible refine Rd.drew ?_) | (with_reducible refine Rd.carry ?_ (by with_reducible assumption) ?_) | (with_reducible refine Rd.alloc ?_ ?_ _) | (with_reducible refine Rd.setCell ?_ ?_ _) | omega | (simp; done) | (simp; omega))
    have at_pwI : AtL (wX.heap.size) [.slice (some ⟨gX_a0, 0, none⟩) a0l.length a0l.length] wI := by repeat' (first | with_reducible assumption | with_reducible exact AtL.new _ _ _ | ((with_reducible refine AtL.newAt ?_); (first | rfl | (simp; done))) | (with_reducible refine AtL.drew ?_) | (with_reducible refine AtL.below ?_ (by with_reducible assumption)) | (with_reducible refine AtL.alloc ?_ _) | (with_reducible refine AtL.far ?_ ?_ _ _) | omega | (simp; done) | (simp; omega))
    have bp := bwX.out
    have bn : Below w.heap.size w wI := by repeat' (first | with_reducible assumption | with_reducible exact Below.refl _ _ | (with_reducible refine Below.setCell ?_ ?_ _) | (with_reducible refine Below.alloc ?_ ?_ _) | (with_reducible refine Below.drew ?_) | (with_reducible refine below_dr ?_ _) | (with_reducible refine Below.trans ?_ (Below.mono (by with_reducible assumption) ?_)) | omega | (simp; done) | (simp; omega))
    have bwI := Lib.hid bn
    clear bn
    clear bp bwX
    clear hbwI
    clear bx_awX
    clear rd_a0wX
    clear bx_w0wX
    clear bx_w1wX
    clear rx_a0wX
    have kbx_w00 := bx_w0wI.cell 0 rfl
    have kbx_w01 := bx_w0wI.cell 1 rfl
    have lbx_w0 := bx_w0wI.lt
    go_wp2_with fail
    clear kbx_w00 kbx_w01 lbx_w0
    refine (eqPt_same v1 v2 _).mono ?_
    rintro e wE0 ⟨rfl, hbwE0⟩
    have zwE0 := hbwE0.size
    (try simp only [World.size_setCell] at zwE0)
    (try simp only [World.size_drew] at zwE0)
    (try simp only [World.size_alloc] at zwE0)
    have qwE0 : w.heap.size ≤ wE0.heap.size := by omega
    have bx_awE0 : AtL (w.heap.size) [.slice a0A a0l.length a0c] wE0 := by repeat' (first | with_reducible assumption | with_reducible exact AtL.new _ _ _ | ((with_reducible refine AtL.newAt ?_); (first | rfl | (simp; done))) | (with_reducible refine AtL.drew ?_) | (with_reducible refine AtL.below ?_ (by with_reducible assumption)) | (with_reducible refine AtL.alloc ?_ _) | (with_reducible refine AtL.far ?_ ?_ _ _) | omega | (simp; done) | (simp; omega))
    have rd_a0wE0 : Rd cPt 2 wE0 (w.heap.size) a0A a0l := by repeat' (first | with_reducible assumption | (with_reducible refine Rd.drew ?_) | (with_reducible refine Rd.carry ?_ (by with_reducible assumption) ?_) | (with_reducible refine Rd.alloc ?_ ?_ _) | (with_reducible refine Rd.setCell ?_ ?_ _) | omega | (simp; done) | (simp; omega))
    have bx_w0wE0 : AtL (wB.heap.size) [.int .i64 v1, .int .i64 v2] wE0 := by repeat' (first | with_reducible assumption | with_reducible exact AtL.new _ _ _ | ((with_reducible refine AtL.newAt ?_); (first | rfl | (simp; done))) | (with_reducible refine AtL.drew ?_) | (with_reducible refine AtL.below ?_ (by with_reducible assumption)) | (with_reducible refine AtL.alloc ?_ _) | (with_reducible refine AtL.far ?_ ?_ _ _) | omega | (simp; done) | (simp; omega))
    have bx_w1wE0 : AtL (wB.heap.size + 1) [.int .i64 v3, .int .i64 v4] wE0 := by repeat' (first | with_reducible assumption | with_reducible exact AtL.new _ _ _ | ((with_reducible refine AtL.newAt ?_); (first | rfl | (simp; done))) | (with_reducible refine AtL.drew ?_) | (with_reducible refine AtL.below ?_ (by with_reducible assumption)) | (with_reducible refine AtL.alloc ?_ _) | (with_reducible refine AtL.far ?_ ?_ _ _) | omega | (simp; done) | (simp; omega))
    have rx_a0wE0 : Rd cPt 2 wE0 (wX.heap.size) (some ⟨gX_a0, 0, none⟩) a0l := by repeat' (first | with_reducible assumption | (with_reducible refine Rd.drew ?_) | (with_reducible refine Rd.carry ?_ (by with_reducible assumption) ?_) | (with_reducible refine Rd.alloc ?_ ?_ _) | (with_reducible refine Rd.setCell ?_ ?_ _) | omega | (simp; done) | (simp; omega))
    have at_pwE0 : AtL (wX.heap.size) [.slice (some ⟨gX_a0, 0, none⟩) a0l.length a0l.length] wE0 := by repeat' (first | with_reducible assumption | with_reducible exact AtL.new _ _ _ | ((with_reducible refine AtL.newAt ?_); (first | rfl | (simp; done))) | (with_reducible refine AtL.drew ?_) | (with_reducible refine AtL.below ?_ (by with_reducible assumption)) | (with_reducible refine AtL.alloc ?_ _) | (with_reducible refine AtL.far ?_ ?_ _ _) | omega | (simp; done) | (simp; omega))
    have bx_h1wE0 : AtL (wI.heap.size + 1) [.int .i64 v3, .int .i64 v4] wE0 := by repeat' (first | with_reducible assumption | with_reducible exact AtL.new _ _ _ | ((with_reducible refine AtL.newAt ?_); (first | rfl | (simp; done))) | (with_reducible refine AtL.drew ?_) | (with_reducible refine AtL.below ?_ (by with_reducible assumption)) | (with_reducible refine AtL.alloc ?_ _) | (with_reducible refine AtL.far ?_ ?_ _ _) | omega | (simp; done) | (simp; omega))
    have bp := bwI.out
    have bn : Below w.heap.size w wE0 := by repeat' (first | with_reducible assumption | with_reducible exact Below.refl _ _ | (with_reducible refine Below.setCell ?_ ?_ _) | (with_reducible refine Below.alloc ?_ ?_ _) | (with_reducible refine Below.drew ?_) | (with_reducible refine below_dr ?_ _) | (with_reducible refine Below.trans ?_ (Below.mono (by with_reducible assumption) ?_)) | omega | (simp; done) | (simp; omega))
    have bwE0 := Lib.hid bn
    clear bn
    clear bp bwI
    clear hbwE0
    clear bx_awI
    clear rd_a0wI
    clear bx_w0wI
    clear bx_w1wI
    clear rx_a0wI
    clear at_pwI
    have kbx_w10 := bx_w1wE0.cell 0 rfl
    have kbx_w11 := bx_w1wE0.cell 1 rfl
    have lbx_w1 := bx_w1wE0.lt
    have kbx_h10 := bx_h1wE0.cell 0 rfl
    have kbx_h11 := bx_h1wE0.cell 1 rfl
    have lbx_h1 := bx_h1wE0.lt
    go_wp2_with fail
    clear kbx_w10 kbx_w11 lbx_w1
    clear kbx_h10 kbx_h11 lbx_h1
    refine (eqPt_same v3 v4 _).mono ?_
    rintro e wE1 ⟨rfl, hbwE1⟩
    have zwE1 := hbwE1.size
    (try simp only [World.size_setCell] at zwE1)
    (try simp only [World.size_drew] at zwE1)
    (try simp only [World.size_alloc] at zwE1)
    have qwE1 : w.heap.size ≤ wE1.heap.size := by omega
    have bx_awE1 : AtL (w.heap.size) [.slice a0A a0l.length a0c] wE1 := by repeat' (first | with_reducible assumption | with_reducible exact AtL.new _ _ _ | ((with_reducible refine AtL.newAt ?_); (first | rfl | (simp; done))) | (with_reducible refine AtL.drew ?_) | (with_reducible refine AtL.below ?_ (by with_reducible assumption)) | (with_reducible refine AtL.alloc ?_ _) | (with_reducible refine AtL.far ?_ ?_ _ _) | omega | (simp; done) | (simp; omega))
    have rd_a0wE1 : Rd cPt 2 wE1 (w.heap.size) a0A a0l := by repeat' (first | with_reducible assumption | (with_reducible refine Rd.drew ?_) | (with_reducible refine Rd.carry ?_ (by with_reducible assumption) ?_) | (with_reducible refine Rd.alloc ?_ ?_ _) | (with_reducible refine Rd.setCell ?_ ?_ _) | omega | (simp; done) | (simp; omega))
    have bx_w0wE1 : AtL (wB.heap.size) [.int .i64 v1, .int .i64 v2] wE1 := by repeat' (first | with_reducible assumption | with_reducible exact AtL.new _ _ _ | ((with_reducible refine AtL.newAt ?_); (first | rfl | (simp; done))) | (with_reducible refine AtL.drew ?_) | (with_reducible refine AtL.below ?_ (by with_reducible assumption)) | (with_reducible refine AtL.alloc ?_ _) | (with_reducible refine AtL.far ?_ ?_ _ _) | omega | (simp; done) | (simp; omega))
    have bx_w1wE1 : AtL (wB.heap.size + 1) [.int .i64 v3, .int .i64 v4] wE1 := by repeat' (first | with_reducible assumption | with_reducible exact AtL.new _ _ _ | ((with_reducible refine AtL.newAt ?_); (first | rfl | (simp; done))) | (with_reducible refine AtL.drew ?_) | (with_reducible refine AtL.below ?_ (by with_reducible assumption)) | (with_reducible refine AtL.alloc ?_ _) | (with_reducible refine AtL.far ?_ ?_ _ _) | omega | (simp; done) | (simp; omega))
    have rx_a0wE1 : Rd cPt 2 wE1 (wX.heap.size) (some ⟨gX_a0, 0, none⟩) a0l := by repeat' (first | with_reducible assumption | (with_reducible refine Rd.drew ?_) | (with_reducible refine Rd.carry ?_ (by with_reducible assumption) ?_) | (with_reducible refine Rd.alloc ?_ ?_ _) | (with_reducible refine Rd.setCell ?_ ?_ _) | omega | (simp; done) | (simp; omega))
    have at_pwE1 : AtL (wX.heap.size) [.slice (some ⟨gX_a0, 0, none⟩) a0l.length a0l.length] wE1 := by repeat' (first | with_reducible assumption | with_reducible exact AtL.new _ _ _ | ((with_reducible refine AtL.newAt ?_); (first | rfl | (simp; done))) | (with_reducible refine AtL.drew ?_) | (with_reducible refine AtL.below ?_ (by with_reducible assumption)) | (with_reducible refine AtL.alloc ?_ _) | (with_reducible refine AtL.far ?_ ?_ _ _) | omega | (simp; done) | (simp; omega))
    have bx_h1wE1 : AtL (wI.heap.size + 1) [.int .i64 v3, .int .i64 v4] wE1 := by repeat' (first | with_reducible assumption | with_reducible exact AtL.new _ _ _ | ((with_reducible refine AtL.newAt ?_); (first | rfl | (simp; done))) | (with_reducible refine AtL.drew ?_) | (with_reducible refine AtL.below ?_ (by with_reducible assumption)) | (with_reducible refine AtL.alloc ?_ _) | (with_reducible refine AtL.far ?_ ?_ _ _) | omega | (simp; done) | (simp; omega))
    have bp := bwE0.out
    have bn : Below w.heap.size w wE1 := by repeat' (first | with_reducible assumption | with_reducible exact Below.refl _ _ | (with_reducible refine Below.setCell ?_ ?_ _) | (with_reducible refine Below.alloc ?_ ?_ _) | (with_reducible refine Below.drew ?_) | (with_reducible refine below_dr ?_ _) | (with_reducible refine Below.trans ?_ (Below.mono (by with_reducible assumption) ?_)) | omega | (simp; done) | (simp; omega))
    have bwE1 := Lib.hid bn
    clear bn
    clear bp bwE0
    clear hbwE1
    clear bx_awE0
    clear rd_a0wE0
    clear bx_w0wE0
    clear bx_w1wE0
    clear rx_a0wE0
    clear at_pwE0
    clear bx_h1wE0
    have kat_p0 := at_pwE1.cell 0 rfl
    have lat_p := at_pwE1.lt
    have kbx_a0 := bx_awE1.cell 0 rfl
    have lbx_a := bx_awE1.lt
    go_wp2_with fail
    go_region_held3 (fun w' => (∀ b o, b < wE1.heap.size → w'.cell? ⟨b, o, none⟩ = wE1.cell? ⟨b, o, none⟩) ∧ wE1.heap.size ≤ w'.heap.size)
      (first | ((try dsimp only); exact ⟨fun b o h => (by (repeat (first | with_reducible exact rfl | (with_reducible refine (cell_drew_at _ _).trans ?_) | (with_reducible refine (cell_set_at _ _ (by first | omega | (simp; done) | (simp; omega))).trans ?_) | (with_reducible refine (cell_alloc_at _ _ (by first | omega | (simp; done) | (simp; omega))).trans ?_) | (with_reducible refine (hcwT b o (by first | omega | (simp; done) | (simp; omega))).trans ?_) | (with_reducible refine (hcwG b o (by first | omega | (simp; done) | (simp; omega))).trans ?_)))), (by first | omega | (simp; done) | (simp; omega))⟩) | fail)
      (first
        | (go_at_call 23; (with_reducible refine (toRing_any a0A a0c a0l _ hl_a0 ?_).mono ?_); (focus ((refine Rd.more (B := w.heap.size) ?_ (by first | omega | ((try simp only [World.size_setCell]); (try simp only [World.size_drew]); (try simp only [World.size_alloc]); omega) | (simp; done) | (simp; omega))); (repeat' (first | with_reducible assumption | (with_reducible refine Rd.drew ?_) | (with_reducible refine Rd.carry ?_ (by with_reducible assumption) ?_) | (with_reducible refine Rd.alloc ?_ ?_ _) | (with_reducible refine Rd.setCell ?_ ?_ _) | omega | (simp; done) | (simp; omega))))); intro e wT hq; obtain ⟨g_owE_a0, rfl, owE_a0, hbwT⟩ := hq; obtain ⟨hcwT, hfwT⟩ := bcell hbwT; have hzwT := hbwT.size; (try simp only [World.size_drew] at hcwT hfwT hzwT); (try simp only [World.size_alloc] at hcwT hfwT hzwT))
        | (go_at_call 25; (with_reducible refine (eqRing_same (some ⟨gX_a0, 0, none⟩) a0l.length a0l (some ⟨g_owE_a0, 0, none⟩) a0l.length _ (by omega) ?_ ?_).mono ?_); (focus ((refine Rd.more (B := wX.heap.size) ?_ (by first | omega | ((try simp only [World.size_setCell]); (try simp only [World.size_drew]); (try simp only [World.size_alloc]); omega) | (simp; done) | (simp; omega))); (repeat' (first | with_reducible assumption | (with_reducible refine Rd.drew ?_) | (with_reducible refine Rd.carry ?_ (by with_reducible assumption) ?_) | (with_reducible refine Rd.alloc ?_ ?_ _) | (with_reducible refine Rd.setCell ?_ ?_ _) | omega | (simp; done) | (simp; omega))))); (focus ((first | exact Rd.of_own (fun a => cPt_len a) (by omega) owE_a0 (by first | exact Nat.le_refl _ | (simp; done)) | exact Rd.drew (Rd.of_own (fun a => cPt_len a) (by omega) owE_a0 (by first | exact Nat.le_refl _ | (simp; done)))))); rintro e wG ⟨rfl, hbwG⟩; obtain ⟨hcwG, hfwG⟩ := bcell hbwG; have hzwG := hbwG.size; (try simp only [World.size_drew] at hcwG hfwG hzwG); (try simp only [World.size_alloc] at hcwG hfwG hzwG)))
    clear kat_p0 lat_p
    clear kbx_a0 lbx_a
    all_goals
      have zwG := hbwG.size
      (try simp only [World.size_setCell] at zwG)
      (try simp only [World.size_drew] at zwG)
      (try simp only [World.size_alloc] at zwG)
      have qwG : w.heap.size ≤ wG.heap.size := by omega
      have bx_awG : AtL (w.heap.size) [.slice a0A a0l.length a0c] wG := by repeat' (first | with_reducible assumption | with_reducible exact AtL.new _ _ _ | ((with_reducible refine AtL.newAt ?_); (first | rfl | (simp; done))) | (with_reducible refine AtL.drew ?_) | (with_reducible refine AtL.below ?_ (by with_reducible assumption)) | (with_reducible refine AtL.alloc ?_ _) | (with_reducible refine AtL.far ?_ ?_ _ _) | omega | (simp; done) | (simp; omega))
      have rd_a0wG : Rd cPt 2 wG (w.heap.size) a0A a0l := by repeat' (first | with_reducible assumption | (with_reducible refine Rd.drew ?_) | (with_reducible refine Rd.carry ?_ (by with_reducible assumption) ?_) | (with_reducible refine Rd.alloc ?_ ?_ _) | (with_reducible refine Rd.setCell ?_ ?_ _) | omega | (simp; done) | (simp; omega))
      have bx_w0wG : AtL (wB.heap.size) [.int .i64 v1, .int .i64 v2] wG := by repeat' (first | with_reducible assumption | with_reducible exact AtL.new _ _ _ | ((with_reducible refine AtL.newAt ?_); (first | rfl | (simp; done))) | (with_reducible refine AtL.drew ?_) | (with_reducible refine AtL.below ?_ (by with_reducible assumption)) | (with_reducible refine AtL.alloc ?_ _) | (with_reducible refine AtL.far ?_ ?_ _ _) | omega | (simp; done) | (simp; omega))
      have bx_w1wG : AtL (wB.heap.size + 1) [.int .i64 v3, .int .i64 v4] wG := by repeat' (first | with_reducible assumption | with_reducible exact AtL.new _ _ _ | ((with_reducible refine AtL.newAt ?_); (first | rfl | (simp; done))) | (with_reducible refine AtL.drew ?_) | (with_reducible refine AtL.below ?_ (by with_reducible assumption)) | (with_reducible refine AtL.alloc ?_ _) | (with_reducible refine AtL.far ?_ ?_ _ _) | omega | (simp; done) | (simp; omega))
      have rx_a0wG : Rd cPt 2 wG (wX.heap.size) (some ⟨gX_a0, 0, none⟩) a0l := by repeat' (first | with_reducible assumption | (with_reducible refine Rd.drew ?_) | (with_reducible refine Rd.carry ?_ (by with_reducible assumption) ?_) | (with_reducible refine Rd.alloc ?_ ?_ _) | (with_reducible refine Rd.setCell ?_ ?_ _) | omega | (simp; done) | (simp; omega))
      have at_pwG : AtL (wX.heap.size) [.slice (some ⟨gX_a0, 0, none⟩) a0l.length a0l.length] wG := by repeat' (first | with_reducible assumption | with_reducible exact AtL.new _ _ _ | ((with_reducible refine AtL.newAt ?_); (first | rfl | (simp; done))) | (with_reducible refine AtL.drew ?_) | (with_reducible refine AtL.below ?_ (by with_reducible assumption)) | (with_reducible refine AtL.alloc ?_ _) | (with_reducible refine AtL.far ?_ ?_ _ _) | omega | (simp; done) | (simp; omega))
      have bx_h1wG : AtL (wI.heap.size + 1) [.int .i64 v3, .int .i64 v4] wG := by repeat' (first | with_reducible assumption | with_reducible exact AtL.new _ _ _ | ((with_reducible refine AtL.newAt ?_); (first | rfl | (simp; done))) | (with_reducible refine AtL.drew ?_) | (with_reducible refine AtL.below ?_ (by with_reducible assumption)) | (with_reducible refine AtL.alloc ?_ _) | (with_reducible refine AtL.far ?_ ?_ _ _) | omega | (simp; done) | (simp; omega))
      have bp := bwE1.out
      have bn : Below w.heap.size w wG := by repeat' (first | with_reducible assumption | with_reducible exact Below.refl _ _ | (with_reducible refine Below.setCell ?_ ?_ _) | (with_reducible refine Below.alloc ?_ ?_ _) | (with_reducible refine Below.drew ?_) | (with_reducible refine below_dr ?_ _) | (with_reducible refine Below.trans ?_ (Below.mono (by with_reducible assumption) ?_)) | omega | (simp; done) | (simp; omega))
      have bwG := Lib.hid bn
      clear bn
      clear bp bwE1
      clear hbwG
      clear bx_awE1
      clear rd_a0wE1
      clear bx_w0wE1
      clear bx_w1wE1
      clear rx_a0wE1
      clear at_pwE1
      clear bx_h1wE1
      go_wp2_with fail
      go_ret
      have bp := bwG.out
      exact ⟨rfl, by repeat' (first | with_reducible assumption | with_reducible exact Below.refl _ _ | (with_reducible refine Below.setCell ?_ ?_ _) | (with_reducible refine Below.alloc ?_ ?_ _) | (with_reducible refine Below.drew ?_) | (with_reducible refine below_dr ?_ _) | (with_reducible refine Below.trans ?_ (Below.mono (by with_reducible assumption) ?_)) | omega | (simp; done) | (simp; omega))⟩
end Go.Proofs.Ytdeemhfhmgnbgaa
