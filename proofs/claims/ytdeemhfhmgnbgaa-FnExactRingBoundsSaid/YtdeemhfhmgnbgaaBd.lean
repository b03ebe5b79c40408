/- Walks: the corners of the box of a region, on both sides. -/
import Derived.Test.YtdeemhfhmgnbgaaBc
namespace Go.Proofs.Ytdeemhfhmgnbgaa
open Go.RowKit
set_option linter.unusedVariables false
theorem each_in {ds : List DRing} (h : vRn ds = true) : ∀ (i : Nat) (d : DRing), ds[i]? = some d → 1 ≤ d.length ∧ d.length ≤ 400 := fun i d hd => by
  have := vRg_parts (vRn_each h d (List.mem_of_getElem? hd)); exact ⟨this.1, this.2.1⟩
set_option maxRecDepth 100000 in
set_option maxHeartbeats 6400000 in
theorem specRegionBounds_any (ds : List DRing) (A : Option Addr) (c : Nat) (w : World) (hl : ds.length ≤ 1048576) (hin : ∀ (i : Nat) (d : DRing), ds[i]? = some d → d.length ≤ 1048576) (r : RdRing w w.heap.size A ds) :
    Calls Try.prog 28 #[.agg #[.slice A ds.length c]] w (GbRet ds w) := by
  have CV := Lib.hid (fun w1 h1 h2 r1 => l13Ok_any ds A c w.heap.size w1 h1 h2 hl hin r1)
  clear hin
  rcases hv : vRn ds with _ | _
  case false =>
    have HG := Lib.hid (gb_no hv)
    rw [hv] at CV
    clear hv
    obtain ⟨n, hn⟩ : ∃ n, n = ds.length := ⟨_, rfl⟩
    rw [← hn] at CV hl ⊢
    clear hn
    go_enter Try.func28, Try.ntmps28
    go_wp2_with fail
    refine (CV.out _ (by simp; omega) (by simp [go_sem]) ?_).mono ?_
    · (refine RdRing.more (B := w.heap.size) ?_ (by first | omega | ((try simp only [World.size_setCell]); (try simp only [World.size_drew]); (try simp only [World.size_alloc]); omega) | (simp; done) | (simp; omega))); (repeat' (first | with_reducible assumption | (with_reducible refine RdRing.drew ?_) | (with_reducible refine RdRing.carry ?_ (by with_reducible assumption) ?_) | (with_reducible refine RdRing.alloc ?_ ?_ _) | (with_reducible refine RdRing.setCell ?_ ?_ _) | omega | (simp; done) | (simp; omega)))
    rintro e w1 ⟨rfl, hb1⟩
    have b1 : Blk w1 (w.heap.size + 1) 26 #[.int .i64 0, .int .i64 0] := Blk.carry (by repeat' (first | with_reducible assumption | with_reducible exact Blk.new _ _ _ | ((with_reducible refine Blk.newAt _ _ _ ?_); (first | rfl | (simp; done) | (simp; omega))) | (with_reducible apply Blk.set2P) | (with_reducible refine Blk.drew ?_) | (with_reducible refine Blk.alloc ?_ _) | (with_reducible refine Blk.far ?_ (by first | omega | (simp; done) | (simp; omega)) _))) hb1
    have b2 : Blk w1 (w.heap.size + 2) 26 #[.int .i64 0, .int .i64 0] := Blk.carry (by repeat' (first | with_reducible assumption | with_reducible exact Blk.new _ _ _ | ((with_reducible refine Blk.newAt _ _ _ ?_); (first | rfl | (simp; done) | (simp; omega))) | (with_reducible apply Blk.set2P) | (with_reducible refine Blk.drew ?_) | (with_reducible refine Blk.alloc ?_ _) | (with_reducible refine Blk.far ?_ (by first | omega | (simp; done) | (simp; omega)) _))) hb1
    have yb10 : w1.cell? ⟨(w.heap.size + 1), 0, none⟩ = some (.int .i64 0) := b1.cell 0 rfl
    have yb11 : w1.cell? ⟨(w.heap.size + 1), 1, none⟩ = some (.int .i64 0) := b1.cell 1 rfl
    have fb10 := b1.frozen 0
    have fb11 := b1.frozen 1
    have lb1 := b1.lt
    have yb20 : w1.cell? ⟨(w.heap.size + 2), 0, none⟩ = some (.int .i64 0) := b2.cell 0 rfl
    have yb21 : w1.cell? ⟨(w.heap.size + 2), 1, none⟩ = some (.int .i64 0) := b2.cell 1 rfl
    have fb20 := b2.frozen 0
    have fb21 := b2.frozen 1
    have lb2 := b2.lt
    go_wp2_with fail
    refine bodyPost_ret (v := .tuple #[.agg #[.int .i64 0, .int .i64 0], .agg #[.int .i64 0, .int .i64 0], .int .i64 1]) (by simp [results, Try.results28, go_sem, *]) rfl (GbRet.mk HG.out ?_)
    repeat' (first | with_reducible assumption | with_reducible exact Below.refl _ _ | (with_reducible refine Below.setCell ?_ ?_ _) | (with_reducible refine Below.alloc ?_ ?_ _) | (with_reducible refine Below.drew ?_) | (with_reducible refine below_dr ?_ _) | (with_reducible refine Below.trans ?_ (Below.mono (by with_reducible assumption) ?_)) | omega | (simp; done) | (simp; omega))
  case true =>
    by_cases h0 : ds.length = 0
    case pos =>
      have HG := Lib.hid (gb_nil hv h0)
      rw [hv] at CV
      clear hv
      obtain ⟨n, hn⟩ : ∃ n, n = ds.length := ⟨_, rfl⟩
      rw [← hn] at CV hl ⊢
      rw [h0] at hn
      subst hn
      clear h0
      go_enter Try.func28, Try.ntmps28
      go_wp2_with fail
      refine (CV.out _ (by simp; omega) (by simp [go_sem]) ?_).mono ?_
      · (refine RdRing.more (B := w.heap.size) ?_ (by first | omega | ((try simp only [World.size_setCell]); (try simp only [World.size_drew]); (try simp only [World.size_alloc]); omega) | (simp; done) | (simp; omega))); (repeat' (first | with_reducible assumption | (with_reducible refine RdRing.drew ?_) | (with_reducible refine RdRing.carry ?_ (by with_reducible assumption) ?_) | (with_reducible refine RdRing.alloc ?_ ?_ _) | (with_reducible refine RdRing.setCell ?_ ?_ _) | omega | (simp; done) | (simp; omega)))
      rintro e w1 ⟨rfl, hb1⟩
      have b1 : Blk w1 (w.heap.size + 1) 26 #[.int .i64 0, .int .i64 0] := Blk.carry (by repeat' (first | with_reducible assumption | with_reducible exact Blk.new _ _ _ | ((with_reducible refine Blk.newAt _ _ _ ?_); (first | rfl | (simp; done) | (simp; omega))) | (with_reducible apply Blk.set2P) | (with_reducible refine Blk.drew ?_) | (with_reducible refine Blk.alloc ?_ _) | (with_reducible refine Blk.far ?_ (by first | omega | (simp; done) | (simp; omega)) _))) hb1
      have b2 : Blk w1 (w.heap.size + 2) 26 #[.int .i64 0, .int .i64 0] := Blk.carry (by repeat' (first | with_reducible assumption | with_reducible exact Blk.new _ _ _ | ((with_reducible refine Blk.newAt _ _ _ ?_); (first | rfl | (simp; done) | (simp; omega))) | (with_reducible apply Blk.set2P) | (with_reducible refine Blk.drew ?_) | (with_reducible refine Blk.alloc ?_ _) | (with_reducible refine Blk.far ?_ (by first | omega | (simp; done) | (simp; omega)) _))) hb1
      have yb10 : w1.cell? ⟨(w.heap.size + 1), 0, none⟩ = some (.int .i64 0) := b1.cell 0 rfl
      have yb11 : w1.cell? ⟨(w.heap.size + 1), 1, none⟩ = some (.int .i64 0) := b1.cell 1 rfl
      have fb10 := b1.frozen 0
      have fb11 := b1.frozen 1
      have lb1 := b1.lt
      have yb20 : w1.cell? ⟨(w.heap.size + 2), 0, none⟩ = some (.int .i64 0) := b2.cell 0 rfl
      have yb21 : w1.cell? ⟨(w.heap.size + 2), 1, none⟩ = some (.int .i64 0) := b2.cell 1 rfl
      have fb20 := b2.frozen 0
      have fb21 := b2.frozen 1
      have lb2 := b2.lt
      have at1 : AtL w.heap.size [.slice A 0 c] w1 := AtL.below (by repeat' (first | with_reducible assumption | with_reducible exact AtL.new _ _ _ | ((with_reducible refine AtL.newAt ?_); (first | rfl | (simp; done))) | (with_reducible refine AtL.drew ?_) | (with_reducible refine AtL.below ?_ (by with_reducible assumption)) | (with_reducible refine AtL.alloc ?_ _) | (with_reducible refine AtL.far ?_ ?_ _ _) | omega | (simp; done) | (simp; omega))) hb1
      have k0 := at1.cell 0 rfl
      have lw := at1.lt
      have z1 := hb1.size
      (try simp only [World.size_alloc] at z1)
      have g1 : Below w.heap.size w w1 := by repeat' (first | with_reducible assumption | with_reducible exact Below.refl _ _ | (with_reducible refine Below.setCell ?_ ?_ _) | (with_reducible refine Below.alloc ?_ ?_ _) | (with_reducible refine Below.drew ?_) | (with_reducible refine below_dr ?_ _) | (with_reducible refine Below.trans ?_ (Below.mono (by with_reducible assumption) ?_)) | omega | (simp; done) | (simp; omega))
      clear hb1
      go_wp2_with fail
      refine bodyPost_ret (v := .tuple #[.agg #[.int .i64 0, .int .i64 0], .agg #[.int .i64 0, .int .i64 0], .int .i64 6]) (by simp [results, Try.results28, go_sem, *]) rfl (GbRet.mk HG.out ?_)
      repeat' (first | with_reducible assumption | with_reducible exact Below.refl _ _ | (with_reducible refine Below.setCell ?_ ?_ _) | (with_reducible refine Below.alloc ?_ ?_ _) | (with_reducible refine Below.drew ?_) | (with_reducible refine below_dr ?_ _) | (with_reducible refine Below.trans ?_ (Below.mono (by with_reducible assumption) ?_)) | omega | (simp; done) | (simp; omega))
    case neg =>
      have HG := Lib.hid (gb_yes hv h0)
      rw [hv] at CV
      have hp := flat_pos hv h0
      have hf := flat_len hv
      have h40 := (vRn_parts hv).1
      have HIN := Lib.hid (each_in hv)
      clear hv
      have CA := Lib.hid (fun b w1 h1 h2 r1 => l15All_any ds A c b w1 h1 h2 h40 HIN.out r1)
      have CB := Lib.hid (fun A c w1 r1 => l09Corners_rd ds.flatten A c w1 hp (by omega) r1)
      obtain ⟨n, hn⟩ : ∃ n, n = ds.length := ⟨_, rfl⟩
      rw [← hn] at CV hl ⊢
      rw [← hn] at CA
      rw [← hn] at h40 h0
      have e1 : ((n : Int) == 0) = false := by simp; omega
      have e2 : ¬ (n : Int) = 0 := by omega
      have HN := Lib.hid hn
      clear hn
      obtain ⟨v1, hv1⟩ : ∃ v, v = bX1 ds.flatten ds.flatten.length := ⟨_, rfl⟩
      obtain ⟨v2, hv2⟩ : ∃ v, v = bY1 ds.flatten ds.flatten.length := ⟨_, rfl⟩
      obtain ⟨v3, hv3⟩ : ∃ v, v = bX2 ds.flatten ds.flatten.length := ⟨_, rfl⟩
      obtain ⟨v4, hv4⟩ : ∃ v, v = bY2 ds.flatten ds.flatten.length := ⟨_, rfl⟩
      rw [← hv1, ← hv2, ← hv3, ← hv4] at CB HG
      clear hv1 hv2 hv3 hv4
      go_enter Try.func28, Try.ntmps28
      go_wp2_with fail
      refine (CV.out _ (by simp; omega) (by simp [go_sem]) ?_).mono ?_
      · (refine RdRing.more (B := w.heap.size) ?_ (by first | omega | ((try simp only [World.size_setCell]); (try simp only [World.size_drew]); (try simp only [World.size_alloc]); omega) | (simp; done) | (simp; omega))); (repeat' (first | with_reducible assumption | (with_reducible refine RdRing.drew ?_) | (with_reducible refine RdRing.carry ?_ (by with_reducible assumption) ?_) | (with_reducible refine RdRing.alloc ?_ ?_ _) | (with_reducible refine RdRing.setCell ?_ ?_ _) | omega | (simp; done) | (simp; omega)))
      rintro e w1 ⟨rfl, hb1⟩
      have b1 : Blk w1 (w.heap.size + 1) 26 #[.int .i64 0, .int .i64 0] := Blk.carry (by repeat' (first | with_reducible assumption | with_reducible exact Blk.new _ _ _ | ((with_reducible refine Blk.newAt _ _ _ ?_); (first | rfl | (simp; done) | (simp; omega))) | (with_reducible apply Blk.set2P) | (with_reducible refine Blk.drew ?_) | (with_reducible refine Blk.alloc ?_ _) | (with_reducible refine Blk.far ?_ (by first | omega | (simp; done) | (simp; omega)) _))) hb1
      have b2 : Blk w1 (w.heap.size + 2) 26 #[.int .i64 0, .int .i64 0] := Blk.carry (by repeat' (first | with_reducible assumption | with_reducible exact Blk.new _ _ _ | ((with_reducible refine Blk.newAt _ _ _ ?_); (first | rfl | (simp; done) | (simp; omega))) | (with_reducible apply Blk.set2P) | (with_reducible refine Blk.drew ?_) | (with_reducible refine Blk.alloc ?_ _) | (with_reducible refine Blk.far ?_ (by first | omega | (simp; done) | (simp; omega)) _))) hb1
      have at1 : AtL w.heap.size [.slice A n c] w1 := AtL.below (by repeat' (first | with_reducible assumption | with_reducible exact AtL.new _ _ _ | ((with_reducible refine AtL.newAt ?_); (first | rfl | (simp; done))) | (with_reducible refine AtL.drew ?_) | (with_reducible refine AtL.below ?_ (by with_reducible assumption)) | (with_reducible refine AtL.alloc ?_ _) | (with_reducible refine AtL.far ?_ ?_ _ _) | omega | (simp; done) | (simp; omega))) hb1
      have k0 := at1.cell 0 rfl
      have lw := at1.lt
      have z1 := hb1.size
      (try simp only [World.size_alloc] at z1)
      have g1 : Below w.heap.size w w1 := by repeat' (first | with_reducible assumption | with_reducible exact Below.refl _ _ | (with_reducible refine Below.setCell ?_ ?_ _) | (with_reducible refine Below.alloc ?_ ?_ _) | (with_reducible refine Below.drew ?_) | (with_reducible refine below_dr ?_ _) | (with_reducible refine Below.trans ?_ (Below.mono (by with_reducible assumption) ?_)) | omega | (simp; done) | (simp; omega))
      have r1 : RdRing w1 w1.heap.size A ds := (r.carry g1 (Nat.le_refl _)).more g1.size
      clear hb1 r CV
      have yb10 : w1.cell? ⟨(w.heap.size + 1), 0, none⟩ = some (.int .i64 0) := b1.cell 0 rfl
      have yb11 : w1.cell? ⟨(w.heap.size + 1), 1, none⟩ = some (.int .i64 0) := b1.cell 1 rfl
      have fb10 := b1.frozen 0
      have fb11 := b1.frozen 1
      have lb1 := b1.lt
      have yb20 : w1.cell? ⟨(w.heap.size + 2), 0, none⟩ = some (.int .i64 0) := b2.cell 0 rfl
      have yb21 : w1.cell? ⟨(w.heap.size + 2), 1, none⟩ = some (.int .i64 0) := b2.cell 1 rfl
      have fb20 := b2.frozen 0
      have fb21 := b2.frozen 1
      have lb2 := b2.lt
      go_wp2_with fail
      refine (CA.out _ _ lw k0 r1).mono ?_
      intro e w2 hq2
      obtain ⟨A2, c2, rfl, ow2, hb2⟩ := hq2
      have z2 := hb2.size
      have g2 : Below w.heap.size w w2 := by repeat' (first | with_reducible assumption | with_reducible exact Below.refl _ _ | (with_reducible refine Below.setCell ?_ ?_ _) | (with_reducible refine Below.alloc ?_ ?_ _) | (with_reducible refine Below.drew ?_) | (with_reducible refine below_dr ?_ _) | (with_reducible refine Below.trans ?_ (Below.mono (by with_reducible assumption) ?_)) | omega | (simp; done) | (simp; omega))
      have r2 := ow2.rd (Nat.le_refl _)
      replace b1 := b1.carry hb2
      replace b2 := b2.carry hb2
      clear ow2 hb2 at1 k0 lw r1
      clear yb10 fb10 yb11 fb11 yb20 fb20 yb21 fb21 lb1 lb2
      generalize ds.flatten = l at *
      go_wp2_with fail
      refine (CB.out _ _ _ r2).mono ?_
      rintro e w3 ⟨rfl, hb3⟩
      have z3 := hb3.size
      have g3 : Below w.heap.size w w3 := by repeat' (first | with_reducible assumption | with_reducible exact Below.refl _ _ | (with_reducible refine Below.setCell ?_ ?_ _) | (with_reducible refine Below.alloc ?_ ?_ _) | (with_reducible refine Below.drew ?_) | (with_reducible refine below_dr ?_ _) | (with_reducible refine Below.trans ?_ (Below.mono (by with_reducible assumption) ?_)) | omega | (simp; done) | (simp; omega))
      replace b1 := b1.carry hb3
      replace b2 := b2.carry hb3
      clear hb3 r2
      go_upto_region 6 with fail
      generalize hW : ((w3.alloc (.cells #[.int .i64 v1, .int .i64 v2] 26)).alloc (.cells #[.int .i64 v3, .int .i64 v4] 26)) = W3
      replace b1 : Blk W3 (w.heap.size + 1) 26 #[.int .i64 0, .int .i64 0] := by rw [← hW]; exact (b1.alloc _).alloc _
      replace b2 : Blk W3 (w.heap.size + 2) 26 #[.int .i64 0, .int .i64 0] := by rw [← hW]; exact (b2.alloc _).alloc _
      have b5 : Blk W3 w3.heap.size 26 #[.int .i64 v1, .int .i64 v2] := by rw [← hW]; exact (Blk.new w3 _ _).alloc _
      have b6 : Blk W3 (w3.heap.size + 1) 26 #[.int .i64 v3, .int .i64 v4] := by rw [← hW]; exact Blk.newAt _ _ _ (by simp)
      have g4 : Below w.heap.size w W3 := by rw [← hW]; repeat' (first | with_reducible assumption | with_reducible exact Below.refl _ _ | (with_reducible refine Below.setCell ?_ ?_ _) | (with_reducible refine Below.alloc ?_ ?_ _) | (with_reducible refine Below.drew ?_) | (with_reducible refine below_dr ?_ _) | (with_reducible refine Below.trans ?_ (Below.mono (by with_reducible assumption) ?_)) | omega | (simp; done) | (simp; omega))
      clear hW g3
      have yb10 : W3.cell? ⟨(w.heap.size + 1), 0, none⟩ = some (.int .i64 0) := b1.cell 0 rfl
      have yb11 : W3.cell? ⟨(w.heap.size + 1), 1, none⟩ = some (.int .i64 0) := b1.cell 1 rfl
      have fb10 := b1.frozen 0
      have fb11 := b1.frozen 1
      have lb1 := b1.lt
      have yb20 : W3.cell? ⟨(w.heap.size + 2), 0, none⟩ = some (.int .i64 0) := b2.cell 0 rfl
      have yb21 : W3.cell? ⟨(w.heap.size + 2), 1, none⟩ = some (.int .i64 0) := b2.cell 1 rfl
      have fb20 := b2.frozen 0
      have fb21 := b2.frozen 1
      have lb2 := b2.lt
      have yb50 : W3.cell? ⟨w3.heap.size, 0, none⟩ = some (.int .i64 v1) := b5.cell 0 rfl
      have yb51 : W3.cell? ⟨w3.heap.size, 1, none⟩ = some (.int .i64 v2) := b5.cell 1 rfl
      have lb5 := b5.lt
      have yb60 : W3.cell? ⟨(w3.heap.size + 1), 0, none⟩ = some (.int .i64 v3) := b6.cell 0 rfl
      have yb61 : W3.cell? ⟨(w3.heap.size + 1), 1, none⟩ = some (.int .i64 v4) := b6.cell 1 rfl
      have lb6 := b6.lt
      go_region
      all_goals (try go_wp2_with fail)
      all_goals
        refine bodyPost_ret (v := .tuple #[.agg #[.int .i64 v1, .int .i64 v2], .agg #[.int .i64 v3, .int .i64 v4], .int .i64 0]) (by simp [results, Try.results28, go_sem, *]) rfl (GbRet.mk HG.out ?_)
        repeat' (first | with_reducible assumption | with_reducible exact Below.refl _ _ | (with_reducible refine Below.setCell ?_ ?_ _) | (with_reducible refine Below.alloc ?_ ?_ _) | (with_reducible refine Below.drew ?_) | (with_reducible refine below_dr ?_ _) | (with_reducible refine Below.trans ?_ (Below.mono (by with_reducible assumption) ?_)) | omega | (simp; done) | (simp; omega))
set_option maxRecDepth 100000 in
set_option maxHeartbeats 6400000 in
theorem implRegionBounds_any (ds : List DRing) (A : Option Addr) (c : Nat) (w : World) (hl : ds.length ≤ 1048576) (hin : ∀ (i : Nat) (d : DRing), ds[i]? = some d → d.length ≤ 1048576) (r : RdRing w w.heap.size A ds) :
    Calls Try.prog 29 #[.agg #[.slice A ds.length c]] w (GbRet ds w) := by
  have CV := Lib.hid (fun w1 r1 => implValidRegion_any ds A c w1 hl hin r1)
  clear hin
  rcases hv : vRn ds with _ | _
  case false =>
    have HG := Lib.hid (gb_no hv)
    rw [hv] at CV
    clear hv
    obtain ⟨n, hn⟩ : ∃ n, n = ds.length := ⟨_, rfl⟩
    rw [← hn] at CV hl ⊢
    clear hn
    go_enter Try.func29, Try.ntmps29
    go_wp2_with fail
    refine (CV.out _ ?_).mono ?_
    · (refine RdRing.more (B := w.heap.size) ?_ (by first | omega | ((try simp only [World.size_setCell]); (try simp only [World.size_drew]); (try simp only [World.size_alloc]); omega) | (simp; done) | (simp; omega))); (repeat' (first | with_reducible assumption | (with_reducible refine RdRing.drew ?_) | (with_reducible refine RdRing.carry ?_ (by with_reducible assumption) ?_) | (with_reducible refine RdRing.alloc ?_ ?_ _) | (with_reducible refine RdRing.setCell ?_ ?_ _) | omega | (simp; done) | (simp; omega)))
    rintro e w1 ⟨rfl, hb1⟩
    have b1 : Blk w1 (w.heap.size + 1) 26 #[.int .i64 0, .int .i64 0] := Blk.carry (by repeat' (first | with_reducible assumption | with_reducible exact Blk.new _ _ _ | ((with_reducible refine Blk.newAt _ _ _ ?_); (first | rfl | (simp; done) | (simp; omega))) | (with_reducible apply Blk.set2P) | (with_reducible refine Blk.drew ?_) | (with_reducible refine Blk.alloc ?_ _) | (with_reducible refine Blk.far ?_ (by first | omega | (simp; done) | (simp; omega)) _))) hb1
    have b2 : Blk w1 (w.heap.size + 2) 26 #[.int .i64 0, .int .i64 0] := Blk.carry (by repeat' (first | with_reducible assumption | with_reducible exact Blk.new _ _ _ | ((with_reducible refine Blk.newAt _ _ _ ?_); (first | rfl | (simp; done) | (simp; omega))) | (with_reducible apply Blk.set2P) | (with_reducible refine Blk.drew ?_) | (with_reducible refine Blk.alloc ?_ _) | (with_reducible refine Blk.far ?_ (by first | omega | (simp; done) | (simp; omega)) _))) hb1
    have yb10 : w1.cell? ⟨(w.heap.size + 1), 0, none⟩ = some (.int .i64 0) := b1.cell 0 rfl
    have yb11 : w1.cell? ⟨(w.heap.size + 1), 1, none⟩ = some (.int .i64 0) := b1.cell 1 rfl
    have fb10 := b1.frozen 0
    have fb11 := b1.frozen 1
    have lb1 := b1.lt
    have yb20 : w1.cell? ⟨(w.heap.size + 2), 0, none⟩ = some (.int .i64 0) := b2.cell 0 rfl
    have yb21 : w1.cell? ⟨(w.heap.size + 2), 1, none⟩ = some (.int .i64 0) := b2.cell 1 rfl
    have fb20 := b2.frozen 0
    have fb21 := b2.frozen 1
    have lb2 := b2.lt
    go_wp2_with fail
    refine bodyPost_ret (v := .tuple #[.agg #[.int .i64 0, .int .i64 0], .agg #[.int .i64 0, .int .i64 0], .int .i64 1]) (by simp [results, Try.results29, go_sem, *]) rfl (GbRet.mk HG.out ?_)
    repeat' (first | with_reducible assumption | with_reducible exact Below.refl _ _ | (with_reducible refine Below.setCell ?_ ?_ _) | (with_reducible refine Below.alloc ?_ ?_ _) | (with_reducible refine Below.drew ?_) | (with_reducible refine below_dr ?_ _) | (with_reducible refine Below.trans ?_ (Below.mono (by with_reducible assumption) ?_)) | omega | (simp; done) | (simp; omega))
  case true =>
    by_cases h0 : ds.length = 0
    case pos =>
      have HG := Lib.hid (gb_nil hv h0)
      rw [hv] at CV
      clear hv
      obtain ⟨n, hn⟩ : ∃ n, n = ds.length := ⟨_, rfl⟩
      rw [← hn] at CV hl ⊢
      rw [h0] at hn
      subst hn
      clear h0
      go_enter Try.func29, Try.ntmps29
      go_wp2_with fail
      refine (CV.out _ ?_).mono ?_
      · (refine RdRing.more (B := w.heap.size) ?_ (by first | omega | ((try simp only [World.size_setCell]); (try simp only [World.size_drew]); (try simp only [World.size_alloc]); omega) | (simp; done) | (simp; omega))); (repeat' (first | with_reducible assumption | (with_reducible refine RdRing.drew ?_) | (with_reducible refine RdRing.carry ?_ (by with_reducible assumption) ?_) | (with_reducible refine RdRing.alloc ?_ ?_ _) | (with_reducible refine RdRing.setCell ?_ ?_ _) | omega | (simp; done) | (simp; omega)))
      rintro e w1 ⟨rfl, hb1⟩
      have b1 : Blk w1 (w.heap.size + 1) 26 #[.int .i64 0, .int .i64 0] := Blk.carry (by repeat' (first | with_reducible assumption | with_reducible exact Blk.new _ _ _ | ((with_reducible refine Blk.newAt _ _ _ ?_); (first | rfl | (simp; done) | (simp; omega))) | (with_reducible apply Blk.set2P) | (with_reducible refine Blk.drew ?_) | (with_reducible refine Blk.alloc ?_ _) | (with_reducible refine Blk.far ?_ (by first | omega | (simp; done) | (simp; omega)) _))) hb1
      have b2 : Blk w1 (w.heap.size + 2) 26 #[.int .i64 0, .int .i64 0] := Blk.carry (by repeat' (first | with_reducible assumption | with_reducible exact Blk.new _ _ _ | ((with_reducible refine Blk.newAt _ _ _ ?_); (first | rfl | (simp; done) | (simp; omega))) | (with_reducible apply Blk.set2P) | (with_reducible refine Blk.drew ?_) | (with_reducible refine Blk.alloc ?_ _) | (with_reducible refine Blk.far ?_ (by first | omega | (simp; done) | (simp; omega)) _))) hb1
      have yb10 : w1.cell? ⟨(w.heap.size + 1), 0, none⟩ = some (.int .i64 0) := b1.cell 0 rfl
      have yb11 : w1.cell? ⟨(w.heap.size + 1), 1, none⟩ = some (.int .i64 0) := b1.cell 1 rfl
      have fb10 := b1.frozen 0
      have fb11 := b1.frozen 1
      have lb1 := b1.lt
      have yb20 : w1.cell? ⟨(w.heap.size + 2), 0, none⟩ = some (.int .i64 0) := b2.cell 0 rfl
      have yb21 : w1.cell? ⟨(w.heap.size + 2), 1, none⟩ = some (.int .i64 0) := b2.cell 1 rfl
      have fb20 := b2.frozen 0
      have fb21 := b2.frozen 1
      have lb2 := b2.lt
      have at1 : AtL w.heap.size [.slice A 0 c] w1 := AtL.below (by repeat' (first | with_reducible assumption | with_reducible exact AtL.new _ _ _ | ((with_reducible refine AtL.newAt ?_); (first | rfl | (simp; done))) | (with_reducible refine AtL.drew ?_) | (with_reducible refine AtL.below ?_ (by with_reducible assumption)) | (with_reducible refine AtL.alloc ?_ _) | (with_reducible refine AtL.far ?_ ?_ _ _) | omega | (simp; done) | (simp; omega))) hb1
      have k0 := at1.cell 0 rfl
      have lw := at1.lt
      have z1 := hb1.size
      (try simp only [World.size_alloc] at z1)
      have g1 : Below w.heap.size w w1 := by repeat' (first | with_reducible assumption | with_reducible exact Below.refl _ _ | (with_reducible refine Below.setCell ?_ ?_ _) | (with_reducible refine Below.alloc ?_ ?_ _) | (with_reducible refine Below.drew ?_) | (with_reducible refine below_dr ?_ _) | (with_reducible refine Below.trans ?_ (Below.mono (by with_reducible assumption) ?_)) | omega | (simp; done) | (simp; omega))
      clear hb1
      go_wp2_with fail
      refine bodyPost_ret (v := .tuple #[.agg #[.int .i64 0, .int .i64 0], .agg #[.int .i64 0, .int .i64 0], .int .i64 6]) (by simp [results, Try.results29, go_sem, *]) rfl (GbRet.mk HG.out ?_)
      repeat' (first | with_reducible assumption | with_reducible exact Below.refl _ _ | (with_reducible refine Below.setCell ?_ ?_ _) | (with_reducible refine Below.alloc ?_ ?_ _) | (with_reducible refine Below.drew ?_) | (with_reducible refine below_dr ?_ _) | (with_reducible refine Below.trans ?_ (Below.mono (by with_reducible assumption) ?_)) | omega | (simp; done) | (simp; omega))
    case neg =>
      have HG := Lib.hid (gb_yes hv h0)
      rw [hv] at CV
      have hp := flat_pos hv h0
      have hf := flat_len hv
      have h40 := (vRn_parts hv).1
      have HIN := Lib.hid (each_in hv)
      clear hv
      have CB := Lib.hid (fun A c w1 r1 => boundsOf_rd ds.flatten A c w1 hp (by omega) r1)
      obtain ⟨n, hn⟩ : ∃ n, n = ds.length := ⟨_, rfl⟩
      rw [← hn] at CV hl ⊢
      rw [← hn] at h40 h0
      have e1 : ((n : Int) == 0) = false := by simp; omega
      have e2 : ¬ (n : Int) = 0 := by omega
      have HN := Lib.hid hn
      clear hn
      obtain ⟨v1, hv1⟩ : ∃ v, v = bX1 ds.flatten ds.flatten.length := ⟨_, rfl⟩
      obtain ⟨v2, hv2⟩ : ∃ v, v = bY1 ds.flatten ds.flatten.length := ⟨_, rfl⟩
      obtain ⟨v3, hv3⟩ : ∃ v, v = bX2 ds.flatten ds.flatten.length := ⟨_, rfl⟩
      obtain ⟨v4, hv4⟩ : ∃ v, v = bY2 ds.flatten ds.flatten.length := ⟨_, rfl⟩
      rw [← hv1, ← hv2, ← hv3, ← hv4] at CB HG
      clear hv1 hv2 hv3 hv4
      go_enter Try.func29, Try.ntmps29
      go_wp2_with fail
      refine (CV.out _ ?_).mono ?_
      · (refine RdRing.more (B := w.heap.size) ?_ (by first | omega | ((try simp only [World.size_setCell]); (try simp only [World.size_drew]); (try simp only [World.size_alloc]); omega) | (simp; done) | (simp; omega))); (repeat' (first | with_reducible assumption | (with_reducible refine RdRing.drew ?_) | (with_reducible refine RdRing.carry ?_ (by with_reducible assumption) ?_) | (with_reducible refine RdRing.alloc ?_ ?_ _) | (with_reducible refine RdRing.setCell ?_ ?_ _) | omega | (simp; done) | (simp; omega)))
      rintro e w1 ⟨rfl, hb1⟩
      have b1 : Blk w1 (w.heap.size + 1) 26 #[.int .i64 0, .int .i64 0] := Blk.carry (by repeat' (first | with_reducible assumption | with_reducible exact Blk.new _ _ _ | ((with_reducible refine Blk.newAt _ _ _ ?_); (first | rfl | (simp; done) | (simp; omega))) | (with_reducible apply Blk.set2P) | (with_reducible refine Blk.drew ?_) | (with_reducible refine Blk.alloc ?_ _) | (with_reducible refine Blk.far ?_ (by first | omega | (simp; done) | (simp; omega)) _))) hb1
      have b2 : Blk w1 (w.heap.size + 2) 26 #[.int .i64 0, .int .i64 0] := Blk.carry (by repeat' (first | with_reducible assumption | with_reducible exact Blk.new _ _ _ | ((with_reducible refine Blk.newAt _ _ _ ?_); (first | rfl | (simp; done) | (simp; omega))) | (with_reducible apply Blk.set2P) | (with_reducible refine Blk.drew ?_) | (with_reducible refine Blk.alloc ?_ _) | (with_reducible refine Blk.far ?_ (by first | omega | (simp; done) | (simp; omega)) _))) hb1
      have at1 : AtL w.heap.size [.slice A n c] w1 := AtL.below (by repeat' (first | with_reducible assumption | with_reducible exact AtL.new _ _ _ | ((with_reducible refine AtL.newAt ?_); (first | rfl | (simp; done))) | (with_reducible refine AtL.drew ?_) | (with_reducible refine AtL.below ?_ (by with_reducible assumption)) | (with_reducible refine AtL.alloc ?_ _) | (with_reducible refine AtL.far ?_ ?_ _ _) | omega | (simp; done) | (simp; omega))) hb1
      have k0 := at1.cell 0 rfl
      have lw := at1.lt
      have z1 := hb1.size
      (try simp only [World.size_alloc] at z1)
      have g1 : Below w.heap.size w w1 := by repeat' (first | with_reducible assumption | with_reducible exact Below.refl _ _ | (with_reducible refine Below.setCell ?_ ?_ _) | (with_reducible refine Below.alloc ?_ ?_ _) | (with_reducible refine Below.drew ?_) | (with_reducible refine below_dr ?_ _) | (with_reducible refine Below.trans ?_ (Below.mono (by with_reducible assumption) ?_)) | omega | (simp; done) | (simp; omega))
      have r1 : RdRing w1 w1.heap.size A ds := (r.carry g1 (Nat.le_refl _)).more g1.size
      clear hb1 r CV
      have yb10 : w1.cell? ⟨(w.heap.size + 1), 0, none⟩ = some (.int .i64 0) := b1.cell 0 rfl
      have yb11 : w1.cell? ⟨(w.heap.size + 1), 1, none⟩ = some (.int .i64 0) := b1.cell 1 rfl
      have fb10 := b1.frozen 0
      have fb11 := b1.frozen 1
      have lb1 := b1.lt
      have yb20 : w1.cell? ⟨(w.heap.size + 2), 0, none⟩ = some (.int .i64 0) := b2.cell 0 rfl
      have yb21 : w1.cell? ⟨(w.heap.size + 2), 1, none⟩ = some (.int .i64 0) := b2.cell 1 rfl
      have fb20 := b2.frozen 0
      have fb21 := b2.frozen 1
      have lb2 := b2.lt
      have RR := Lib.hid (fun (wr : World) (hbl : Below w1.heap.size w1 wr) => r1.carry hbl (Nat.le_refl _))
      clear r1
      obtain ⟨i0, hi0, hz0', hz1', hz2'⟩ := einfo_parts infoIP
      have HI0 := Lib.hid hi0
      have HZ0 := Lib.hid hz0'
      have HZ1 := Lib.hid hz1'
      have HZ2 := Lib.hid hz2'
      clear hi0 hz0' hz1' hz2'
      go_wp2_with fail
      go_loopw [5, 26] (fun s i wr => ∃ (k : Nat) (A' : Option Addr) (m c' : Nat), k ≤ n ∧ i = .int .i64 (k : Int) ∧ s = .slice A' m c' ∧ OwP 26 wr (w1.heap.size) A' m c' (flUp ds k) ∧ Below w1.heap.size w1 wr) (fun _ i _ => n - (intOf i).toNat)
      case atStart => exact ⟨0, _, 0, 0, Nat.zero_le _, rfl, rfl, OwP.nil _ _, Below.refl _ _⟩
      case round =>
        obtain ⟨k, A', m, c', hk, rfl, rfl, ow, hbl⟩ := hrel
        have zr := hbl.size
        have hmk : m ≤ k * 400 := by rw [ow.1]; exact flUp_len (fun i d h => (HIN.out i d h).2) _
        by_cases hlt : k < n
        case pos =>
          clear yb10 fb10 yb11 fb11 yb20 fb20 yb21 fb21 lb1 lb2 b1 b2
          obtain ⟨dl, ha⟩ : ∃ a, ds[k]? = some a := ⟨ds[k]'(by have := HN.out; omega), List.getElem?_eq_getElem (by have := HN.out; omega)⟩
          obtain ⟨g, o, A2, c2, rfl, hg, hc, hrd⟩ := (RR.out _ hbl).elem ha
          have p0 : wr.cell? ⟨g, o + k, none⟩ = some (.slice A2 dl.length c2) := by have h := hc 0 _ rfl; rw [Nat.mul_one] at h; exact h
          have hki : (k : Int) < (n : Int) := by omega
          obtain ⟨hdl1, hdl⟩ := HIN.out k _ ha
          have HS := Lib.hid (flUp_succ ha)
          have hgr : g < wr.heap.size := by omega
          clear hc ha
          have HRD := Lib.hid (reads_pts hdl1 ((hrd.alloc (by omega) (.cells #[.slice A2 dl.length c2] 55)).more (by simp; omega)))
          have HOW := Lib.hid ((ow.alloc (.cells #[.slice A2 dl.length c2] 55)).2)
          have HRB := Lib.hid ow.block
          have HLN := Lib.hid ow.1
          have g2 : Below w1.heap.size w1 (wr.alloc (.cells #[.slice A2 dl.length c2] 55)) := by repeat' (first | with_reducible assumption | with_reducible exact Below.refl _ _ | (with_reducible refine Below.setCell ?_ ?_ _) | (with_reducible refine Below.alloc ?_ ?_ _) | (with_reducible refine Below.drew ?_) | (with_reducible refine below_dr ?_ _) | (with_reducible refine Below.trans ?_ (Below.mono (by with_reducible assumption) ?_)) | omega | (simp; done) | (simp; omega))
          clear hbl ow hrd
          have HBS := Lib.hid (show w1.heap.size ≤ (wr.alloc (.cells #[.slice A2 dl.length c2] 55)).heap.size by (first | omega | (simp; omega)))
          generalize hm2 : dl.length = m2 at *
          have HMX := Lib.hid (show m + m2 ≤ maxLen by unfold maxLen; omega)
          have HBY := Lib.hid (show (m + m2) * 16 ≤ 140737488355328 by omega)
          go_wp2_with (at_builtin; refine wpList_append_any _ rfl (.tmp 30) (.tmp 32) _ rfl (w1.heap.size) 26 i0 _ 2 16 Try.underlying53 HI0.out HZ0.out HZ1.out HZ2.out rfl (by omega) (.slice A' m c') m _ rfl HOW.out _ A2 m2 c2 (cellsF cPt dl) rfl HRD.out (pall_one _) HMX.out HBY.out HBS.out ?_; intro v9 w9 hown9 hg9 hat9; obtain ⟨A9, c9, rfl⟩ := eslice_of hown9; have HOWN9 := Lib.hid hown9; have HG9 := Lib.hid hg9; clear hown9 hg9 hat9)
          have g9b : Below w1.heap.size w1 w9 := below_of_grown g2 HG9.out (by first | omega | (simp; omega)) (fun q hq => by have := HRB.out q hq; omega)
          have ow9 : OwP 26 w9 (w1.heap.size) A9 (m + m2) c9 (flUp ds k ++ dl) := OwP.grown (by have := HLN.out; omega) HOWN9.out
          go_roundw
          case rel => exact ⟨k + 1, _, _, _, by omega, by go_num, rfl, by rw [HS.out] at ow9; exact ow9, g9b⟩
          case measure => first | (simp [intOf]; done) | (simp [intOf]; omega)
        case neg =>
          obtain rfl : k = n := by omega
          have H := Lib.hid (show flUp ds k = ds.flatten by rw [HN.out]; exact flUp_all ds)
          rw [H.out] at ow
          obtain rfl := ow.1
          have r2 := ow.rd (Nat.le_refl _)
          replace b1 := b1.carry hbl
          replace b2 := b2.carry hbl
          clear ow at1 k0 lw
          clear yb10 fb10 yb11 fb11 yb20 fb20 yb21 fb21 lb1 lb2
          have g2 : Below w.heap.size w wr := by repeat' (first | with_reducible assumption | with_reducible exact Below.refl _ _ | (with_reducible refine Below.setCell ?_ ?_ _) | (with_reducible refine Below.alloc ?_ ?_ _) | (with_reducible refine Below.drew ?_) | (with_reducible refine below_dr ?_ _) | (with_reducible refine Below.trans ?_ (Below.mono (by with_reducible assumption) ?_)) | omega | (simp; done) | (simp; omega))
          clear hbl H HN HIN RR hmk
          generalize ds.flatten = l at *
          go_wp2_with fail
          refine (CB.out _ _ _ r2).mono ?_
          rintro e w3 ⟨rfl, hb3⟩
          have z3 := hb3.size
          have g3 : Below w.heap.size w w3 := by repeat' (first | with_reducible assumption | with_reducible exact Below.refl _ _ | (with_reducible refine Below.setCell ?_ ?_ _) | (with_reducible refine Below.alloc ?_ ?_ _) | (with_reducible refine Below.drew ?_) | (with_reducible refine below_dr ?_ _) | (with_reducible refine Below.trans ?_ (Below.mono (by with_reducible assumption) ?_)) | omega | (simp; done) | (simp; omega))
          replace b1 := b1.carry hb3
          replace b2 := b2.carry hb3
          clear hb3 r2
          go_upto_region 12 with fail
          generalize hW : ((w3.alloc (.cells #[.int .i64 v1, .int .i64 v2] 26)).alloc (.cells #[.int .i64 v3, .int .i64 v4] 26)) = W3
          replace b1 : Blk W3 (w.heap.size + 1) 26 #[.int .i64 0, .int .i64 0] := by rw [← hW]; exact (b1.alloc _).alloc _
          replace b2 : Blk W3 (w.heap.size + 2) 26 #[.int .i64 0, .int .i64 0] := by rw [← hW]; exact (b2.alloc _).alloc _
          have b5 : Blk W3 w3.heap.size 26 #[.int .i64 v1, .int .i64 v2] := by rw [← hW]; exact (Blk.new w3 _ _).alloc _
          have b6 : Blk W3 (w3.heap.size + 1) 26 #[.int .i64 v3, .int .i64 v4] := by rw [← hW]; exact Blk.newAt _ _ _ (by simp)
          have g4 : Below w.heap.size w W3 := by rw [← hW]; repeat' (first | with_reducible assumption | with_reducible exact Below.refl _ _ | (with_reducible refine Below.setCell ?_ ?_ _) | (with_reducible refine Below.alloc ?_ ?_ _) | (with_reducible refine Below.drew ?_) | (with_reducible refine below_dr ?_ _) | (with_reducible refine Below.trans ?_ (Below.mono (by with_reducible assumption) ?_)) | omega | (simp; done) | (simp; omega))
          clear hW g3
          have yb10 : W3.cell? ⟨(w.heap.size + 1), 0, none⟩ = some (.int .i64 0) := b1.cell 0 rfl
          have yb11 : W3.cell? ⟨(w.heap.size + 1), 1, none⟩ = some (.int .i64 0) := b1.cell 1 rfl
          have fb10 := b1.frozen 0
          have fb11 := b1.frozen 1
          have lb1 := b1.lt
          have yb20 : W3.cell? ⟨(w.heap.size + 2), 0, none⟩ = some (.int .i64 0) := b2.cell 0 rfl
          have yb21 : W3.cell? ⟨(w.heap.size + 2), 1, none⟩ = some (.int .i64 0) := b2.cell 1 rfl
          have fb20 := b2.frozen 0
          have fb21 := b2.frozen 1
          have lb2 := b2.lt
          have yb50 : W3.cell? ⟨w3.heap.size, 0, none⟩ = some (.int .i64 v1) := b5.cell 0 rfl
          have yb51 : W3.cell? ⟨w3.heap.size, 1, none⟩ = some (.int .i64 v2) := b5.cell 1 rfl
          have lb5 := b5.lt
          have yb60 : W3.cell? ⟨(w3.heap.size + 1), 0, none⟩ = some (.int .i64 v3) := b6.cell 0 rfl
          have yb61 : W3.cell? ⟨(w3.heap.size + 1), 1, none⟩ = some (.int .i64 v4) := b6.cell 1 rfl
          have lb6 := b6.lt
          go_region
          all_goals (try go_wp2_with fail)
          all_goals
            refine bodyPost_ret (v := .tuple #[.agg #[.int .i64 v1, .int .i64 v2], .agg #[.int .i64 v3, .int .i64 v4], .int .i64 0]) (by simp [results, Try.results29, go_sem, *]) rfl (GbRet.mk HG.out ?_)
            repeat' (first | with_reducible assumption | with_reducible exact Below.refl _ _ | (with_reducible refine Below.setCell ?_ ?_ _) | (with_reducible refine Below.alloc ?_ ?_ _) | (with_reducible refine Below.drew ?_) | (with_reducible refine below_dr ?_ _) | (with_reducible refine Below.trans ?_ (Below.mono (by with_reducible assumption) ?_)) | omega | (simp; done) | (simp; omega))
end Go.Proofs.Ytdeemhfhmgnbgaa
