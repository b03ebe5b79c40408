/- Walks: rings that are simplified, the program's side. -/
import Derived.Test.YtdeemhfhmgnbgaaDoorSmj
namespace Go.Proofs.YtdeemhfhmgnbgaaDoor
open Go.RowKit
set_option linter.unusedVariables false
set_option maxRecDepth 100000 in
set_option maxHeartbeats 12800000 in
theorem implSimp_any (l : List APt) (A : Option Addr) (c : Nat) (b : Addr) (w : World) (hl : l.length ≤ 1048576) (hz : 0 < w.heap.size) (hG : w.cell? ⟨0, 0, none⟩ = some (.iface 79 (.pointer (some b)))) (r : Rd cPt 2 w w.heap.size A l) :
    Calls Tryd.prog 7 #[.agg #[.slice A l.length c]] w (RgRet (spL l) (spC l) w) := by
  have CV := Lib.hid (fun A c w r => implValidRing_any l A c w hl r)
  rcases hv : vRg l with _ | _
  case false =>
    rw [(sp_no hv).1, (sp_no hv).2]
    rw [hv] at CV
    clear hv
    obtain ⟨n, hn⟩ : ∃ n, n = l.length := ⟨_, rfl⟩
    rw [← hn] at CV hl ⊢
    have HN := Lib.hid hn
    clear hn
    unfold RgRet
    go_enter Tryd.func7, Tryd.ntmps7
    go_wp2_with fail
    refine (CV.out _ _ _ ?_).mono ?_
    · (refine Rd.more (B := w.heap.size) ?_ (by first | omega | ((try simp only [World.size_setCell]); (try simp only [World.size_drew]); (try simp only [World.size_alloc]); omega) | (simp; done) | (simp; omega))); (repeat' (first | with_reducible assumption | (with_reducible refine Rd.drew ?_) | (with_reducible refine Rd.carry ?_ (by with_reducible assumption) ?_) | (with_reducible refine Rd.alloc ?_ ?_ _) | (with_reducible refine Rd.setCell ?_ ?_ _) | omega | (simp; done) | (simp; omega)))
    rintro e w1 ⟨rfl, hb1⟩
    have b1 : Blk w1 w.heap.size 28 #[.slice A n c] := Blk.carry (by repeat' (first | with_reducible assumption | with_reducible exact Blk.new _ _ _ | ((with_reducible refine Blk.newAt _ _ _ ?_); (first | rfl | (simp; done) | (simp; omega))) | (with_reducible refine Blk.drew ?_) | (with_reducible refine Blk.alloc ?_ _) | (with_reducible refine Blk.far ?_ (by first | omega | (simp; done) | (simp; omega)) _))) hb1
    have b2 : Blk w1 (w.heap.size + 1) 28 #[.slice none 0 0] := Blk.carry (by repeat' (first | with_reducible assumption | with_reducible exact Blk.new _ _ _ | ((with_reducible refine Blk.newAt _ _ _ ?_); (first | rfl | (simp; done) | (simp; omega))) | (with_reducible refine Blk.drew ?_) | (with_reducible refine Blk.alloc ?_ _) | (with_reducible refine Blk.far ?_ (by first | omega | (simp; done) | (simp; omega)) _))) hb1
    have z1 := hb1.size
    (try simp only [World.size_alloc] at z1)
    have g1 : Below w.heap.size w w1 := by repeat' (first | with_reducible assumption | with_reducible exact Below.refl _ _ | (with_reducible refine Below.setCell ?_ ?_ _) | (with_reducible refine Below.alloc ?_ ?_ _) | (with_reducible refine Below.drew ?_) | (with_reducible refine below_dr ?_ _) | (with_reducible refine Below.trans ?_ (Below.mono (by with_reducible assumption) ?_)) | omega | (simp; done) | (simp; omega))
    clear hb1
    have y1 : w1.cell? ⟨w.heap.size, 0, none⟩ = some (.slice A n c) := b1.cell 0 rfl
    have y2 : w1.cell? ⟨w.heap.size + 1, 0, none⟩ = some (.slice none 0 0) := b2.cell 0 rfl
    have f2 := b2.frozen 0
    have l1 := b1.lt
    have l2 := b2.lt
    go_wp2_with fail
    refine bodyPost_ret (v := .tuple #[.agg #[.slice none 0 0], .int .i64 1]) (by simp [results, Tryd.results7, go_sem, *]) rfl ⟨none, 0, rfl, World.ownsRow_nil _ _ _ _, by repeat' (first | with_reducible assumption | with_reducible exact Below.refl _ _ | (with_reducible refine Below.setCell ?_ ?_ _) | (with_reducible refine Below.alloc ?_ ?_ _) | (with_reducible refine Below.drew ?_) | (with_reducible refine below_dr ?_ _) | (with_reducible refine Below.trans ?_ (Below.mono (by with_reducible assumption) ?_)) | omega | (simp; done) | (simp; omega))⟩
  case true =>
    rw [(sp_yes hv).1, (sp_yes hv).2]
    rw [hv] at CV
    obtain ⟨h1, h400, hp⟩ := vRg_parts hv
    clear hv
    by_cases h0 : (smp l.length l).length = 0
    case pos =>
      rw [if_pos h0]
      have TI := Lib.hid (fun A c w hz hG r => turns_nil l A c b w h1 h400 hp h0 hz hG r)
      have hS : smp l.length l = [] := List.eq_nil_of_length_eq_zero h0
      rw [hS]
      clear h0 hS hp
      obtain ⟨n, hn⟩ : ∃ n, n = l.length := ⟨_, rfl⟩
      rw [← hn] at CV hl h1 h400 TI ⊢
      have HN := Lib.hid hn
      clear hn
      unfold RgRet
      go_enter Tryd.func7, Tryd.ntmps7
      go_wp2_with fail
      refine (CV.out _ _ _ ?_).mono ?_
      · (refine Rd.more (B := w.heap.size) ?_ (by first | omega | ((try simp only [World.size_setCell]); (try simp only [World.size_drew]); (try simp only [World.size_alloc]); omega) | (simp; done) | (simp; omega))); (repeat' (first | with_reducible assumption | (with_reducible refine Rd.drew ?_) | (with_reducible refine Rd.carry ?_ (by with_reducible assumption) ?_) | (with_reducible refine Rd.alloc ?_ ?_ _) | (with_reducible refine Rd.setCell ?_ ?_ _) | omega | (simp; done) | (simp; omega)))
      rintro e w1 ⟨rfl, hb1⟩
      have b1 : Blk w1 w.heap.size 28 #[.slice A n c] := Blk.carry (by repeat' (first | with_reducible assumption | with_reducible exact Blk.new _ _ _ | ((with_reducible refine Blk.newAt _ _ _ ?_); (first | rfl | (simp; done) | (simp; omega))) | (with_reducible refine Blk.drew ?_) | (with_reducible refine Blk.alloc ?_ _) | (with_reducible refine Blk.far ?_ (by first | omega | (simp; done) | (simp; omega)) _))) hb1
      have b2 : Blk w1 (w.heap.size + 1) 28 #[.slice none 0 0] := Blk.carry (by repeat' (first | with_reducible assumption | with_reducible exact Blk.new _ _ _ | ((with_reducible refine Blk.newAt _ _ _ ?_); (first | rfl | (simp; done) | (simp; omega))) | (with_reducible refine Blk.drew ?_) | (with_reducible refine Blk.alloc ?_ _) | (with_reducible refine Blk.far ?_ (by first | omega | (simp; done) | (simp; omega)) _))) hb1
      have z1 := hb1.size
      (try simp only [World.size_alloc] at z1)
      have g1 : Below w.heap.size w w1 := by repeat' (first | with_reducible assumption | with_reducible exact Below.refl _ _ | (with_reducible refine Below.setCell ?_ ?_ _) | (with_reducible refine Below.alloc ?_ ?_ _) | (with_reducible refine Below.drew ?_) | (with_reducible refine below_dr ?_ _) | (with_reducible refine Below.trans ?_ (Below.mono (by with_reducible assumption) ?_)) | omega | (simp; done) | (simp; omega))
      clear hb1
      have q1 : Rd cPt 2 w1 w1.heap.size A l := (r.below g1).more g1.size
      clear r
      have y1 : w1.cell? ⟨w.heap.size, 0, none⟩ = some (.slice A n c) := b1.cell 0 rfl
      have y2 : w1.cell? ⟨w.heap.size + 1, 0, none⟩ = some (.slice none 0 0) := b2.cell 0 rfl
      have f2 := b2.frozen 0
      have l1 := b1.lt
      have l2 := b2.lt
      have hG1 : w1.cell? ⟨0, 0, none⟩ = some (.iface 79 (.pointer (some b))) := (g1.cell (p := ⟨0, 0, none⟩) hz).trans hG
      go_wp2_with fail
      refine (TI.out A c _ (by omega) hG1 q1).mono ?_
      rintro e w2 ⟨rfl, hb2⟩
      have z2 := hb2.size
      have g2 : Below w.heap.size w w2 := g1.trans (hb2.mono g1.size)
      have hG2 : w2.cell? ⟨0, 0, none⟩ = some (.iface 79 (.pointer (some b))) := (g2.cell (p := ⟨0, 0, none⟩) hz).trans hG
      have hz2 : 0 < w2.heap.size := by omega
      replace b1 := b1.carry hb2
      replace b2 := b2.carry hb2
      clear y1 y2 f2 l1 l2 hb2 q1 g1 hG1
      have y1 : w2.cell? ⟨w.heap.size, 0, none⟩ = some (.slice A n c) := b1.cell 0 rfl
      have y2 : w2.cell? ⟨w.heap.size + 1, 0, none⟩ = some (.slice none 0 0) := b2.cell 0 rfl
      have f2 := b2.frozen 0
      have l1 := b1.lt
      have l2 := b2.lt
      go_wp2_with fail
      refine (is_same b _).mono ?_
      rintro e w3 ⟨rfl, rfl⟩
      go_wp2_with fail
      refine bodyPost_ret (v := .tuple #[.agg #[.slice none 0 0], .int .i64 6]) (by simp [results, Tryd.results7, go_sem, *]) rfl ⟨none, 0, rfl, World.ownsRow_nil _ _ _ _, by repeat' (first | with_reducible assumption | with_reducible exact Below.refl _ _ | (with_reducible refine Below.setCell ?_ ?_ _) | (with_reducible refine Below.alloc ?_ ?_ _) | (with_reducible refine Below.drew ?_) | (with_reducible refine below_dr ?_ _) | (with_reducible refine Below.trans ?_ (Below.mono (by with_reducible assumption) ?_)) | omega | (simp; done) | (simp; omega))⟩
    case neg =>
      rw [if_neg h0]
      have TI := Lib.hid (fun A c w hz hG r => turns_some l A c b w h1 h400 hp h0 hz hG r)
      clear hp
      generalize smp l.length l = S at *
      unfold RgRet
      obtain ⟨m, hm⟩ : ∃ m, m = S.length := ⟨_, rfl⟩
      rw [← hm] at TI ⊢
      have HMS := Lib.hid hm
      clear hm h0
      obtain ⟨n, hn⟩ : ∃ n, n = l.length := ⟨_, rfl⟩
      rw [← hn] at CV hl h1 h400 TI ⊢
      have HN := Lib.hid hn
      clear hn
      go_enter Tryd.func7, Tryd.ntmps7
      go_wp2_with fail
      refine (CV.out _ _ _ ?_).mono ?_
      · (refine Rd.more (B := w.heap.size) ?_ (by first | omega | ((try simp only [World.size_setCell]); (try simp only [World.size_drew]); (try simp only [World.size_alloc]); omega) | (simp; done) | (simp; omega))); (repeat' (first | with_reducible assumption | (with_reducible refine Rd.drew ?_) | (with_reducible refine Rd.carry ?_ (by with_reducible assumption) ?_) | (with_reducible refine Rd.alloc ?_ ?_ _) | (with_reducible refine Rd.setCell ?_ ?_ _) | omega | (simp; done) | (simp; omega)))
      rintro e w1 ⟨rfl, hb1⟩
      have b1 : Blk w1 w.heap.size 28 #[.slice A n c] := Blk.carry (by repeat' (first | with_reducible assumption | with_reducible exact Blk.new _ _ _ | ((with_reducible refine Blk.newAt _ _ _ ?_); (first | rfl | (simp; done) | (simp; omega))) | (with_reducible refine Blk.drew ?_) | (with_reducible refine Blk.alloc ?_ _) | (with_reducible refine Blk.far ?_ (by first | omega | (simp; done) | (simp; omega)) _))) hb1
      have b2 : Blk w1 (w.heap.size + 1) 28 #[.slice none 0 0] := Blk.carry (by repeat' (first | with_reducible assumption | with_reducible exact Blk.new _ _ _ | ((with_reducible refine Blk.newAt _ _ _ ?_); (first | rfl | (simp; done) | (simp; omega))) | (with_reducible refine Blk.drew ?_) | (with_reducible refine Blk.alloc ?_ _) | (with_reducible refine Blk.far ?_ (by first | omega | (simp; done) | (simp; omega)) _))) hb1
      have z1 := hb1.size
      (try simp only [World.size_alloc] at z1)
      have g1 : Below w.heap.size w w1 := by repeat' (first | with_reducible assumption | with_reducible exact Below.refl _ _ | (with_reducible refine Below.setCell ?_ ?_ _) | (with_reducible refine Below.alloc ?_ ?_ _) | (with_reducible refine Below.drew ?_) | (with_reducible refine below_dr ?_ _) | (with_reducible refine Below.trans ?_ (Below.mono (by with_reducible assumption) ?_)) | omega | (simp; done) | (simp; omega))
      clear hb1
      have q1 : Rd cPt 2 w1 w1.heap.size A l := (r.below g1).more g1.size
      clear r
      have y1 : w1.cell? ⟨w.heap.size, 0, none⟩ = some (.slice A n c) := b1.cell 0 rfl
      have y2 : w1.cell? ⟨w.heap.size + 1, 0, none⟩ = some (.slice none 0 0) := b2.cell 0 rfl
      have f2 := b2.frozen 0
      have l1 := b1.lt
      have l2 := b2.lt
      have hG1 : w1.cell? ⟨0, 0, none⟩ = some (.iface 79 (.pointer (some b))) := (g1.cell (p := ⟨0, 0, none⟩) hz).trans hG
      go_wp2_with fail
      refine (TI.out A c _ (by omega) hG1 q1).mono ?_
      intro e w2 hq
      obtain ⟨A2, c2, rfl, ow, hb2⟩ := hq
      have z2 := hb2.size
      have g2 : Below w.heap.size w w2 := g1.trans (hb2.mono g1.size)
      have hG2 : w2.cell? ⟨0, 0, none⟩ = some (.iface 79 (.pointer (some b))) := (g2.cell (p := ⟨0, 0, none⟩) hz).trans hG
      have hz2 : 0 < w2.heap.size := by omega
      replace b1 := b1.carry hb2
      replace b2 := b2.carry hb2
      clear y1 y2 f2 l1 l2 hb2 q1 g1 hG1
      have y1 : w2.cell? ⟨w.heap.size, 0, none⟩ = some (.slice A n c) := b1.cell 0 rfl
      have y2 : w2.cell? ⟨w.heap.size + 1, 0, none⟩ = some (.slice none 0 0) := b2.cell 0 rfl
      have f2 := b2.frozen 0
      have l1 := b1.lt
      have l2 := b2.lt
      go_wp2_with fail
      refine (is_nil b _).mono ?_
      rintro e w3 ⟨rfl, rfl⟩
      go_wp2_with fail
      refine bodyPost_ret (v := .tuple #[.agg #[.slice A2 m c2], .int .i64 0]) (by simp [results, Tryd.results7, go_sem, *]) rfl ⟨A2, c2, rfl, ?_, ?_⟩
      · exact own_keep (own_base ow (by omega)) (fun q hq h8 => by have := own_block ow hq; simp only at h8; omega) _
      · exact g2.setCell (by simp only; omega) _
end Go.Proofs.YtdeemhfhmgnbgaaDoor
