/- Walks: rings that are simplified, the reference's side. -/
import Derived.Test.YtdeemhfhmgnbgaaDoorSmg
namespace Go.Proofs.YtdeemhfhmgnbgaaDoor
open Go.RowKit
set_option linter.unusedVariables false
def spL (l : List APt) : List APt := bif vRg l then smp l.length l else []
def spC (l : List APt) : Int := bif vRg l then (if (smp l.length l).length = 0 then 6 else 0) else 1
def RgRet (L : List APt) (code : Int) (w : World) (e : Ending) (w' : World) : Prop :=
  ∃ (A : Option Addr) (c : Nat), e = .returned (.tuple #[.agg #[.slice A L.length c], .int .i64 code]) ∧ w'.ownsRow w.heap.size 52 2 (.slice A L.length c) L.length (cellsF cPt L) ∧ Below w.heap.size w w'
theorem sp_no {l : List APt} (h : vRg l = false) : spL l = [] ∧ spC l = 1 := by unfold spL spC; rw [h]; exact ⟨rfl, rfl⟩
theorem sp_yes {l : List APt} (h : vRg l = true) : spL l = smp l.length l ∧ spC l = (if (smp l.length l).length = 0 then 6 else 0) := by unfold spL spC; rw [h]; exact ⟨rfl, rfl⟩
set_option maxRecDepth 100000 in
set_option maxHeartbeats 12800000 in
theorem specSimp_any (l : List APt) (A : Option Addr) (c : Nat) (w : World) (hl : l.length ≤ 1048576) (r : Rd cPt 2 w w.heap.size A l) :
    Calls Tryd.prog 5 #[.agg #[.slice A l.length c]] w (RgRet (spL l) (spC l) w) := by
  have CV := Lib.hid (fun A c b p w h1 h2 r => l13Ring_any l A c b p w h1 h2 hl r)
  rcases hv : vRg l with _ | _
  case false =>
    rw [(sp_no hv).1, (sp_no hv).2]
    rw [hv] at CV
    clear hv
    obtain ⟨n, hn⟩ : ∃ n, n = l.length := ⟨_, rfl⟩
    rw [← hn] at CV hl ⊢
    have HN := Lib.hid hn
    clear hn
    unfold RgRet
    go_enter Tryd.func5, Tryd.ntmps5
    go_wp2_with fail
    refine (CV.out A c _ 0 _ (by simp; omega) (by simp [go_sem]) ?_).mono ?_
    · (refine Rd.more (B := w.heap.size) ?_ (by first | omega | ((try simp only [World.size_setCell]); (try simp only [World.size_drew]); (try simp only [World.size_alloc]); omega) | (simp; done) | (simp; omega))); (repeat' (first | with_reducible assumption | (with_reducible refine Rd.drew ?_) | (with_reducible refine Rd.carry ?_ (by with_reducible assumption) ?_) | (with_reducible refine Rd.alloc ?_ ?_ _) | (with_reducible refine Rd.setCell ?_ ?_ _) | omega | (simp; done) | (simp; omega)))
    rintro e w1 ⟨rfl, hb1⟩
    have b1 : Blk w1 w.heap.size 28 #[.slice A n c] := Blk.carry (by repeat' (first | with_reducible assumption | with_reducible exact Blk.new _ _ _ | ((with_reducible refine Blk.newAt _ _ _ ?_); (first | rfl | (simp; done) | (simp; omega))) | (with_reducible refine Blk.drew ?_) | (with_reducible refine Blk.alloc ?_ _) | (with_reducible refine Blk.far ?_ (by first | omega | (simp; done) | (simp; omega)) _))) hb1
    have b2 : Blk w1 (w.heap.size + 1) 28 #[.slice none 0 0] := Blk.carry (by repeat' (first | with_reducible assumption | with_reducible exact Blk.new _ _ _ | ((with_reducible refine Blk.newAt _ _ _ ?_); (first | rfl | (simp; done) | (simp; omega))) | (with_reducible refine Blk.drew ?_) | (with_reducible refine Blk.alloc ?_ _) | (with_reducible refine Blk.far ?_ (by first | omega | (simp; done) | (simp; omega)) _))) hb1
    have z1 := hb1.size
    (try simp only [World.size_alloc] at z1)
    have g1 : Below w.heap.size w w1 := by repeat' (first | with_reducible assumption | with_reducible exact Below.refl _ _ | (with_reducible refine Below.setCell ?_ ?_ _) | (with_reducible refine Below.alloc ?_ ?_ _) | (with_reducible refine Below.drew ?_) | (with_reducible refine below_dr ?_ _) | (with_reducible refine Below.trans ?_ (Below.mono (by with_reducible assumption) ?_)) | omega | (simp; done) | (simp; omega))
    clear hb1
    have y1 : w1.cell? ⟨w.heap.size, 0, none⟩ = some (.slice A n c) := b1.cell 0 rfl
    have y2 : w1.cell? ⟨w.heap.size + 1, 0, none⟩ = some (.slice none 0 0) := b2.cell 0 rfl
    have f2 := b2.frozen 0
    have l1 := b1.lt
    have l2 := b2.lt
    go_wp2_with fail
    refine bodyPost_ret (v := .tuple #[.agg #[.slice none 0 0], .int .i64 1]) (by simp [results, Tryd.results5, go_sem, *]) rfl ⟨none, 0, rfl, World.ownsRow_nil _ _ _ _, by repeat' (first | with_reducible assumption | with_reducible exact Below.refl _ _ | (with_reducible refine Below.setCell ?_ ?_ _) | (with_reducible refine Below.alloc ?_ ?_ _) | (with_reducible refine Below.drew ?_) | (with_reducible refine below_dr ?_ _) | (with_reducible refine Below.trans ?_ (Below.mono (by with_reducible assumption) ?_)) | omega | (simp; done) | (simp; omega))⟩
  case true =>
    rw [(sp_yes hv).1, (sp_yes hv).2]
    rw [hv] at CV
    obtain ⟨h1, h400, hp⟩ := vRg_parts hv
    clear hv
    have SI := Lib.hid (fun A c w r => l15Simple_any l A c w h1 h400 hp r)
    unfold KpRet at SI
    generalize smp l.length l = S at *
    clear hp
    by_cases h0 : S.length = 0
    case pos =>
      rw [if_pos h0]
      have hS : S = [] := List.eq_nil_of_length_eq_zero h0
      subst hS
      clear h0
      simp only [List.length_nil] at SI ⊢
      obtain ⟨n, hn⟩ : ∃ n, n = l.length := ⟨_, rfl⟩
      rw [← hn] at CV hl h1 h400 SI ⊢
      have HN := Lib.hid hn
      clear hn
      unfold RgRet
      go_enter Tryd.func5, Tryd.ntmps5
      go_wp2_with fail
      refine (CV.out A c _ 0 _ (by simp; omega) (by simp [go_sem]) ?_).mono ?_
      · (refine Rd.more (B := w.heap.size) ?_ (by first | omega | ((try simp only [World.size_setCell]); (try simp only [World.size_drew]); (try simp only [World.size_alloc]); omega) | (simp; done) | (simp; omega))); (repeat' (first | with_reducible assumption | (with_reducible refine Rd.drew ?_) | (with_reducible refine Rd.carry ?_ (by with_reducible assumption) ?_) | (with_reducible refine Rd.alloc ?_ ?_ _) | (with_reducible refine Rd.setCell ?_ ?_ _) | omega | (simp; done) | (simp; omega)))
      rintro e w1 ⟨rfl, hb1⟩
      have b1 : Blk w1 w.heap.size 28 #[.slice A n c] := Blk.carry (by repeat' (first | with_reducible assumption | with_reducible exact Blk.new _ _ _ | ((with_reducible refine Blk.newAt _ _ _ ?_); (first | rfl | (simp; done) | (simp; omega))) | (with_reducible refine Blk.drew ?_) | (with_reducible refine Blk.alloc ?_ _) | (with_reducible refine Blk.far ?_ (by first | omega | (simp; done) | (simp; omega)) _))) hb1
      have b2 : Blk w1 (w.heap.size + 1) 28 #[.slice none 0 0] := Blk.carry (by repeat' (first | with_reducible assumption | with_reducible exact Blk.new _ _ _ | ((with_reducible refine Blk.newAt _ _ _ ?_); (first | rfl | (simp; done) | (simp; omega))) | (with_reducible refine Blk.drew ?_) | (with_reducible refine Blk.alloc ?_ _) | (with_reducible refine Blk.far ?_ (by first | omega | (simp; done) | (simp; omega)) _))) hb1
      have z1 := hb1.size
      (try simp only [World.size_alloc] at z1)
      have g1 : Below w.heap.size w w1 := by repeat' (first | with_reducible assumption | with_reducible exact Below.refl _ _ | (with_reducible refine Below.setCell ?_ ?_ _) | (with_reducible refine Below.alloc ?_ ?_ _) | (with_reducible refine Below.drew ?_) | (with_reducible refine below_dr ?_ _) | (with_reducible refine Below.trans ?_ (Below.mono (by with_reducible assumption) ?_)) | omega | (simp; done) | (simp; omega))
      clear hb1
      have q1 : Rd cPt 2 w1 w1.heap.size A l := (r.below g1).more g1.size
      clear r
      have y1 : w1.cell? ⟨w.heap.size, 0, none⟩ = some (.slice A n c) := b1.cell 0 rfl
      have y2 : w1.cell? ⟨w.heap.size + 1, 0, none⟩ = some (.slice none 0 0) := b2.cell 0 rfl
      have f2 := b2.frozen 0
      have l1 := b1.lt
      have l2 := b2.lt
      go_wp2_with fail
      refine (SI.out A c _ q1).mono ?_
      intro e w2 hq
      obtain ⟨A2, c2, rfl, ow, hb2⟩ := hq
      have z2 := hb2.size
      have g2 : Below w.heap.size w w2 := g1.trans (hb2.mono g1.size)
      replace b1 := b1.carry hb2
      replace b2 := b2.carry hb2
      clear y1 y2 f2 l1 l2 hb2 q1 g1
      have y1 : w2.cell? ⟨w.heap.size, 0, none⟩ = some (.slice A n c) := b1.cell 0 rfl
      have y2 : w2.cell? ⟨w.heap.size + 1, 0, none⟩ = some (.slice none 0 0) := b2.cell 0 rfl
      have f2 := b2.frozen 0
      have l1 := b1.lt
      have l2 := b2.lt
      go_wp2_with fail
      refine bodyPost_ret (v := .tuple #[.agg #[.slice none 0 0], .int .i64 6]) (by simp [results, Tryd.results5, go_sem, *]) rfl ⟨none, 0, rfl, World.ownsRow_nil _ _ _ _, by repeat' (first | with_reducible assumption | with_reducible exact Below.refl _ _ | (with_reducible refine Below.setCell ?_ ?_ _) | (with_reducible refine Below.alloc ?_ ?_ _) | (with_reducible refine Below.drew ?_) | (with_reducible refine below_dr ?_ _) | (with_reducible refine Below.trans ?_ (Below.mono (by with_reducible assumption) ?_)) | omega | (simp; done) | (simp; omega))⟩
    case neg =>
      rw [if_neg h0]
      unfold RgRet
      obtain ⟨m, hm⟩ : ∃ m, m = S.length := ⟨_, rfl⟩
      rw [← hm] at h0 SI ⊢
      have HMS := Lib.hid hm
      clear hm
      have e0 : ¬ (m : Int) = 0 := by omega
      have e1 : ((m : Int) == 0) = false := by simp; omega
      obtain ⟨n, hn⟩ : ∃ n, n = l.length := ⟨_, rfl⟩
      rw [← hn] at CV hl h1 h400 SI ⊢
      have HN := Lib.hid hn
      clear hn
      go_enter Tryd.func5, Tryd.ntmps5
      go_wp2_with fail
      refine (CV.out A c _ 0 _ (by simp; omega) (by simp [go_sem]) ?_).mono ?_
      · (refine Rd.more (B := w.heap.size) ?_ (by first | omega | ((try simp only [World.size_setCell]); (try simp only [World.size_drew]); (try simp only [World.size_alloc]); omega) | (simp; done) | (simp; omega))); (repeat' (first | with_reducible assumption | (with_reducible refine Rd.drew ?_) | (with_reducible refine Rd.carry ?_ (by with_reducible assumption) ?_) | (with_reducible refine Rd.alloc ?_ ?_ _) | (with_reducible refine Rd.setCell ?_ ?_ _) | omega | (simp; done) | (simp; omega)))
      rintro e w1 ⟨rfl, hb1⟩
      have b1 : Blk w1 w.heap.size 28 #[.slice A n c] := Blk.carry (by repeat' (first | with_reducible assumption | with_reducible exact Blk.new _ _ _ | ((with_reducible refine Blk.newAt _ _ _ ?_); (first | rfl | (simp; done) | (simp; omega))) | (with_reducible refine Blk.drew ?_) | (with_reducible refine Blk.alloc ?_ _) | (with_reducible refine Blk.far ?_ (by first | omega | (simp; done) | (simp; omega)) _))) hb1
      have b2 : Blk w1 (w.heap.size + 1) 28 #[.slice none 0 0] := Blk.carry (by repeat' (first | with_reducible assumption | with_reducible exact Blk.new _ _ _ | ((with_reducible refine Blk.newAt _ _ _ ?_); (first | rfl | (simp; done) | (simp; omega))) | (with_reducible refine Blk.drew ?_) | (with_reducible refine Blk.alloc ?_ _) | (with_reducible refine Blk.far ?_ (by first | omega | (simp; done) | (simp; omega)) _))) hb1
      have z1 := hb1.size
      (try simp only [World.size_alloc] at z1)
      have g1 : Below w.heap.size w w1 := by repeat' (first | with_reducible assumption | with_reducible exact Below.refl _ _ | (with_reducible refine Below.setCell ?_ ?_ _) | (with_reducible refine Below.alloc ?_ ?_ _) | (with_reducible refine Below.drew ?_) | (with_reducible refine below_dr ?_ _) | (with_reducible refine Below.trans ?_ (Below.mono (by with_reducible assumption) ?_)) | omega | (simp; done) | (simp; omega))
      clear hb1
      have q1 : Rd cPt 2 w1 w1.heap.size A l := (r.below g1).more g1.size
      clear r
      have y1 : w1.cell? ⟨w.heap.size, 0, none⟩ = some (.slice A n c) := b1.cell 0 rfl
      have y2 : w1.cell? ⟨w.heap.size + 1, 0, none⟩ = some (.slice none 0 0) := b2.cell 0 rfl
      have f2 := b2.frozen 0
      have l1 := b1.lt
      have l2 := b2.lt
      go_wp2_with fail
      refine (SI.out A c _ q1).mono ?_
      intro e w2 hq
      obtain ⟨A2, c2, rfl, ow, hb2⟩ := hq
      have z2 := hb2.size
      have g2 : Below w.heap.size w w2 := g1.trans (hb2.mono g1.size)
      replace b1 := b1.carry hb2
      replace b2 := b2.carry hb2
      clear y1 y2 f2 l1 l2 hb2 q1 g1
      have y1 : w2.cell? ⟨w.heap.size, 0, none⟩ = some (.slice A n c) := b1.cell 0 rfl
      have y2 : w2.cell? ⟨w.heap.size + 1, 0, none⟩ = some (.slice none 0 0) := b2.cell 0 rfl
      have f2 := b2.frozen 0
      have l1 := b1.lt
      have l2 := b2.lt
      go_wp2_with fail
      refine bodyPost_ret (v := .tuple #[.agg #[.slice A2 m c2], .int .i64 0]) (by simp [results, Tryd.results5, go_sem, *]) rfl ⟨A2, c2, rfl, ?_, ?_⟩
      · exact own_keep (own_base ow (by omega)) (fun q hq h8 => by have := own_block ow hq; simp only at h8; omega) _
      · exact g2.setCell (by simp only; omega) _
end Go.Proofs.YtdeemhfhmgnbgaaDoor
