/- Walks: the points that remain of a ring, or the error that none does. -/
import Derived.Test.YtdeemhfhmgnbgaaDoorSmi
import Derived.BigQuiet
namespace Go.Proofs.YtdeemhfhmgnbgaaDoor
open Go.RowKit
set_option linter.unusedVariables false
theorem own_parts {w : World} {base e s n c : Nat} {A : Option Addr} {xs : List Value} (h : w.ownsRow base e s (.slice A n c) n xs) (hn : 0 < n) : ∃ (g : Nat) (cur : Array Value), A = some ⟨g, 0, none⟩ ∧ base ≤ g ∧ Blk w g e cur ∧ n ≤ c ∧ c ≤ maxLen ∧ cur.size = c * s ∧ cur.toList.take (n * s) = xs := by
  rcases h.2 with ⟨hv, h0⟩ | ⟨g, cap, cur, hv, h1, h2, h3, h4, h5, h6⟩
  · omega
  · injection hv with a b c; subst c; exact ⟨g, cur, a, h1, h2, h3, h4, h5, h6⟩
set_option maxRecDepth 100000 in
set_option maxHeartbeats 6400000 in
theorem turns_nil (l : List APt) (A : Option Addr) (c : Nat) (b : Addr) (w : World) (h1 : 1 ≤ l.length) (h400 : l.length ≤ 400) (hp : ptsUp l l.length = true) (h0 : (smp l.length l).length = 0) (hz : 0 < w.heap.size) (hG : w.cell? ⟨0, 0, none⟩ = some (.iface 79 (.pointer (some b)))) (r : Rd cPt 2 w w.heap.size A l) :
    Calls Tryd.prog 16 #[.agg #[.slice A l.length c]] w (fun e w' => e = .returned (.tuple #[.slice none 0 0, .iface 79 (.pointer (some b))]) ∧ Below w.heap.size w w') := by
  have CC := Lib.hid (fun A c w r => clone_any l A c w h1 h400 r)
  have CS := Lib.hid (fun g c cur w a1 a2 a3 a4 a5 => straights_any l.length l g c l.length cur w rfl (Nat.le_refl _) h400 a1 a2 a3 a4 a5 hp)
  unfold StRet at CS
  have sl := smp_len l.length l
  generalize smp l.length l = S at *
  clear hp
  obtain ⟨n, hn⟩ : ∃ n, n = l.length := ⟨_, rfl⟩
  rw [← hn] at CC CS h1 h400 sl ⊢
  clear hn
  go_enter Tryd.func16, Tryd.ntmps16
  go_wp2_with fail
  refine (CC.out A c _ ?_).mono ?_
  · (refine Rd.more (B := w.heap.size) ?_ (by first | omega | ((try simp only [World.size_setCell]); (try simp only [World.size_drew]); (try simp only [World.size_alloc]); omega) | (simp; done) | (simp; omega))); (repeat' (first | with_reducible assumption | (with_reducible refine Rd.drew ?_) | (with_reducible refine Rd.carry ?_ (by with_reducible assumption) ?_) | (with_reducible refine Rd.alloc ?_ ?_ _) | (with_reducible refine Rd.setCell ?_ ?_ _) | omega | (simp; done) | (simp; omega)))
  intro e w1 hq
  obtain ⟨A1, c1, rfl, ow, hb1⟩ := hq
  have z1 := hb1.size
  (try simp only [World.size_alloc] at z1)
  have g1 : Below w.heap.size w w1 := by repeat' (first | with_reducible assumption | with_reducible exact Below.refl _ _ | (with_reducible refine Below.setCell ?_ ?_ _) | (with_reducible refine Below.alloc ?_ ?_ _) | (with_reducible refine Below.drew ?_) | (with_reducible refine below_dr ?_ _) | (with_reducible refine Below.trans ?_ (Below.mono (by with_reducible assumption) ?_)) | omega | (simp; done) | (simp; omega))
  obtain ⟨g, cur, rfl, hgb, bk, hnc, hc63, hsz, htk⟩ := own_parts ow (by omega)
  (try simp only [World.size_alloc] at hgb)
  have hgw : w.heap.size ≤ g := by omega
  have hc64 : c1 ≤ 9223372036854775807 := hc63
  clear ow hb1 hgb
  go_wp2_with fail
  refine (CS.out g c1 cur _ hnc hc64 bk hsz htk).mono ?_
  intro e w2 hq
  obtain ⟨m', cur', hm', rfl, bk', hs', ht', hb2⟩ := hq
  have g2 : Below w.heap.size w w2 := g1.trans (hb2.mono hgw)
  have yG : w2.cell? ⟨0, 0, none⟩ = some (.iface 79 (.pointer (some b))) := (g2.cell (p := ⟨0, 0, none⟩) hz).trans hG
  have hz2 : 0 < w2.heap.size := by have := g2.size; omega
  clear hb2 g1 bk hsz htk hG
  have e0 : m' = 0 := by omega
  subst e0
  clear hm'
  go_wp2_with fail
  go_region
  all_goals
    go_wp2_with fail
    refine bodyPost_ret (v := .tuple #[.slice none 0 0, .iface 79 (.pointer (some b))]) (by simp [results, Tryd.results16, go_sem, *]) rfl ⟨rfl, by repeat' (first | with_reducible assumption | with_reducible exact Below.refl _ _ | (with_reducible refine Below.setCell ?_ ?_ _) | (with_reducible refine Below.alloc ?_ ?_ _) | (with_reducible refine Below.drew ?_) | (with_reducible refine below_dr ?_ _) | (with_reducible refine Below.trans ?_ (Below.mono (by with_reducible assumption) ?_)) | omega | (simp; done) | (simp; omega))⟩
set_option maxRecDepth 100000 in
set_option maxHeartbeats 6400000 in
theorem turns_some (l : List APt) (A : Option Addr) (c : Nat) (b : Addr) (w : World) (h1 : 1 ≤ l.length) (h400 : l.length ≤ 400) (hp : ptsUp l l.length = true) (h0 : ¬ (smp l.length l).length = 0) (hz : 0 < w.heap.size) (hG : w.cell? ⟨0, 0, none⟩ = some (.iface 79 (.pointer (some b)))) (r : Rd cPt 2 w w.heap.size A l) :
    Calls Tryd.prog 16 #[.agg #[.slice A l.length c]] w (fun e w' => ∃ (A' : Option Addr) (c' : Nat), e = .returned (.tuple #[.slice A' (smp l.length l).length c', .nilIface]) ∧ w'.ownsRow w.heap.size 52 2 (.slice A' (smp l.length l).length c') (smp l.length l).length (cellsF cPt (smp l.length l)) ∧ Below w.heap.size w w') := by
  have CC := Lib.hid (fun A c w r => clone_any l A c w h1 h400 r)
  have CS := Lib.hid (fun g c cur w a1 a2 a3 a4 a5 => straights_any l.length l g c l.length cur w rfl (Nat.le_refl _) h400 a1 a2 a3 a4 a5 hp)
  unfold StRet at CS
  have sl := smp_len l.length l
  generalize smp l.length l = S at *
  clear hp
  obtain ⟨n, hn⟩ : ∃ n, n = l.length := ⟨_, rfl⟩
  rw [← hn] at CC CS h1 h400 sl ⊢
  clear hn
  obtain ⟨m, hm⟩ : ∃ m, m = S.length := ⟨_, rfl⟩
  rw [← hm] at CS h0 sl ⊢
  have HM := Lib.hid hm
  clear hm
  have e0 : ¬ (m : Int) = 0 := by omega
  have e1 : ((m : Int) == 0) = false := by simp; omega
  go_enter Tryd.func16, Tryd.ntmps16
  go_wp2_with fail
  refine (CC.out A c _ ?_).mono ?_
  · (refine Rd.more (B := w.heap.size) ?_ (by first | omega | ((try simp only [World.size_setCell]); (try simp only [World.size_drew]); (try simp only [World.size_alloc]); omega) | (simp; done) | (simp; omega))); (repeat' (first | with_reducible assumption | (with_reducible refine Rd.drew ?_) | (with_reducible refine Rd.carry ?_ (by with_reducible assumption) ?_) | (with_reducible refine Rd.alloc ?_ ?_ _) | (with_reducible refine Rd.setCell ?_ ?_ _) | omega | (simp; done) | (simp; omega)))
  intro e w1 hq
  obtain ⟨A1, c1, rfl, ow, hb1⟩ := hq
  have z1 := hb1.size
  (try simp only [World.size_alloc] at z1)
  have g1 : Below w.heap.size w w1 := by repeat' (first | with_reducible assumption | with_reducible exact Below.refl _ _ | (with_reducible refine Below.setCell ?_ ?_ _) | (with_reducible refine Below.alloc ?_ ?_ _) | (with_reducible refine Below.drew ?_) | (with_reducible refine below_dr ?_ _) | (with_reducible refine Below.trans ?_ (Below.mono (by with_reducible assumption) ?_)) | omega | (simp; done) | (simp; omega))
  obtain ⟨g, cur, rfl, hgb, bk, hnc, hc63, hsz, htk⟩ := own_parts ow (by omega)
  (try simp only [World.size_alloc] at hgb)
  have hgw : w.heap.size ≤ g := by omega
  have hc64 : c1 ≤ 9223372036854775807 := hc63
  clear ow hb1 hgb
  go_wp2_with fail
  refine (CS.out g c1 cur _ hnc hc64 bk hsz htk).mono ?_
  intro e w2 hq
  obtain ⟨m', cur', hm', rfl, bk', hs', ht', hb2⟩ := hq
  have g2 : Below w.heap.size w w2 := g1.trans (hb2.mono hgw)
  have yG : w2.cell? ⟨0, 0, none⟩ = some (.iface 79 (.pointer (some b))) := (g2.cell (p := ⟨0, 0, none⟩) hz).trans hG
  have hz2 : 0 < w2.heap.size := by have := g2.size; omega
  clear hb2 g1 bk hsz htk hG
  subst hm'
  go_wp2_with fail
  refine bodyPost_ret (v := .tuple #[.slice (some ⟨g, 0, none⟩) m' c1, .nilIface]) (by simp [results, Tryd.results16, go_sem, *]) rfl ⟨_, _, rfl, ⟨by rw [cellsF_len (fun a => cPt_len a), HM.out], .inr ⟨g, c1, cur', rfl, hgw, bk', by omega, hc63, hs', ht'⟩⟩, g2⟩
end Go.Proofs.YtdeemhfhmgnbgaaDoor
