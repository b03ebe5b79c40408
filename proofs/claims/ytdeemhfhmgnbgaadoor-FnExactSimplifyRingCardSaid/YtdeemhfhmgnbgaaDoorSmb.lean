/- Walks: the first point of a ring at which it does not turn, the reference's side. -/
import Derived.Test.YtdeemhfhmgnbgaaDoorSma
import Derived.Deep.RegionHeld3
namespace Go.Proofs.YtdeemhfhmgnbgaaDoor
open Go.RowKit
set_option linter.unusedVariables false
def idlI (l : List APt) : Int := if idlN l < l.length then (idlN l : Int) else -1
theorem idlI_at {l : List APt} {k : Nat} (hk : k < l.length) (h : idleB l k = true) (h0 : ∀ j, j < k → idleB l j = false) : idlI l = (k : Int) := by
  unfold idlI; rw [idlN_at hk h h0, if_pos hk]
theorem idlI_none {l : List APt} (h0 : ∀ j, j < l.length → idleB l j = false) : idlI l = -1 := by
  unfold idlI; rw [idlN_none h0, if_neg (by omega)]
theorem no_succ {p : Nat → Bool} {k : Nat} (h : ∀ j, j < k → p j = false) (e : p k = false) : ∀ j, j < k + 1 → p j = false := fun j hj => by
  rcases Nat.lt_or_ge j k with q | q
  · exact h j q
  · rw [show j = k by omega]; exact e
theorem pt_at {w : World} {B g o : Nat} {l : List APt} {k : Nat} {u v : Int} (r : Rd cPt 2 w B (some ⟨g, o, none⟩) l) (ha : l[k]? = some (u, v)) :
    w.cell? ⟨g, o + k * 2, none⟩ = some (.int .i64 u) ∧ w.cell? ⟨g, o + k * 2 + 1, none⟩ = some (.int .i64 v) := by
  obtain ⟨g', o', hgo, hg', hc⟩ := r.elem ha
  obtain ⟨rfl, rfl⟩ : g = g' ∧ o = o' := by injection hgo with h; injection h with h1 h2; exact ⟨h1, h2⟩
  exact ⟨hc 0 _ rfl, hc 1 _ rfl⟩
set_option maxRecDepth 100000 in
set_option maxHeartbeats 6400000 in
theorem l15Idle_any (l : List APt) (A : Option Addr) (c : Nat) (w : World) (h400 : l.length ≤ 1000) (hp : ptsUp l l.length = true) (r : Rd cPt 2 w w.heap.size A l) :
    Calls Tryd.prog 23 #[.slice A l.length c] w fun e w' => e = .returned (.int .i64 (idlI l)) ∧ Below w.heap.size w w' := by
  obtain ⟨L, hL⟩ : ∃ L, L = idlI l := ⟨_, rfl⟩
  rw [← hL]
  have HL := Lib.hid hL
  clear hL
  have HP := Lib.hid hp
  clear hp
  obtain ⟨n, hn⟩ : ∃ n, n = l.length := ⟨_, rfl⟩
  rw [← hn] at h400 ⊢
  have HN := Lib.hid hn
  clear hn
  go_enter Tryd.func23, Tryd.ntmps23
  go_wp2_with fail
  go_loopw [4] (fun i wr => ∃ k : Nat, k ≤ n ∧ i = .int .i64 (k : Int) ∧ (∀ j, j < k → idleB l j = false) ∧ Below w.heap.size w wr) (fun i _ => n - (intOf i).toNat)
  case atStart => exact ⟨0, Nat.zero_le _, rfl, fun j h => absurd h (Nat.not_lt_zero _), by repeat' (first | with_reducible assumption | with_reducible exact Below.refl _ _ | (with_reducible refine Below.setCell ?_ ?_ _) | (with_reducible refine Below.alloc ?_ ?_ _) | (with_reducible refine Below.drew ?_) | (with_reducible refine below_dr ?_ _) | (with_reducible refine Below.trans ?_ (Below.mono (by with_reducible assumption) ?_)) | omega | (simp; done) | (simp; omega))⟩
  case round =>
    obtain ⟨k, hk, rfl, hno, hbl⟩ := hrel
    have zr := hbl.size
    have HNO := Lib.hid hno
    clear hno
    by_cases hlt : k < n
    case pos =>
      obtain ⟨j, hj⟩ : ∃ j, (k + 1) % l.length = j := ⟨_, rfl⟩
      obtain ⟨i, hi⟩ : ∃ i, (k + l.length - 1) % l.length = i := ⟨_, rfl⟩
      have hjn : j < n := by rw [← hj, ← HN.out]; exact Nat.mod_lt _ (by omega)
      have hin : i < n := by rw [← hi, ← HN.out]; exact Nat.mod_lt _ (by omega)
      obtain ⟨⟨b0, b1⟩, hb⟩ : ∃ a, l[k]? = some a := ⟨l[k]'(by have := HN.out; omega), List.getElem?_eq_getElem (by have := HN.out; omega)⟩
      obtain ⟨⟨c0, c1⟩, hc⟩ : ∃ a, l[j]? = some a := ⟨l[j]'(by have := HN.out; omega), List.getElem?_eq_getElem (by have := HN.out; omega)⟩
      obtain ⟨⟨a0, a1⟩, ha⟩ : ∃ a, l[i]? = some a := ⟨l[i]'(by have := HN.out; omega), List.getElem?_eq_getElem (by have := HN.out; omega)⟩
      obtain ⟨g, o, rfl, hg, -⟩ := (r.below hbl).elem ha
      have rr := r.below hbl
      obtain ⟨p0, p1⟩ := pt_at rr ha
      obtain ⟨p2, p3⟩ := pt_at rr hb
      obtain ⟨p4, p5⟩ := pt_at rr hc
      have HB := Lib.hid (idleB_is hi ha hb hj hc)
      have CT := Lib.hid (fun w => l03Turn_any a0 a1 b0 b1 c0 c1 w (pts_all HP.out ha) (pts_all HP.out hb) (pts_all HP.out hc))
      have e3 : ((k : Int) + 1).tmod (n : Int) = (j : Int) := by rw [← hj, ← HN.out, show ((k : Int) + 1) = ((k + 1 : Nat) : Int) by omega]; exact (Int.ofNat_tmod _ _).symm
      have e5 : ((k : Int) + (n : Int) - 1).tmod (n : Int) = (i : Int) := by rw [← hi, ← HN.out, show ((k : Int) + (n : Int) - 1) = ((k + n - 1 : Nat) : Int) by omega]; exact (Int.ofNat_tmod _ _).symm
      clear hi hj ha hb hc r rr
      generalize turnI a0 a1 b0 b1 c0 c1 = tn at *
      have hki : (k : Int) < (n : Int) := by omega
      have hji : (j : Int) < (n : Int) := by omega
      have hii : (i : Int) < (n : Int) := by omega
      have hj0 : (0 : Int) ≤ (j : Int) := by omega
      have hi0 : (0 : Int) ≤ (i : Int) := by omega
      have e1 : ((n : Int) == 0) = false := by simp; omega
      have e2 : ¬ (n : Int) = 0 := by omega
      have e4 : ¬ n = 0 := by omega
      have b1' : IntKind.i64.wrap ((k : Int) + 1) = (k : Int) + 1 := IntWalk.i64_in _ (by omega)
      have b2' : IntKind.i64.wrap (j : Int) = (j : Int) := IntWalk.i64_in _ (by omega)
      have b3' : IntKind.i64.wrap ((k : Int) + (n : Int)) = (k : Int) + (n : Int) := IntWalk.i64_in _ (by omega)
      have b4' : IntKind.i64.wrap ((k : Int) + (n : Int) - 1) = (k : Int) + (n : Int) - 1 := IntWalk.i64_in _ (by omega)
      have b5' : IntKind.i64.wrap (i : Int) = (i : Int) := IntWalk.i64_in _ (by omega)
      have hgw : g < wr.heap.size := by omega
      go_upto_region 5 with fail
      go_region_held3 (fun w' => (∀ b o, b < wr.heap.size → w'.cell? ⟨b, o, none⟩ = wr.cell? ⟨b, o, none⟩) ∧ wr.heap.size ≤ w'.heap.size)
        (first | ((try dsimp only); exact ⟨fun b o h => (by (repeat (first | with_reducible exact rfl | (with_reducible refine (cell_drew_at _ _).trans ?_) | (with_reducible refine (cell_set_at _ _ (by first | omega | (simp; done) | (simp; omega))).trans ?_) | (with_reducible refine (cell_alloc_at _ _ (by first | omega | (simp; done) | (simp; omega))).trans ?_) | (with_reducible refine (hcwT1 b o (by first | omega | (simp; done) | (simp; omega))).trans ?_)))), (by first | omega | (simp; done) | (simp; omega))⟩) | fail)
        ((go_at_call 32; (with_reducible refine (CT.out _).mono ?_); rintro e wT1 ⟨rfl, hbwT1⟩; obtain ⟨hcwT1, hfwT1⟩ := bcell hbwT1; have hzwT1 := hbwT1.size; (try simp only [World.size_drew] at hcwT1 hfwT1 hzwT1); (try simp only [World.size_alloc] at hcwT1 hfwT1 hzwT1)))
      all_goals
        have g3 : Below w.heap.size w wT1 := by repeat' (first | with_reducible assumption | with_reducible exact Below.refl _ _ | (with_reducible refine Below.setCell ?_ ?_ _) | (with_reducible refine Below.alloc ?_ ?_ _) | (with_reducible refine Below.drew ?_) | (with_reducible refine below_dr ?_ _) | (with_reducible refine Below.trans ?_ (Below.mono (by with_reducible assumption) ?_)) | omega | (simp; done) | (simp; omega))
        clear hbwT1 hfwT1 hcwT1 CT p0 p1 p2 p3 p4 p5
        by_cases ht : tn = 0
        case pos =>
          subst ht
          have HK := Lib.hid (show idlI l = (k : Int) from idlI_at (by rw [← HN.out]; exact hlt) (by rw [HB.out]; exact decide_eq_true rfl) HNO.out)
          clear HB
          go_wp2_with fail
          go_ret
          exact ⟨ret_i64 (HK.out.symm.trans HL.out.symm), g3⟩
        case neg =>
          have ed : decide (tn = 0) = false := decide_eq_false ht
          have HK := Lib.hid (no_succ HNO.out (by rw [HB.out]; exact ed))
          clear HB
          go_wp2_with fail
          go_roundw
          case rel => exact ⟨k + 1, by omega, by go_num, HK.out, g3⟩
          case measure => simp [intOf]; omega
    case neg =>
      obtain rfl : k = n := by omega
      have H := Lib.hid (show -1 = L by rw [HL.out]; exact (idlI_none (by rw [← HN.out]; exact HNO.out)).symm)
      go_wp2_with fail
      go_ret
      exact ⟨ret_i64 H.out, hbl⟩
end Go.Proofs.YtdeemhfhmgnbgaaDoor
