/- Walks: a ring without the points at which it does not turn, the reference's side. -/
import Derived.Test.YtdeemhfhmgnbgaaDoorSmc
namespace Go.Proofs.YtdeemhfhmgnbgaaDoor
open Go.RowKit Go.Sort
set_option linter.unusedVariables false
def KpRet (L : List APt) (w : World) (e : Ending) (w' : World) : Prop :=
  ∃ (A' : Option Addr) (c' : Nat), e = .returned (.slice A' L.length c') ∧ w'.ownsRow w.heap.size 52 2 (.slice A' L.length c') L.length (cellsF cPt L) ∧ Below w.heap.size w w'
theorem idlN_idlI {l : List APt} {k : Nat} (h : idlN l = k) (hk : k < l.length) : idlI l = (k : Int) := by unfold idlI; rw [h, if_pos hk]
theorem idlI_no {l : List APt} (h : idlN l = l.length) : idlI l = -1 := by unfold idlI; rw [h, if_neg (by omega)]
theorem own_cap {w : World} {base e s n c : Nat} {A : Option Addr} {xs : List Value} (h : w.ownsRow base e s (.slice A n c) n xs) (hn : 0 < n) : n ≤ c ∧ c ≤ maxLen := by
  rcases h.2 with ⟨hv, h0⟩ | ⟨g, cap, cur, hv, _, _, h1, h2, _⟩
  · omega
  · injection hv with a b c; subst c; exact ⟨h1, h2⟩
set_option maxRecDepth 100000 in
set_option maxHeartbeats 6400000 in
theorem l15Simple_any (l : List APt) (A : Option Addr) (c : Nat) (w : World) (h1 : 1 ≤ l.length) (h400 : l.length ≤ 400) (hp : ptsUp l l.length = true) (r : Rd cPt 2 w w.heap.size A l) :
    Calls Tryd.prog 13 #[.slice A l.length c] w (KpRet (smp l.length l) w) := by
  obtain ⟨i0, hi0, hz0', hz1', hz2'⟩ := info_parts infoPt
  have HI0 := Lib.hid hi0
  have HZ0 := Lib.hid hz0'
  have HZ1 := Lib.hid hz1'
  have HZ2 := Lib.hid hz2'
  clear hi0 hz0' hz1' hz2'
  unfold KpRet
  obtain ⟨L, hL⟩ : ∃ L, L = smp l.length l := ⟨_, rfl⟩
  rw [← hL]
  have HL := Lib.hid hL
  clear hL
  have HP := Lib.hid hp
  clear hp
  have hrd := reads_pts h1 r
  obtain ⟨g, o, rfl, hg, -⟩ := reads_rd h1 r
  have HXX := Lib.hid (show cellsF cPt l = cellsF cPt l from rfl)
  obtain ⟨n, hn⟩ : ∃ n, n = l.length := ⟨_, rfl⟩
  rw [← hn] at hrd h1 h400 ⊢
  have HN := Lib.hid hn
  clear hn
  have HRD := Lib.hid ((hrd.alloc (Nat.le_refl _) (.cells #[] 52)).more (B' := (w.alloc (.cells #[] 52)).heap.size) (by simp))
  have HOW := Lib.hid (own_made w w.heap.size 52 2 0 #[] (Nat.le_refl _) (Nat.zero_le _) (by simp))
  have HMX := Lib.hid (show 0 + n ≤ maxLen by unfold maxLen; omega)
  have HBY := Lib.hid (show (0 + n) * 16 ≤ 140737488355328 by omega)
  have HBS := Lib.hid (show w.heap.size ≤ (w.alloc (.cells #[] 52)).heap.size by simp)
  clear hrd r
  go_enter Tryd.func13, Tryd.ntmps13
  go_wp2_with (at_builtin; refine wpList_append_any _ rfl (.tmp 6) (.tmp 7) _ rfl w.heap.size 52 i0 _ 2 16 Tryd.underlying26 HI0.out HZ0.out HZ1.out HZ2.out rfl (by omega) _ 0 [] rfl HOW.out _ (some ⟨g, o, none⟩) n c (cellsF cPt l) rfl HRD.out (pall_one _) HMX.out HBY.out HBS.out ?_; intro v9 w9 hown9 hg9 hat9; rw [Nat.zero_add] at hown9; obtain ⟨A9, c9, rfl⟩ := pslice_of hown9; have HOWN9 := Lib.hid hown9; have HG9 := Lib.hid hg9; clear hown9 hg9 hat9)
  have g9 : Below w.heap.size w w9 := below_of_grown (by repeat' (first | with_reducible assumption | with_reducible exact Below.refl _ _ | (with_reducible refine Below.setCell ?_ ?_ _) | (with_reducible refine Below.alloc ?_ ?_ _) | (with_reducible refine Below.drew ?_) | (with_reducible refine below_dr ?_ _) | (with_reducible refine Below.trans ?_ (Below.mono (by with_reducible assumption) ?_)) | omega | (simp; done) | (simp; omega))) HG9.out (by simp) (fun q hq => by have h : w.heap.size = q := Option.some.inj hq; omega)
  have ow9 : w9.ownsRow w.heap.size 52 2 (.slice A9 n c9) n (cellsF cPt l) := by have := HOWN9.out; simpa using this
  clear HOWN9 HG9 HOW HRD HMX HBY HBS
  go_loopw [3] (fun s wr => ∃ (f : Nat) (lk : List APt) (A' : Option Addr) (m c' : Nat), m ≤ f ∧ m ≤ 400 ∧ m = lk.length ∧ smp f lk = L ∧ ptsUp lk lk.length = true ∧ s = .slice A' m c' ∧ wr.ownsRow w.heap.size 52 2 (.slice A' m c') m (cellsF cPt lk) ∧ Below w.heap.size w wr) (fun s _ => lenOf s)
  case atStart => exact ⟨n, l, _, _, _, Nat.le_refl _, h400, HN.out, by rw [HL.out, HN.out], HP.out, rfl, ow9, g9⟩
  case round =>
    clear ow9 g9
    obtain ⟨f, lk, A', m, c', hmf, hm4, hm, hsm, hpk, rfl, ow, hbl⟩ := hrel
    have zr := hbl.size
    have HM := Lib.hid hm
    have HPK := Lib.hid hpk
    have HSM := Lib.hid hsm
    clear hm hpk hsm
    by_cases h0 : m = 0
    case pos =>
      subst h0
      have HE := Lib.hid (show lk = [] from List.eq_nil_of_length_eq_zero HM.out.symm)
      have HLE := Lib.hid (show L = [] by rw [← HSM.out, HE.out, smp_nil])
      rw [HE.out] at ow
      go_wp2_with fail
      go_ret
      rw [HLE.out]
      exact ⟨A', c', rfl, ow, hbl⟩
    case neg =>
      have r : Rd cPt 2 wr wr.heap.size A' lk := by have h := ow; rw [HM.out] at h; exact Rd.of_own (fun a => cPt_len a) (by omega) h (Nat.le_refl _)
      have CI := Lib.hid (fun w r => l15Idle_any lk A' c' w (by rw [← HM.out]; omega) HPK.out r)
      rw [← HM.out] at CI
      rcases Nat.lt_or_ge (idlN lk) m with hk | hk
      case inr =>
        have hk2 : idlN lk = lk.length := by have := idlN_le lk; have := HM.out; omega
        rw [idlI_no hk2] at CI
        have HLE := Lib.hid (show lk = L by rw [← HSM.out, smp_stop hk2])
        clear hk hk2
        go_wp2_with fail
        refine (CI.out _ r).mono ?_
        rintro e w1 ⟨rfl, hb1⟩
        have g1 : Below w.heap.size w w1 := hbl.trans (hb1.mono zr)
        replace ow := own_stays ow hb1
        clear hb1 r CI
        go_wp2_with fail
        go_ret
        rw [← HLE.out, ← HM.out]
        exact ⟨A', c', rfl, ow, g1⟩
      case inl =>
        obtain ⟨k, hkk⟩ : ∃ k, idlN lk = k := ⟨_, rfl⟩
        rw [hkk] at hk
        have hkl : k < lk.length := by rw [← HM.out]; exact hk
        rw [idlN_idlI hkk hkl] at CI
        obtain ⟨f1, rfl⟩ : ∃ f1, f = f1 + 1 := ⟨f - 1, by omega⟩
        have HST := Lib.hid (show smp f1 (lk.eraseIdx k) = L by rw [← HSM.out, smp_step hkl hkk])
        have HEL := Lib.hid (show m - 1 = (lk.eraseIdx k).length by rw [erase_len hkl, ← HM.out])
        have HPE := Lib.hid (pts_erase HPK.out k)
        obtain ⟨xk, hxk⟩ : ∃ a, lk[k]? = some a := ⟨lk[k]'hkl, List.getElem?_eq_getElem hkl⟩
        obtain ⟨gb, o1, rfl, hgb, -⟩ := r.elem hxk
        clear hxk hkk
        have ht : (lk.take k).length = k := by rw [List.length_take]; omega
        have hd : (lk.drop (k + 1)).length = m - (k + 1) := by rw [List.length_drop, ← HM.out]
        clear hkl
        go_wp2_with fail
        refine (CI.out _ r).mono ?_
        rintro e w1 ⟨rfl, hb1⟩
        have z1 := hb1.size
        have g1 : Below w.heap.size w w1 := hbl.trans (hb1.mono zr)
        replace ow := own_stays ow hb1
        have r1 : Rd cPt 2 w1 w1.heap.size (some ⟨gb, o1, none⟩) lk := by have h := ow; rw [HM.out] at h; exact Rd.of_own (fun a => cPt_len a) (by omega) h (Nat.le_refl _)
        clear hb1 r CI
        obtain ⟨hcm, hc63⟩ := own_cap ow (by omega)
        have RD2 := Lib.hid (fun (wx : World) (h : Below w1.heap.size w1 wx) => (rd_drop (r1.below h) (k + 1)).more h.size)
        have RB := Lib.hid (rd_take r1 k)
        have HRD := Lib.hid (reads_pts0 ((rd_take r1 k).alloc (Nat.le_refl _) (.cells #[] 52) |>.more (B' := (w1.alloc (.cells #[] 52)).heap.size) (by simp)))
        rw [ht] at HRD
        have HOW := Lib.hid (own_made w1 w.heap.size 52 2 0 #[] (by have := g1.size; omega) (Nat.zero_le _) (by simp))
        have HMX := Lib.hid (show 0 + k ≤ maxLen by unfold maxLen; omega)
        have HBY := Lib.hid (show (0 + k) * 16 ≤ 140737488355328 by omega)
        have HBS := Lib.hid (show w.heap.size ≤ (w1.alloc (.cells #[] 52)).heap.size by have := g1.size; simp; omega)
        have HGA := Lib.hid (show Below w.heap.size w (w1.alloc (.cells #[] 52)) from g1.alloc (by have := g1.size; omega) _)
        have HGW := Lib.hid (show Below w1.heap.size w1 (w1.alloc (.cells #[] 52)) from (Below.refl _ _).alloc (Nat.le_refl _) _)
        clear r1 RB ow
        have eb : IntKind.i64.wrap ((k : Int) + 1) = (k : Int) + 1 := IntWalk.i64_in _ (by omega)
        have eb1 : ((k : Int) + 1).toNat = k + 1 := by omega
        have eb2 : (0 : Int) ≤ (k : Int) + 1 := by omega
        have eb3 : (k : Int) + 1 ≤ (m : Int) := by omega
        have eb4 : (k : Int) ≤ (m : Int) := by omega
        have eb5 : (k : Int) ≤ (c' : Int) := by omega
        have eb6 : k ≤ c' := by omega
        have eb7 : k + 1 ≤ m := by omega
        have eb8 : decide ((k : Int) < 0) = false := by simp
        by_cases hz : c' = k + 1
        case pos =>
          subst hz
          have hm0 : m = k + 1 := by omega
          have HM0 := Lib.hid hm0
          clear hm0
          go_upto_region 4 with fail
          go_upto_region 5 with fail
          go_upto_region 6 with (at_builtin; refine wpList_append_any _ rfl (.tmp 16) (.tmp 19) _ rfl w.heap.size 52 i0 _ 2 16 Tryd.underlying26 HI0.out HZ0.out HZ1.out HZ2.out rfl (by omega) _ 0 [] rfl HOW.out _ (some ⟨gb, o1, none⟩) k (k + 1) (cellsF cPt (lk.take k)) rfl HRD.out (pall_one _) HMX.out HBY.out HBS.out ?_; intro v9 w9 hown9 hg9 hat9; rw [Nat.zero_add] at hown9; obtain ⟨A9, c9, rfl⟩ := pslice_of hown9; have HOWN9 := Lib.hid hown9; have HG9 := Lib.hid hg9; clear hown9 hg9 hat9)
          have g9 : Below w.heap.size w w9 := below_of_grown HGA.out HG9.out HBS.out (fun q hq => by have h : w1.heap.size = q := Option.some.inj hq; have := g1.size; omega)
          have x9 : Below w1.heap.size w1 w9 := below_of_grown HGW.out HG9.out (by simp) (fun q hq => by have h : w1.heap.size = q := Option.some.inj hq; omega)
          have ow9 : w9.ownsRow w.heap.size 52 2 (.slice A9 k c9) k (cellsF cPt (lk.take k)) := by have := HOWN9.out; simpa using this
          have z9 := g9.size
          have HRB := Lib.hid (fun q (hq : (Value.slice A9 k c9).ownBlock = some q) => own_block ow9 hq)
          have HOW9 := Lib.hid ow9
          have hr9 : Rd cPt 2 w9 w9.heap.size (some ⟨gb, o1, none⟩) (lk.drop (k + 1)) := by rw [List.eq_nil_of_length_eq_zero (l := lk.drop (k + 1)) (by rw [hd]; omega)]; exact Rd.nil_
          have hrr := reads_pts0 hr9
          rw [hd, show m - (k + 1) = 0 by omega] at hrr
          have HRD9 := Lib.hid hrr
          have HBS9 := Lib.hid (show w.heap.size ≤ w9.heap.size by omega)
          have HMX9 := Lib.hid (show k + 0 ≤ maxLen by unfold maxLen; omega)
          have HBY9 := Lib.hid (show (k + 0) * 16 ≤ 140737488355328 by omega)
          clear hrr hr9 ow9 HOWN9 HG9 HOW HRD HMX HBY HBS HGA HGW x9
          go_wp2_with (at_builtin; refine wpList_append_any _ rfl (.tmp 21) (.tmp 25) _ rfl w.heap.size 52 i0 _ 2 16 Tryd.underlying26 HI0.out HZ0.out HZ1.out HZ2.out rfl (by omega) (.slice A9 k c9) k _ rfl HOW9.out _ (some ⟨gb, o1, none⟩) 0 0 (cellsF cPt (lk.drop (k + 1))) rfl HRD9.out (pall_one _) HMX9.out HBY9.out HBS9.out ?_; intro v8 w8 hown8 hg8 hat8; obtain ⟨A8, c8, rfl⟩ := pslice_of hown8; have HOWN8 := Lib.hid hown8; have HG8 := Lib.hid hg8; clear hown8 hg8 hat8)
          have g8 : Below w.heap.size w w8 := below_of_grown g9 HG8.out HBS9.out (fun q hq => by have := HRB.out q hq; omega)
          have ho := HOWN8.out
          rw [own_drop_app] at ho
          have HO := Lib.hid ho
          clear ho HOWN8 HG8 HRB
          go_roundw
          case rel => exact ⟨f1, lk.eraseIdx k, A8, k + 0, c8, by omega, by omega, by rw [← HEL.out]; omega, HST.out, HPE.out, rfl, HO.out, g8⟩
          case measure => simp [lenOf]; omega
        case neg =>
          have hz2 : k + 1 < c' := by omega
          have hz3 : ¬ c' - (k + 1) = 0 := by omega
          go_upto_region 4 with fail
          go_upto_region 5 with fail
          go_upto_region 6 with (at_builtin; refine wpList_append_any _ rfl (.tmp 16) (.tmp 19) _ rfl w.heap.size 52 i0 _ 2 16 Tryd.underlying26 HI0.out HZ0.out HZ1.out HZ2.out rfl (by omega) _ 0 [] rfl HOW.out _ (some ⟨gb, o1, none⟩) k c' (cellsF cPt (lk.take k)) rfl HRD.out (pall_one _) HMX.out HBY.out HBS.out ?_; intro v9 w9 hown9 hg9 hat9; rw [Nat.zero_add] at hown9; obtain ⟨A9, c9, rfl⟩ := pslice_of hown9; have HOWN9 := Lib.hid hown9; have HG9 := Lib.hid hg9; clear hown9 hg9 hat9)
          have g9 : Below w.heap.size w w9 := below_of_grown HGA.out HG9.out HBS.out (fun q hq => by have h : w1.heap.size = q := Option.some.inj hq; have := g1.size; omega)
          have x9 : Below w1.heap.size w1 w9 := below_of_grown HGW.out HG9.out (by simp) (fun q hq => by have h : w1.heap.size = q := Option.some.inj hq; omega)
          have ow9 : w9.ownsRow w.heap.size 52 2 (.slice A9 k c9) k (cellsF cPt (lk.take k)) := by have := HOWN9.out; simpa using this
          have z9 := g9.size
          have HRB := Lib.hid (fun q (hq : (Value.slice A9 k c9).ownBlock = some q) => own_block ow9 hq)
          have HOW9 := Lib.hid ow9
          have hr9 : Rd cPt 2 w9 w9.heap.size (some ⟨gb, o1 + (k + 1) * 2, none⟩) (lk.drop (k + 1)) := RD2.out w9 x9
          have hrr := reads_pts0 hr9
          rw [hd] at hrr
          have HRD9 := Lib.hid hrr
          have HBS9 := Lib.hid (show w.heap.size ≤ w9.heap.size by omega)
          have HMX9 := Lib.hid (show k + (m - (k + 1)) ≤ maxLen by unfold maxLen; omega)
          have HBY9 := Lib.hid (show (k + (m - (k + 1))) * 16 ≤ 140737488355328 by omega)
          clear hrr hr9 ow9 HOWN9 HG9 HOW HRD HMX HBY HBS HGA HGW x9
          go_wp2_with (at_builtin; refine wpList_append_any _ rfl (.tmp 21) (.tmp 25) _ rfl w.heap.size 52 i0 _ 2 16 Tryd.underlying26 HI0.out HZ0.out HZ1.out HZ2.out rfl (by omega) (.slice A9 k c9) k _ rfl HOW9.out _ (some ⟨gb, o1 + (k + 1) * 2, none⟩) (m - (k + 1)) (c' - (k + 1)) (cellsF cPt (lk.drop (k + 1))) rfl HRD9.out (pall_one _) HMX9.out HBY9.out HBS9.out ?_; intro v8 w8 hown8 hg8 hat8; obtain ⟨A8, c8, rfl⟩ := pslice_of hown8; have HOWN8 := Lib.hid hown8; have HG8 := Lib.hid hg8; clear hown8 hg8 hat8)
          have g8 : Below w.heap.size w w8 := below_of_grown g9 HG8.out HBS9.out (fun q hq => by have := HRB.out q hq; omega)
          have ho := HOWN8.out
          rw [own_drop_app] at ho
          have HO := Lib.hid ho
          clear ho HOWN8 HG8 HRB
          go_roundw
          case rel => exact ⟨f1, lk.eraseIdx k, A8, k + (m - (k + 1)), c8, by omega, by omega, by rw [← HEL.out]; omega, HST.out, HPE.out, rfl, HO.out, g8⟩
          case measure => simp [lenOf]; omega
end Go.Proofs.YtdeemhfhmgnbgaaDoor
