/- Walks: the points of a path that are kept, the reference's side. -/
import Derived.Test.YtdeemhfhmgnbgaaBv
import Derived.Test.YtdeemhfhmgnbgaaBj
namespace Go.Proofs.Ytdeemhfhmgnbgaa
open Go.RowKit
set_option linter.unusedVariables false
theorem own_nil_new2 {t : TypeId} {s : Nat} (w : World) (base : Nat) (hb : base ≤ w.heap.size) : (w.alloc (.cells #[] t)).ownsRow base t s (.slice (some ⟨w.heap.size, 0, none⟩) 0 0) 0 [] := own_nil_new w base hb
theorem mid_pt {l : List APt} {b : Nat} {x y : Int} (h : l[b]? = some (x, y)) : (l.drop b).take 1 = [(x, y)] := by
  rw [List.take_one, List.head?_drop, h]; rfl
set_option maxRecDepth 100000 in
set_option maxHeartbeats 12800000 in
theorem l15Thin_any (t : Int) (t1 : 1 ≤ t) (t2 : t ≤ 262144) : ∀ (f : Nat) (l : List APt) (A : Option Addr) (c : Nat) (w : World), l.length ≤ f → 1 ≤ l.length → l.length ≤ 1000 → l.length ≤ c → c ≤ 9223372036854775807 → ptsUp l l.length = true → Rd cPt 2 w w.heap.size A l →
    Calls Try.prog 63 #[.slice A l.length c, .int .i64 t] w (KpRet (thin t f l) w)
  | 0, l, A, c, w, h0, h1, _, _, _, _, _ => absurd h0 (by omega)
  | f + 1, l, A, c, w, h0, h1, h2, h3, hc63, hp, r => by
    obtain ⟨i1, hi0, hz0', hz1', hz2'⟩ := info_parts infoPt
    have HI1 := Lib.hid hi0
    have HZ01 := Lib.hid hz0'
    have HZ11 := Lib.hid hz1'
    have HZ21 := Lib.hid hz2'
    clear hi0 hz0' hz1' hz2'
    obtain ⟨s9, hs9, -, hor⟩ := best_both (t := t) h1
    have HOR := Lib.hid hor
    clear hor
    have ha : l[0]? = some (firstP l) := by unfold firstP; rw [List.getElem?_eq_getElem (by omega)]; rfl
    have hz : l[l.length - 1]? = some (lastP l) := by unfold lastP; rw [List.getElem?_eq_getElem (by omega)]; rfl
    rcases hfa : firstP l with ⟨a1, a2⟩
    rcases hfz : lastP l with ⟨z1, z2⟩
    rw [hfa, hfz] at hs9
    rw [hfa] at ha
    rw [hfz] at hz
    clear hfa hfz
    have va := pts_all hp ha
    have vz := pts_all hp hz
    have HP := Lib.hid hp
    have HS9 := Lib.hid hs9
    clear hs9
    obtain ⟨g, o, rfl, hg, -⟩ := r.elem ha
    have HTH0 := Lib.hid (show bestI t l = 0 → thin t (f + 1) l = [] from fun hb => by rw [thin, if_pos hb])
    have HTH1 := Lib.hid (show 1 ≤ bestI t l → thin t (f + 1) l = thin t f (l.take (bestI t l + 1)) ++ ((l.drop (bestI t l)).take 1 ++ thin t f (l.drop (bestI t l))) from fun hb => by rw [thin, if_neg (by omega)])
    have RR := Lib.hid (fun (wr : World) (hbl : Below w.heap.size w wr) => r.below hbl)
    clear r
    have KK := Lib.hid (fun (b : Nat) (hb1 : 1 ≤ b) (hb2 : b + 1 < l.length) (w : World) (r : Rd cPt 2 w w.heap.size (some ⟨g, o, none⟩) (l.take (b + 1))) => l15Thin_any t t1 t2 f (l.take (b + 1)) (some ⟨g, o, none⟩) c w (by rw [List.length_take]; omega) (by rw [List.length_take]; omega) (by rw [List.length_take]; omega) (by rw [List.length_take]; omega) hc63 (pts_take hp _) r)
    have KD := Lib.hid (fun (b : Nat) (hb1 : 1 ≤ b) (hb2 : b + 1 < l.length) (w : World) (r : Rd cPt 2 w w.heap.size (some ⟨g, o + b * 2, none⟩) (l.drop b)) => l15Thin_any t t1 t2 f (l.drop b) (some ⟨g, o + b * 2, none⟩) (c - b) w (by rw [List.length_drop]; omega) (by rw [List.length_drop]; omega) (by rw [List.length_drop]; omega) (by rw [List.length_drop]; omega) (by omega) (pts_drop hp _) r)
    clear hp h0
    obtain ⟨n, hn⟩ : ∃ n, n = l.length := ⟨_, rfl⟩
    rw [← hn] at h1 h2 h3 hz HOR HS9 KK KD ⊢
    have HN := Lib.hid hn
    clear hn
    have PA := Lib.hid (fun (wr : World) (hbl : Below w.heap.size w wr) => pt_at (RR.out wr hbl) ha)
    have PZ := Lib.hid (fun (wr : World) (hbl : Below w.heap.size w wr) => pt_at (RR.out wr hbl) hz)
    clear ha hz
    have en : IntKind.i64.wrap ((n : Int) - 1) = (((n - 1 : Nat)) : Int) := by rw [show ((n : Int) - 1) = (((n - 1 : Nat)) : Int) by omega]; exact IntWalk.i64_in _ (by omega)
    have en1 : ((n : Int) - 1) = (((n - 1 : Nat)) : Int) := by omega
    have en2 : (((n - 1 : Nat)) : Int) < (n : Int) := by omega
    have en4 : (0 : Int) < (n : Int) := by omega
    have en5 : (0 : Int) ≤ (((n - 1 : Nat)) : Int) := by omega
    have en7 : 0 < n := by omega
    have en8 : n - 1 < n := by omega
    have en9 : ¬ n = 0 := by omega
    have en10 : IntKind.i64.wrap (((n - 1 : Nat)) : Int) = (((n - 1 : Nat)) : Int) := IntWalk.i64_in _ (by omega)
    go_enter Try.func63, Try.ntmps63
    go_wp2_with fail
    go_loopw [6, 7, 8] (fun sb sm i wr => ∃ k : Nat, 1 ≤ k ∧ (k = 1 ∨ k + 1 ≤ n) ∧ i = .int .i64 (k : Int) ∧ sb = .int .i64 (spUp t (a1, a2) (z1, z2) l k).1 ∧ sm = .int .i64 (spUp t (a1, a2) (z1, z2) l k).2 ∧ Below w.heap.size w wr) (fun _ _ i _ => n - (intOf i).toNat)
    case atStart => exact ⟨1, Nat.le_refl _, .inl rfl, rfl, rfl, rfl, Below.refl _ _⟩
    case round =>
      obtain ⟨k, hk1, hk, rfl, rfl, rfl, hbl⟩ := hrel
      have zr := hbl.size
      have ek : IntKind.i64.wrap ((k : Int) + 1) = (k : Int) + 1 := IntWalk.i64_in _ (by omega)
      by_cases hlt : k + 1 < n
      case pos =>
        obtain ⟨⟨u, v⟩, hx⟩ : ∃ a, l[k]? = some a := ⟨l[k]'(by have := HN.out; omega), List.getElem?_eq_getElem (by have := HN.out; omega)⟩
        have vp := pts_all HP.out hx
        have HS := Lib.hid (sp_succ (t := t) (a := (a1, a2)) (z := (z1, z2)) hk1 hx)
        obtain ⟨p4, p5⟩ := pt_at (RR.out _ hbl) hx
        have HXK := Lib.hid hx
        clear hx
        obtain ⟨p0, p1⟩ := PA.out _ hbl
        obtain ⟨p2, p3⟩ := PZ.out _ hbl
        simp only [Nat.zero_mul, Nat.add_zero] at p0 p1
        have lg : g < wr.heap.size := by omega
        have hki : (k : Int) + 1 < (n : Int) := by omega
        have hki2 : (k : Int) < (n : Int) := by omega
        have hki3 : (0 : Int) ≤ (k : Int) := by omega
        have CT := Lib.hid (fun w => l03Turn_any a1 a2 z1 z2 u v w va vz vp)
        have CD := Lib.hid (fun w => l03Sq_any a1 a2 u v w va vp)
        have CN := Lib.hid (fun w => l03Near_any a1 a2 z1 z2 u v t w va vz vp (by omega) t2)
        obtain ⟨bi, hbi⟩ : ∃ b, b = (spUp t (a1, a2) (z1, z2) l k).1 := ⟨_, rfl⟩
        obtain ⟨mo, hmo⟩ : ∃ b, b = (spUp t (a1, a2) (z1, z2) l k).2 := ⟨_, rfl⟩
        rw [← hbi, ← hmo]
        have HE := Lib.hid (show spUp t (a1, a2) (z1, z2) l k = (bi, mo) by rw [hbi, hmo])
        clear hbi hmo
        obtain ⟨D, hD⟩ : ∃ D, D = outB (a1, a2) (z1, z2) (u, v) := ⟨_, rfl⟩
        have HD := Lib.hid hD
        have hD1 : a1 = z1 ∧ a2 = z2 → sqI a1 a2 u v = D := fun h => by rw [hD]; unfold outB; rw [if_pos h]
        have hD2 : ¬ (a1 = z1 ∧ a2 = z2) → mxI (turnI a1 a2 z1 z2 u v) (-turnI a1 a2 z1 z2 u v) = D := fun h => by rw [hD]; unfold outB; rw [if_neg h, mxI_max]
        clear hD
        have HD1 := Lib.hid hD1
        have HD2 := Lib.hid hD2
        clear hD1 hD2
        have htb := turn_bd va vz vp
        generalize turnI a1 a2 z1 z2 u v = tn at *
        generalize sqI a1 a2 u v = sq at *
        obtain ⟨nb, hnb⟩ : ∃ b, b = nearQ a1 a2 z1 z2 u v (t * t) := ⟨_, rfl⟩
        rw [← hnb] at CN
        have HNB := Lib.hid (show nb = nrB t (a1, a2) (z1, z2) (u, v) from hnb)
        clear hnb
        have ew : IntKind.i64.wrap (-tn) = -tn := IntWalk.i64_in _ (by omega)
        clear htb
        go_upto_region 7 with fail
        go_region_held3 (fun w' => (∀ b o, b < wr.heap.size → w'.cell? ⟨b, o, none⟩ = wr.cell? ⟨b, o, none⟩) ∧ wr.heap.size ≤ w'.heap.size)
          (first | ((try dsimp only); exact ⟨fun b o h => (by (repeat (first | with_reducible exact rfl | (with_reducible refine (cell_drew_at _ _).trans ?_) | (with_reducible refine (cell_set_at _ _ (by first | omega | (simp; done) | (simp; omega))).trans ?_) | (with_reducible refine (cell_alloc_at _ _ (by first | omega | (simp; done) | (simp; omega))).trans ?_) | (with_reducible refine (hcwN b o (by first | omega | (simp; done) | (simp; omega))).trans ?_)))), (by first | omega | (simp; done) | (simp; omega))⟩) | fail)
          (first
            | (go_at_call 85; (with_reducible refine (CN.out _).mono ?_); rintro e wN ⟨rfl, hbwN⟩; obtain ⟨hcwN, hfwN⟩ := bcell hbwN; have hzwN := hbwN.size; (try simp only [World.size_drew] at hcwN hfwN hzwN); (try simp only [World.size_alloc] at hcwN hfwN hzwN)))
        all_goals
          have gN : Below w.heap.size w wN := by repeat' (first | with_reducible assumption | with_reducible exact Below.refl _ _ | (with_reducible refine Below.setCell ?_ ?_ _) | (with_reducible refine Below.alloc ?_ ?_ _) | (with_reducible refine Below.drew ?_) | (with_reducible refine below_dr ?_ _) | (with_reducible refine Below.trans ?_ (Below.mono (by with_reducible assumption) ?_)) | omega | (simp; done) | (simp; omega))
          have lgN : g < wN.heap.size := by omega
          obtain ⟨s0, s1⟩ := PA.out _ gN
          obtain ⟨s2, s3⟩ := PZ.out _ gN
          obtain ⟨s4, s5⟩ := pt_at (RR.out _ gN) HXK.out
          simp only [Nat.zero_mul, Nat.add_zero] at s0 s1
          clear hcwN hfwN hbwN
          cases nb
          case true =>
            have HR := Lib.hid (show stp t (a1, a2) (z1, z2) (bi, mo) k (u, v) = (bi, mo) from stp_near _ _ HNB.out.symm)
            go_wp2_with fail
            go_roundw
            case rel => exact ⟨k + 1, by omega, .inr (by omega), by go_num, by rw [← HS.out, HE.out, HR.out], by rw [← HS.out, HE.out, HR.out], gN⟩
            case measure => simp [intOf]; omega
          case false =>
            go_upto_region 8 with fail
            go_region_held3 (fun w' => (∀ b o, b < wN.heap.size → w'.cell? ⟨b, o, none⟩ = wN.cell? ⟨b, o, none⟩) ∧ wN.heap.size ≤ w'.heap.size)
              (first | ((try dsimp only); exact ⟨fun b o h => (by (repeat (first | with_reducible exact rfl | (with_reducible refine (cell_drew_at _ _).trans ?_) | (with_reducible refine (cell_set_at _ _ (by first | omega | (simp; done) | (simp; omega))).trans ?_) | (with_reducible refine (cell_alloc_at _ _ (by first | omega | (simp; done) | (simp; omega))).trans ?_) | (with_reducible refine (hcwT b o (by first | omega | (simp; done) | (simp; omega))).trans ?_)))), (by first | omega | (simp; done) | (simp; omega))⟩) | fail)
              (first
                | (go_at_call 86; (with_reducible refine (CT.out _).mono ?_); rintro e wT ⟨rfl, hbwT⟩; obtain ⟨hcwT, hfwT⟩ := bcell hbwT; have hzwT := hbwT.size; (try simp only [World.size_drew] at hcwT hfwT hzwT); (try simp only [World.size_alloc] at hcwT hfwT hzwT)))
            all_goals
              have gT : Below w.heap.size w wT := by repeat' (first | with_reducible assumption | with_reducible exact Below.refl _ _ | (with_reducible refine Below.setCell ?_ ?_ _) | (with_reducible refine Below.alloc ?_ ?_ _) | (with_reducible refine Below.drew ?_) | (with_reducible refine below_dr ?_ _) | (with_reducible refine Below.trans ?_ (Below.mono (by with_reducible assumption) ?_)) | omega | (simp; done) | (simp; omega))
              have lgT : g < wT.heap.size := by omega
              obtain ⟨v0, v1⟩ := PA.out _ gT
              obtain ⟨v2, v3⟩ := PZ.out _ gT
              obtain ⟨v4, v5⟩ := pt_at (RR.out _ gT) HXK.out
              simp only [Nat.zero_mul, Nat.add_zero] at v0 v1
              clear hcwT hfwT hbwT
              go_wp2_with fail
              refine (l00Max_any _ _ _).mono ?_
              rintro e wM ⟨rfl, hwM⟩
              subst hwM
              by_cases he : a1 = z1 ∧ a2 = z2
              case pos =>
                have EQ := eql_yes he
                have e6 := HD1.out he
                rw [e6] at CD
                clear he e6
                go_upto_region 10 with fail
                go_region
                go_upto_region 11 with fail
                go_region_held3 (fun w' => (∀ b o, b < wT.heap.size → w'.cell? ⟨b, o, none⟩ = wT.cell? ⟨b, o, none⟩) ∧ wT.heap.size ≤ w'.heap.size)
                  (first | ((try dsimp only); exact ⟨fun b o h => (by (repeat (first | with_reducible exact rfl | (with_reducible refine (cell_drew_at _ _).trans ?_) | (with_reducible refine (cell_set_at _ _ (by first | omega | (simp; done) | (simp; omega))).trans ?_) | (with_reducible refine (cell_alloc_at _ _ (by first | omega | (simp; done) | (simp; omega))).trans ?_) | (with_reducible refine (hcwD b o (by first | omega | (simp; done) | (simp; omega))).trans ?_)))), (by first | omega | (simp; done) | (simp; omega))⟩) | fail)
                  (first
                    | (go_at_call 87; (with_reducible refine (CD.out _).mono ?_); rintro e wD ⟨rfl, hbwD⟩; obtain ⟨hcwD, hfwD⟩ := bcell hbwD; have hzwD := hbwD.size; (try simp only [World.size_drew] at hcwD hfwD hzwD); (try simp only [World.size_alloc] at hcwD hfwD hzwD)))
                all_goals
                  have gD : Below w.heap.size w wD := by repeat' (first | with_reducible assumption | with_reducible exact Below.refl _ _ | (with_reducible refine Below.setCell ?_ ?_ _) | (with_reducible refine Below.alloc ?_ ?_ _) | (with_reducible refine Below.drew ?_) | (with_reducible refine below_dr ?_ _) | (with_reducible refine Below.trans ?_ (Below.mono (by with_reducible assumption) ?_)) | omega | (simp; done) | (simp; omega))
                  clear hcwD hfwD hbwD EQ
                  by_cases hm : mo < D
                  case pos =>
                    have hd : decide (mo < D) = true := decide_eq_true hm
                    have hd2 : decide (D > mo) = true := decide_eq_true hm
                    have HR := Lib.hid (show stp t (a1, a2) (z1, z2) (bi, mo) k (u, v) = ((k : Int), D) by unfold stp; rw [if_pos ⟨by rw [← HD.out]; exact hm, HNB.out.symm⟩, ← HD.out])
                    clear hm
                    go_wp2_with fail
                    go_roundw
                    case rel => exact ⟨k + 1, by omega, .inr (by omega), by go_num, by rw [← HS.out, HE.out, HR.out], by rw [← HS.out, HE.out, HR.out], gD⟩
                    case measure => simp [intOf]; omega
                  case neg =>
                    have hd : decide (mo < D) = false := decide_eq_false hm
                    have hd2 : decide (D > mo) = false := decide_eq_false hm
                    have HR := Lib.hid (show stp t (a1, a2) (z1, z2) (bi, mo) k (u, v) = (bi, mo) by unfold stp; rw [if_neg (fun h => hm (by rw [HD.out]; exact h.1))])
                    clear hm
                    go_wp2_with fail
                    go_roundw
                    case rel => exact ⟨k + 1, by omega, .inr (by omega), by go_num, by rw [← HS.out, HE.out, HR.out], by rw [← HS.out, HE.out, HR.out], gD⟩
                    case measure => simp [intOf]; omega
              case neg =>
                have EQ := eql_no he
                have e6 := HD2.out he
                rw [e6]
                clear he e6
                by_cases hm : mo < D
                case pos =>
                  have hd : decide (mo < D) = true := decide_eq_true hm
                  have hd2 : decide (D > mo) = true := decide_eq_true hm
                  have HR := Lib.hid (show stp t (a1, a2) (z1, z2) (bi, mo) k (u, v) = ((k : Int), D) by unfold stp; rw [if_pos ⟨by rw [← HD.out]; exact hm, HNB.out.symm⟩, ← HD.out])
                  clear hm
                  go_upto_region 10 with fail
                  go_region
                  go_wp2_with fail
                  go_roundw
                  case rel => exact ⟨k + 1, by omega, .inr (by omega), by go_num, by rw [← HS.out, HE.out, HR.out], by rw [← HS.out, HE.out, HR.out], by repeat' (first | with_reducible assumption | with_reducible exact Below.refl _ _ | (with_reducible refine Below.setCell ?_ ?_ _) | (with_reducible refine Below.alloc ?_ ?_ _) | (with_reducible refine Below.drew ?_) | (with_reducible refine below_dr ?_ _) | (with_reducible refine Below.trans ?_ (Below.mono (by with_reducible assumption) ?_)) | omega | (simp; done) | (simp; omega))⟩
                  case measure => simp [intOf]; omega
                case neg =>
                  have hd : decide (mo < D) = false := decide_eq_false hm
                  have hd2 : decide (D > mo) = false := decide_eq_false hm
                  have HR := Lib.hid (show stp t (a1, a2) (z1, z2) (bi, mo) k (u, v) = (bi, mo) by unfold stp; rw [if_neg (fun h => hm (by rw [HD.out]; exact h.1))])
                  clear hm
                  go_upto_region 10 with fail
                  go_region
                  go_wp2_with fail
                  go_roundw
                  case rel => exact ⟨k + 1, by omega, .inr (by omega), by go_num, by rw [← HS.out, HE.out, HR.out], by rw [← HS.out, HE.out, HR.out], by repeat' (first | with_reducible assumption | with_reducible exact Below.refl _ _ | (with_reducible refine Below.setCell ?_ ?_ _) | (with_reducible refine Below.alloc ?_ ?_ _) | (with_reducible refine Below.drew ?_) | (with_reducible refine below_dr ?_ _) | (with_reducible refine Below.trans ?_ (Below.mono (by with_reducible assumption) ?_)) | omega | (simp; done) | (simp; omega))⟩
                  case measure => simp [intOf]; omega
      case neg =>
        have HB := Lib.hid (show (spUp t (a1, a2) (z1, z2) l k).1 = s9 by rw [← HS9.out]; rcases Nat.eq_or_lt_of_le hk1 with h | h; (rw [← h]; rcases (by omega : n = 1 ∨ n = 2) with h9 | h9 <;> rw [h9] <;> rfl); (rw [show n - 1 = k by omega]))
        rcases HOR.out with ⟨hs, hb0⟩ | ⟨hs, hb1, hb2⟩
        case inl =>
          have HTX := Lib.hid (HTH0.out hb0)
          have HB2 := HB.out
          rw [hs] at HB2
          clear hb0 hs
          unfold KpRet
          rw [HB2]
          clear HB2 HB
          go_wp2_with fail
          go_ret
          exact ⟨some ⟨wr.heap.size, 0, none⟩, 0, by rw [HTX.out]; rfl, by rw [HTX.out]; exact own_nil_new2 wr _ (by omega), by repeat' (first | with_reducible assumption | with_reducible exact Below.refl _ _ | (with_reducible refine Below.setCell ?_ ?_ _) | (with_reducible refine Below.alloc ?_ ?_ _) | (with_reducible refine Below.drew ?_) | (with_reducible refine below_dr ?_ _) | (with_reducible refine Below.trans ?_ (Below.mono (by with_reducible assumption) ?_)) | omega | (simp; done) | (simp; omega))⟩
        case inr =>
          have HT := HTH1.out hb1
          have HB2 := HB.out
          rw [hs] at HB2
          rw [HB2]
          clear HB2 HB hs HOR HS9 HTH0 HTH1
          have K1 := Lib.hid (KK.out _ hb1 hb2)
          have K2 := Lib.hid (KD.out _ hb1 hb2)
          clear KK KD
          generalize bestI t l = b at *
          obtain ⟨⟨u, v⟩, hx⟩ : ∃ a, l[b]? = some a := ⟨l[b]'(by have := HN.out; omega), List.getElem?_eq_getElem (by have := HN.out; omega)⟩
          have hmid := mid_pt hx
          have HX := Lib.hid hx
          rw [hmid] at HT
          have HTX := Lib.hid HT
          clear hx hmid HT
          have r1 : Rd cPt 2 wr wr.heap.size (some ⟨g, o, none⟩) (l.take (b + 1)) := (rd_take (RR.out _ hbl) _).more zr
          have rf : Rd cPt 2 wr w.heap.size (some ⟨g, o, none⟩) l := RR.out _ hbl
          have hlt1 : (l.take (b + 1)).length = b + 1 := by have := HN.out; rw [List.length_take]; omega
          have hld : (l.drop b).length = n - b := by have := HN.out; rw [List.length_drop]; omega
          have tl1 := thin_len t f (l.take (b + 1))
          have tl2 := thin_len t f (l.drop b)
          rw [hlt1] at K1 tl1
          rw [hld] at K2 tl2
          have hl0 := HN.out
          have HT1 := Lib.hid (show (thin t f (l.take (b + 1))).length ≤ 1000 by omega)
          have HT2 := Lib.hid (show (thin t f (l.drop b)).length ≤ 1000 by omega)
          clear tl1 tl2 hlt1 hld hl0
          have RD2 := Lib.hid (fun (wx : World) (h : Below w.heap.size w wx) => (rd_drop (RR.out wx h) b))
          generalize thin t f (l.take (b + 1)) = T1 at *
          generalize thin t f (l.drop b) = T2 at *
          generalize l.take (b + 1) = l1 at *
          generalize l.drop b = l2 at *
          have eb : IntKind.i64.wrap ((b : Int) + 1) = (b : Int) + 1 := IntWalk.i64_in _ (by omega)
          have eb1 : ((b : Int) + 1).toNat = b + 1 := by omega
          have eb2 : (0 : Int) ≤ (b : Int) + 1 := by omega
          have eb3 : (b : Int) + 1 ≤ (c : Int) := by omega
          have eb4 : (b : Int) ≤ (n : Int) := by omega
          have eb5 : (b : Int) ≤ (c : Int) := by omega
          have eb7 : (b : Int) < (n : Int) := by omega
          have eb8 : decide ((b : Int) < 0) = false := by simp
          unfold KpRet
          go_wp2_with fail
          refine (K1.out _ r1).mono ?_
          intro e w2 hq
          obtain ⟨A1, c1, rfl, ow1, hb2'⟩ := hq
          have z2 := hb2'.size
          have g2 : Below w.heap.size w w2 := hbl.trans (hb2'.mono zr)
          replace ow1 := own_base (base := w.heap.size) ow1 zr
          obtain ⟨p4, p5⟩ := pt_at (RR.out _ g2) HX.out
          have lg : g < w2.heap.size := by omega
          obtain ⟨m1, hm1⟩ : ∃ m, m = T1.length := ⟨_, rfl⟩
          rw [← hm1] at ow1 HT1 ⊢
          have HM1 := Lib.hid hm1
          clear hm1 hb2' r1 rf K1
          have HOW := Lib.hid (World.ownsRow.alloc ow1 (.cells #[.int .i64 u, .int .i64 v] 26))
          have HRB := Lib.hid (fun q (hq : (Value.slice A1 m1 c1).ownBlock = some q) => own_block ow1 hq)
          have HRD := Lib.hid (show Reads (w2.alloc (.cells #[.int .i64 u, .int .i64 v] 26)) (w2.heap.size + 1) 2 (some ⟨w2.heap.size, 0, none⟩) 1 [.int .i64 u, .int .i64 v] by have := Reads.of_own (own_one (w := w2) (base := 0) (e := 26) (cs := #[.int .i64 u, .int .i64 v]) (s := 2) (Nat.zero_le _) rfl); simpa using this)
          have HMX := Lib.hid (show m1 + 1 ≤ maxLen by have := HT1.out; unfold maxLen; omega)
          have HBY := Lib.hid (show (m1 + 1) * 16 ≤ 140737488355328 by have := HT1.out; omega)
          have HBS := Lib.hid (show w.heap.size ≤ (w2.alloc (.cells #[.int .i64 u, .int .i64 v] 26)).heap.size by rw [World.size_alloc]; omega)
          have HGA := Lib.hid (show Below w.heap.size w (w2.alloc (.cells #[.int .i64 u, .int .i64 v] 26)) from g2.alloc (by omega) _)
          clear ow1
          go_wp2_with (at_builtin; refine wpList_append_any _ rfl (.tmp 81) (.tmp 86) _ rfl (w.heap.size) 26 i1 _ 2 16 Try.underlying53 HI1.out HZ01.out HZ11.out HZ21.out rfl (by omega) (.slice A1 m1 c1) m1 _ rfl HOW.out (w2.heap.size + 1) (some ⟨w2.heap.size, 0, none⟩) 1 1 [.int .i64 u, .int .i64 v] rfl HRD.out (by intro z hz; simp at hz; rcases hz with rfl | rfl <;> rfl) HMX.out HBY.out HBS.out ?_; intro v9 w9 hown9 hg9 hat9; obtain ⟨A9, c9, rfl⟩ := pslice_of hown9; have HOWN9 := Lib.hid hown9; have HG9 := Lib.hid hg9; clear hown9 hg9 hat9)
          have g9 : Below w.heap.size w w9 := below_of_grown HGA.out HG9.out HBS.out (fun q hq => by have := HRB.out q hq; omega)
          have z9 := g9.size
          have ow9 : w9.ownsRow w.heap.size 26 2 (.slice A9 (m1 + 1) c9) (m1 + 1) (cellsF cPt (T1 ++ [(u, v)])) := by rw [← cellsF_snoc]; exact HOWN9.out
          clear HOWN9 HOW HRD HMX HBY HBS HGA p4 p5 lg HRB
          go_wp2_with fail
          refine (K2.out _ ((RD2.out w9 g9).more z9)).mono ?_
          intro e w10 hq
          obtain ⟨A2, c2, rfl, ow2, hb10⟩ := hq
          have z10 := hb10.size
          have g10 : Below w.heap.size w w10 := g9.trans (hb10.mono z9)
          replace ow9 := own_stays ow9 hb10
          have HRD := Lib.hid (reads_pts0 (Rd.of_own (fun a => cPt_len a) (by omega) ow2 (Nat.le_refl _)))
          obtain ⟨m2, hm2⟩ : ∃ m, m = T2.length := ⟨_, rfl⟩
          rw [← hm2] at HRD HT2 ⊢
          have HM2 := Lib.hid hm2
          have HOW := Lib.hid ow9
          have HRB := Lib.hid (fun q (hq : (Value.slice A9 (m1 + 1) c9).ownBlock = some q) => own_block ow9 hq)
          have HMX := Lib.hid (show m1 + 1 + m2 ≤ maxLen by have := HT1.out; have := HT2.out; unfold maxLen; omega)
          have HBY := Lib.hid (show (m1 + 1 + m2) * 16 ≤ 140737488355328 by have := HT1.out; have := HT2.out; omega)
          have HBS := Lib.hid (show w.heap.size ≤ w10.heap.size by omega)
          clear hm2 ow9 ow2 hb10 K2 g9 z9
          go_wp2_with (at_builtin; refine wpList_append_any _ rfl (.tmp 88) (.tmp 93) _ rfl (w.heap.size) 26 i1 _ 2 16 Try.underlying53 HI1.out HZ01.out HZ11.out HZ21.out rfl (by omega) (.slice A9 (m1 + 1) c9) (m1 + 1) _ rfl HOW.out _ A2 m2 c2 (cellsF cPt T2) rfl HRD.out (pall_one _) HMX.out HBY.out HBS.out ?_; intro v9 w11 hown9 hg9 hat9; obtain ⟨A11, c11, rfl⟩ := pslice_of hown9; have HOWN11 := Lib.hid hown9; have HG11 := Lib.hid hg9; clear hown9 hg9 hat9)
          have g11 : Below w.heap.size w w11 := below_of_grown g10 HG11.out HBS.out (fun q hq => by have := HRB.out q hq; omega)
          have hL : T1 ++ ([(u, v)] ++ T2) = (T1 ++ [(u, v)]) ++ T2 := by simp
          have hl3 : (T1 ++ ([(u, v)] ++ T2)).length = m1 + 1 + m2 := by rw [hL, List.length_append, List.length_append, ← HM1.out, ← HM2.out]; rfl
          have HL3 := Lib.hid hl3
          have HLL := Lib.hid hL
          clear hl3 hL
          go_ret
          refine ⟨A11, c11, ?_, ?_, g11⟩
          · rw [HTX.out, HL3.out]; rfl
          · rw [HTX.out, HL3.out, HLL.out]; have h9 := HOWN11.out; rw [show cellsF cPt (T1 ++ [(u, v)]) ++ cellsF cPt T2 = cellsF cPt (T1 ++ [(u, v)] ++ T2) by unfold cellsF; exact List.flatMap_append.symm] at h9; exact h9
end Go.Proofs.Ytdeemhfhmgnbgaa
