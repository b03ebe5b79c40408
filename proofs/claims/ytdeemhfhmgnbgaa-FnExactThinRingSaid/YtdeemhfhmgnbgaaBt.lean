/- Walks: the points of a path that are kept, the program's side. -/
import Derived.Test.YtdeemhfhmgnbgaaBs
namespace Go.Proofs.Ytdeemhfhmgnbgaa
open Go.RowKit
set_option linter.unusedVariables false
theorem pts_of {l : List APt} (h : ∀ (k : Nat) (x y : Int), l[k]? = some (x, y) → okB x y = true) : ptsUp l l.length = true := by
  unfold ptsUp
  rw [List.all_eq_true]
  intro k hk
  rw [List.mem_range] at hk
  unfold pOk
  rcases hx : l[k]? with _ | ⟨x, y⟩
  · rfl
  · exact h k x y hx
theorem pts_take {l : List APt} (h : ptsUp l l.length = true) (j : Nat) : ptsUp (l.take j) (l.take j).length = true :=
  pts_of fun k x y hk => by
    rw [List.getElem?_take] at hk
    split at hk
    · exact pts_all h hk
    · cases hk
theorem pts_drop {l : List APt} (h : ptsUp l l.length = true) (j : Nat) : ptsUp (l.drop j) (l.drop j).length = true :=
  pts_of fun k x y hk => by rw [List.getElem?_drop] at hk; exact pts_all h hk
theorem rd_take {w : World} {B g o : Nat} {l : List APt} (r : Rd cPt 2 w B (some ⟨g, o, none⟩) l) (j : Nat) : Rd cPt 2 w B (some ⟨g, o, none⟩) (l.take j) := by
  rcases r with rfl | ⟨g', o', hA, hg, h⟩
  · left; simp
  · refine .inr ⟨g', o', hA, hg, fun k a hk => h k a ?_⟩
    rw [List.getElem?_take] at hk
    split at hk
    · exact hk
    · cases hk
theorem rd_drop {w : World} {B g o : Nat} {l : List APt} (r : Rd cPt 2 w B (some ⟨g, o, none⟩) l) (j : Nat) : Rd cPt 2 w B (some ⟨g, o + j * 2, none⟩) (l.drop j) := by
  rcases r with rfl | ⟨g', o', hA, hg, h⟩
  · left; simp
  · obtain ⟨rfl, rfl⟩ : g = g' ∧ o = o' := by injection hA with h; injection h with h1 h2; exact ⟨h1, h2⟩
    refine .inr ⟨g, o + j * 2, rfl, hg, fun k a hk i u hu => ?_⟩
    rw [List.getElem?_drop] at hk
    have h2 := h (j + k) a hk i u hu
    rw [show o + (j + k) * 2 + i = o + j * 2 + k * 2 + i by omega] at h2
    exact h2
def KpRet (L : List APt) (w : World) (e : Ending) (w' : World) : Prop :=
  ∃ (A' : Option Addr) (c' : Nat), e = .returned (.slice A' L.length c') ∧ w'.ownsRow w.heap.size 26 2 (.slice A' L.length c') L.length (cellsF cPt L) ∧ Below w.heap.size w w'
theorem rd_rows {w : World} {q B : Nat} {ps : List ARing} (hq : q < B) (h : ∀ (k : Nat) (a : ARing), ps[k]? = some a → w.cell? ⟨q, k, none⟩ = some (.slice a.1 a.2.2.length a.2.1)) : Rd cRing 1 w B (some ⟨q, 0, none⟩) ps := by
  refine .inr ⟨q, 0, rfl, hq, fun k a hk i u hu => ?_⟩
  rcases i with _ | i
  · simp only [cRing, List.getElem?_cons_zero, Option.some.injEq] at hu
    subst hu
    rw [show 0 + k * 1 + 0 = k by omega]; exact h k a hk
  · simp [cRing] at hu
theorem concat3 (A1 A2 A3 : Option Addr) (c1 c2 c3 q : Nat) (l1 l2 l3 : List APt) (w : World) (hq : q < w.heap.size) (k0 : w.cell? ⟨q, 0, none⟩ = some (.slice A1 l1.length c1)) (k1 : w.cell? ⟨q, 1, none⟩ = some (.slice A2 l2.length c2)) (k2 : w.cell? ⟨q, 2, none⟩ = some (.slice A3 l3.length c3)) (h1 : l1.length ≤ 1000) (h2 : l2.length ≤ 1000) (h3 : l3.length ≤ 1000)
    (r1 : Rd cPt 2 w w.heap.size A1 l1) (r2 : Rd cPt 2 w w.heap.size A2 l2) (r3 : Rd cPt 2 w w.heap.size A3 l3) (L : List APt) (hL : L = l1 ++ (l2 ++ l3)) :
    Calls Try.prog 66 #[.slice (some ⟨q, 0, none⟩) 3 3] w (KpRet L w) := by
  subst hL
  have h := concatPts_any [(A1, c1, l1), (A2, c2, l2), (A3, c3, l3)] (some ⟨q, 0, none⟩) 3 w (by simp)
    (fun i a hi => by rcases i with _ | _ | _ | i <;> simp at hi <;> subst hi <;> assumption)
    (rd_rows hq (fun k a hk => by rcases k with _ | _ | _ | k <;> simp at hk <;> subst hk <;> assumption))
    (fun i a hi => by rcases i with _ | _ | _ | i <;> simp at hi <;> subst hi <;> assumption)
  have e : paUp [(A1, c1, l1), (A2, c2, l2), (A3, c3, l3)] [(A1, c1, l1), (A2, c2, l2), (A3, c3, l3)].length = l1 ++ (l2 ++ l3) := by simp [paUp]
  rw [e] at h
  exact h
theorem concat2 (A1 A2 : Option Addr) (c1 c2 q : Nat) (l1 l2 : List APt) (w : World) (hq : q < w.heap.size) (k0 : w.cell? ⟨q, 0, none⟩ = some (.slice A1 l1.length c1)) (k1 : w.cell? ⟨q, 1, none⟩ = some (.slice A2 l2.length c2)) (h1 : l1.length ≤ 1000) (h2 : l2.length ≤ 1000)
    (r1 : Rd cPt 2 w w.heap.size A1 l1) (r2 : Rd cPt 2 w w.heap.size A2 l2) (L : List APt) (hL : L = l1 ++ l2) :
    Calls Try.prog 66 #[.slice (some ⟨q, 0, none⟩) 2 2] w (KpRet L w) := by
  subst hL
  have h := concatPts_any [(A1, c1, l1), (A2, c2, l2)] (some ⟨q, 0, none⟩) 2 w (by simp)
    (fun i a hi => by rcases i with _ | _ | i <;> simp at hi <;> subst hi <;> assumption)
    (rd_rows hq (fun k a hk => by rcases k with _ | _ | k <;> simp at hk <;> subst hk <;> assumption))
    (fun i a hi => by rcases i with _ | _ | i <;> simp at hi <;> subst hi <;> assumption)
  have e : paUp [(A1, c1, l1), (A2, c2, l2)] [(A1, c1, l1), (A2, c2, l2)].length = l1 ++ l2 := by simp [paUp]
  rw [e] at h
  exact h
set_option maxRecDepth 100000 in
set_option maxHeartbeats 12800000 in
theorem keptOf_any (t : Int) (t1 : 1 ≤ t) (t2 : t ≤ 262144) : ∀ (f : Nat) (l : List APt) (A : Option Addr) (c : Nat) (w : World), l.length ≤ f → 1 ≤ l.length → l.length ≤ 1000 → l.length ≤ c → c ≤ 9223372036854775807 → ptsUp l l.length = true → Rd cPt 2 w w.heap.size A l →
    Calls Try.prog 67 #[.slice A l.length c, .int .i64 t] w (KpRet (thin t f l) w)
  | 0, l, A, c, w, h0, h1, _, _, _, _, _ => absurd h0 (by omega)
  | f + 1, l, A, c, w, h0, h1, h2, h3, hc63, hp, r => by
    have CO := Lib.hid (fun w r => outermost_any l t A c w h1 h2 hp t1 t2 r)
    rcases best_le t l with hb | ⟨hb1, hb2⟩
    case inl =>
      have hL : thin t (f + 1) l = [] := by unfold thin; rw [if_pos hb]
      rw [hL]
      rw [hb] at CO
      clear hL hb
      unfold KpRet
      obtain ⟨n, hn⟩ : ∃ n, n = l.length := ⟨_, rfl⟩
      rw [← hn] at CO ⊢
      clear hn h0 h1 h2 h3 hp
      go_enter Try.func67, Try.ntmps67
      go_wp2_with fail
      refine (CO.out _ r).mono ?_
      rintro e w1 ⟨rfl, hb1⟩
      go_wp2_with fail
      go_ret
      exact ⟨none, 0, rfl, World.ownsRow_nil _ _ _ _, by repeat' (first | with_reducible assumption | with_reducible exact Below.refl _ _ | (with_reducible refine Below.setCell ?_ ?_ _) | (with_reducible refine Below.alloc ?_ ?_ _) | (with_reducible refine Below.drew ?_) | (with_reducible refine below_dr ?_ _) | (with_reducible refine Below.trans ?_ (Below.mono (by with_reducible assumption) ?_)) | omega | (simp; done) | (simp; omega))⟩
    case inr =>
      have hne : ¬ bestI t l = 0 := by omega
      have hL : thin t (f + 1) l = thin t f (l.take (bestI t l + 1)) ++ ((l.drop (bestI t l)).take 1 ++ thin t f (l.drop (bestI t l))) := by rw [thin, if_neg hne]
      rw [hL]
      clear hL hne
      generalize bestI t l = b at *
      obtain ⟨x0, hx0⟩ : ∃ a, l[0]? = some a := ⟨l[0]'(by omega), List.getElem?_eq_getElem (by omega)⟩
      obtain ⟨g, o, rfl, hg, -⟩ := r.elem hx0
      clear hx0
      have hlt1 : (l.take (b + 1)).length = b + 1 := by rw [List.length_take]; omega
      have hld : (l.drop b).length = l.length - b := List.length_drop ..
      have hlm : ((l.drop b).take 1).length = 1 := by rw [List.length_take]; omega
      have tl1 := thin_len t f (l.take (b + 1))
      have tl2 := thin_len t f (l.drop b)
      have K1 := Lib.hid (fun w r => keptOf_any t t1 t2 f (l.take (b + 1)) (some ⟨g, o, none⟩) c w (by omega) (by omega) (by omega) (by omega) hc63 (pts_take hp _) r)
      have K2 := Lib.hid (fun w r => keptOf_any t t1 t2 f (l.drop b) (some ⟨g, o + b * 2, none⟩) (c - b) w (by omega) (by omega) (by omega) (by omega) (by omega) (pts_drop hp _) r)
      rw [hlt1] at K1 tl1
      rw [hld] at K2 tl2
      have r1 : Rd cPt 2 w w.heap.size (some ⟨g, o, none⟩) (l.take (b + 1)) := rd_take r _
      have r2 : Rd cPt 2 w w.heap.size (some ⟨g, o + b * 2, none⟩) (l.drop b) := rd_drop r _
      have rm : Rd cPt 2 w w.heap.size (some ⟨g, o + b * 2, none⟩) ((l.drop b).take 1) := rd_take r2 _
      generalize thin t f (l.take (b + 1)) = T1 at *
      generalize thin t f (l.drop b) = T2 at *
      generalize l.take (b + 1) = l1 at *
      generalize hld2 : l.drop b = l2 at *
      generalize l2.take 1 = lm at *
      obtain ⟨n, hn⟩ : ∃ n, n = l.length := ⟨_, rfl⟩
      rw [← hn] at CO K2 tl2 hb2 h3 h2 ⊢
      clear hn h0 h1 hp hlt1 hld hld2
      have hlM := Lib.hid hlm
      have HT1 := Lib.hid (show T1.length ≤ 1000 by omega)
      have HT2 := Lib.hid (show T2.length ≤ 1000 by omega)
      clear hlm tl1 tl2
      obtain ⟨L3, hL3⟩ : ∃ L, L = T1 ++ (lm ++ T2) := ⟨_, rfl⟩
      rw [← hL3]
      have HL3 := Lib.hid hL3
      clear hL3
      have eb : IntKind.i64.wrap ((b : Int) + 1) = (b : Int) + 1 := IntWalk.i64_in _ (by omega)
      have eb0 : ((b : Int) == 0) = false := by simp; omega
      have eb1 : ((b : Int) + 1).toNat = b + 1 := by omega
      have eb2 : (0 : Int) ≤ (b : Int) + 1 := by omega
      have eb3 : (b : Int) + 1 ≤ (c : Int) := by omega
      have eb4 : (b : Int) ≤ (n : Int) := by omega
      have eb5 : (b : Int) ≤ (c : Int) := by omega
      have eb6 : (b : Int) ≤ (b : Int) + 1 := by omega
      go_enter Try.func67, Try.ntmps67
      go_wp2_with fail
      refine (CO.out _ r).mono ?_
      rintro e w1 ⟨rfl, hb1'⟩
      have z1 := hb1'.size
      have q1 := (r1.below hb1').more z1
      have q2 := (r2.below hb1').more z1
      have qm := (rm.below hb1').more z1
      clear r r1 r2 rm CO
      go_upto_region 4 with fail
      go_region_held3 (fun w' => (∀ b o, b < w1.heap.size → w'.cell? ⟨b, o, none⟩ = w1.cell? ⟨b, o, none⟩) ∧ w1.heap.size ≤ w'.heap.size)
        (first | ((try dsimp only); exact ⟨fun b o h => (by (repeat (first | with_reducible exact rfl | (with_reducible refine (cell_drew_at _ _).trans ?_) | (with_reducible refine (cell_set_at _ _ (by first | omega | (simp; done) | (simp; omega))).trans ?_) | (with_reducible refine (cell_alloc_at _ _ (by first | omega | (simp; done) | (simp; omega))).trans ?_) | (with_reducible refine (hcwA b o (by first | omega | (simp; done) | (simp; omega))).trans ?_) | (with_reducible refine (hcwB b o (by first | omega | (simp; done) | (simp; omega))).trans ?_) | (with_reducible refine (hcwC b o (by first | omega | (simp; done) | (simp; omega))).trans ?_)))), (by first | omega | (simp; done) | (simp; omega))⟩) | fail)
        (first
          | (go_at_call 67; (with_reducible refine (K1.out _ ?_).mono ?_); (focus ((refine Rd.more (B := w1.heap.size) ?_ (by first | exact Nat.le_refl _ | omega | ((try simp only [World.size_drew]); (try simp only [World.size_alloc]); (try simp only [World.size_drew]); omega)); (repeat' (first | with_reducible assumption | (with_reducible refine Rd.drew ?_) | (with_reducible refine Rd.carry ?_ (by with_reducible assumption) ?_) | (with_reducible refine Rd.alloc ?_ ?_ _) | (with_reducible refine Rd.setCell ?_ ?_ _) | omega | (simp; done) | (simp; omega)))))); intro e wA hq; obtain ⟨A1, c1, rfl, ow1, hbwA⟩ := hq; obtain ⟨hcwA, hfwA⟩ := bcell hbwA; have hzwA := hbwA.size; (try simp only [World.size_drew] at hcwA hfwA hzwA); (try simp only [World.size_alloc] at hcwA hfwA hzwA))
          | (go_at_call 67; (with_reducible refine (K2.out _ ?_).mono ?_); (focus ((refine Rd.more (B := w1.heap.size) ?_ (by first | exact Nat.le_refl _ | omega | ((try simp only [World.size_drew]); (try simp only [World.size_alloc]); (try simp only [World.size_drew]); omega)); (repeat' (first | with_reducible assumption | (with_reducible refine Rd.drew ?_) | (with_reducible refine Rd.carry ?_ (by with_reducible assumption) ?_) | (with_reducible refine Rd.alloc ?_ ?_ _) | (with_reducible refine Rd.setCell ?_ ?_ _) | omega | (simp; done) | (simp; omega)))))); intro e wB hq; obtain ⟨A2, c2, rfl, ow2, hbwB⟩ := hq; obtain ⟨hcwB, hfwB⟩ := bcell hbwB; have hzwB := hbwB.size; (try simp only [World.size_drew] at hcwB hfwB hzwB); (try simp only [World.size_alloc] at hcwB hfwB hzwB))
          | (go_at_call 66; (refine (concat3 A1 (some ⟨g, o + b * 2, none⟩) A2 c1 (c - b) c2 _ T1 lm T2 _ (by first | (simp; done) | (simp; omega)) (by simp [go_sem]) (by rw [hlM.out]; simp [go_sem]) (by simp [go_sem]) HT1.out (by rw [hlM.out]; omega) HT2.out ?_ ?_ ?_ L3 HL3.out).mono ?_); (focus ((refine Rd.more (B := wA.heap.size) ?_ (by first | exact Nat.le_refl _ | omega | ((try simp only [World.size_drew]); (try simp only [World.size_alloc]); omega)); have h9 := Rd.of_own (fun a => cPt_len a) (by omega) ow1 (Nat.le_refl _); (repeat' (first | with_reducible assumption | (with_reducible refine Rd.drew ?_) | (with_reducible refine Rd.carry ?_ (by with_reducible assumption) ?_) | (with_reducible refine Rd.alloc ?_ ?_ _) | (with_reducible refine Rd.setCell ?_ ?_ _) | omega | (simp; done) | (simp; omega)))))); (focus ((refine Rd.more (B := w1.heap.size) ?_ (by first | exact Nat.le_refl _ | omega | ((try simp only [World.size_drew]); (try simp only [World.size_alloc]); (try simp only [World.size_drew]); omega)); (repeat' (first | with_reducible assumption | (with_reducible refine Rd.drew ?_) | (with_reducible refine Rd.carry ?_ (by with_reducible assumption) ?_) | (with_reducible refine Rd.alloc ?_ ?_ _) | (with_reducible refine Rd.setCell ?_ ?_ _) | omega | (simp; done) | (simp; omega)))))); (focus ((refine Rd.more (B := wB.heap.size) ?_ (by first | exact Nat.le_refl _ | omega | ((try simp only [World.size_drew]); (try simp only [World.size_alloc]); omega)); have h9 := Rd.of_own (fun a => cPt_len a) (by omega) ow2 (Nat.le_refl _); (repeat' (first | with_reducible assumption | (with_reducible refine Rd.drew ?_) | (with_reducible refine Rd.carry ?_ (by with_reducible assumption) ?_) | (with_reducible refine Rd.alloc ?_ ?_ _) | (with_reducible refine Rd.setCell ?_ ?_ _) | omega | (simp; done) | (simp; omega)))))); intro e wC hq; obtain ⟨A3, c3, rfl, ow3, hbwC⟩ := hq; obtain ⟨hcwC, hfwC⟩ := bcell hbwC; have hzwC := hbwC.size; (try simp only [World.size_drew] at hcwC hfwC hzwC); (try simp only [World.size_alloc] at hcwC hfwC hzwC)))
      all_goals
        go_wp2_with fail
        go_ret
        exact ⟨A3, c3, rfl, own_base ow3 (by first | omega | (simp; omega)), by repeat' (first | with_reducible assumption | with_reducible exact Below.refl _ _ | (with_reducible refine Below.setCell ?_ ?_ _) | (with_reducible refine Below.alloc ?_ ?_ _) | (with_reducible refine Below.drew ?_) | (with_reducible refine below_dr ?_ _) | (with_reducible refine Below.trans ?_ (Below.mono (by with_reducible assumption) ?_)) | omega | (simp; done) | (simp; omega))⟩
end Go.Proofs.Ytdeemhfhmgnbgaa
