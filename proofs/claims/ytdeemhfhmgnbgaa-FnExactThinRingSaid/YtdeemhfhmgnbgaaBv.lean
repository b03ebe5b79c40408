/- Walks: rings that are thinned, the program's side. -/
import Derived.Test.YtdeemhfhmgnbgaaBt
namespace Go.Proofs.Ytdeemhfhmgnbgaa
open Go.RowKit
set_option linter.unusedVariables false
set_option maxHeartbeats 400000 in
theorem isTol_yes (n : Int) (w : World) (h1 : 1 ≤ n) (h2 : n ≤ 262144) :
    Calls Try.prog 65 #[.int .i64 n] w fun e w' => e = .returned (.bool true) ∧ w = w' := by
  go_enter Try.func65, Try.ntmps65
  go_wp2
  go_ret
  exact ⟨rfl, rfl⟩
set_option maxHeartbeats 400000 in
theorem isTol_no (n : Int) (w : World) (h : n < 1 ∨ 262144 < n) :
    Calls Try.prog 65 #[.int .i64 n] w fun e w' => e = .returned (.bool false) ∧ w = w' := by
  by_cases h1 : n < 1
  · clear h
    have h2 : decide (1 ≤ n) = false := by simp; omega
    go_enter Try.func65, Try.ntmps65
    go_wp2
    go_ret
    exact ⟨rfl, rfl⟩
  · have h2 : decide (n ≤ 262144) = false := by simp; omega
    have h3 : 1 ≤ n := by omega
    clear h h1
    go_enter Try.func65, Try.ntmps65
    go_wp2
    go_ret
    exact ⟨rfl, rfl⟩
set_option maxHeartbeats 400000 in
theorem l09Tol_yes (n : Int) (w : World) (h1 : 1 ≤ n) (h2 : n ≤ 262144) :
    Calls Try.prog 62 #[.int .i64 n] w fun e w' => e = .returned (.bool true) ∧ w = w' := by
  go_enter Try.func62, Try.ntmps62
  go_wp2_with (go_at_call 78; refine (l00In_yes _ _ _ _ (by omega) (by omega)).mono ?_; rintro e w1 ⟨rfl, rfl⟩)
  go_ret
  exact ⟨rfl, rfl⟩
set_option maxHeartbeats 400000 in
theorem l09Tol_no (n : Int) (w : World) (h : n < 1 ∨ 262144 < n) :
    Calls Try.prog 62 #[.int .i64 n] w fun e w' => e = .returned (.bool false) ∧ w = w' := by
  go_enter Try.func62, Try.ntmps62
  go_wp2_with (go_at_call 78; refine (l00In_no _ _ _ _ (by omega)).mono ?_; rintro e w1 ⟨rfl, rfl⟩)
  go_ret
  exact ⟨rfl, rfl⟩
/-- The points of a ring that is thinned. -/
def thV (t : Int) (l : List APt) : List APt := l.take 1 ++ thin t (l.length + 1) (l ++ l.take 1)
def tmL (t : Int) (l : List APt) : List APt := bif vRg l then (if 1 ≤ t ∧ t ≤ 262144 then thV t l else []) else []
def tmC (t : Int) (l : List APt) : Int := bif vRg l then (if 1 ≤ t ∧ t ≤ 262144 then 0 else 2) else 1
def RgRet (L : List APt) (code : Int) (w : World) (e : Ending) (w' : World) : Prop :=
  ∃ (A : Option Addr) (c : Nat), e = .returned (.tuple #[.agg #[.slice A L.length c], .int .i64 code]) ∧ w'.ownsRow w.heap.size 26 2 (.slice A L.length c) L.length (cellsF cPt L) ∧ Below w.heap.size w w'
theorem tm_no {t : Int} {l : List APt} (h : vRg l = false) : tmL t l = [] ∧ tmC t l = 1 := by unfold tmL tmC; rw [h]; exact ⟨rfl, rfl⟩
theorem tm_rg {t : Int} {l : List APt} (h : vRg l = true) (ht : t < 1 ∨ 262144 < t) : tmL t l = [] ∧ tmC t l = 2 := by
  unfold tmL tmC; rw [h, cond_true, cond_true, if_neg (by omega), if_neg (by omega)]; exact ⟨rfl, rfl⟩
theorem tm_yes {t : Int} {l : List APt} (h : vRg l = true) (t1 : 1 ≤ t) (t2 : t ≤ 262144) : tmL t l = thV t l ∧ tmC t l = 0 := by
  unfold tmL tmC; rw [h, cond_true, cond_true, if_pos ⟨t1, t2⟩, if_pos ⟨t1, t2⟩]; exact ⟨rfl, rfl⟩
theorem pts_app {l m : List APt} (h : ptsUp l l.length = true) (h2 : ptsUp m m.length = true) : ptsUp (l ++ m) (l ++ m).length = true :=
  pts_of fun k x y hk => by
    rcases List.mem_append.1 (List.mem_of_getElem? hk) with q | q
    · obtain ⟨j, hj⟩ := List.getElem?_of_mem q; exact pts_all h hj
    · obtain ⟨j, hj⟩ := List.getElem?_of_mem q; exact pts_all h2 hj
theorem thV_len (t : Int) (l : List APt) (h1 : 1 ≤ l.length) : (thV t l).length ≤ l.length := by
  have := thin_len t (l.length + 1) (l ++ l.take 1)
  unfold thV
  rw [List.length_append] at *
  rw [List.length_take] at *
  omega
theorem own_cap {w : World} {base e s n c : Nat} {A : Option Addr} {xs : List Value} (h : w.ownsRow base e s (.slice A n c) n xs) (hn : 0 < n) : n ≤ c ∧ c ≤ maxLen := by
  rcases h.2 with ⟨hv, h0⟩ | ⟨g, cap, cur, hv, _, _, h1, h2, _⟩
  · omega
  · injection hv with a b c; subst c; exact ⟨h1, h2⟩
set_option maxRecDepth 100000 in
set_option maxHeartbeats 6400000 in
theorem implThin_any (t : Int) (l : List APt) (A : Option Addr) (c : Nat) (w : World) (hl : l.length ≤ 1048576) (hc : l.length ≤ c) (hc63 : c ≤ 9223372036854775807) (r : Rd cPt 2 w w.heap.size A l) :
    Calls Try.prog 34 #[.agg #[.slice A l.length c], .int .i64 t] w (RgRet (tmL t l) (tmC t l) w) := by
  have CV := Lib.hid (fun A c w r => implValidRing_any l A c w hl r)
  rcases hv : vRg l with _ | _
  case false =>
    rw [(tm_no hv).1, (tm_no hv).2]
    rw [hv] at CV
    clear hv
    obtain ⟨n, hn⟩ : ∃ n, n = l.length := ⟨_, rfl⟩
    rw [← hn] at CV hl hc ⊢
    have HN := Lib.hid hn
    clear hn
    unfold RgRet
    go_enter Try.func34, Try.ntmps34
    go_wp2_with fail
    refine (CV.out _ _ _ ?_).mono ?_
    · (refine Rd.more (B := w.heap.size) ?_ (by first | omega | ((try simp only [World.size_setCell]); (try simp only [World.size_drew]); (try simp only [World.size_alloc]); omega) | (simp; done) | (simp; omega))); (repeat' (first | with_reducible assumption | (with_reducible refine Rd.drew ?_) | (with_reducible refine Rd.carry ?_ (by with_reducible assumption) ?_) | (with_reducible refine Rd.alloc ?_ ?_ _) | (with_reducible refine Rd.setCell ?_ ?_ _) | omega | (simp; done) | (simp; omega)))
    rintro e w1 ⟨rfl, hb1⟩
    have b1 : Blk w1 w.heap.size 55 #[.slice A n c] := Blk.carry (by repeat' (first | with_reducible assumption | with_reducible exact Blk.new _ _ _ | ((with_reducible refine Blk.newAt _ _ _ ?_); (first | rfl | (simp; done) | (simp; omega))) | (with_reducible refine Blk.drew ?_) | (with_reducible refine Blk.alloc ?_ _) | (with_reducible refine Blk.far ?_ (by first | omega | (simp; done) | (simp; omega)) _))) hb1
    have b2 : Blk w1 (w.heap.size + 1) 55 #[.slice none 0 0] := Blk.carry (by repeat' (first | with_reducible assumption | with_reducible exact Blk.new _ _ _ | ((with_reducible refine Blk.newAt _ _ _ ?_); (first | rfl | (simp; done) | (simp; omega))) | (with_reducible refine Blk.drew ?_) | (with_reducible refine Blk.alloc ?_ _) | (with_reducible refine Blk.far ?_ (by first | omega | (simp; done) | (simp; omega)) _))) hb1
    have z1 := hb1.size
    (try simp only [World.size_alloc] at z1)
    have g1 : Below w.heap.size w w1 := by repeat' (first | with_reducible assumption | with_reducible exact Below.refl _ _ | (with_reducible refine Below.setCell ?_ ?_ _) | (with_reducible refine Below.alloc ?_ ?_ _) | (with_reducible refine Below.drew ?_) | (with_reducible refine below_dr ?_ _) | (with_reducible refine Below.trans ?_ (Below.mono (by with_reducible assumption) ?_)) | omega | (simp; done) | (simp; omega))
    clear hb1
    have y1 : w1.cell? ⟨w.heap.size, 0, none⟩ = some (.slice A n c) := b1.cell 0 rfl
    have y2 : w1.cell? ⟨w.heap.size + 1, 0, none⟩ = some (.slice none 0 0) := b2.cell 0 rfl
    have f2 := b2.frozen 0
    have l1 := b1.lt
    have l2 := b2.lt
    go_wp2_with fail
    refine bodyPost_ret (v := .tuple #[.agg #[.slice none 0 0], .int .i64 1]) (by simp [results, Try.results34, go_sem, *]) rfl ⟨none, 0, rfl, World.ownsRow_nil _ _ _ _, by repeat' (first | with_reducible assumption | with_reducible exact Below.refl _ _ | (with_reducible refine Below.setCell ?_ ?_ _) | (with_reducible refine Below.alloc ?_ ?_ _) | (with_reducible refine Below.drew ?_) | (with_reducible refine below_dr ?_ _) | (with_reducible refine Below.trans ?_ (Below.mono (by with_reducible assumption) ?_)) | omega | (simp; done) | (simp; omega))⟩
  case true =>
    by_cases ht : t < 1 ∨ 262144 < t
    case pos =>
      rw [(tm_rg hv ht).1, (tm_rg hv ht).2]
      rw [hv] at CV
      clear hv
      obtain ⟨n, hn⟩ : ∃ n, n = l.length := ⟨_, rfl⟩
      rw [← hn] at CV hl hc ⊢
      have HN := Lib.hid hn
      clear hn
      unfold RgRet
      have HT := Lib.hid ht
      clear ht
      go_enter Try.func34, Try.ntmps34
      go_wp2_with fail
      refine (CV.out _ _ _ ?_).mono ?_
      · (refine Rd.more (B := w.heap.size) ?_ (by first | omega | ((try simp only [World.size_setCell]); (try simp only [World.size_drew]); (try simp only [World.size_alloc]); omega) | (simp; done) | (simp; omega))); (repeat' (first | with_reducible assumption | (with_reducible refine Rd.drew ?_) | (with_reducible refine Rd.carry ?_ (by with_reducible assumption) ?_) | (with_reducible refine Rd.alloc ?_ ?_ _) | (with_reducible refine Rd.setCell ?_ ?_ _) | omega | (simp; done) | (simp; omega)))
      rintro e w1 ⟨rfl, hb1⟩
      have b1 : Blk w1 w.heap.size 55 #[.slice A n c] := Blk.carry (by repeat' (first | with_reducible assumption | with_reducible exact Blk.new _ _ _ | ((with_reducible refine Blk.newAt _ _ _ ?_); (first | rfl | (simp; done) | (simp; omega))) | (with_reducible refine Blk.drew ?_) | (with_reducible refine Blk.alloc ?_ _) | (with_reducible refine Blk.far ?_ (by first | omega | (simp; done) | (simp; omega)) _))) hb1
      have b2 : Blk w1 (w.heap.size + 1) 55 #[.slice none 0 0] := Blk.carry (by repeat' (first | with_reducible assumption | with_reducible exact Blk.new _ _ _ | ((with_reducible refine Blk.newAt _ _ _ ?_); (first | rfl | (simp; done) | (simp; omega))) | (with_reducible refine Blk.drew ?_) | (with_reducible refine Blk.alloc ?_ _) | (with_reducible refine Blk.far ?_ (by first | omega | (simp; done) | (simp; omega)) _))) hb1
      have z1 := hb1.size
      (try simp only [World.size_alloc] at z1)
      have g1 : Below w.heap.size w w1 := by repeat' (first | with_reducible assumption | with_reducible exact Below.refl _ _ | (with_reducible refine Below.setCell ?_ ?_ _) | (with_reducible refine Below.alloc ?_ ?_ _) | (with_reducible refine Below.drew ?_) | (with_reducible refine below_dr ?_ _) | (with_reducible refine Below.trans ?_ (Below.mono (by with_reducible assumption) ?_)) | omega | (simp; done) | (simp; omega))
      clear hb1
      have y1 : w1.cell? ⟨w.heap.size, 0, none⟩ = some (.slice A n c) := b1.cell 0 rfl
      have y2 : w1.cell? ⟨w.heap.size + 1, 0, none⟩ = some (.slice none 0 0) := b2.cell 0 rfl
      have f2 := b2.frozen 0
      have l1 := b1.lt
      have l2 := b2.lt
      go_wp2_with fail
      refine (isTol_no _ _ HT.out).mono ?_
      rintro e w2 ⟨rfl, rfl⟩
      go_wp2_with fail
      refine bodyPost_ret (v := .tuple #[.agg #[.slice none 0 0], .int .i64 2]) (by simp [results, Try.results34, go_sem, *]) rfl ⟨none, 0, rfl, World.ownsRow_nil _ _ _ _, by repeat' (first | with_reducible assumption | with_reducible exact Below.refl _ _ | (with_reducible refine Below.setCell ?_ ?_ _) | (with_reducible refine Below.alloc ?_ ?_ _) | (with_reducible refine Below.drew ?_) | (with_reducible refine below_dr ?_ _) | (with_reducible refine Below.trans ?_ (Below.mono (by with_reducible assumption) ?_)) | omega | (simp; done) | (simp; omega))⟩
    case neg =>
      have t1 : 1 ≤ t := by omega
      have t2 : t ≤ 262144 := by omega
      clear ht
      rw [(tm_yes hv t1 t2).1, (tm_yes hv t1 t2).2]
      rw [hv] at CV
      obtain ⟨h1, h400, hp⟩ := vRg_parts hv
      clear hv
      have ht1 : (l.take 1).length = 1 := by rw [List.length_take]; omega
      have hla : (l ++ l.take 1).length = l.length + 1 := by rw [List.length_append, ht1]
      have hpa := pts_app hp (pts_take hp 1)
      have tl := thin_len t (l.length + 1) (l ++ l.take 1)
      have KP := Lib.hid (fun A c w h9 h8 r => keptOf_any t t1 t2 (l.length + 1) (l ++ l.take 1) A c w (by omega) (by omega) (by omega) h9 h8 hpa r)
      rw [hla] at KP tl
      obtain ⟨x0, hx0⟩ : ∃ a, l[0]? = some a := ⟨l[0]'(by omega), List.getElem?_eq_getElem (by omega)⟩
      obtain ⟨g, o, rfl, hg, -⟩ := r.elem hx0
      clear hx0
      have rt : Rd cPt 2 w w.heap.size (some ⟨g, o, none⟩) (l.take 1) := rd_take r _
      have HV := Lib.hid (show thV t l = l.take 1 ++ thin t (l.length + 1) (l ++ l.take 1) from rfl)
      generalize thV t l = V at *
      have HM := Lib.hid (show l ++ l.take 1 = l ++ l.take 1 from rfl)
      generalize thin t (l.length + 1) (l ++ l.take 1) = T1 at *
      obtain ⟨M, hM⟩ : ∃ M, M = l ++ l.take 1 := ⟨_, rfl⟩
      have HMM := Lib.hid hM
      have hml : M.length = l.length + 1 := by rw [hM]; exact hla
      clear hM hla hpa hp
      generalize l.take 1 = lm at *
      have HL := Lib.hid (show l.length ≤ 1000 by omega)
      have HLM := Lib.hid ht1
      have HT1 := Lib.hid (show T1.length ≤ 1000 by omega)
      clear tl ht1
      obtain ⟨n, hn⟩ : ∃ n, n = l.length := ⟨_, rfl⟩
      rw [← hn] at CV hl hc h1 h400 hml KP ⊢
      have HN := Lib.hid hn
      clear hn
      have HML := Lib.hid hml
      clear hml
      have en : (1 : Int) ≤ (c : Int) := by omega
      have ec : 1 ≤ c := by omega
      unfold RgRet
      go_enter Try.func34, Try.ntmps34
      go_wp2_with fail
      refine (CV.out _ _ _ ?_).mono ?_
      · (refine Rd.more (B := w.heap.size) ?_ (by first | omega | ((try simp only [World.size_setCell]); (try simp only [World.size_drew]); (try simp only [World.size_alloc]); omega) | (simp; done) | (simp; omega))); (repeat' (first | with_reducible assumption | (with_reducible refine Rd.drew ?_) | (with_reducible refine Rd.carry ?_ (by with_reducible assumption) ?_) | (with_reducible refine Rd.alloc ?_ ?_ _) | (with_reducible refine Rd.setCell ?_ ?_ _) | omega | (simp; done) | (simp; omega)))
      rintro e w1 ⟨rfl, hb1⟩
      have b1 : Blk w1 w.heap.size 55 #[.slice (some ⟨g, o, none⟩) n c] := Blk.carry (by repeat' (first | with_reducible assumption | with_reducible exact Blk.new _ _ _ | ((with_reducible refine Blk.newAt _ _ _ ?_); (first | rfl | (simp; done) | (simp; omega))) | (with_reducible refine Blk.drew ?_) | (with_reducible refine Blk.alloc ?_ _) | (with_reducible refine Blk.far ?_ (by first | omega | (simp; done) | (simp; omega)) _))) hb1
      have b2 : Blk w1 (w.heap.size + 1) 55 #[.slice none 0 0] := Blk.carry (by repeat' (first | with_reducible assumption | with_reducible exact Blk.new _ _ _ | ((with_reducible refine Blk.newAt _ _ _ ?_); (first | rfl | (simp; done) | (simp; omega))) | (with_reducible refine Blk.drew ?_) | (with_reducible refine Blk.alloc ?_ _) | (with_reducible refine Blk.far ?_ (by first | omega | (simp; done) | (simp; omega)) _))) hb1
      have z1 := hb1.size
      (try simp only [World.size_alloc] at z1)
      have g1 : Below w.heap.size w w1 := by repeat' (first | with_reducible assumption | with_reducible exact Below.refl _ _ | (with_reducible refine Below.setCell ?_ ?_ _) | (with_reducible refine Below.alloc ?_ ?_ _) | (with_reducible refine Below.drew ?_) | (with_reducible refine below_dr ?_ _) | (with_reducible refine Below.trans ?_ (Below.mono (by with_reducible assumption) ?_)) | omega | (simp; done) | (simp; omega))
      clear hb1
      have q1 : Rd cPt 2 w1 w1.heap.size (some ⟨g, o, none⟩) l := (r.below g1).more g1.size
      have q2 : Rd cPt 2 w1 w1.heap.size (some ⟨g, o, none⟩) lm := (rt.below g1).more g1.size
      clear r rt
      have y1 : w1.cell? ⟨w.heap.size, 0, none⟩ = some (.slice (some ⟨g, o, none⟩) n c) := b1.cell 0 rfl
      have y2 : w1.cell? ⟨w.heap.size + 1, 0, none⟩ = some (.slice none 0 0) := b2.cell 0 rfl
      have f2 := b2.frozen 0
      have l1 := b1.lt
      have l2 := b2.lt
      go_wp2_with fail
      refine (isTol_yes _ _ t1 t2).mono ?_
      rintro e w2 ⟨rfl, rfl⟩
      go_wp2_with fail
      generalize hW : w1.alloc (.cells #[.slice (some ⟨g, o, none⟩) n c, .slice (some ⟨g, o, none⟩) 1 c] 53) = W2
      have bq : Blk W2 w1.heap.size 53 #[.slice (some ⟨g, o, none⟩) n c, .slice (some ⟨g, o, none⟩) 1 c] := by rw [← hW]; exact Blk.new _ _ _
      replace b2 := b2.alloc (.cells #[.slice (some ⟨g, o, none⟩) n c, .slice (some ⟨g, o, none⟩) 1 c] 53)
      rw [hW] at b2
      have g2 : Below w.heap.size w W2 := by rw [← hW]; exact g1.alloc (by omega) _
      have x2 : Below w1.heap.size w1 W2 := by rw [← hW]; exact (Below.refl _ _).alloc (Nat.le_refl _) _
      clear hW y1 y2 f2 l1 l2 b1
      refine (concat2 (some ⟨g, o, none⟩) (some ⟨g, o, none⟩) c c w1.heap.size l lm W2 bq.lt (by rw [← HN.out]; exact bq.cell 0 rfl) (by rw [HLM.out]; exact bq.cell 1 rfl) HL.out (by rw [HLM.out]; omega) ((q1.below x2).more x2.size) ((q2.below x2).more x2.size) M HMM.out).mono ?_
      intro e w3 hq
      obtain ⟨A3, c3, rfl, ow3, hb3⟩ := hq
      rw [HML.out] at ow3 ⊢
      have z2 := x2.size
      have z3 := hb3.size
      have g3 : Below w.heap.size w w3 := g2.trans (hb3.mono (by omega))
      replace b2 := b2.carry hb3
      have r3 : Rd cPt 2 w3 w3.heap.size A3 M := Rd.of_own (fun a => cPt_len a) (by omega) ow3 (Nat.le_refl _)
      have q23 : Rd cPt 2 w3 w3.heap.size (some ⟨g, o, none⟩) lm := ((q2.below x2).more x2.size).below hb3 |>.more hb3.size
      obtain ⟨hc3, hc4⟩ : n + 1 ≤ c3 ∧ c3 ≤ 9223372036854775807 := own_cap ow3 (by omega)
      clear ow3 hb3 g2 bq q1 q2 x2
      go_wp2_with fail
      refine (KP.out _ _ _ hc3 hc4 (by rw [← HMM.out]; exact r3)).mono ?_
      intro e w4 hq
      obtain ⟨A4, c4, rfl, ow4, hb4⟩ := hq
      have z4 := hb4.size
      have g4 : Below w.heap.size w w4 := g3.trans (hb4.mono (by omega))
      replace b2 := b2.carry hb4
      have r4 : Rd cPt 2 w4 w4.heap.size A4 T1 := Rd.of_own (fun a => cPt_len a) (by omega) ow4 (Nat.le_refl _)
      have q24 : Rd cPt 2 w4 w4.heap.size (some ⟨g, o, none⟩) lm := (q23.below hb4).more hb4.size
      clear ow4 hb4 g3 r3 q23
      go_wp2_with fail
      generalize hW : w4.alloc (.cells #[.slice (some ⟨g, o, none⟩) 1 c, .slice A4 T1.length c4] 53) = W5
      have bq : Blk W5 w4.heap.size 53 #[.slice (some ⟨g, o, none⟩) 1 c, .slice A4 T1.length c4] := by rw [← hW]; exact Blk.new _ _ _
      replace b2 := b2.alloc (.cells #[.slice (some ⟨g, o, none⟩) 1 c, .slice A4 T1.length c4] 53)
      rw [hW] at b2
      have g5 : Below w.heap.size w W5 := by rw [← hW]; exact g4.alloc (by omega) _
      have x5 : Below w4.heap.size w4 W5 := by rw [← hW]; exact (Below.refl _ _).alloc (Nat.le_refl _) _
      clear hW
      refine (concat2 (some ⟨g, o, none⟩) A4 c c4 w4.heap.size lm T1 W5 bq.lt (by rw [HLM.out]; exact bq.cell 0 rfl) (bq.cell 1 rfl) (by rw [HLM.out]; omega) HT1.out ((q24.below x5).more x5.size) ((r4.below x5).more x5.size) V HV.out).mono ?_
      intro e w6 hq
      obtain ⟨A6, c6, rfl, ow6, hb6⟩ := hq
      have z5 := x5.size
      have z6 := hb6.size
      have g6 : Below w.heap.size w w6 := g5.trans (hb6.mono (by omega))
      replace b2 := b2.carry hb6
      clear hb6 g5 g4 bq x5 q24 r4
      have y2 : w6.cell? ⟨w.heap.size + 1, 0, none⟩ = some (.slice none 0 0) := b2.cell 0 rfl
      have f2 := b2.frozen 0
      have l2 := b2.lt
      go_wp2_with fail
      refine bodyPost_ret (v := .tuple #[.agg #[.slice A6 V.length c6], .int .i64 0]) (by simp [results, Try.results34, go_sem, *]) rfl ⟨A6, c6, rfl, ?_, ?_⟩
      · exact own_keep (own_base ow6 (by omega)) (fun q hq h8 => by have := own_block ow6 hq; simp only at h8; omega) _
      · exact g6.setCell (by simp only; omega) _
end Go.Proofs.Ytdeemhfhmgnbgaa
