/- Walks: rings that are thinned, the reference's side. -/
import Derived.Test.YtdeemhfhmgnbgaaBw
namespace Go.Proofs.Ytdeemhfhmgnbgaa
open Go.RowKit
set_option linter.unusedVariables false
set_option maxRecDepth 100000 in
set_option maxHeartbeats 12800000 in
theorem specThin_any (t : Int) (l : List APt) (A : Option Addr) (c : Nat) (w : World) (hl : l.length ≤ 1048576) (r : Rd cPt 2 w w.heap.size A l) :
    Calls Try.prog 33 #[.agg #[.slice A l.length c], .int .i64 t] w (RgRet (tmL t l) (tmC t l) w) := by
  have CV := Lib.hid (fun A c b p w h1 h2 r => l13Ring_any l A c b p w h1 h2 hl r)
  rcases hv : vRg l with _ | _
  case false =>
    rw [(tm_no hv).1, (tm_no hv).2]
    rw [hv] at CV
    clear hv
    obtain ⟨n, hn⟩ : ∃ n, n = l.length := ⟨_, rfl⟩
    rw [← hn] at CV hl ⊢
    have HN := Lib.hid hn
    clear hn
    unfold RgRet
    go_enter Try.func33, Try.ntmps33
    go_wp2_with fail
    refine (CV.out A c _ 0 _ (by simp; omega) (by simp [go_sem]) ?_).mono ?_
    · (refine Rd.more (B := w.heap.size) ?_ (by first | omega | ((try simp only [World.size_setCell]); (try simp only [World.size_drew]); (try simp only [World.size_alloc]); omega) | (simp; done) | (simp; omega))); (repeat' (first | with_reducible assumption | (with_reducible refine Rd.drew ?_) | (with_reducible refine Rd.carry ?_ (by with_reducible assumption) ?_) | (with_reducible refine Rd.alloc ?_ ?_ _) | (with_reducible refine Rd.setCell ?_ ?_ _) | omega | (simp; done) | (simp; omega)))
    rintro e w1 ⟨rfl, hb1⟩
    have b1 : Blk w1 w.heap.size 55 #[.slice A n c] := Blk.carry (by repeat' (first | with_reducible assumption | with_reducible exact Blk.new _ _ _ | ((with_reducible refine Blk.newAt _ _ _ ?_); (first | rfl | (simp; done) | (simp; omega))) | (with_reducible refine Blk.drew ?_) | (with_reducible refine Blk.alloc ?_ _) | (with_reducible refine Blk.far ?_ (by first | omega | (simp; done) | (simp; omega)) _))) hb1
    have b2 : Blk w1 (w.heap.size + 1) 55 #[.slice none 0 0] := Blk.carry (by repeat' (first | with_reducible assumption | with_reducible exact Blk.new _ _ _ | ((with_reducible refine Blk.newAt _ _ _ ?_); (first | rfl | (simp; done) | (simp; omega))) | (with_reducible refine Blk.drew ?_) | (with_reducible refine Blk.alloc ?_ _) | (with_reducible refine Blk.far ?_ (by first | omega | (simp; done) | (simp; omega)) _))) hb1
    have z1 := hb1.size
    (try simp only [World.size_alloc] at z1)
    have g1 : Below w.heap.size w w1 := by repeat' (first | with_reducible assumption | with_reducible exact Below.refl _ _ | (with_reducible refine Below.setCell ?_ ?_ _) | (with_reducible refine Below.alloc ?_ ?_ _) | (with_reducible refine Below.drew ?_) | (with_reducible refine below_dr ?_ _) | (with_reducible refine Below.trans ?_ (Below.mono (by with_reducible assumption) ?_)) | omega | (simp; done) | (simp; omega))
    clear hb1
    have y1 : w1.cell? ⟨w.heap.size, 0, none⟩ = some (.slice A n c) := b1.cell 0 rfl
    have y2 : w1.cell? ⟨w.heap.size + 1, 0, none⟩ = some (.slice none 0 0) := b2.cell 0 rfl
    have f2 := b2.frozen 0
    have l1 := b1.lt
    have l2 := b2.lt
    go_wp2_with fail
    refine bodyPost_ret (v := .tuple #[.agg #[.slice none 0 0], .int .i64 1]) (by simp [results, Try.results33, go_sem, *]) rfl ⟨none, 0, rfl, World.ownsRow_nil _ _ _ _, by repeat' (first | with_reducible assumption | with_reducible exact Below.refl _ _ | (with_reducible refine Below.setCell ?_ ?_ _) | (with_reducible refine Below.alloc ?_ ?_ _) | (with_reducible refine Below.drew ?_) | (with_reducible refine below_dr ?_ _) | (with_reducible refine Below.trans ?_ (Below.mono (by with_reducible assumption) ?_)) | omega | (simp; done) | (simp; omega))⟩
  case true =>
    by_cases ht : t < 1 ∨ 262144 < t
    case pos =>
      rw [(tm_rg hv ht).1, (tm_rg hv ht).2]
      rw [hv] at CV
      clear hv
      obtain ⟨n, hn⟩ : ∃ n, n = l.length := ⟨_, rfl⟩
      rw [← hn] at CV hl ⊢
      have HN := Lib.hid hn
      clear hn
      unfold RgRet
      have HT := Lib.hid ht
      clear ht
      go_enter Try.func33, Try.ntmps33
      go_wp2_with fail
      refine (CV.out A c _ 0 _ (by simp; omega) (by simp [go_sem]) ?_).mono ?_
      · (refine Rd.more (B := w.heap.size) ?_ (by first | omega | ((try simp only [World.size_setCell]); (try simp only [World.size_drew]); (try simp only [World.size_alloc]); omega) | (simp; done) | (simp; omega))); (repeat' (first | with_reducible assumption | (with_reducible refine Rd.drew ?_) | (with_reducible refine Rd.carry ?_ (by with_reducible assumption) ?_) | (with_reducible refine Rd.alloc ?_ ?_ _) | (with_reducible refine Rd.setCell ?_ ?_ _) | omega | (simp; done) | (simp; omega)))
      rintro e w1 ⟨rfl, hb1⟩
      have b1 : Blk w1 w.heap.size 55 #[.slice A n c] := Blk.carry (by repeat' (first | with_reducible assumption | with_reducible exact Blk.new _ _ _ | ((with_reducible refine Blk.newAt _ _ _ ?_); (first | rfl | (simp; done) | (simp; omega))) | (with_reducible refine Blk.drew ?_) | (with_reducible refine Blk.alloc ?_ _) | (with_reducible refine Blk.far ?_ (by first | omega | (simp; done) | (simp; omega)) _))) hb1
      have b2 : Blk w1 (w.heap.size + 1) 55 #[.slice none 0 0] := Blk.carry (by repeat' (first | with_reducible assumption | with_reducible exact Blk.new _ _ _ | ((with_reducible refine Blk.newAt _ _ _ ?_); (first | rfl | (simp; done) | (simp; omega))) | (with_reducible refine Blk.drew ?_) | (with_reducible refine Blk.alloc ?_ _) | (with_reducible refine Blk.far ?_ (by first | omega | (simp; done) | (simp; omega)) _))) hb1
      have z1 := hb1.size
      (try simp only [World.size_alloc] at z1)
      have g1 : Below w.heap.size w w1 := by repeat' (first | with_reducible assumption | with_reducible exact Below.refl _ _ | (with_reducible refine Below.setCell ?_ ?_ _) | (with_reducible refine Below.alloc ?_ ?_ _) | (with_reducible refine Below.drew ?_) | (with_reducible refine below_dr ?_ _) | (with_reducible refine Below.trans ?_ (Below.mono (by with_reducible assumption) ?_)) | omega | (simp; done) | (simp; omega))
      clear hb1
      have y1 : w1.cell? ⟨w.heap.size, 0, none⟩ = some (.slice A n c) := b1.cell 0 rfl
      have y2 : w1.cell? ⟨w.heap.size + 1, 0, none⟩ = some (.slice none 0 0) := b2.cell 0 rfl
      have f2 := b2.frozen 0
      have l1 := b1.lt
      have l2 := b2.lt
      go_wp2_with fail
      refine (l09Tol_no _ _ HT.out).mono ?_
      rintro e w2 ⟨rfl, rfl⟩
      go_wp2_with fail
      refine bodyPost_ret (v := .tuple #[.agg #[.slice none 0 0], .int .i64 2]) (by simp [results, Try.results33, go_sem, *]) rfl ⟨none, 0, rfl, World.ownsRow_nil _ _ _ _, by repeat' (first | with_reducible assumption | with_reducible exact Below.refl _ _ | (with_reducible refine Below.setCell ?_ ?_ _) | (with_reducible refine Below.alloc ?_ ?_ _) | (with_reducible refine Below.drew ?_) | (with_reducible refine below_dr ?_ _) | (with_reducible refine Below.trans ?_ (Below.mono (by with_reducible assumption) ?_)) | omega | (simp; done) | (simp; omega))⟩
    case neg =>
      obtain ⟨i1, hi0, hz0', hz1', hz2'⟩ := info_parts infoPt
      have HI1 := Lib.hid hi0
      have HZ01 := Lib.hid hz0'
      have HZ11 := Lib.hid hz1'
      have HZ21 := Lib.hid hz2'
      clear hi0 hz0' hz1' hz2'
      have t1 : 1 ≤ t := by omega
      have t2 : t ≤ 262144 := by omega
      clear ht
      rw [(tm_yes hv t1 t2).1, (tm_yes hv t1 t2).2]
      rw [hv] at CV
      obtain ⟨h1, h400, hp⟩ := vRg_parts hv
      clear hv
      obtain ⟨⟨x, y⟩, hx0⟩ : ∃ a, l[0]? = some a := ⟨l[0]'(by omega), List.getElem?_eq_getElem (by omega)⟩
      have ht1 : l.take 1 = [(x, y)] := by have := mid_pt hx0; simpa using this
      have HX := Lib.hid hx0
      have hla : (l ++ [(x, y)]).length = l.length + 1 := by simp
      have hpa : ptsUp (l ++ [(x, y)]) (l ++ [(x, y)]).length = true := by rw [← ht1]; exact pts_app hp (pts_take hp 1)
      have tl := thin_len t (l.length + 1) (l ++ [(x, y)])
      have KP := Lib.hid (fun A c w h9 h8 r => l15Thin_any t t1 t2 (l.length + 1) (l ++ [(x, y)]) A c w (by omega) (by omega) (by omega) h9 h8 hpa r)
      rw [hla] at KP tl
      obtain ⟨g, o, rfl, hg, -⟩ := r.elem hx0
      clear hx0
      have HV := Lib.hid (show thV t l = [(x, y)] ++ thin t (l.length + 1) (l ++ [(x, y)]) by unfold thV; rw [ht1])
      generalize thV t l = V at *
      generalize thin t (l.length + 1) (l ++ [(x, y)]) = T1 at *
      obtain ⟨M, hM⟩ : ∃ M, M = l ++ [(x, y)] := ⟨_, rfl⟩
      have HMM := Lib.hid hM
      rw [← hM] at KP
      clear hM hla hpa hp ht1
      have HT1 := Lib.hid (show T1.length ≤ 1000 by omega)
      clear tl
      obtain ⟨n, hn⟩ : ∃ n, n = l.length := ⟨_, rfl⟩
      rw [← hn] at CV hl h1 h400 KP ⊢
      have HN := Lib.hid hn
      clear hn
      unfold RgRet
      go_enter Try.func33, Try.ntmps33
      go_wp2_with fail
      refine (CV.out (some ⟨g, o, none⟩) c _ 0 _ (by simp; omega) (by simp [go_sem]) ?_).mono ?_
      · (refine Rd.more (B := w.heap.size) ?_ (by first | omega | ((try simp only [World.size_setCell]); (try simp only [World.size_drew]); (try simp only [World.size_alloc]); omega) | (simp; done) | (simp; omega))); (repeat' (first | with_reducible assumption | (with_reducible refine Rd.drew ?_) | (with_reducible refine Rd.carry ?_ (by with_reducible assumption) ?_) | (with_reducible refine Rd.alloc ?_ ?_ _) | (with_reducible refine Rd.setCell ?_ ?_ _) | omega | (simp; done) | (simp; omega)))
      rintro e w1 ⟨rfl, hb1⟩
      have b1 : Blk w1 w.heap.size 55 #[.slice (some ⟨g, o, none⟩) n c] := Blk.carry (by repeat' (first | with_reducible assumption | with_reducible exact Blk.new _ _ _ | ((with_reducible refine Blk.newAt _ _ _ ?_); (first | rfl | (simp; done) | (simp; omega))) | (with_reducible refine Blk.drew ?_) | (with_reducible refine Blk.alloc ?_ _) | (with_reducible refine Blk.far ?_ (by first | omega | (simp; done) | (simp; omega)) _))) hb1
      have b2 : Blk w1 (w.heap.size + 1) 55 #[.slice none 0 0] := Blk.carry (by repeat' (first | with_reducible assumption | with_reducible exact Blk.new _ _ _ | ((with_reducible refine Blk.newAt _ _ _ ?_); (first | rfl | (simp; done) | (simp; omega))) | (with_reducible refine Blk.drew ?_) | (with_reducible refine Blk.alloc ?_ _) | (with_reducible refine Blk.far ?_ (by first | omega | (simp; done) | (simp; omega)) _))) hb1
      have z1 := hb1.size
      (try simp only [World.size_alloc] at z1)
      have g1 : Below w.heap.size w w1 := by repeat' (first | with_reducible assumption | with_reducible exact Below.refl _ _ | (with_reducible refine Below.setCell ?_ ?_ _) | (with_reducible refine Below.alloc ?_ ?_ _) | (with_reducible refine Below.drew ?_) | (with_reducible refine below_dr ?_ _) | (with_reducible refine Below.trans ?_ (Below.mono (by with_reducible assumption) ?_)) | omega | (simp; done) | (simp; omega))
      clear hb1
      have RR := Lib.hid (fun (wr : World) (hbl : Below w.heap.size w wr) => r.below hbl)
      clear r
      have y1 : w1.cell? ⟨w.heap.size, 0, none⟩ = some (.slice (some ⟨g, o, none⟩) n c) := b1.cell 0 rfl
      have y2 : w1.cell? ⟨w.heap.size + 1, 0, none⟩ = some (.slice none 0 0) := b2.cell 0 rfl
      have f2 := b2.frozen 0
      have l1 := b1.lt
      have l2 := b2.lt
      go_wp2_with fail
      refine (l09Tol_yes _ _ t1 t2).mono ?_
      rintro e w2 ⟨rfl, rfl⟩
      have hgx : g < w1.heap.size := by omega
      have y1a : ∀ o1, (w1.alloc o1).cell? ⟨w.heap.size, 0, none⟩ = some (.slice (some ⟨g, o, none⟩) n c) := fun o1 => (b1.alloc o1).cell 0 rfl
      have HOW := Lib.hid (own_nil_new (t := 26) (s := 2) w1 w1.heap.size (Nat.le_refl _))
      have HGA := Lib.hid (show Below w.heap.size w (w1.alloc (.cells #[] 26)) from g1.alloc (by omega) _)
      have HRD0 := reads_pts0 (((RR.out _ HGA.out)).more HGA.out.size)
      rw [← HN.out] at HRD0
      have HRD := Lib.hid HRD0
      clear HRD0
      have HMX := Lib.hid (show 0 + n ≤ maxLen by unfold maxLen; omega)
      have HBY := Lib.hid (show (0 + n) * 16 ≤ 140737488355328 by omega)
      have HBS := Lib.hid (show w1.heap.size ≤ (w1.alloc (.cells #[] 26)).heap.size by simp)
      have HB1 := Lib.hid (b1.alloc (.cells #[] 26))
      have HB2 := Lib.hid (b2.alloc (.cells #[] 26))
      go_upto_region 6 with (at_builtin; refine wpList_append_any _ rfl (.tmp 15) (.tmp 17) _ rfl (w1.heap.size) 26 i1 _ 2 16 Try.underlying53 HI1.out HZ01.out HZ11.out HZ21.out rfl (by omega) (.slice (some ⟨w1.heap.size, 0, none⟩) 0 0) 0 _ rfl HOW.out _ (some ⟨g, o, none⟩) n c (cellsF cPt l) rfl HRD.out (pall_one _) HMX.out HBY.out HBS.out ?_; intro v9 w3 hown9 hg9 hat9; obtain ⟨A3, c3, rfl⟩ := pslice_of hown9; have HOWN3 := Lib.hid hown9; have c1x := Blk.grown HB1.out hg9 (fun q hq => by simp [Value.ownBlock] at hq; omega); have c2x := Blk.grown HB2.out hg9 (fun q hq => by simp [Value.ownBlock] at hq; omega); have g3 : Below w.heap.size w w3 := (below_of_grown HGA.out hg9 (by simp; omega) (fun q hq => by simp [Value.ownBlock] at hq; omega)); have k1 : w3.cell? ⟨w.heap.size, 0, none⟩ = some (.slice (some ⟨g, o, none⟩) n c) := c1x.cell 0 rfl; have kl := c1x.lt; have kp := pt_at (RR.out _ g3) HX.out; simp only [Nat.zero_mul, Nat.add_zero] at kp; have kp0 := kp.1; have kp1 := kp.2; have kg : g < w3.heap.size := (Nat.lt_of_lt_of_le hg g3.size); have HZ3 := Lib.hid (hg9.size); clear kp hown9 hg9 hat9)
      have hown3 := HOWN3.out
      rw [Nat.zero_add] at hown3
      have z3 := HZ3.out
      (try simp only [World.size_alloc] at z3)
      have HOW := Lib.hid (World.ownsRow.alloc hown3 (.cells #[.int .i64 x, .int .i64 y] 26))
      have HRB := Lib.hid (fun q (hq : (Value.slice A3 n c3).ownBlock = some q) => own_block hown3 hq)
      have HRD := Lib.hid (show Reads (w3.alloc (.cells #[.int .i64 x, .int .i64 y] 26)) (w3.heap.size + 1) 2 (some ⟨w3.heap.size, 0, none⟩) 1 [.int .i64 x, .int .i64 y] by have := Reads.of_own (own_one (w := w3) (base := 0) (e := 26) (cs := #[.int .i64 x, .int .i64 y]) (s := 2) (Nat.zero_le _) rfl); simpa using this)
      have HMX := Lib.hid (show n + 1 ≤ maxLen by unfold maxLen; omega)
      have HBY := Lib.hid (show (n + 1) * 16 ≤ 140737488355328 by omega)
      have HBS := Lib.hid (show w1.heap.size ≤ (w3.alloc (.cells #[.int .i64 x, .int .i64 y] 26)).heap.size by rw [World.size_alloc]; omega)
      have HGA := Lib.hid (show Below w.heap.size w (w3.alloc (.cells #[.int .i64 x, .int .i64 y] 26)) from g3.alloc (by have := g3.size; omega) _)
      have HB1 := Lib.hid (c1x.alloc (.cells #[.int .i64 x, .int .i64 y] 26))
      have HB2 := Lib.hid (c2x.alloc (.cells #[.int .i64 x, .int .i64 y] 26))
      clear hown3 HOWN3 HZ3 y1 y2 f2 l1 l2 y1a c1x c2x b1 b2
      go_upto_region 7 with (at_builtin; refine wpList_append_any _ rfl (.tmp 19) (.tmp 24) _ rfl (w1.heap.size) 26 i1 _ 2 16 Try.underlying53 HI1.out HZ01.out HZ11.out HZ21.out rfl (by omega) (.slice A3 n c3) n _ rfl HOW.out (w3.heap.size + 1) (some ⟨w3.heap.size, 0, none⟩) 1 1 [.int .i64 x, .int .i64 y] rfl HRD.out (by intro z hz; simp at hz; rcases hz with rfl | rfl <;> rfl) HMX.out HBY.out HBS.out ?_; intro v9 w5 hown9 hg9 hat9; obtain ⟨A5, c5, rfl⟩ := pslice_of hown9; have HOWN5 := Lib.hid hown9; have c1x := Blk.grown HB1.out hg9 (fun q hq => by have := HRB.out q hq; omega); have c2x := Blk.grown HB2.out hg9 (fun q hq => by have := HRB.out q hq; omega); have g5 : Below w.heap.size w w5 := (below_of_grown HGA.out hg9 (by have := HBS.out; omega) (fun q hq => by have := HRB.out q hq; omega)); have m1 : w5.cell? ⟨w.heap.size, 0, none⟩ = some (.slice (some ⟨g, o, none⟩) n c) := c1x.cell 0 rfl; have ml := c1x.lt; have mp := pt_at (RR.out _ g5) HX.out; simp only [Nat.zero_mul, Nat.add_zero] at mp; have mp0 := mp.1; have mp1 := mp.2; have mg : g < w5.heap.size := (Nat.lt_of_lt_of_le hg g5.size); have HZ5 := Lib.hid (hg9.size); clear mp hown9 hg9 hat9)
      have ow5 : w5.ownsRow w1.heap.size 26 2 (.slice A5 (n + 1) c5) (n + 1) (cellsF cPt M) := by rw [HMM.out, ← cellsF_snoc]; exact HOWN5.out
      have z5 := HZ5.out
      (try simp only [World.size_alloc] at z5)
      clear HOWN5 HOW HRD HMX HBY HBS HGA HRB HB1 HB2 k1 kl kp0 kp1 kg HZ5 g3
      go_wp2_with fail
      generalize hW : w5.alloc (.cells #[.int .i64 x, .int .i64 y] 26) = W6
      have ow6 : W6.ownsRow w5.heap.size 26 2 (.slice (some ⟨w5.heap.size, 0, none⟩) 1 1) 1 [.int .i64 x, .int .i64 y] := by rw [← hW]; exact own_one (w := w5) (base := w5.heap.size) (e := 26) (cs := #[.int .i64 x, .int .i64 y]) (s := 2) (Nat.le_refl _) rfl
      replace ow5 : W6.ownsRow w1.heap.size 26 2 (.slice A5 (n + 1) c5) (n + 1) (cellsF cPt M) := by rw [← hW]; exact World.ownsRow.alloc ow5 _
      replace c2x := c2x.alloc (.cells #[.int .i64 x, .int .i64 y] 26)
      rw [hW] at c2x
      have g6 : Below w.heap.size w W6 := by rw [← hW]; exact g5.alloc (by have := g5.size; omega) _
      have z6 : W6.heap.size = w5.heap.size + 1 := by rw [← hW]; simp
      clear hW c1x m1 ml mp0 mp1 mg g5
      obtain ⟨hc3, hc4⟩ : n + 1 ≤ c5 ∧ c5 ≤ 9223372036854775807 := own_cap ow5 (by omega)
      refine (KP.out A5 c5 W6 hc3 hc4 (Rd.of_own (fun a => cPt_len a) (by omega) ow5 (Nat.le_refl _))).mono ?_
      intro e w7 hq
      obtain ⟨A7, c7, rfl, ow7, hb7⟩ := hq
      have z7 := hb7.size
      have g7 : Below w.heap.size w w7 := g6.trans (hb7.mono (by omega))
      replace c2x := c2x.carry hb7
      replace ow6 := own_stays ow6 hb7
      have HRD := Lib.hid (reads_pts0 (Rd.of_own (fun a => cPt_len a) (by omega) ow7 (Nat.le_refl _)))
      obtain ⟨m2, hm2⟩ : ∃ m, m = T1.length := ⟨_, rfl⟩
      rw [← hm2] at HRD HT1 ⊢
      have HM2 := Lib.hid hm2
      have HOW := Lib.hid ow6
      have HRB := Lib.hid (fun q (hq : (Value.slice (some ⟨w5.heap.size, 0, none⟩) 1 1).ownBlock = some q) => own_block ow6 hq)
      have HMX := Lib.hid (show 1 + m2 ≤ maxLen by have := HT1.out; unfold maxLen; omega)
      have HBY := Lib.hid (show (1 + m2) * 16 ≤ 140737488355328 by have := HT1.out; omega)
      have HBS := Lib.hid (show w5.heap.size ≤ w7.heap.size by omega)
      have HB2 := Lib.hid c2x
      clear hm2 ow6 ow5 ow7 hb7 KP g6 c2x
      go_wp2_with (at_builtin; refine wpList_append_any _ rfl (.tmp 31) (.tmp 34) _ rfl (w5.heap.size) 26 i1 _ 2 16 Try.underlying53 HI1.out HZ01.out HZ11.out HZ21.out rfl (by omega) (.slice (some ⟨w5.heap.size, 0, none⟩) 1 1) 1 [.int .i64 x, .int .i64 y] rfl HOW.out _ A7 m2 c7 (cellsF cPt T1) rfl HRD.out (pall_one _) HMX.out HBY.out HBS.out ?_; intro v9 w8 hown9 hg9 hat9; obtain ⟨A8, c8, rfl⟩ := pslice_of hown9; have HOWN8 := Lib.hid hown9; have pw8 := Blk.grown HB2.out hg9 (fun q hq => by have := HRB.out q hq; omega); have g8 : Below w.heap.size w w8 := (below_of_grown g7 hg9 (by have := g7.size; omega) (fun q hq => by have := HRB.out q hq; omega)); have yy0 : w8.cell? ⟨w.heap.size + 1, 0, none⟩ = some (.slice none 0 0) := pw8.cell 0 rfl; have yy1 := pw8.frozen 0; have yl := pw8.lt; clear hown9 hg9 hat9)
      have hlv : V.length = 1 + m2 := by rw [HV.out, List.length_append, ← HM2.out]; rfl
      have HLV := Lib.hid hlv
      clear hlv
      have hown8 := HOWN8.out
      refine bodyPost_ret (v := .tuple #[.agg #[.slice A8 (1 + m2) c8], .int .i64 0]) (by simp [results, Try.results33, go_sem, *]) rfl ⟨A8, c8, by rw [HLV.out], ?_, ?_⟩
      · rw [HLV.out, HV.out]; have h9 := own_base (base := w.heap.size) hown8 (by omega); exact own_keep (show w8.ownsRow w.heap.size 26 2 (.slice A8 (1 + m2) c8) (1 + m2) (cellsF cPt ([(x, y)] ++ T1)) from h9) (fun q hq h8 => by have := own_block hown8 hq; simp only at h8; omega) _
      · exact g8.setCell (by simp only; omega) _
end Go.Proofs.Ytdeemhfhmgnbgaa
