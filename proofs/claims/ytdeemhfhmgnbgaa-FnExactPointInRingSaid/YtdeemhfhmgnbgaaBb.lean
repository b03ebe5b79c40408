/- Walks: twice the area of a ring, on both sides; the law on RingTwice: it returns true. -/
import Derived.Test.YtdeemhfhmgnbgaaXb
namespace Go.Proofs.Ytdeemhfhmgnbgaa
open Go.RowKit
set_option linter.unusedVariables false
theorem rUp_one (l : List APt) : rUp [l] [l].length = vRg l := by
  unfold rUp; simp
theorem allE_one_ (l : List APt) : allE [l] = edL l := by unfold allE; simp
theorem vRn_one (l : List APt) : vRn [l] = vRg l := by
  rcases h : vRg l with _ | _
  · exact (vRn_bad (by rw [rUp_one]; exact h)).symm
  · have h2 := vRn_all (l := [l]) (by simp) (by rw [rUp_one]; exact h)
    rw [← h2, allE_one_]
    have := edL_len l
    have := (vRg_parts h).2.1
    simp; omega
theorem arL_one (l : List APt) : arL [l] = twL l := by unfold arL arUp; simp
def rtV (l : List APt) : Int := bif vRg l then twL l else 0
def rtC (l : List APt) : Int := bif vRg l then 0 else 1
theorem rt_no {l : List APt} (h : vRg l = false) : 0 = rtV l ∧ 1 = rtC l := by unfold rtV rtC; rw [h]; exact ⟨rfl, rfl⟩
theorem rt_yes {l : List APt} (h : vRg l = true) : twL l = rtV l ∧ 0 = rtC l := by unfold rtV rtC; rw [h]; exact ⟨rfl, rfl⟩
theorem rt_one (l : List APt) : arN [l] = rtV l ∧ arC [l] = rtC l := by
  unfold arN arC rtV rtC; rw [vRn_one, arL_one]; exact ⟨rfl, rfl⟩
theorem RdRing.one {w : World} {B q c : Nat} {A : Option Addr} {l : List APt} (hq : q < B) (hc : w.cell? ⟨q, 0, none⟩ = some (.slice A l.length c)) (r : Rd cPt 2 w B A l) : RdRing w B (some ⟨q, 0, none⟩) [l] := by
  refine ⟨[(A, c, l)], rfl, .inr ⟨q, 0, rfl, hq, fun k a hk i u hu => ?_⟩, fun i a hi => ?_⟩
  · rcases k with _ | k
    · simp only [List.getElem?_cons_zero, Option.some.injEq] at hk
      subst hk
      rcases i with _ | i
      · simp only [cRing, List.getElem?_cons_zero, Option.some.injEq] at hu
        subst hu; exact hc
      · simp [cRing] at hu
    · simp at hk
  · rcases i with _ | i
    · simp only [List.getElem?_cons_zero, Option.some.injEq] at hi
      subst hi; exact r
    · simp at hi
theorem hin_one {l : List APt} {N : Nat} (h : l.length ≤ N) : ∀ (i : Nat) (d : DRing), ([l] : List DRing)[i]? = some d → d.length ≤ N := by
  intro i d hd
  rcases i with _ | i
  · simp only [List.getElem?_cons_zero, Option.some.injEq] at hd
    subst hd; exact h
  · simp at hd
def AlRet (l : List APt) (w : World) (e : Ending) (w' : World) : Prop := ∃ q, e = .returned (.agg #[.slice (some ⟨q, 0, none⟩) 1 1]) ∧ RdRing w' w'.heap.size (some ⟨q, 0, none⟩) [l] ∧ Below w.heap.size w w'
set_option maxHeartbeats 3200000 in
theorem alone_any (l : List APt) (A : Option Addr) (c : Nat) (w : World) (r : Rd cPt 2 w w.heap.size A l) :
    Calls Try.prog 57 #[.agg #[.slice A l.length c]] w (AlRet l w) := by
  obtain ⟨n, hn⟩ : ∃ n, n = l.length := ⟨_, rfl⟩
  rw [← hn]
  have HN := Lib.hid hn
  clear hn
  unfold AlRet
  go_enter Try.func57, Try.ntmps57
  go_wp2_with fail
  refine bodyPost_ret (v := .agg #[.slice (some ⟨w.heap.size + 2, 0, none⟩) 1 1]) (by simp [results, Try.results57, go_sem]) rfl ⟨w.heap.size + 2, rfl, ?_, by repeat' (first | with_reducible assumption | with_reducible exact Below.refl _ _ | (with_reducible refine Below.setCell ?_ ?_ _) | (with_reducible refine Below.alloc ?_ ?_ _) | (with_reducible refine Below.drew ?_) | (with_reducible refine below_dr ?_ _) | (with_reducible refine Below.trans ?_ (Below.mono (by with_reducible assumption) ?_)) | omega | (simp; done) | (simp; omega))⟩
  refine RdRing.one (A := A) (c := c) (by simp) (by rw [← HN.out]; simp [go_sem]) ?_
  (refine Rd.more (B := w.heap.size) ?_ (by first | omega | ((try simp only [World.size_setCell]); (try simp only [World.size_drew]); (try simp only [World.size_alloc]); omega) | (simp; done) | (simp; omega))); (repeat' (first | with_reducible assumption | (with_reducible refine Rd.drew ?_) | (with_reducible refine Rd.carry ?_ (by with_reducible assumption) ?_) | (with_reducible refine Rd.alloc ?_ ?_ _) | (with_reducible refine Rd.setCell ?_ ?_ _) | omega | (simp; done) | (simp; omega)))
set_option maxHeartbeats 3200000 in
theorem specRingTwice_any (l : List APt) (A : Option Addr) (c : Nat) (w : World) (hl : l.length ≤ 1048576) (r : Rd cPt 2 w w.heap.size A l) :
    Calls Try.prog 22 #[.agg #[.slice A l.length c]] w fun e w' => e = .returned (.tuple #[.int .i64 (rtV l), .int .i64 (rtC l)]) ∧ Below w.heap.size w w' := by
  have CV := Lib.hid (fun w1 h1 h2 r1 => l13Ring_any l A c w.heap.size 0 w1 h1 h2 hl r1)
  rcases hv : vRg l with _ | _
  case false =>
    have H := Lib.hid (rt_no hv)
    rw [hv] at CV
    clear hv
    obtain ⟨v1, hv1⟩ : ∃ v, v = rtV l := ⟨_, rfl⟩
    obtain ⟨v2, hv2⟩ : ∃ v, v = rtC l := ⟨_, rfl⟩
    rw [← hv1, ← hv2] at H ⊢
    clear hv1 hv2
    obtain ⟨n, hn⟩ : ∃ n, n = l.length := ⟨_, rfl⟩
    rw [← hn] at hl CV ⊢
    clear hn
    go_enter Try.func22, Try.ntmps22
    go_wp2_with fail
    refine (CV.out _ (by simp) (by simp [go_sem]) ((r.alloc (Nat.le_refl _) _).more (by simp))).mono ?_
    rintro e w1 ⟨rfl, hb1⟩
    go_wp2_with fail
    refine bodyPost_ret (v := .tuple #[.int .i64 v1, .int .i64 v2]) (by rw [← H.out.1, ← H.out.2]; simp [results, Try.results22, go_sem]) rfl ⟨rfl, by repeat' (first | with_reducible assumption | with_reducible exact Below.refl _ _ | (with_reducible refine Below.setCell ?_ ?_ _) | (with_reducible refine Below.alloc ?_ ?_ _) | (with_reducible refine Below.drew ?_) | (with_reducible refine below_dr ?_ _) | (with_reducible refine Below.trans ?_ (Below.mono (by with_reducible assumption) ?_)) | omega | (simp; done) | (simp; omega))⟩
  case true =>
    have H := Lib.hid (rt_yes hv)
    rw [hv] at CV
    have CT := Lib.hid (fun A c w r => l14Twice_any l A c w hv r)
    clear hv
    obtain ⟨v1, hv1⟩ : ∃ v, v = rtV l := ⟨_, rfl⟩
    obtain ⟨v2, hv2⟩ : ∃ v, v = rtC l := ⟨_, rfl⟩
    rw [← hv1, ← hv2] at H ⊢
    clear hv1 hv2
    obtain ⟨n, hn⟩ : ∃ n, n = l.length := ⟨_, rfl⟩
    rw [← hn] at hl CV CT ⊢
    generalize twL l = tv at CT H
    clear hn
    go_enter Try.func22, Try.ntmps22
    go_wp2_with fail
    refine (CV.out _ (by simp) (by simp [go_sem]) ((r.alloc (Nat.le_refl _) _).more (by simp))).mono ?_
    rintro e w1 ⟨rfl, hb1⟩
    have at1 : AtL w.heap.size [.slice A n c] w1 := (AtL.new w _ 55).below hb1
    have k0 := at1.cell 0 rfl
    have lw := at1.lt
    have g1 : Below w.heap.size w w1 := by repeat' (first | with_reducible assumption | with_reducible exact Below.refl _ _ | (with_reducible refine Below.setCell ?_ ?_ _) | (with_reducible refine Below.alloc ?_ ?_ _) | (with_reducible refine Below.drew ?_) | (with_reducible refine below_dr ?_ _) | (with_reducible refine Below.trans ?_ (Below.mono (by with_reducible assumption) ?_)) | omega | (simp; done) | (simp; omega))
    have r1 : Rd cPt 2 w1 w1.heap.size A l := (r.below g1).more g1.size
    clear hb1 r
    go_wp2_with fail
    refine (CT.out _ _ _ r1).mono ?_
    rintro e w2 ⟨rfl, hb2⟩
    have g2 : Below w.heap.size w w2 := by repeat' (first | with_reducible assumption | with_reducible exact Below.refl _ _ | (with_reducible refine Below.setCell ?_ ?_ _) | (with_reducible refine Below.alloc ?_ ?_ _) | (with_reducible refine Below.drew ?_) | (with_reducible refine below_dr ?_ _) | (with_reducible refine Below.trans ?_ (Below.mono (by with_reducible assumption) ?_)) | omega | (simp; done) | (simp; omega))
    go_wp2_with fail
    refine bodyPost_ret (v := .tuple #[.int .i64 v1, .int .i64 v2]) (by rw [← H.out.1, ← H.out.2]; simp [results, Try.results22, go_sem]) rfl ⟨rfl, by repeat' (first | with_reducible assumption | with_reducible exact Below.refl _ _ | (with_reducible refine Below.setCell ?_ ?_ _) | (with_reducible refine Below.alloc ?_ ?_ _) | (with_reducible refine Below.drew ?_) | (with_reducible refine below_dr ?_ _) | (with_reducible refine Below.trans ?_ (Below.mono (by with_reducible assumption) ?_)) | omega | (simp; done) | (simp; omega))⟩
set_option maxHeartbeats 3200000 in
theorem implRingTwice_any (l : List APt) (A : Option Addr) (c : Nat) (w : World) (hl : l.length ≤ 1048576) (r : Rd cPt 2 w w.heap.size A l) :
    Calls Try.prog 24 #[.agg #[.slice A l.length c]] w fun e w' => e = .returned (.tuple #[.int .i64 (rtV l), .int .i64 (rtC l)]) ∧ Below w.heap.size w w' := by
  have CA := Lib.hid (fun w r => alone_any l A c w r)
  have CT := Lib.hid (fun A c w r => implAreaTwice_any [l] A c w (by simp) (hin_one hl) r)
  rw [(rt_one l).1, (rt_one l).2] at CT
  simp only [List.length_singleton] at CT
  unfold AlRet at CA
  obtain ⟨v1, hv1⟩ : ∃ v, v = rtV l := ⟨_, rfl⟩
  obtain ⟨v2, hv2⟩ : ∃ v, v = rtC l := ⟨_, rfl⟩
  rw [← hv1, ← hv2] at CT ⊢
  clear hv1 hv2
  obtain ⟨n, hn⟩ : ∃ n, n = l.length := ⟨_, rfl⟩
  rw [← hn] at hl CA ⊢
  clear hn
  go_enter Try.func24, Try.ntmps24
  go_wp2_with fail
  refine (CA.out _ ((r.alloc (Nat.le_refl _) _).more (by simp))).mono ?_
  intro e w1 hq1
  obtain ⟨q, rfl, r1, hb1⟩ := hq1
  have g1 : Below w.heap.size w w1 := by repeat' (first | with_reducible assumption | with_reducible exact Below.refl _ _ | (with_reducible refine Below.setCell ?_ ?_ _) | (with_reducible refine Below.alloc ?_ ?_ _) | (with_reducible refine Below.drew ?_) | (with_reducible refine below_dr ?_ _) | (with_reducible refine Below.trans ?_ (Below.mono (by with_reducible assumption) ?_)) | omega | (simp; done) | (simp; omega))
  clear hb1 r CA
  go_wp2_with fail
  refine (CT.out _ _ _ r1).mono ?_
  rintro e w2 ⟨rfl, hb2⟩
  have z1 := g1.size
  have g2 : Below w.heap.size w w2 := by repeat' (first | with_reducible assumption | with_reducible exact Below.refl _ _ | (with_reducible refine Below.setCell ?_ ?_ _) | (with_reducible refine Below.alloc ?_ ?_ _) | (with_reducible refine Below.drew ?_) | (with_reducible refine below_dr ?_ _) | (with_reducible refine Below.trans ?_ (Below.mono (by with_reducible assumption) ?_)) | omega | (simp; done) | (simp; omega))
  go_wp2_with fail
  refine bodyPost_ret (v := .tuple #[.int .i64 v1, .int .i64 v2]) (by simp [results, Try.results24, go_sem]) rfl ⟨rfl, by repeat' (first | with_reducible assumption | with_reducible exact Below.refl _ _ | (with_reducible refine Below.setCell ?_ ?_ _) | (with_reducible refine Below.alloc ?_ ?_ _) | (with_reducible refine Below.drew ?_) | (with_reducible refine below_dr ?_ _) | (with_reducible refine Below.trans ?_ (Below.mono (by with_reducible assumption) ?_)) | omega | (simp; done) | (simp; omega))⟩
set_option maxRecDepth 100000 in
set_option maxHeartbeats 6400000 in
theorem walk_RingTwice (a : ARing) (w : World) (k_a : okRing w w.heap.size a) :
    Calls Try.prog 5 #[.agg #[.slice a.1 a.2.2.length a.2.1]] w fun e w' => e = .returned (.bool true) ∧ Below w.heap.size w w' := by
  obtain ⟨a0A, a0c, a0l⟩ := a
  obtain ⟨nc_a0, cm_a0, rd_a0, ok_a0⟩ := k_a
  simp only at nc_a0 cm_a0 rd_a0 ok_a0 ⊢
  have hm_a0 : a0l.length ≤ 9223372036854775807 := by unfold maxLen at cm_a0; omega
  have HOK_a0 := Lib.hid (show ∀ (w2 : World) (B : Nat) (i : Nat) (b : APt), a0l[i]? = some b → okPt w2 B b from fun _ _ i b h => ok_a0 i b h)
  clear ok_a0 nc_a0 cm_a0
  have C1 := Lib.hid (fun A c w hl r => specRingTwice_any a0l A c w hl r)
  have C2 := Lib.hid (fun A c w hl r => implRingTwice_any a0l A c w hl r)
  generalize rtV a0l = v at C1 C2
  generalize rtC a0l = u at C1 C2
  have e_v : (v != v) = false := by simp
  have e_u : (u != u) = false := by simp
  go_enter Try.func5, Try.ntmps5
  go_wp2_with fail
  generalize hW : (w.alloc (.cells #[.slice a0A a0l.length a0c] 49)) = W0
  have rd_a0w : Rd cPt 2 w (w.heap.size) a0A a0l := rd_a0
  have bx_aW0 : AtL (w.heap.size) [.slice a0A a0l.length a0c] W0 := by rw [← hW]; repeat' (first | with_reducible assumption | with_reducible exact AtL.new _ _ _ | ((with_reducible refine AtL.newAt ?_); (first | rfl | (simp; done))) | (with_reducible refine AtL.drew ?_) | (with_reducible refine AtL.below ?_ (by with_reducible assumption)) | (with_reducible refine AtL.alloc ?_ _) | (with_reducible refine AtL.far ?_ ?_ _ _) | omega | (simp; done) | (simp; omega))
  have rd_a0W0 : Rd cPt 2 W0 (w.heap.size) a0A a0l := by rw [← hW]; repeat' (first | with_reducible assumption | (with_reducible refine Rd.drew ?_) | (with_reducible refine Rd.carry ?_ (by with_reducible assumption) ?_) | (with_reducible refine Rd.alloc ?_ ?_ _) | (with_reducible refine Rd.setCell ?_ ?_ _) | omega | (simp; done) | (simp; omega))
  have qW0 : w.heap.size ≤ W0.heap.size := by rw [← hW]; simp
  have bn : Below w.heap.size w W0 := by rw [← hW]; repeat' (first | with_reducible assumption | with_reducible exact Below.refl _ _ | (with_reducible refine Below.setCell ?_ ?_ _) | (with_reducible refine Below.alloc ?_ ?_ _) | (with_reducible refine Below.drew ?_) | (with_reducible refine below_dr ?_ _) | (with_reducible refine Below.trans ?_ (Below.mono (by with_reducible assumption) ?_)) | omega | (simp; done) | (simp; omega))
  have bW0 := Lib.hid bn
  clear hW bn
  clear rd_a0w rd_a0
  have hV0 : 0 ≤ (1048576 : Int) ∧ (1048576 : Int) ≤ 1048576 := by omega
  by_cases hfit : ((a0l.length : Nat) : Int) ≤ 1048576
  case neg =>
    replace hfit : 1048576 < ((a0l.length : Nat) : Int) := by omega
    refine (szRing_no a0A a0c a0l 1048576 _ (by omega) (by omega) hm_a0 hfit ?_ (HOK_a0.out _ _)).mono ?_
    · (refine Rd.more (B := w.heap.size) ?_ (by first | omega | ((try simp only [World.size_setCell]); (try simp only [World.size_drew]); (try simp only [World.size_alloc]); omega) | (simp; done) | (simp; omega))); (repeat' (first | with_reducible assumption | (with_reducible refine Rd.drew ?_) | (with_reducible refine Rd.carry ?_ (by with_reducible assumption) ?_) | (with_reducible refine Rd.alloc ?_ ?_ _) | (with_reducible refine Rd.setCell ?_ ?_ _) | omega | (simp; done) | (simp; omega)))
    rintro e wN ⟨rfl, hb⟩
    go_wp2_with fail
    go_ret
    have bp := bW0.out
    exact ⟨rfl, by repeat' (first | with_reducible assumption | with_reducible exact Below.refl _ _ | (with_reducible refine Below.setCell ?_ ?_ _) | (with_reducible refine Below.alloc ?_ ?_ _) | (with_reducible refine Below.drew ?_) | (with_reducible refine below_dr ?_ _) | (with_reducible refine Below.trans ?_ (Below.mono (by with_reducible assumption) ?_)) | omega | (simp; done) | (simp; omega))⟩
  case pos =>
    have hl_a0 : a0l.length ≤ 1048576 := by omega
    refine (szRing_yes a0A a0c a0l 1048576 _ (by omega) (by omega) (by omega) hfit ?_ (HOK_a0.out _ _)).mono ?_
    · (refine Rd.more (B := w.heap.size) ?_ (by first | omega | ((try simp only [World.size_setCell]); (try simp only [World.size_drew]); (try simp only [World.size_alloc]); omega) | (simp; done) | (simp; omega))); (repeat' (first | with_reducible assumption | (with_reducible refine Rd.drew ?_) | (with_reducible refine Rd.carry ?_ (by with_reducible assumption) ?_) | (with_reducible refine Rd.alloc ?_ ?_ _) | (with_reducible refine Rd.setCell ?_ ?_ _) | omega | (simp; done) | (simp; omega)))
    obtain ⟨V0, hV⟩ : ∃ V : Int, V = 1048576 - (a0l.length : Nat) := ⟨_, rfl⟩
    have hVV : 0 ≤ V0 ∧ V0 ≤ 1048576 := by omega
    rw [← hV]
    rintro e wS0 ⟨rfl, hbwS0⟩
    clear hV hfit
    obtain ⟨hV0_0, hV1_0⟩ := hVV
    have zwS0 := hbwS0.size
    (try simp only [World.size_setCell] at zwS0)
    (try simp only [World.size_drew] at zwS0)
    (try simp only [World.size_alloc] at zwS0)
    have qwS0 : w.heap.size ≤ wS0.heap.size := by omega
    have bx_awS0 : AtL (w.heap.size) [.slice a0A a0l.length a0c] wS0 := by repeat' (first | with_reducible assumption | with_reducible exact AtL.new _ _ _ | ((with_reducible refine AtL.newAt ?_); (first | rfl | (simp; done))) | (with_reducible refine AtL.drew ?_) | (with_reducible refine AtL.below ?_ (by with_reducible assumption)) | (with_reducible refine AtL.alloc ?_ _) | (with_reducible refine AtL.far ?_ ?_ _ _) | omega | (simp; done) | (simp; omega))
    have rd_a0wS0 : Rd cPt 2 wS0 (w.heap.size) a0A a0l := by repeat' (first | with_reducible assumption | (with_reducible refine Rd.drew ?_) | (with_reducible refine Rd.carry ?_ (by with_reducible assumption) ?_) | (with_reducible refine Rd.alloc ?_ ?_ _) | (with_reducible refine Rd.setCell ?_ ?_ _) | omega | (simp; done) | (simp; omega))
    have bp := bW0.out
    have bn : Below w.heap.size w wS0 := by repeat' (first | with_reducible assumption | with_reducible exact Below.refl _ _ | (with_reducible refine Below.setCell ?_ ?_ _) | (with_reducible refine Below.alloc ?_ ?_ _) | (with_reducible refine Below.drew ?_) | (with_reducible refine below_dr ?_ _) | (with_reducible refine Below.trans ?_ (Below.mono (by with_reducible assumption) ?_)) | omega | (simp; done) | (simp; omega))
    have bwS0 := Lib.hid bn
    clear bn
    clear bp bW0
    clear hbwS0
    clear bx_aW0
    clear rd_a0W0
    have kbx_a0 := bx_awS0.cell 0 rfl
    have lbx_a := bx_awS0.lt
    go_wp2_with fail
    clear kbx_a0 lbx_a
    refine (toRing_any a0A a0c a0l _ hl_a0 ?_).mono ?_
    · (refine Rd.more (B := w.heap.size) ?_ (by first | omega | ((try simp only [World.size_setCell]); (try simp only [World.size_drew]); (try simp only [World.size_alloc]); omega) | (simp; done) | (simp; omega))); (repeat' (first | with_reducible assumption | (with_reducible refine Rd.drew ?_) | (with_reducible refine Rd.carry ?_ (by with_reducible assumption) ?_) | (with_reducible refine Rd.alloc ?_ ?_ _) | (with_reducible refine Rd.setCell ?_ ?_ _) | omega | (simp; done) | (simp; omega)))
    intro e wA hq
    obtain ⟨gA_a0, rfl, owA_a0, hbwA⟩ := hq
    have zwA := hbwA.size
    (try simp only [World.size_setCell] at zwA)
    (try simp only [World.size_drew] at zwA)
    (try simp only [World.size_alloc] at zwA)
    have qwA : w.heap.size ≤ wA.heap.size := by omega
    have bx_awA : AtL (w.heap.size) [.slice a0A a0l.length a0c] wA := by repeat' (first | with_reducible assumption | with_reducible exact AtL.new _ _ _ | ((with_reducible refine AtL.newAt ?_); (first | rfl | (simp; done))) | (with_reducible refine AtL.drew ?_) | (with_reducible refine AtL.below ?_ (by with_reducible assumption)) | (with_reducible refine AtL.alloc ?_ _) | (with_reducible refine AtL.far ?_ ?_ _ _) | omega | (simp; done) | (simp; omega))
    have rd_a0wA : Rd cPt 2 wA (w.heap.size) a0A a0l := by repeat' (first | with_reducible assumption | (with_reducible refine Rd.drew ?_) | (with_reducible refine Rd.carry ?_ (by with_reducible assumption) ?_) | (with_reducible refine Rd.alloc ?_ ?_ _) | (with_reducible refine Rd.setCell ?_ ?_ _) | omega | (simp; done) | (simp; omega))
    have bp := bwS0.out
    have bn : Below w.heap.size w wA := by repeat' (first | with_reducible assumption | with_reducible exact Below.refl _ _ | (with_reducible refine Below.setCell ?_ ?_ _) | (with_reducible refine Below.alloc ?_ ?_ _) | (with_reducible refine Below.drew ?_) | (with_reducible refine below_dr ?_ _) | (with_reducible refine Below.trans ?_ (Below.mono (by with_reducible assumption) ?_)) | omega | (simp; done) | (simp; omega))
    have bwA := Lib.hid bn
    clear bn
    clear bp bwS0
    clear hbwA
    clear bx_awS0
    clear rd_a0wS0
    go_wp2_with fail
    refine (C1.out (some ⟨gA_a0, 0, none⟩) a0l.length _ hl_a0 ?_).mono ?_
    · (first | exact Rd.of_own (fun a => cPt_len a) (by omega) owA_a0 (by first | exact Nat.le_refl _ | (simp; done)) | exact Rd.drew (Rd.of_own (fun a => cPt_len a) (by omega) owA_a0 (by first | exact Nat.le_refl _ | (simp; done))))
    rintro e wB ⟨rfl, hbwB⟩
    clear owA_a0
    have zwB := hbwB.size
    (try simp only [World.size_setCell] at zwB)
    (try simp only [World.size_drew] at zwB)
    (try simp only [World.size_alloc] at zwB)
    have qwB : w.heap.size ≤ wB.heap.size := by omega
    have bx_awB : AtL (w.heap.size) [.slice a0A a0l.length a0c] wB := by repeat' (first | with_reducible assumption | with_reducible exact AtL.new _ _ _ | ((with_reducible refine AtL.newAt ?_); (first | rfl | (simp; done))) | (with_reducible refine AtL.drew ?_) | (with_reducible refine AtL.below ?_ (by with_reducible assumption)) | (with_reducible refine AtL.alloc ?_ _) | (with_reducible refine AtL.far ?_ ?_ _ _) | omega | (simp; done) | (simp; omega))
    have rd_a0wB : Rd cPt 2 wB (w.heap.size) a0A a0l := by repeat' (first | with_reducible assumption | (with_reducible refine Rd.drew ?_) | (with_reducible refine Rd.carry ?_ (by with_reducible assumption) ?_) | (with_reducible refine Rd.alloc ?_ ?_ _) | (with_reducible refine Rd.setCell ?_ ?_ _) | omega | (simp; done) | (simp; omega))
    have bp := bwA.out
    have bn : Below w.heap.size w wB := by repeat' (first | with_reducible assumption | with_reducible exact Below.refl _ _ | (with_reducible refine Below.setCell ?_ ?_ _) | (with_reducible refine Below.alloc ?_ ?_ _) | (with_reducible refine Below.drew ?_) | (with_reducible refine below_dr ?_ _) | (with_reducible refine Below.trans ?_ (Below.mono (by with_reducible assumption) ?_)) | omega | (simp; done) | (simp; omega))
    have bwB := Lib.hid bn
    clear bn
    clear bp bwA
    clear hbwB
    clear bx_awA
    clear rd_a0wA
    have kbx_a0 := bx_awB.cell 0 rfl
    have lbx_a := bx_awB.lt
    go_wp2_with fail
    clear kbx_a0 lbx_a
    refine (toRing_any a0A a0c a0l _ hl_a0 ?_).mono ?_
    · (refine Rd.more (B := w.heap.size) ?_ (by first | omega | ((try simp only [World.size_setCell]); (try simp only [World.size_drew]); (try simp only [World.size_alloc]); omega) | (simp; done) | (simp; omega))); (repeat' (first | with_reducible assumption | (with_reducible refine Rd.drew ?_) | (with_reducible refine Rd.carry ?_ (by with_reducible assumption) ?_) | (with_reducible refine Rd.alloc ?_ ?_ _) | (with_reducible refine Rd.setCell ?_ ?_ _) | omega | (simp; done) | (simp; omega)))
    intro e wX0 hq
    obtain ⟨gX_a0, rfl, owX_a0, hbwX0⟩ := hq
    have zwX0 := hbwX0.size
    (try simp only [World.size_setCell] at zwX0)
    (try simp only [World.size_drew] at zwX0)
    (try simp only [World.size_alloc] at zwX0)
    have qwX0 : w.heap.size ≤ wX0.heap.size := by omega
    have bx_awX0 : AtL (w.heap.size) [.slice a0A a0l.length a0c] wX0 := by repeat' (first | with_reducible assumption | with_reducible exact AtL.new _ _ _ | ((with_reducible refine AtL.newAt ?_); (first | rfl | (simp; done))) | (with_reducible refine AtL.drew ?_) | (with_reducible refine AtL.below ?_ (by with_reducible assumption)) | (with_reducible refine AtL.alloc ?_ _) | (with_reducible refine AtL.far ?_ ?_ _ _) | omega | (simp; done) | (simp; omega))
    have rd_a0wX0 : Rd cPt 2 wX0 (w.heap.size) a0A a0l := by repeat' (first | with_reducible assumption | (with_reducible refine Rd.drew ?_) | (with_reducible refine Rd.carry ?_ (by with_reducible assumption) ?_) | (with_reducible refine Rd.alloc ?_ ?_ _) | (with_reducible refine Rd.setCell ?_ ?_ _) | omega | (simp; done) | (simp; omega))
    have bp := bwB.out
    have bn : Below w.heap.size w wX0 := by repeat' (first | with_reducible assumption | with_reducible exact Below.refl _ _ | (with_reducible refine Below.setCell ?_ ?_ _) | (with_reducible refine Below.alloc ?_ ?_ _) | (with_reducible refine Below.drew ?_) | (with_reducible refine below_dr ?_ _) | (with_reducible refine Below.trans ?_ (Below.mono (by with_reducible assumption) ?_)) | omega | (simp; done) | (simp; omega))
    have bwX0 := Lib.hid bn
    clear bn
    clear bp bwB
    clear hbwX0
    clear bx_awB
    clear rd_a0wB
    have rx_a0wX0 : Rd cPt 2 wX0 (wX0.heap.size) (some ⟨gX_a0, 0, none⟩) a0l := Rd.of_own (fun a => cPt_len a) (by omega) owX_a0 (Nat.le_refl _)
    clear owX_a0
    go_wp2_with fail
    refine (C2.out (some ⟨gX_a0, 0, none⟩) a0l.length _ hl_a0 ?_).mono ?_
    · (refine Rd.more (B := wX0.heap.size) ?_ (by first | omega | ((try simp only [World.size_setCell]); (try simp only [World.size_drew]); (try simp only [World.size_alloc]); omega) | (simp; done) | (simp; omega))); (repeat' (first | with_reducible assumption | (with_reducible refine Rd.drew ?_) | (with_reducible refine Rd.carry ?_ (by with_reducible assumption) ?_) | (with_reducible refine Rd.alloc ?_ ?_ _) | (with_reducible refine Rd.setCell ?_ ?_ _) | omega | (simp; done) | (simp; omega)))
    rintro e wI ⟨rfl, hbwI⟩
    have zwI := hbwI.size
    (try simp only [World.size_setCell] at zwI)
    (try simp only [World.size_drew] at zwI)
    (try simp only [World.size_alloc] at zwI)
    have qwI : w.heap.size ≤ wI.heap.size := by omega
    have bx_awI : AtL (w.heap.size) [.slice a0A a0l.length a0c] wI := by repeat' (first | with_reducible assumption | with_reducible exact AtL.new _ _ _ | ((with_reducible refine AtL.newAt ?_); (first | rfl | (simp; done))) | (with_reducible refine AtL.drew ?_) | (with_reducible refine AtL.below ?_ (by with_reducible assumption)) | (with_reducible refine AtL.alloc ?_ _) | (with_reducible refine AtL.far ?_ ?_ _ _) | omega | (simp; done) | (simp; omega))
    have rd_a0wI : Rd cPt 2 wI (w.heap.size) a0A a0l := by repeat' (first | with_reducible assumption | (with_reducible refine Rd.drew ?_) | (with_reducible refine Rd.carry ?_ (by with_reducible assumption) ?_) | (with_reducible refine Rd.alloc ?_ ?_ _) | (with_reducible refine Rd.setCell ?_ ?_ _) | omega | (simp; done) | (simp; omega))
    have rx_a0wI : Rd cPt 2 wI (wX0.heap.size) (some ⟨gX_a0, 0, none⟩) a0l := by repeat' (first | with_reducible assumption | (with_reducible refine Rd.drew ?_) | (with_reducible refine Rd.carry ?_ (by with_reducible assumption) ?_) | (with_reducible refine Rd.alloc ?_ ?_ _) | (with_reducible refine Rd.setCell ?_ ?_ _) | omega | (simp; done) | (simp; omega))
    have at_awI : AtL (wX0.heap.size) [.slice (some ⟨gX_a0, 0, none⟩) a0l.length a0l.length] wI := by repeat' (first | with_reducible assumption | with_reducible exact AtL.new _ _ _ | ((with_reducible refine AtL.newAt ?_); (first | rfl | (simp; done))) | (with_reducible refine AtL.drew ?_) | (with_reducible refine AtL.below ?_ (by with_reducible assumption)) | (with_reducible refine AtL.alloc ?_ _) | (with_reducible refine AtL.far ?_ ?_ _ _) | omega | (simp; done) | (simp; omega))
    have bp := bwX0.out
    have bn : Below w.heap.size w wI := by repeat' (first | with_reducible assumption | with_reducible exact Below.refl _ _ | (with_reducible refine Below.setCell ?_ ?_ _) | (with_reducible refine Below.alloc ?_ ?_ _) | (with_reducible refine Below.drew ?_) | (with_reducible refine below_dr ?_ _) | (with_reducible refine Below.trans ?_ (Below.mono (by with_reducible assumption) ?_)) | omega | (simp; done) | (simp; omega))
    have bwI := Lib.hid bn
    clear bn
    clear bp bwX0
    clear hbwI
    clear bx_awX0
    clear rd_a0wX0
    clear rx_a0wX0
    have kat_a0 := at_awI.cell 0 rfl
    have lat_a := at_awI.lt
    have kbx_a0 := bx_awI.cell 0 rfl
    have lbx_a := bx_awI.lt
    go_wp2_with fail
    go_region_held3 (fun w' => (∀ b o, b < wI.heap.size → w'.cell? ⟨b, o, none⟩ = wI.cell? ⟨b, o, none⟩) ∧ wI.heap.size ≤ w'.heap.size)
      (first | ((try dsimp only); exact ⟨fun b o h => (by (repeat (first | with_reducible exact rfl | (with_reducible refine (cell_drew_at _ _).trans ?_) | (with_reducible refine (cell_set_at _ _ (by first | omega | (simp; done) | (simp; omega))).trans ?_) | (with_reducible refine (cell_alloc_at _ _ (by first | omega | (simp; done) | (simp; omega))).trans ?_) | (with_reducible refine (hcwT0 b o (by first | omega | (simp; done) | (simp; omega))).trans ?_) | (with_reducible refine (hcwE0 b o (by first | omega | (simp; done) | (simp; omega))).trans ?_)))), (by first | omega | (simp; done) | (simp; omega))⟩) | fail)
      (first
        | (go_at_call 23; (with_reducible refine (toRing_any a0A a0c a0l _ hl_a0 ?_).mono ?_); (focus ((refine Rd.more (B := w.heap.size) ?_ (by first | omega | ((try simp only [World.size_setCell]); (try simp only [World.size_drew]); (try simp only [World.size_alloc]); omega) | (simp; done) | (simp; omega))); (repeat' (first | with_reducible assumption | (with_reducible refine Rd.drew ?_) | (with_reducible refine Rd.carry ?_ (by with_reducible assumption) ?_) | (with_reducible refine Rd.alloc ?_ ?_ _) | (with_reducible refine Rd.setCell ?_ ?_ _) | omega | (simp; done) | (simp; omega))))); intro e wT0 hq; obtain ⟨g_owE_a0, rfl, owE_a0, hbwT0⟩ := hq; obtain ⟨hcwT0, hfwT0⟩ := bcell hbwT0; have hzwT0 := hbwT0.size; (try simp only [World.size_drew] at hcwT0 hfwT0 hzwT0); (try simp only [World.size_alloc] at hcwT0 hfwT0 hzwT0))
        | (go_at_call 25; (with_reducible refine (eqRing_same (some ⟨gX_a0, 0, none⟩) a0l.length a0l (some ⟨g_owE_a0, 0, none⟩) a0l.length _ (by omega) ?_ ?_).mono ?_); (focus ((refine Rd.more (B := wX0.heap.size) ?_ (by first | omega | ((try simp only [World.size_setCell]); (try simp only [World.size_drew]); (try simp only [World.size_alloc]); omega) | (simp; done) | (simp; omega))); (repeat' (first | with_reducible assumption | (with_reducible refine Rd.drew ?_) | (with_reducible refine Rd.carry ?_ (by with_reducible assumption) ?_) | (with_reducible refine Rd.alloc ?_ ?_ _) | (with_reducible refine Rd.setCell ?_ ?_ _) | omega | (simp; done) | (simp; omega))))); (focus ((first | exact Rd.of_own (fun a => cPt_len a) (by omega) owE_a0 (by first | exact Nat.le_refl _ | (simp; done)) | exact Rd.drew (Rd.of_own (fun a => cPt_len a) (by omega) owE_a0 (by first | exact Nat.le_refl _ | (simp; done)))))); rintro e wE0 ⟨rfl, hbwE0⟩; obtain ⟨hcwE0, hfwE0⟩ := bcell hbwE0; have hzwE0 := hbwE0.size; (try simp only [World.size_drew] at hcwE0 hfwE0 hzwE0); (try simp only [World.size_alloc] at hcwE0 hfwE0 hzwE0)))
    clear kat_a0 lat_a
    clear kbx_a0 lbx_a
    all_goals
      have zwE0 := hbwE0.size
      (try simp only [World.size_setCell] at zwE0)
      (try simp only [World.size_drew] at zwE0)
      (try simp only [World.size_alloc] at zwE0)
      have qwE0 : w.heap.size ≤ wE0.heap.size := by omega
      have bx_awE0 : AtL (w.heap.size) [.slice a0A a0l.length a0c] wE0 := by repeat' (first | with_reducible assumption | with_reducible exact AtL.new _ _ _ | ((with_reducible refine AtL.newAt ?_); (first | rfl | (simp; done))) | (with_reducible refine AtL.drew ?_) | (with_reducible refine AtL.below ?_ (by with_reducible assumption)) | (with_reducible refine AtL.alloc ?_ _) | (with_reducible refine AtL.far ?_ ?_ _ _) | omega | (simp; done) | (simp; omega))
      have rd_a0wE0 : Rd cPt 2 wE0 (w.heap.size) a0A a0l := by repeat' (first | with_reducible assumption | (with_reducible refine Rd.drew ?_) | (with_reducible refine Rd.carry ?_ (by with_reducible assumption) ?_) | (with_reducible refine Rd.alloc ?_ ?_ _) | (with_reducible refine Rd.setCell ?_ ?_ _) | omega | (simp; done) | (simp; omega))
      have rx_a0wE0 : Rd cPt 2 wE0 (wX0.heap.size) (some ⟨gX_a0, 0, none⟩) a0l := by repeat' (first | with_reducible assumption | (with_reducible refine Rd.drew ?_) | (with_reducible refine Rd.carry ?_ (by with_reducible assumption) ?_) | (with_reducible refine Rd.alloc ?_ ?_ _) | (with_reducible refine Rd.setCell ?_ ?_ _) | omega | (simp; done) | (simp; omega))
      have at_awE0 : AtL (wX0.heap.size) [.slice (some ⟨gX_a0, 0, none⟩) a0l.length a0l.length] wE0 := by repeat' (first | with_reducible assumption | with_reducible exact AtL.new _ _ _ | ((with_reducible refine AtL.newAt ?_); (first | rfl | (simp; done))) | (with_reducible refine AtL.drew ?_) | (with_reducible refine AtL.below ?_ (by with_reducible assumption)) | (with_reducible refine AtL.alloc ?_ _) | (with_reducible refine AtL.far ?_ ?_ _ _) | omega | (simp; done) | (simp; omega))
      have bp := bwI.out
      have bn : Below w.heap.size w wE0 := by repeat' (first | with_reducible assumption | with_reducible exact Below.refl _ _ | (with_reducible refine Below.setCell ?_ ?_ _) | (with_reducible refine Below.alloc ?_ ?_ _) | (with_reducible refine Below.drew ?_) | (with_reducible refine below_dr ?_ _) | (with_reducible refine Below.trans ?_ (Below.mono (by with_reducible assumption) ?_)) | omega | (simp; done) | (simp; omega))
      have bwE0 := Lib.hid bn
      clear bn
      clear bp bwI
      clear hbwE0
      clear bx_awI
      clear rd_a0wI
      clear rx_a0wI
      clear at_awI
      go_wp2_with fail
      go_ret
      have bp := bwE0.out
      exact ⟨rfl, by repeat' (first | with_reducible assumption | with_reducible exact Below.refl _ _ | (with_reducible refine Below.setCell ?_ ?_ _) | (with_reducible refine Below.alloc ?_ ?_ _) | (with_reducible refine Below.drew ?_) | (with_reducible refine below_dr ?_ _) | (with_reducible refine Below.trans ?_ (Below.mono (by with_reducible assumption) ?_)) | omega | (simp; done) | (simp; omega))⟩
end Go.Proofs.Ytdeemhfhmgnbgaa
