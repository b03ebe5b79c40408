/- Walks: the rings of two regions together, the program's side. -/
import Derived.Test.YtdeemhfhmgnbgaaBm
import Derived.Test.YtdeemhfhmgnbgaaBi
namespace Go.Proofs.Ytdeemhfhmgnbgaa
open Go.RowKit
set_option linter.unusedVariables false
/-- The rings of both, in the library's new list. -/
theorem concat_any (ds1 ds2 : List DRing) (A1 A2 : Option Addr) (c1 c2 q : Nat) (w : World) (hl1 : ds1.length ≤ 400) (hl2 : ds2.length ≤ 400) (hq : q < w.heap.size) (k0 : w.cell? ⟨q, 0, none⟩ = some (.slice A1 ds1.length c1)) (k1 : w.cell? ⟨q, 1, none⟩ = some (.slice A2 ds2.length c2)) (r1 : RdRing w w.heap.size A1 ds1) (r2 : RdRing w w.heap.size A2 ds2) :
    Calls Try.prog 47 #[.slice (some ⟨q, 0, none⟩) 2 2] w fun e w' => ∃ (A' : Option Addr) (c' : Nat), e = .returned (.slice A' (ds1 ++ ds2).length c') ∧ RdRing w' w'.heap.size A' (ds1 ++ ds2) ∧ Below w.heap.size w w' := by
  obtain ⟨s1, rfl, q1, p1⟩ := r1
  obtain ⟨s2, rfl, q2, p2⟩ := r2
  rw [List.length_map] at hl1 hl2 k0 k1
  refine (concatRows_any s1 s2 A1 A2 c1 c2 q w hl1 hl2 hq k0 k1 q1 q2).mono ?_
  rintro e w' ⟨A', c', rfl, ow, hb⟩
  have e1 : (s1.map dRing ++ s2.map dRing) = (s1 ++ s2).map dRing := List.map_append.symm
  rw [e1]
  refine ⟨A', c', by rw [List.length_map], ⟨s1 ++ s2, rfl, Rd.of_own (fun a => cRing_len a) (by omega) ow (Nat.le_refl _), fun i a hi => ?_⟩, hb⟩
  rcases List.mem_append.1 (List.mem_of_getElem? hi) with h | h
  · obtain ⟨j, hj⟩ := List.getElem?_of_mem h
    exact ((p1 j a hj).below hb).more hb.size
  · obtain ⟨j, hj⟩ := List.getElem?_of_mem h
    exact ((p2 j a hj).below hb).more hb.size
/-- As ring_put, the others beginning anywhere above. -/
theorem ring_putL {b lo : Nat} {w wr wM w9 : World} {es : List DRing} {k P g9 cap9 c' c2 : Nat} {A' A2 : Option Addr} {d : DRing} {TB TC : TypeId}
    (hlo : P + 1 ≤ lo) (hlw : lo ≤ wr.heap.size) (hk : es.length = k) (bo1 : Blk wr P TB #[.slice A' k c']) (hP : b ≤ P) (g1 : Below b w wr) (hbw : b ≤ wr.heap.size)
    (ow2 : wM.ownsRow wr.heap.size 26 2 (.slice A2 d.length c2) d.length (cellsF cPt d)) (hb3 : Below wr.heap.size wr wM)
    {rows : List ARing} (hrows : rows.map dRing = es) (h2 : wr.ownsRow lo 55 1 (.slice A' k c') k (cellsF cRing rows)) (h3 : ∀ q, (Value.slice A' k c').ownBlock = some q → q < wr.heap.size)
    (h4 : ∀ (i : Nat) (a : ARing), rows[i]? = some a → wr.ownsRow lo 26 2 (hdL a) a.2.2.length (cellsF cPt a.2.2) ∧ ∀ q, (hdL a).ownBlock = some q → q < wr.heap.size ∧ ¬ (Value.slice A' k c').ownBlock = some q)
    (h5 : ∀ (i j : Nat) (a b : ARing), i ≠ j → rows[i]? = some a → rows[j]? = some b → ∀ q, (hdL a).ownBlock = some q → ¬ (hdL b).ownBlock = some q)
    (hown9 : w9.ownsRow lo 55 1 (.slice (some ⟨g9, 0, none⟩) (k + 1) cap9) (k + 1) (cellsF cRing rows ++ [.slice A2 d.length c2]))
    (hg9 : (wM.alloc (.cells #[.slice A2 d.length c2] TC)).grownBy w9 (Value.slice A' k c').ownBlock)
    (hat : (Value.slice (some ⟨g9, 0, none⟩) (k + 1) cap9).ownBlock = (Value.slice A' k c').ownBlock ∨ (Value.slice (some ⟨g9, 0, none⟩) (k + 1) cap9).ownBlock = some (wM.alloc (.cells #[.slice A2 d.length c2] TC)).heap.size) :
    let w8 := w9.setCell ⟨P, 0, none⟩ (.slice (some ⟨g9, 0, none⟩) (k + 1) cap9)
    (∀ (g : Nat) (t : TypeId) (cs : Array Value), g < P → Blk wr g t cs → Blk w8 g t cs) ∧ Blk w8 P TB #[.slice (some ⟨g9, 0, none⟩) (k + 1) cap9] ∧
      OwnRing w8 lo w8.heap.size (some ⟨g9, 0, none⟩) cap9 (es ++ [d]) ∧ Below b w w8 := by
  intro w8
  have zo := bo1.lt
  have zb : wr.heap.size ≤ wM.heap.size := hb3.size
  have z9 := hg9.size
  rw [World.size_alloc] at z9
  have hob : ∀ q, (Value.slice A' k c').ownBlock = some q → lo ≤ q ∧ q < wr.heap.size := fun q hq => own_block h2 hq
  have kb : ∀ {g : Nat} {t : TypeId} {cs : Array Value}, Blk wr g t cs → g ≤ P → Blk w9 g t cs := fun {g t cs} hbk hgp => Blk.grown ((hbk.carry hb3).alloc _) hg9 (fun q hq => by have := hob q hq; omega)
  have hh4 : ∀ (i : Nat) (a : ARing), rows[i]? = some a → (wM.alloc (.cells #[.slice A2 d.length c2] TC)).ownsRow lo 26 2 (hdL a) a.2.2.length (cellsF cPt a.2.2) ∧ ∀ q, (hdL a).ownBlock = some q → q < wr.heap.size ∧ ¬ (Value.slice A' k c').ownBlock = some q :=
    fun i a ha => ⟨World.ownsRow.alloc (own_stays (h4 i a ha).1 hb3) _, (h4 i a ha).2⟩
  have hlen : rows.length = k := by
    have := congrArg List.length hrows
    rw [List.length_map] at this
    omega
  have own := own_snoc (lo := lo) (hi := wr.heap.size) (a := (A2, c2, d)) (ds := es ++ [d]) hlen (World.ownsRow.alloc (own_stays h2 hb3) _) h3 hh4 h5 (World.ownsRow.alloc ow2 _) (by rw [World.size_alloc]; omega) (by omega) hg9 hown9 hat
    (by rw [List.map_append, hrows]; rfl)
  refine ⟨fun g t cs hgp hbk => Blk.far (kb hbk (by omega)) (by simp only; omega) _, (kb bo1 (Nat.le_refl _)).set_ 0 _, ?_, ?_⟩
  · exact (own.mid (Mid.of_set w9 P 0 _) (.inr hlo)).wide (Nat.le_refl _) (by simp [w8])
  · exact (below_of_grown (((g1.trans (hb3.mono hbw)).alloc (by omega) _)) hg9 (by rw [World.size_alloc]; omega) (fun q hq => by have := hob q hq; omega)).setCell (by simp only; omega) _
set_option maxRecDepth 100000 in
set_option maxHeartbeats 6400000 in
theorem implJoin_bad1 (ds1 ds2 : List DRing) (A1 A2 : Option Addr) (c1 c2 : Nat) (w : World) (hv1 : vRn ds1 = false) (hl1 : ds1.length ≤ 1048576) (hl2 : ds2.length ≤ 1048576) (hin1 : ∀ (i : Nat) (d : DRing), ds1[i]? = some d → d.length ≤ 1048576) (hin2 : ∀ (i : Nat) (d : DRing), ds2[i]? = some d → d.length ≤ 1048576) (r1 : RdRing w w.heap.size A1 ds1) (r2 : RdRing w w.heap.size A2 ds2) :
    Calls Try.prog 17 #[.agg #[.slice A1 ds1.length c1], .agg #[.slice A2 ds2.length c2]] w (OutRet 1 [] w) := by
  have CV1 := Lib.hid (fun w1 r => implValidRegion_any ds1 A1 c1 w1 hl1 hin1 r)
  simp only [hv1] at CV1
  clear hv1 hin1 hin2
  obtain ⟨n1, hn1⟩ : ∃ n, n = ds1.length := ⟨_, rfl⟩
  obtain ⟨n2, hn2⟩ : ∃ n, n = ds2.length := ⟨_, rfl⟩
  rw [← hn1] at hl1 CV1 ⊢
  rw [← hn2] at hl2 ⊢
  have HN1 := Lib.hid hn1
  have HN2 := Lib.hid hn2
  clear hn1 hn2
  unfold OutRet
  go_enter Try.func17, Try.ntmps17
  go_wp2_with fail
  generalize hW : ((w.alloc (.cells #[.slice A1 n1 c1] 40)).alloc (.cells #[.slice A2 n2 c2] 40)).alloc (.cells #[.slice none 0 0] 40) = W0
  have a0 : Blk W0 w.heap.size 40 #[.slice A1 n1 c1] := by rw [← hW]; exact ((Blk.new w _ _).alloc _).alloc _
  have a1 : Blk W0 (w.heap.size + 1) 40 #[.slice A2 n2 c2] := by rw [← hW]; exact (Blk.newAt _ _ _ (by simp)).alloc _
  have a2 : Blk W0 (w.heap.size + 2) 40 #[.slice none 0 0] := by rw [← hW]; exact Blk.newAt _ _ _ (by simp)
  have g0 : Below w.heap.size w W0 := by rw [← hW]; repeat' (first | with_reducible assumption | with_reducible exact Below.refl _ _ | (with_reducible refine Below.setCell ?_ ?_ _) | (with_reducible refine Below.alloc ?_ ?_ _) | (with_reducible refine Below.drew ?_) | (with_reducible refine below_dr ?_ _) | (with_reducible refine Below.trans ?_ (Below.mono (by with_reducible assumption) ?_)) | omega | (simp; done) | (simp; omega))
  have z0 : W0.heap.size = w.heap.size + 3 := by rw [← hW]; simp
  clear hW
  have s1 : RdRing W0 W0.heap.size A1 ds1 := (r1.carry g0 (Nat.le_refl _)).more (by omega)
  have s2 : RdRing W0 W0.heap.size A2 ds2 := (r2.carry g0 (Nat.le_refl _)).more (by omega)
  clear r1 r2
  refine (CV1.out _ s1).mono ?_
  rintro e w1 ⟨rfl, hb1⟩
  replace a0 := a0.carry hb1
  replace a1 := a1.carry hb1
  replace a2 := a2.carry hb1
  have z1 := hb1.size
  have s11 : RdRing w1 w1.heap.size A1 ds1 := (s1.carry hb1 (Nat.le_refl _)).more z1
  have s21 : RdRing w1 w1.heap.size A2 ds2 := (s2.carry hb1 (Nat.le_refl _)).more z1
  have g1 : Below w.heap.size w w1 := g0.trans (hb1.mono (by omega))
  clear s1 s2 hb1 g0
  have k2 : w1.cell? ⟨(w.heap.size + 2), 0, none⟩ = some (.slice none 0 0) := a2.cell 0 rfl
  have f2 := a2.frozen 0
  have l2 := a2.lt
  go_wp2_with fail
  refine bodyPost_ret (v := .tuple #[.agg #[.slice none 0 0], .int .i64 1]) (by simp [results, Try.results17, go_sem, *]) rfl ⟨none, 0, rfl, OwnRing.nil _ _ _, by repeat' (first | with_reducible assumption | with_reducible exact Below.refl _ _ | (with_reducible refine Below.setCell ?_ ?_ _) | (with_reducible refine Below.alloc ?_ ?_ _) | (with_reducible refine Below.drew ?_) | (with_reducible refine below_dr ?_ _) | (with_reducible refine Below.trans ?_ (Below.mono (by with_reducible assumption) ?_)) | omega | (simp; done) | (simp; omega))⟩
set_option maxRecDepth 100000 in
set_option maxHeartbeats 6400000 in
theorem implJoin_bad2 (ds1 ds2 : List DRing) (A1 A2 : Option Addr) (c1 c2 : Nat) (w : World) (hv1 : vRn ds1 = true) (hv2 : vRn ds2 = false) (hl1 : ds1.length ≤ 1048576) (hl2 : ds2.length ≤ 1048576) (hin1 : ∀ (i : Nat) (d : DRing), ds1[i]? = some d → d.length ≤ 1048576) (hin2 : ∀ (i : Nat) (d : DRing), ds2[i]? = some d → d.length ≤ 1048576) (r1 : RdRing w w.heap.size A1 ds1) (r2 : RdRing w w.heap.size A2 ds2) :
    Calls Try.prog 17 #[.agg #[.slice A1 ds1.length c1], .agg #[.slice A2 ds2.length c2]] w (OutRet 1 [] w) := by
  have CV1 := Lib.hid (fun w1 r => implValidRegion_any ds1 A1 c1 w1 hl1 hin1 r)
  simp only [hv1] at CV1
  have CV2 := Lib.hid (fun w1 r => implValidRegion_any ds2 A2 c2 w1 hl2 hin2 r)
  simp only [hv2] at CV2
  clear hv1 hv2 hin1 hin2
  obtain ⟨n1, hn1⟩ : ∃ n, n = ds1.length := ⟨_, rfl⟩
  obtain ⟨n2, hn2⟩ : ∃ n, n = ds2.length := ⟨_, rfl⟩
  rw [← hn1] at hl1 CV1 ⊢
  rw [← hn2] at hl2 CV2 ⊢
  have HN1 := Lib.hid hn1
  have HN2 := Lib.hid hn2
  clear hn1 hn2
  unfold OutRet
  go_enter Try.func17, Try.ntmps17
  go_wp2_with fail
  generalize hW : ((w.alloc (.cells #[.slice A1 n1 c1] 40)).alloc (.cells #[.slice A2 n2 c2] 40)).alloc (.cells #[.slice none 0 0] 40) = W0
  have a0 : Blk W0 w.heap.size 40 #[.slice A1 n1 c1] := by rw [← hW]; exact ((Blk.new w _ _).alloc _).alloc _
  have a1 : Blk W0 (w.heap.size + 1) 40 #[.slice A2 n2 c2] := by rw [← hW]; exact (Blk.newAt _ _ _ (by simp)).alloc _
  have a2 : Blk W0 (w.heap.size + 2) 40 #[.slice none 0 0] := by rw [← hW]; exact Blk.newAt _ _ _ (by simp)
  have g0 : Below w.heap.size w W0 := by rw [← hW]; repeat' (first | with_reducible assumption | with_reducible exact Below.refl _ _ | (with_reducible refine Below.setCell ?_ ?_ _) | (with_reducible refine Below.alloc ?_ ?_ _) | (with_reducible refine Below.drew ?_) | (with_reducible refine below_dr ?_ _) | (with_reducible refine Below.trans ?_ (Below.mono (by with_reducible assumption) ?_)) | omega | (simp; done) | (simp; omega))
  have z0 : W0.heap.size = w.heap.size + 3 := by rw [← hW]; simp
  clear hW
  have s1 : RdRing W0 W0.heap.size A1 ds1 := (r1.carry g0 (Nat.le_refl _)).more (by omega)
  have s2 : RdRing W0 W0.heap.size A2 ds2 := (r2.carry g0 (Nat.le_refl _)).more (by omega)
  clear r1 r2
  refine (CV1.out _ s1).mono ?_
  rintro e w1 ⟨rfl, hb1⟩
  replace a0 := a0.carry hb1
  replace a1 := a1.carry hb1
  replace a2 := a2.carry hb1
  have z1 := hb1.size
  have s11 : RdRing w1 w1.heap.size A1 ds1 := (s1.carry hb1 (Nat.le_refl _)).more z1
  have s21 : RdRing w1 w1.heap.size A2 ds2 := (s2.carry hb1 (Nat.le_refl _)).more z1
  have g1 : Below w.heap.size w w1 := g0.trans (hb1.mono (by omega))
  clear s1 s2 hb1 g0
  have j1 : w1.cell? ⟨(w.heap.size + 1), 0, none⟩ = some (.slice A2 n2 c2) := a1.cell 0 rfl
  have j2 := a1.lt
  go_wp2_with fail
  refine (CV2.out _ s21).mono ?_
  rintro e w2 ⟨rfl, hb2⟩
  replace a0 := a0.carry hb2
  replace a1 := a1.carry hb2
  replace a2 := a2.carry hb2
  have z2 := hb2.size
  have g2 : Below w.heap.size w w2 := g1.trans (hb2.mono (by omega))
  clear j1 j2
  have k2 : w2.cell? ⟨(w.heap.size + 2), 0, none⟩ = some (.slice none 0 0) := a2.cell 0 rfl
  have f2 := a2.frozen 0
  have l2 := a2.lt
  go_wp2_with fail
  refine bodyPost_ret (v := .tuple #[.agg #[.slice none 0 0], .int .i64 1]) (by simp [results, Try.results17, go_sem, *]) rfl ⟨none, 0, rfl, OwnRing.nil _ _ _, by repeat' (first | with_reducible assumption | with_reducible exact Below.refl _ _ | (with_reducible refine Below.setCell ?_ ?_ _) | (with_reducible refine Below.alloc ?_ ?_ _) | (with_reducible refine Below.drew ?_) | (with_reducible refine below_dr ?_ _) | (with_reducible refine Below.trans ?_ (Below.mono (by with_reducible assumption) ?_)) | omega | (simp; done) | (simp; omega))⟩
set_option maxRecDepth 100000 in
set_option maxHeartbeats 6400000 in
theorem implJoin_ok (ds1 ds2 : List DRing) (A1 A2 : Option Addr) (c1 c2 : Nat) (w : World) (hv1 : vRn ds1 = true) (hv2 : vRn ds2 = true) (hv : vRn (ds1 ++ ds2) = true) (hl1 : ds1.length ≤ 1048576) (hl2 : ds2.length ≤ 1048576) (hin1 : ∀ (i : Nat) (d : DRing), ds1[i]? = some d → d.length ≤ 1048576) (hin2 : ∀ (i : Nat) (d : DRing), ds2[i]? = some d → d.length ≤ 1048576) (r1 : RdRing w w.heap.size A1 ds1) (r2 : RdRing w w.heap.size A2 ds2) :
    Calls Try.prog 17 #[.agg #[.slice A1 ds1.length c1], .agg #[.slice A2 ds2.length c2]] w (OutRet 0 (ds1 ++ ds2) w) := by
  have CV1 := Lib.hid (fun w1 r => implValidRegion_any ds1 A1 c1 w1 hl1 hin1 r)
  simp only [hv1] at CV1
  have CV2 := Lib.hid (fun w1 r => implValidRegion_any ds2 A2 c2 w1 hl2 hin2 r)
  simp only [hv2] at CV2
  have hl40 := (vRn_parts hv1).1
  have hm40 := (vRn_parts hv2).1
  have hl : (ds1 ++ ds2).length ≤ 1048576 := by rw [List.length_append]; omega
  have HE := Lib.hid (show ∀ d ∈ ds1 ++ ds2, vRg d = true from fun d h => by rcases List.mem_append.1 h with q | q; exact vRn_each hv1 d q; exact vRn_each hv2 d q)
  have hin : ∀ (i : Nat) (d : DRing), (ds1 ++ ds2)[i]? = some d → d.length ≤ 1048576 := fun i d h => by have := (vRg_parts (HE.out d (List.mem_of_getElem? h))).2.1; omega
  have CF := Lib.hid (fun A c w1 r => implValidRegion_any (ds1 ++ ds2) A c w1 hl hin r)
  simp only [hv] at CF
  clear hv hv1 hv2 hin1 hin2 hl hin
  obtain ⟨i0, hi0, hz0', hz1', hz2'⟩ := info_parts infoRing
  have HI0 := Lib.hid hi0
  have HZ00 := Lib.hid hz0'
  have HZ10 := Lib.hid hz1'
  have HZ20 := Lib.hid hz2'
  clear hi0 hz0' hz1' hz2'
  obtain ⟨q1, e1, t1, p1⟩ := id r1
  obtain ⟨q2, e2, t2, p2⟩ := id r2
  have CC := Lib.hid (fun q w h k0 k1 u1 u2 => concatRows_any q1 q2 A1 A2 c1 c2 q w (by rw [← List.length_map (f := dRing), e1]; omega) (by rw [← List.length_map (f := dRing), e2]; omega) h k0 k1 u1 u2)
  have hq1 : q1.length = ds1.length := by rw [← e1, List.length_map]
  have hq2 : q2.length = ds2.length := by rw [← e2, List.length_map]
  rw [hq1, hq2] at CC
  obtain ⟨s, hs⟩ : ∃ s, s = q1 ++ q2 := ⟨_, rfl⟩
  have hsd : s.map dRing = ds1 ++ ds2 := by rw [hs, List.map_append, e1, e2]
  have hpt : ∀ (i : Nat) (a : ARing), s[i]? = some a → Rd cPt 2 w w.heap.size a.1 a.2.2 := fun i a hi => by rw [hs] at hi; rcases List.mem_append.1 (List.mem_of_getElem? hi) with h | h; exact (by obtain ⟨j, hj⟩ := List.getElem?_of_mem h; exact p1 j a hj); exact (by obtain ⟨j, hj⟩ := List.getElem?_of_mem h; exact p2 j a hj)
  rw [← hs] at CC
  have T1 := Lib.hid (fun (wr : World) (hb : Below w.heap.size w wr) => t1.below hb)
  have T2 := Lib.hid (fun (wr : World) (hb : Below w.heap.size w wr) => t2.below hb)
  have HPT := Lib.hid hpt
  clear hs p1 p2 t1 t2 hq1 hq2 e1 e2 hpt
  obtain ⟨ds, hds⟩ : ∃ ds, ds = ds1 ++ ds2 := ⟨_, rfl⟩
  rw [← hds] at HE CF hsd ⊢
  obtain ⟨L, hL⟩ : ∃ L, L = ds.length := ⟨_, rfl⟩
  have hsl : s.length = L := by rw [hL, ← hsd, List.length_map]
  rw [hsl] at CC
  rw [← hL] at CF
  have hL80 : L ≤ 80 := by rw [hL, hds, List.length_append]; omega
  have HL := Lib.hid hL
  have HSD := Lib.hid hsd
  have HSL := Lib.hid hsl
  clear hL hsl hsd hds hl40 hm40
  obtain ⟨n1, hn1⟩ : ∃ n, n = ds1.length := ⟨_, rfl⟩
  obtain ⟨n2, hn2⟩ : ∃ n, n = ds2.length := ⟨_, rfl⟩
  rw [← hn1] at hl1 CV1 ⊢
  rw [← hn2] at hl2 CV2 ⊢
  have HN1 := Lib.hid hn1
  have HN2 := Lib.hid hn2
  clear hn1 hn2
  rw [← HN1.out, ← HN2.out] at CC
  unfold OutRet
  go_enter Try.func17, Try.ntmps17
  go_wp2_with fail
  generalize hW : ((w.alloc (.cells #[.slice A1 n1 c1] 40)).alloc (.cells #[.slice A2 n2 c2] 40)).alloc (.cells #[.slice none 0 0] 40) = W0
  have a0 : Blk W0 w.heap.size 40 #[.slice A1 n1 c1] := by rw [← hW]; exact ((Blk.new w _ _).alloc _).alloc _
  have a1 : Blk W0 (w.heap.size + 1) 40 #[.slice A2 n2 c2] := by rw [← hW]; exact (Blk.newAt _ _ _ (by simp)).alloc _
  have a2 : Blk W0 (w.heap.size + 2) 40 #[.slice none 0 0] := by rw [← hW]; exact Blk.newAt _ _ _ (by simp)
  have g0 : Below w.heap.size w W0 := by rw [← hW]; repeat' (first | with_reducible assumption | with_reducible exact Below.refl _ _ | (with_reducible refine Below.setCell ?_ ?_ _) | (with_reducible refine Below.alloc ?_ ?_ _) | (with_reducible refine Below.drew ?_) | (with_reducible refine below_dr ?_ _) | (with_reducible refine Below.trans ?_ (Below.mono (by with_reducible assumption) ?_)) | omega | (simp; done) | (simp; omega))
  have z0 : W0.heap.size = w.heap.size + 3 := by rw [← hW]; simp
  clear hW
  have s1 : RdRing W0 W0.heap.size A1 ds1 := (r1.carry g0 (Nat.le_refl _)).more (by omega)
  have s2 : RdRing W0 W0.heap.size A2 ds2 := (r2.carry g0 (Nat.le_refl _)).more (by omega)
  clear r1 r2
  refine (CV1.out _ s1).mono ?_
  rintro e w1 ⟨rfl, hb1⟩
  replace a0 := a0.carry hb1
  replace a1 := a1.carry hb1
  replace a2 := a2.carry hb1
  have z1 := hb1.size
  have s11 : RdRing w1 w1.heap.size A1 ds1 := (s1.carry hb1 (Nat.le_refl _)).more z1
  have s21 : RdRing w1 w1.heap.size A2 ds2 := (s2.carry hb1 (Nat.le_refl _)).more z1
  have g1 : Below w.heap.size w w1 := g0.trans (hb1.mono (by omega))
  clear s1 s2 hb1 g0
  have j1 : w1.cell? ⟨(w.heap.size + 1), 0, none⟩ = some (.slice A2 n2 c2) := a1.cell 0 rfl
  have j2 := a1.lt
  go_wp2_with fail
  refine (CV2.out _ s21).mono ?_
  rintro e w2 ⟨rfl, hb2⟩
  replace a0 := a0.carry hb2
  replace a1 := a1.carry hb2
  replace a2 := a2.carry hb2
  have z2 := hb2.size
  have g2 : Below w.heap.size w w2 := g1.trans (hb2.mono (by omega))
  clear j1 j2
  clear s11 s21 hb2 g1
  have i0a : w2.cell? ⟨w.heap.size, 0, none⟩ = some (.slice A1 n1 c1) := a0.cell 0 rfl
  have i1a : w2.cell? ⟨(w.heap.size + 1), 0, none⟩ = some (.slice A2 n2 c2) := a1.cell 0 rfl
  have ia := a0.lt
  have ib := a1.lt
  have i0 : ∀ o1, (w2.alloc o1).cell? ⟨w.heap.size, 0, none⟩ = some (.slice A1 n1 c1) := fun o1 => (a0.alloc o1).cell 0 rfl
  have i1x : ∀ o1, (w2.alloc o1).cell? ⟨(w.heap.size + 1), 0, none⟩ = some (.slice A2 n2 c2) := fun o1 => (a1.alloc o1).cell 0 rfl
  go_wp2_with fail
  generalize hW : (w2.alloc (.cells #[.slice none 0 0] 40)).alloc (.cells #[.slice A1 n1 c1, .slice A2 n2 c2] 38) = W3
  obtain ⟨P, hP⟩ : ∃ P, P = w2.heap.size := ⟨_, rfl⟩
  have ap : Blk W3 P 40 #[.slice none 0 0] := by rw [← hW, hP]; exact (Blk.new w2 _ _).alloc _
  have aq : Blk W3 (P + 1) 38 #[.slice A1 n1 c1, .slice A2 n2 c2] := by rw [← hW, hP]; exact Blk.newAt _ _ _ (by simp)
  replace a2 : Blk W3 (w.heap.size + 2) 40 #[.slice none 0 0] := by rw [← hW]; exact (a2.alloc _).alloc _
  have g3 : Below w.heap.size w W3 := by rw [← hW]; exact (g2.alloc (by omega) _).alloc (by simp; omega) _
  have hPP : w.heap.size + 3 ≤ P := by omega
  rw [← hP]
  clear hW i0a i1a ia ib i0 i1x g2 a0 a1
  refine (CC.out (P + 1) W3 aq.lt (aq.cell 0 rfl) (aq.cell 1 rfl) ((T1.out _ g3).more g3.size) ((T2.out _ g3).more g3.size)).mono ?_
  rintro e w4 ⟨A3, c3, rfl, ow3, hb4⟩
  have z3 := aq.lt
  have z4 := hb4.size
  replace a2 := a2.carry hb4
  replace ap := ap.carry hb4
  have g4 : Below w.heap.size w w4 := g3.trans (hb4.mono (by omega))
  clear hP aq g3 hb4 CC T1 T2
  obtain ⟨lo, hlo⟩ : ∃ l, l = w4.heap.size := ⟨_, rfl⟩
  have hloP : P + 1 ≤ lo := by omega
  have own0 : w4.ownsRow (P + 1) 55 1 (.slice A3 L c3) L (cellsF cRing s) := own_base ow3 (by omega)
  have hA3 : ∀ b, (Value.slice A3 L c3).ownBlock = some b → P + 1 ≤ b ∧ b < lo := fun b hb => by have := own_block own0 hb; omega
  have HA3 := Lib.hid hA3
  clear ow3 hA3
  go_wp2_with fail
  go_loopw [25] (fun i wr => ∃ (k : Nat) (A' : Option Addr) (c' : Nat), k ≤ L ∧ i = .int .i64 (k : Int) ∧ Blk wr (w.heap.size + 2) 40 #[.slice none 0 0] ∧ Blk wr P 40 #[.slice A' k c'] ∧ OwnRing wr lo wr.heap.size A' c' (ds.take k) ∧ wr.ownsRow (P + 1) 55 1 (.slice A3 L c3) L (cellsF cRing s) ∧ lo ≤ wr.heap.size ∧ Below w.heap.size w wr) (fun i _ => L - (intOf i).toNat)
  case atStart => exact ⟨0, none, 0, Nat.zero_le _, rfl, a2, ap, OwnRing.nil _ _ _, own0, by omega, g4⟩
  case round =>
    clear a2 ap own0 g4
    obtain ⟨k, A', c', hk, rfl, bo0, bo1, ow1, own0, hlw, g1⟩ := hrel
    have zg := g1.size
    by_cases hlt : k < L
    case pos =>
      have hki : (k : Int) < (L : Int) := by omega
      obtain ⟨⟨Ae, ce, dl⟩, ha⟩ : ∃ a, s[k]? = some a := ⟨s[k]'(by have := HSL.out; omega), List.getElem?_eq_getElem (by have := HSL.out; omega)⟩
      have hda : ds[k]? = some dl := by rw [← HSD.out, List.getElem?_map, ha]; rfl
      have hpr := HPT.out k _ ha
      simp only at hpr
      obtain ⟨hd1, hd4, -⟩ := vRg_parts (HE.out dl (List.mem_of_getElem? hda))
      have HTK := Lib.hid (take_next hda)
      obtain ⟨g, o, hAe, hg, hc⟩ := (Rd.of_own (fun a => cRing_len a) (by omega) own0 (Nat.le_refl _)).elem ha
      subst hAe
      have p0 : wr.cell? ⟨g, o + k, none⟩ = some (.slice Ae dl.length ce) := by have h := hc 0 _ rfl; rw [Nat.mul_one] at h; exact h
      clear hc ha hda
      obtain ⟨m, hm⟩ : ∃ m, m = dl.length := ⟨_, rfl⟩
      have HM := Lib.hid hm
      rw [← hm] at p0
      clear hm
      go_upto_region 7 with fail
      generalize hW : wr.alloc (.cells #[.slice Ae m ce] 55) = wq
      obtain ⟨G, hG⟩ : ∃ G, G = wr.heap.size := ⟨_, rfl⟩
      have bg : Blk wq G 55 #[.slice Ae m ce] := by rw [← hW, hG]; exact Blk.new _ _ _
      replace bo0 : Blk wq (w.heap.size + 2) 40 #[.slice none 0 0] := by rw [← hW]; exact bo0.alloc _
      replace bo1 : Blk wq P 40 #[.slice A' k c'] := by rw [← hW]; exact bo1.alloc _
      have ow2 : OwnRing wq lo wq.heap.size A' c' (ds.take k) := by rw [← hW]; exact (ow1.alloc _).wide (Nat.le_refl _) (by simp)
      replace own0 : wq.ownsRow (P + 1) 55 1 (.slice (some ⟨g, o, none⟩) L c3) L (cellsF cRing s) := by rw [← hW]; exact World.ownsRow.alloc own0 _
      replace g1 : Below w.heap.size w wq := by rw [← hW]; exact g1.alloc (by omega) _
      have zq : wq.heap.size = G + 1 := by rw [← hW, hG]; simp
      rw [← hG] at zg hlw ⊢
      clear hW hG ow1 p0 hg
      have hkl : (ds.take k).length = k := by have := HL.out; rw [List.length_take]; omega
      obtain ⟨rows, hrows, h2, h3, h4, h5⟩ := ow2
      rw [hkl] at h2 h3 h4
      have CO := Lib.hid (clone_any dl Ae ce wq.drew hd1 (by omega) (show Rd cPt 2 wq.drew wq.drew.heap.size Ae dl from (show Rd cPt 2 wq wq.heap.size Ae dl from (hpr.below g1).more g1.size).drew))
      rw [← HM.out] at CO
      clear hpr hd1 hd4
      have x0 : wq.cell? ⟨G, 0, none⟩ = some (.slice Ae m ce) := bg.cell 0 rfl
      have y0 : wq.cell? ⟨P, 0, none⟩ = some (.slice A' k c') := bo1.cell 0 rfl
      have HRB := Lib.hid (fun b (hb : (Value.slice A' k c').ownBlock = some b) => own_block h2 hb)
      have HMX := Lib.hid (show k + 1 ≤ maxLen by unfold maxLen; omega)
      have HBY := Lib.hid (show (k + 1) * 24 ≤ 140737488355328 by omega)
      have HBK2 := Lib.hid bo0
      have lP : P < wq.heap.size := bo1.lt
      have lG : G < wq.heap.size := by omega
      have HOW0 := Lib.hid own0
      clear own0 bg bo0
      go_region_law (first | ((refine step_append_any _ rfl (.tmp 30) (.tmp 35) _ rfl lo 55 i0 _ 1 24 Try.underlying38 HI0.out HZ00.out HZ10.out HZ20.out rfl (by omega) (.slice A' k c') k _ rfl HOM.out (w2.heap.size + 1) (some ⟨w2.heap.size, 0, none⟩) 1 1 [.slice A4 m c4] rfl HRD.out (by intro v hv; simp at hv; subst hv; rfl) HMX.out HBY.out HBS.out ?_); intro v' w9 hown9 hg9 hat9; obtain ⟨g9, cap9, rfl, _, _⟩ := hown9.form (by omega); have hh9 := HF.out w9 g9 cap9 hown9 hg9 hat9; have HF9 := Lib.hid hh9; have pw9 := Blk.grown HBO2.out hg9 (fun q hq => by have := HRB.out q hq; omega); have HOW9 := Lib.hid (own_grown HOW1.out hg9 (fun q h8 h9 => by have a8 := HA3.out q h8; have a9 := HRB.out q h9; omega)); have yy0 : w9.cell? ⟨P, 0, none⟩ = some (.slice A' k c') := pw9.cell 0 rfl; have yy1 := pw9.frozen 0; have hz9 := hg9.size; (try simp only [World.size_alloc] at hz9); clear hown9 hg9 hat9 hh9 pw9) | (go_simp; go_at_call 48; (with_reducible refine CO.out.mono ?_); intro e w2 hq2; obtain ⟨A4, c4, rfl, own2, hb2⟩ := hq2; have hgx0 : Below wq.heap.size wq w2 := below_undrew hb2; have z2 := hgx0.size; have bo2 := bo1.carry hgx0; have y2 : w2.cell? ⟨P, 0, none⟩ = some (.slice A' k c') := bo2.cell 0 rfl; have y3 : ∀ o1, (w2.alloc o1).cell? ⟨P, 0, none⟩ = some (.slice A' k c') := fun o1 => (bo2.alloc o1).cell 0 rfl; have own3 : w2.ownsRow wq.heap.size 26 2 (.slice A4 dl.length c4) dl.length (cellsF cPt dl) := (by rw [← HM.out]; exact own2); have HOM := Lib.hid (World.ownsRow.alloc (own_stays h2 hgx0) (.cells #[.slice A4 m c4] 55)); have HBS := Lib.hid (show lo ≤ (w2.alloc (.cells #[.slice A4 m c4] 55)).heap.size by rw [World.size_alloc]; omega); have HRD := Lib.hid (show Reads (w2.alloc (.cells #[.slice A4 m c4] 55)) (w2.heap.size + 1) 1 (some ⟨w2.heap.size, 0, none⟩) 1 [.slice A4 m c4] by have := Reads.of_own (own_one (w := w2) (base := 0) (e := 55) (cs := #[.slice A4 m c4]) (s := 1) (Nat.zero_le _) rfl); simpa using this); have HF0 := fun (w9 : World) (g9 cap9 : Nat) hown9 hg9 hat => ring_putL (b := w.heap.size) (lo := lo) (w := w) (wM := w2) (w9 := w9) (A2 := A4) (c2 := c4) (g9 := g9) (cap9 := cap9) (TC := 55) hloP (by omega) hkl bo1 (by omega) g1 (by omega) own3 hgx0 hrows h2 h3 h4 h5 hown9 hg9 hat; rw [← HM.out] at HF0; have HF := Lib.hid HF0; have HBO2 := Lib.hid (bo2.alloc (.cells #[.slice A4 m c4] 55)); have HOW1 := Lib.hid (World.ownsRow.alloc (own_stays HOW0.out hgx0) (.cells #[.slice A4 m c4] 55)); clear own2 own3 HF0 hb2 hgx0 bo2))
      all_goals
        go_wp2_with fail
        go_roundw
        case rel =>
          obtain ⟨f1, f2, f3, f4⟩ := HF9.out
          rw [HTK.out] at f3
          exact ⟨k + 1, some ⟨g9, 0, none⟩, cap9, by omega, by go_num, f1 _ _ _ (by omega) HBK2.out, f2, f3, own_keep HOW9.out (fun q hq h8 => by have := HA3.out q hq; simp only at h8; omega) _, by simp; omega, f4⟩
        case measure => first | (simp [intOf]; done) | (simp [intOf]; omega)
    case neg =>
      obtain rfl : L = k := by omega
      rw [List.take_of_length_le (by have := HL.out; omega)] at ow1
      have y0 : wr.cell? ⟨P, 0, none⟩ = some (.slice A' L c') := bo1.cell 0 rfl
      have lP := bo1.lt
      clear own0
      go_wp2_with fail
      refine (CF.out _ _ _ ow1.rd).mono ?_
      rintro e w5 ⟨rfl, hb5⟩
      have a2 := bo0.carry hb5
      replace bo1 := bo1.carry hb5
      have z5 := hb5.size
      have g5 : Below w.heap.size w w5 := g1.trans (hb5.mono (by omega))
      have ow5 := ow1.carry hb5
      clear y0 lP g1 ow1 hb5
      have y0 : w5.cell? ⟨P, 0, none⟩ = some (.slice A' L c') := bo1.cell 0 rfl
      have lP := bo1.lt
      have k2 : w5.cell? ⟨(w.heap.size + 2), 0, none⟩ = some (.slice none 0 0) := a2.cell 0 rfl
      have f2 := a2.frozen 0
      have l2 := a2.lt
      go_wp2_with fail
      refine bodyPost_ret (v := .tuple #[.agg #[.slice A' L c'], .int .i64 0]) (by simp [results, Try.results17, go_sem, *]) rfl ⟨A', c', by rw [HL.out], ?_, ?_⟩
      · exact ((ow5.mid (Mid.of_set _ (w.heap.size + 2) 0 _) (.inr (by omega))).wide (by omega) (by simp; omega))
      · exact g5.setCell (by simp only; omega) _
set_option maxRecDepth 100000 in
set_option maxHeartbeats 6400000 in
theorem implJoin_full (ds1 ds2 : List DRing) (A1 A2 : Option Addr) (c1 c2 : Nat) (w : World) (hv1 : vRn ds1 = true) (hv2 : vRn ds2 = true) (hv : vRn (ds1 ++ ds2) = false) (hl1 : ds1.length ≤ 1048576) (hl2 : ds2.length ≤ 1048576) (hin1 : ∀ (i : Nat) (d : DRing), ds1[i]? = some d → d.length ≤ 1048576) (hin2 : ∀ (i : Nat) (d : DRing), ds2[i]? = some d → d.length ≤ 1048576) (r1 : RdRing w w.heap.size A1 ds1) (r2 : RdRing w w.heap.size A2 ds2) :
    Calls Try.prog 17 #[.agg #[.slice A1 ds1.length c1], .agg #[.slice A2 ds2.length c2]] w (OutRet 5 [] w) := by
  have CV1 := Lib.hid (fun w1 r => implValidRegion_any ds1 A1 c1 w1 hl1 hin1 r)
  simp only [hv1] at CV1
  have CV2 := Lib.hid (fun w1 r => implValidRegion_any ds2 A2 c2 w1 hl2 hin2 r)
  simp only [hv2] at CV2
  have hl40 := (vRn_parts hv1).1
  have hm40 := (vRn_parts hv2).1
  have hl : (ds1 ++ ds2).length ≤ 1048576 := by rw [List.length_append]; omega
  have HE := Lib.hid (show ∀ d ∈ ds1 ++ ds2, vRg d = true from fun d h => by rcases List.mem_append.1 h with q | q; exact vRn_each hv1 d q; exact vRn_each hv2 d q)
  have hin : ∀ (i : Nat) (d : DRing), (ds1 ++ ds2)[i]? = some d → d.length ≤ 1048576 := fun i d h => by have := (vRg_parts (HE.out d (List.mem_of_getElem? h))).2.1; omega
  have CF := Lib.hid (fun A c w1 r => implValidRegion_any (ds1 ++ ds2) A c w1 hl hin r)
  simp only [hv] at CF
  clear hv hv1 hv2 hin1 hin2 hl hin
  obtain ⟨i0, hi0, hz0', hz1', hz2'⟩ := info_parts infoRing
  have HI0 := Lib.hid hi0
  have HZ00 := Lib.hid hz0'
  have HZ10 := Lib.hid hz1'
  have HZ20 := Lib.hid hz2'
  clear hi0 hz0' hz1' hz2'
  obtain ⟨q1, e1, t1, p1⟩ := id r1
  obtain ⟨q2, e2, t2, p2⟩ := id r2
  have CC := Lib.hid (fun q w h k0 k1 u1 u2 => concatRows_any q1 q2 A1 A2 c1 c2 q w (by rw [← List.length_map (f := dRing), e1]; omega) (by rw [← List.length_map (f := dRing), e2]; omega) h k0 k1 u1 u2)
  have hq1 : q1.length = ds1.length := by rw [← e1, List.length_map]
  have hq2 : q2.length = ds2.length := by rw [← e2, List.length_map]
  rw [hq1, hq2] at CC
  obtain ⟨s, hs⟩ : ∃ s, s = q1 ++ q2 := ⟨_, rfl⟩
  have hsd : s.map dRing = ds1 ++ ds2 := by rw [hs, List.map_append, e1, e2]
  have hpt : ∀ (i : Nat) (a : ARing), s[i]? = some a → Rd cPt 2 w w.heap.size a.1 a.2.2 := fun i a hi => by rw [hs] at hi; rcases List.mem_append.1 (List.mem_of_getElem? hi) with h | h; exact (by obtain ⟨j, hj⟩ := List.getElem?_of_mem h; exact p1 j a hj); exact (by obtain ⟨j, hj⟩ := List.getElem?_of_mem h; exact p2 j a hj)
  rw [← hs] at CC
  have T1 := Lib.hid (fun (wr : World) (hb : Below w.heap.size w wr) => t1.below hb)
  have T2 := Lib.hid (fun (wr : World) (hb : Below w.heap.size w wr) => t2.below hb)
  have HPT := Lib.hid hpt
  clear hs p1 p2 t1 t2 hq1 hq2 e1 e2 hpt
  obtain ⟨ds, hds⟩ : ∃ ds, ds = ds1 ++ ds2 := ⟨_, rfl⟩
  rw [← hds] at HE CF hsd
  obtain ⟨L, hL⟩ : ∃ L, L = ds.length := ⟨_, rfl⟩
  have hsl : s.length = L := by rw [hL, ← hsd, List.length_map]
  rw [hsl] at CC
  rw [← hL] at CF
  have hL80 : L ≤ 80 := by rw [hL, hds, List.length_append]; omega
  have HL := Lib.hid hL
  have HSD := Lib.hid hsd
  have HSL := Lib.hid hsl
  clear hL hsl hsd hds hl40 hm40
  obtain ⟨n1, hn1⟩ : ∃ n, n = ds1.length := ⟨_, rfl⟩
  obtain ⟨n2, hn2⟩ : ∃ n, n = ds2.length := ⟨_, rfl⟩
  rw [← hn1] at hl1 CV1 ⊢
  rw [← hn2] at hl2 CV2 ⊢
  have HN1 := Lib.hid hn1
  have HN2 := Lib.hid hn2
  clear hn1 hn2
  rw [← HN1.out, ← HN2.out] at CC
  unfold OutRet
  go_enter Try.func17, Try.ntmps17
  go_wp2_with fail
  generalize hW : ((w.alloc (.cells #[.slice A1 n1 c1] 40)).alloc (.cells #[.slice A2 n2 c2] 40)).alloc (.cells #[.slice none 0 0] 40) = W0
  have a0 : Blk W0 w.heap.size 40 #[.slice A1 n1 c1] := by rw [← hW]; exact ((Blk.new w _ _).alloc _).alloc _
  have a1 : Blk W0 (w.heap.size + 1) 40 #[.slice A2 n2 c2] := by rw [← hW]; exact (Blk.newAt _ _ _ (by simp)).alloc _
  have a2 : Blk W0 (w.heap.size + 2) 40 #[.slice none 0 0] := by rw [← hW]; exact Blk.newAt _ _ _ (by simp)
  have g0 : Below w.heap.size w W0 := by rw [← hW]; repeat' (first | with_reducible assumption | with_reducible exact Below.refl _ _ | (with_reducible refine Below.setCell ?_ ?_ _) | (with_reducible refine Below.alloc ?_ ?_ _) | (with_reducible refine Below.drew ?_) | (with_reducible refine below_dr ?_ _) | (with_reducible refine Below.trans ?_ (Below.mono (by with_reducible assumption) ?_)) | omega | (simp; done) | (simp; omega))
  have z0 : W0.heap.size = w.heap.size + 3 := by rw [← hW]; simp
  clear hW
  have s1 : RdRing W0 W0.heap.size A1 ds1 := (r1.carry g0 (Nat.le_refl _)).more (by omega)
  have s2 : RdRing W0 W0.heap.size A2 ds2 := (r2.carry g0 (Nat.le_refl _)).more (by omega)
  clear r1 r2
  refine (CV1.out _ s1).mono ?_
  rintro e w1 ⟨rfl, hb1⟩
  replace a0 := a0.carry hb1
  replace a1 := a1.carry hb1
  replace a2 := a2.carry hb1
  have z1 := hb1.size
  have s11 : RdRing w1 w1.heap.size A1 ds1 := (s1.carry hb1 (Nat.le_refl _)).more z1
  have s21 : RdRing w1 w1.heap.size A2 ds2 := (s2.carry hb1 (Nat.le_refl _)).more z1
  have g1 : Below w.heap.size w w1 := g0.trans (hb1.mono (by omega))
  clear s1 s2 hb1 g0
  have j1 : w1.cell? ⟨(w.heap.size + 1), 0, none⟩ = some (.slice A2 n2 c2) := a1.cell 0 rfl
  have j2 := a1.lt
  go_wp2_with fail
  refine (CV2.out _ s21).mono ?_
  rintro e w2 ⟨rfl, hb2⟩
  replace a0 := a0.carry hb2
  replace a1 := a1.carry hb2
  replace a2 := a2.carry hb2
  have z2 := hb2.size
  have g2 : Below w.heap.size w w2 := g1.trans (hb2.mono (by omega))
  clear j1 j2
  clear s11 s21 hb2 g1
  have i0a : w2.cell? ⟨w.heap.size, 0, none⟩ = some (.slice A1 n1 c1) := a0.cell 0 rfl
  have i1a : w2.cell? ⟨(w.heap.size + 1), 0, none⟩ = some (.slice A2 n2 c2) := a1.cell 0 rfl
  have ia := a0.lt
  have ib := a1.lt
  have i0 : ∀ o1, (w2.alloc o1).cell? ⟨w.heap.size, 0, none⟩ = some (.slice A1 n1 c1) := fun o1 => (a0.alloc o1).cell 0 rfl
  have i1x : ∀ o1, (w2.alloc o1).cell? ⟨(w.heap.size + 1), 0, none⟩ = some (.slice A2 n2 c2) := fun o1 => (a1.alloc o1).cell 0 rfl
  go_wp2_with fail
  generalize hW : (w2.alloc (.cells #[.slice none 0 0] 40)).alloc (.cells #[.slice A1 n1 c1, .slice A2 n2 c2] 38) = W3
  obtain ⟨P, hP⟩ : ∃ P, P = w2.heap.size := ⟨_, rfl⟩
  have ap : Blk W3 P 40 #[.slice none 0 0] := by rw [← hW, hP]; exact (Blk.new w2 _ _).alloc _
  have aq : Blk W3 (P + 1) 38 #[.slice A1 n1 c1, .slice A2 n2 c2] := by rw [← hW, hP]; exact Blk.newAt _ _ _ (by simp)
  replace a2 : Blk W3 (w.heap.size + 2) 40 #[.slice none 0 0] := by rw [← hW]; exact (a2.alloc _).alloc _
  have g3 : Below w.heap.size w W3 := by rw [← hW]; exact (g2.alloc (by omega) _).alloc (by simp; omega) _
  have hPP : w.heap.size + 3 ≤ P := by omega
  rw [← hP]
  clear hW i0a i1a ia ib i0 i1x g2 a0 a1
  refine (CC.out (P + 1) W3 aq.lt (aq.cell 0 rfl) (aq.cell 1 rfl) ((T1.out _ g3).more g3.size) ((T2.out _ g3).more g3.size)).mono ?_
  rintro e w4 ⟨A3, c3, rfl, ow3, hb4⟩
  have z3 := aq.lt
  have z4 := hb4.size
  replace a2 := a2.carry hb4
  replace ap := ap.carry hb4
  have g4 : Below w.heap.size w w4 := g3.trans (hb4.mono (by omega))
  clear hP aq g3 hb4 CC T1 T2
  obtain ⟨lo, hlo⟩ : ∃ l, l = w4.heap.size := ⟨_, rfl⟩
  have hloP : P + 1 ≤ lo := by omega
  have own0 : w4.ownsRow (P + 1) 55 1 (.slice A3 L c3) L (cellsF cRing s) := own_base ow3 (by omega)
  have hA3 : ∀ b, (Value.slice A3 L c3).ownBlock = some b → P + 1 ≤ b ∧ b < lo := fun b hb => by have := own_block own0 hb; omega
  have HA3 := Lib.hid hA3
  clear ow3 hA3
  go_wp2_with fail
  go_loopw [25] (fun i wr => ∃ (k : Nat) (A' : Option Addr) (c' : Nat), k ≤ L ∧ i = .int .i64 (k : Int) ∧ Blk wr (w.heap.size + 2) 40 #[.slice none 0 0] ∧ Blk wr P 40 #[.slice A' k c'] ∧ OwnRing wr lo wr.heap.size A' c' (ds.take k) ∧ wr.ownsRow (P + 1) 55 1 (.slice A3 L c3) L (cellsF cRing s) ∧ lo ≤ wr.heap.size ∧ Below w.heap.size w wr) (fun i _ => L - (intOf i).toNat)
  case atStart => exact ⟨0, none, 0, Nat.zero_le _, rfl, a2, ap, OwnRing.nil _ _ _, own0, by omega, g4⟩
  case round =>
    clear a2 ap own0 g4
    obtain ⟨k, A', c', hk, rfl, bo0, bo1, ow1, own0, hlw, g1⟩ := hrel
    have zg := g1.size
    by_cases hlt : k < L
    case pos =>
      have hki : (k : Int) < (L : Int) := by omega
      obtain ⟨⟨Ae, ce, dl⟩, ha⟩ : ∃ a, s[k]? = some a := ⟨s[k]'(by have := HSL.out; omega), List.getElem?_eq_getElem (by have := HSL.out; omega)⟩
      have hda : ds[k]? = some dl := by rw [← HSD.out, List.getElem?_map, ha]; rfl
      have hpr := HPT.out k _ ha
      simp only at hpr
      obtain ⟨hd1, hd4, -⟩ := vRg_parts (HE.out dl (List.mem_of_getElem? hda))
      have HTK := Lib.hid (take_next hda)
      obtain ⟨g, o, hAe, hg, hc⟩ := (Rd.of_own (fun a => cRing_len a) (by omega) own0 (Nat.le_refl _)).elem ha
      subst hAe
      have p0 : wr.cell? ⟨g, o + k, none⟩ = some (.slice Ae dl.length ce) := by have h := hc 0 _ rfl; rw [Nat.mul_one] at h; exact h
      clear hc ha hda
      obtain ⟨m, hm⟩ : ∃ m, m = dl.length := ⟨_, rfl⟩
      have HM := Lib.hid hm
      rw [← hm] at p0
      clear hm
      go_upto_region 7 with fail
      generalize hW : wr.alloc (.cells #[.slice Ae m ce] 55) = wq
      obtain ⟨G, hG⟩ : ∃ G, G = wr.heap.size := ⟨_, rfl⟩
      have bg : Blk wq G 55 #[.slice Ae m ce] := by rw [← hW, hG]; exact Blk.new _ _ _
      replace bo0 : Blk wq (w.heap.size + 2) 40 #[.slice none 0 0] := by rw [← hW]; exact bo0.alloc _
      replace bo1 : Blk wq P 40 #[.slice A' k c'] := by rw [← hW]; exact bo1.alloc _
      have ow2 : OwnRing wq lo wq.heap.size A' c' (ds.take k) := by rw [← hW]; exact (ow1.alloc _).wide (Nat.le_refl _) (by simp)
      replace own0 : wq.ownsRow (P + 1) 55 1 (.slice (some ⟨g, o, none⟩) L c3) L (cellsF cRing s) := by rw [← hW]; exact World.ownsRow.alloc own0 _
      replace g1 : Below w.heap.size w wq := by rw [← hW]; exact g1.alloc (by omega) _
      have zq : wq.heap.size = G + 1 := by rw [← hW, hG]; simp
      rw [← hG] at zg hlw ⊢
      clear hW hG ow1 p0 hg
      have hkl : (ds.take k).length = k := by have := HL.out; rw [List.length_take]; omega
      obtain ⟨rows, hrows, h2, h3, h4, h5⟩ := ow2
      rw [hkl] at h2 h3 h4
      have CO := Lib.hid (clone_any dl Ae ce wq.drew hd1 (by omega) (show Rd cPt 2 wq.drew wq.drew.heap.size Ae dl from (show Rd cPt 2 wq wq.heap.size Ae dl from (hpr.below g1).more g1.size).drew))
      rw [← HM.out] at CO
      clear hpr hd1 hd4
      have x0 : wq.cell? ⟨G, 0, none⟩ = some (.slice Ae m ce) := bg.cell 0 rfl
      have y0 : wq.cell? ⟨P, 0, none⟩ = some (.slice A' k c') := bo1.cell 0 rfl
      have HRB := Lib.hid (fun b (hb : (Value.slice A' k c').ownBlock = some b) => own_block h2 hb)
      have HMX := Lib.hid (show k + 1 ≤ maxLen by unfold maxLen; omega)
      have HBY := Lib.hid (show (k + 1) * 24 ≤ 140737488355328 by omega)
      have HBK2 := Lib.hid bo0
      have lP : P < wq.heap.size := bo1.lt
      have lG : G < wq.heap.size := by omega
      have HOW0 := Lib.hid own0
      clear own0 bg bo0
      go_region_law (first | ((refine step_append_any _ rfl (.tmp 30) (.tmp 35) _ rfl lo 55 i0 _ 1 24 Try.underlying38 HI0.out HZ00.out HZ10.out HZ20.out rfl (by omega) (.slice A' k c') k _ rfl HOM.out (w2.heap.size + 1) (some ⟨w2.heap.size, 0, none⟩) 1 1 [.slice A4 m c4] rfl HRD.out (by intro v hv; simp at hv; subst hv; rfl) HMX.out HBY.out HBS.out ?_); intro v' w9 hown9 hg9 hat9; obtain ⟨g9, cap9, rfl, _, _⟩ := hown9.form (by omega); have hh9 := HF.out w9 g9 cap9 hown9 hg9 hat9; have HF9 := Lib.hid hh9; have pw9 := Blk.grown HBO2.out hg9 (fun q hq => by have := HRB.out q hq; omega); have HOW9 := Lib.hid (own_grown HOW1.out hg9 (fun q h8 h9 => by have a8 := HA3.out q h8; have a9 := HRB.out q h9; omega)); have yy0 : w9.cell? ⟨P, 0, none⟩ = some (.slice A' k c') := pw9.cell 0 rfl; have yy1 := pw9.frozen 0; have hz9 := hg9.size; (try simp only [World.size_alloc] at hz9); clear hown9 hg9 hat9 hh9 pw9) | (go_simp; go_at_call 48; (with_reducible refine CO.out.mono ?_); intro e w2 hq2; obtain ⟨A4, c4, rfl, own2, hb2⟩ := hq2; have hgx0 : Below wq.heap.size wq w2 := below_undrew hb2; have z2 := hgx0.size; have bo2 := bo1.carry hgx0; have y2 : w2.cell? ⟨P, 0, none⟩ = some (.slice A' k c') := bo2.cell 0 rfl; have y3 : ∀ o1, (w2.alloc o1).cell? ⟨P, 0, none⟩ = some (.slice A' k c') := fun o1 => (bo2.alloc o1).cell 0 rfl; have own3 : w2.ownsRow wq.heap.size 26 2 (.slice A4 dl.length c4) dl.length (cellsF cPt dl) := (by rw [← HM.out]; exact own2); have HOM := Lib.hid (World.ownsRow.alloc (own_stays h2 hgx0) (.cells #[.slice A4 m c4] 55)); have HBS := Lib.hid (show lo ≤ (w2.alloc (.cells #[.slice A4 m c4] 55)).heap.size by rw [World.size_alloc]; omega); have HRD := Lib.hid (show Reads (w2.alloc (.cells #[.slice A4 m c4] 55)) (w2.heap.size + 1) 1 (some ⟨w2.heap.size, 0, none⟩) 1 [.slice A4 m c4] by have := Reads.of_own (own_one (w := w2) (base := 0) (e := 55) (cs := #[.slice A4 m c4]) (s := 1) (Nat.zero_le _) rfl); simpa using this); have HF0 := fun (w9 : World) (g9 cap9 : Nat) hown9 hg9 hat => ring_putL (b := w.heap.size) (lo := lo) (w := w) (wM := w2) (w9 := w9) (A2 := A4) (c2 := c4) (g9 := g9) (cap9 := cap9) (TC := 55) hloP (by omega) hkl bo1 (by omega) g1 (by omega) own3 hgx0 hrows h2 h3 h4 h5 hown9 hg9 hat; rw [← HM.out] at HF0; have HF := Lib.hid HF0; have HBO2 := Lib.hid (bo2.alloc (.cells #[.slice A4 m c4] 55)); have HOW1 := Lib.hid (World.ownsRow.alloc (own_stays HOW0.out hgx0) (.cells #[.slice A4 m c4] 55)); clear own2 own3 HF0 hb2 hgx0 bo2))
      all_goals
        go_wp2_with fail
        go_roundw
        case rel =>
          obtain ⟨f1, f2, f3, f4⟩ := HF9.out
          rw [HTK.out] at f3
          exact ⟨k + 1, some ⟨g9, 0, none⟩, cap9, by omega, by go_num, f1 _ _ _ (by omega) HBK2.out, f2, f3, own_keep HOW9.out (fun q hq h8 => by have := HA3.out q hq; simp only at h8; omega) _, by simp; omega, f4⟩
        case measure => first | (simp [intOf]; done) | (simp [intOf]; omega)
    case neg =>
      obtain rfl : L = k := by omega
      rw [List.take_of_length_le (by have := HL.out; omega)] at ow1
      have y0 : wr.cell? ⟨P, 0, none⟩ = some (.slice A' L c') := bo1.cell 0 rfl
      have lP := bo1.lt
      clear own0
      go_wp2_with fail
      refine (CF.out _ _ _ ow1.rd).mono ?_
      rintro e w5 ⟨rfl, hb5⟩
      have a2 := bo0.carry hb5
      replace bo1 := bo1.carry hb5
      have z5 := hb5.size
      have g5 : Below w.heap.size w w5 := g1.trans (hb5.mono (by omega))
      have ow5 := ow1.carry hb5
      clear y0 lP g1 ow1 hb5
      have y0 : w5.cell? ⟨P, 0, none⟩ = some (.slice A' L c') := bo1.cell 0 rfl
      have lP := bo1.lt
      have k2 : w5.cell? ⟨(w.heap.size + 2), 0, none⟩ = some (.slice none 0 0) := a2.cell 0 rfl
      have f2 := a2.frozen 0
      have l2 := a2.lt
      go_wp2_with fail
      refine bodyPost_ret (v := .tuple #[.agg #[.slice none 0 0], .int .i64 5]) (by simp [results, Try.results17, go_sem, *]) rfl ⟨none, 0, rfl, OwnRing.nil _ _ _, ?_⟩
      repeat' (first | with_reducible assumption | with_reducible exact Below.refl _ _ | (with_reducible refine Below.setCell ?_ ?_ _) | (with_reducible refine Below.alloc ?_ ?_ _) | (with_reducible refine Below.drew ?_) | (with_reducible refine below_dr ?_ _) | (with_reducible refine Below.trans ?_ (Below.mono (by with_reducible assumption) ?_)) | omega | (simp; done) | (simp; omega))
end Go.Proofs.Ytdeemhfhmgnbgaa
