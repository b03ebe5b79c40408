/- Lists of rings that are a call's own: each its own block; what changes between two blocks. -/
import Derived.Test.YtdeemhfhmgnbgaaYa
namespace Go.Proofs.Ytdeemhfhmgnbgaa
open Go.RowKit
set_option linter.unusedVariables false
/-- Only blocks from lo to hi change. -/
structure Mid (lo hi : Nat) (w w' : World) : Prop where
  os : w'.os = w.os
  tape : w'.tape = w.tape
  output : w'.output = w.output
  size : w.heap.size ≤ w'.heap.size
  block : ∀ k, k < w.heap.size → (k < lo ∨ hi ≤ k) → w'.heap[k]? = w.heap[k]?
theorem Mid.of_grown {lo hi : Nat} {w w' : World} {row : Option Nat} (h : w.grownBy w' row) (hr : ∀ q, row = some q → lo ≤ q ∧ q < hi) : Mid lo hi w w' :=
  ⟨h.os, h.tape, h.output, h.size, fun k hk hor => h.block k hk (fun e => by have := hr k e.symm; omega)⟩
theorem Mid.of_below {lo hi : Nat} {w w' : World} (h : Below w.heap.size w w') : Mid lo hi w w' :=
  ⟨h.os, h.tape, h.output, h.size, fun k hk _ => h.block k hk⟩
theorem Mid.refl (lo hi : Nat) (w : World) : Mid lo hi w w := ⟨rfl, rfl, rfl, Nat.le_refl _, fun _ _ _ => rfl⟩
theorem Mid.trans {lo hi : Nat} {w w1 w2 : World} (h : Mid lo hi w w1) (k : Mid lo hi w1 w2) : Mid lo hi w w2 :=
  ⟨k.os.trans h.os, k.tape.trans h.tape, k.output.trans h.output, Nat.le_trans h.size k.size, fun i hi' hor => (k.block i (Nat.lt_of_lt_of_le hi' h.size) hor).trans (h.block i hi' hor)⟩
theorem own_mid {lo hi : Nat} {w w' : World} {base e s n : Nat} {v : Value} {xs : List Value} (h : w.ownsRow base e s v n xs) (hm : Mid lo hi w w') (hr : ∀ q, v.ownBlock = some q → q < lo ∨ hi ≤ q) : w'.ownsRow base e s v n xs := by
  obtain ⟨hl, h⟩ := h
  refine ⟨hl, ?_⟩
  rcases h with h | ⟨g, cap, cur, hv, hb, hh, r⟩
  · exact .inl h
  · have hlt : g < w.heap.size := by
      rcases Nat.lt_or_ge g w.heap.size with k | k
      · exact k
      · rw [Array.getElem?_eq_none k] at hh; cases hh
    exact .inr ⟨g, cap, cur, hv, hb, (hm.block g hlt (hr g (by rw [hv]; rfl))).trans hh, r⟩
abbrev hdL (a : ARing) : Value := .slice a.1 a.2.2.length a.2.1
/-- A slice of loops of one's own, all blocks between lo and hi and apart. -/
def OwnRing (w : World) (lo hi : Nat) (A : Option Addr) (c : Nat) (ds : List DRing) : Prop :=
  ∃ rows : List ARing, rows.map dRing = ds ∧ w.ownsRow lo 55 1 (.slice A ds.length c) ds.length (cellsF cRing rows) ∧
    (∀ q, (Value.slice A ds.length c).ownBlock = some q → q < hi) ∧
    (∀ (i : Nat) (a : ARing), rows[i]? = some a → w.ownsRow lo 26 2 (hdL a) a.2.2.length (cellsF cPt a.2.2) ∧ ∀ q, (hdL a).ownBlock = some q → q < hi ∧ ¬ (Value.slice A ds.length c).ownBlock = some q) ∧
    (∀ (i j : Nat) (a b : ARing), i ≠ j → rows[i]? = some a → rows[j]? = some b → ∀ q, (hdL a).ownBlock = some q → ¬ (hdL b).ownBlock = some q)
theorem OwnRing.mid {lo hi lo' hi' : Nat} {w w' : World} {A : Option Addr} {c : Nat} {ds : List DRing} (h : OwnRing w lo hi A c ds) (hm : Mid lo' hi' w w') (hx : hi ≤ lo' ∨ hi' ≤ lo) : OwnRing w' lo hi A c ds := by
  obtain ⟨rows, h1, h2, h3, h4, h5⟩ := h
  refine ⟨rows, h1, own_mid h2 hm (fun q hq => ?_), h3, fun i a ha => ⟨own_mid (h4 i a ha).1 hm (fun q hq => ?_), (h4 i a ha).2⟩, h5⟩
  · have := h3 q hq; have := (own_block h2 hq).1; omega
  · have := ((h4 i a ha).2 q hq).1; have := (own_block (h4 i a ha).1 hq).1; omega
theorem OwnRing.carry {lo hi : Nat} {w w' : World} {A : Option Addr} {c : Nat} {ds : List DRing} (h : OwnRing w lo hi A c ds) (hb : Below w.heap.size w w') : OwnRing w' lo hi A c ds := by
  obtain ⟨rows, h1, h2, h3, h4, h5⟩ := h
  exact ⟨rows, h1, own_stays h2 hb, h3, fun i a ha => ⟨own_stays (h4 i a ha).1 hb, (h4 i a ha).2⟩, h5⟩
theorem OwnRing.rd {lo hi : Nat} {w : World} {A : Option Addr} {c : Nat} {ds : List DRing} (h : OwnRing w lo hi A c ds) : RdRing w w.heap.size A ds := by
  obtain ⟨rows, rfl, h2, h3, h4, h5⟩ := h
  rw [List.length_map] at h2
  exact ⟨rows, rfl, Rd.of_own (fun a => cRing_len a) (by omega) h2 (Nat.le_refl _), fun i a ha => Rd.of_own (fun a => cPt_len a) (by omega) (h4 i a ha).1 (Nat.le_refl _)⟩
/-- Where the marks of loop i begin. -/
def kAt (k : Nat) (ds : List DRing) (i : Nat) : Nat := k + 2 * ((ds.take i).map List.length).sum
def mds (k : Nat) (ds : List DRing) : List DRing := ds.mapIdx fun i l => marksPt (kAt k ds i) l.length
theorem mds_len (k : Nat) (ds : List DRing) : (mds k ds).length = ds.length := by simp [mds]
theorem mds_at {k i : Nat} {ds : List DRing} {l : DRing} (h : ds[i]? = some l) : (mds k ds)[i]? = some (marksPt (kAt k ds i) l.length) := by simp [mds, h]
theorem kAt_zero (k : Nat) (ds : List DRing) : kAt k ds 0 = k := by simp [kAt]
theorem kAt_succ {k i : Nat} {ds : List DRing} {l : DRing} (h : ds[i]? = some l) : kAt k ds (i + 1) = kAt k ds i + 2 * l.length := by
  unfold kAt
  rw [List.take_add_one, h, List.map_append, List.sum_append]
  simp
  omega
theorem kAt_le (k : Nat) (ds : List DRing) (i : Nat) : k ≤ kAt k ds i ∧ kAt k ds i ≤ kAt k ds ds.length := by
  unfold kAt
  rw [List.take_length]
  have h : (ds.map List.length).sum = ((ds.take i).map List.length).sum + ((ds.drop i).map List.length).sum := by
    rw [← List.sum_append, ← List.map_append, List.take_append_drop]
  omega

theorem loop_cell {rows : List ARing} {m : Nat} {a : ARing} (ha : rows[m]? = some a) : (cellsF cRing rows)[m]? = some (hdL a) := by
  have h := cellsF_at (s := 1) (fun a => cRing_len a) rows m a ha 0 (by omega)
  rw [Nat.mul_one, Nat.add_zero] at h
  exact h
set_option maxHeartbeats 1600000 in
theorem markRingS_any (k : Nat) (ds : List DRing) (A : Option Addr) (c lo hi : Nat) (w : World) (hk : 1 ≤ k) (hn : kAt k ds ds.length ≤ 4611686018427387904) (hd : ds.length ≤ 4611686018427387904) (h : OwnRing w lo hi A c ds) :
    Calls Try.prog 50 #[.slice A ds.length c, .int .i64 k] w fun e w' => e = .returned (.int .i64 (kAt k ds ds.length : Nat)) ∧ OwnRing w' lo hi A c (mds k ds) ∧ Mid lo hi w w' := by
  obtain ⟨rows, h1, h2, h3, h4, h5⟩ := h
  obtain ⟨n, hnn⟩ : ∃ n, n = ds.length := ⟨_, rfl⟩
  have hrn : rows.length = n := by rw [hnn, ← h1, List.length_map]
  unfold OwnRing
  rw [mds_len]
  rw [← hnn] at h2 h3 h4 hd ⊢
  have HN := Lib.hid hnn
  have HR := Lib.hid hrn
  have H1 := Lib.hid h1
  have HKN := Lib.hid hn
  have H3 := Lib.hid h3
  have H4 := Lib.hid (fun i a ha => (h4 i a ha).2)
  have H5 := Lib.hid h5
  have HZ0 := Lib.hid (kAt_zero k ds)
  have g4 := fun i a ha => (h4 i a ha).1
  clear hnn hrn h1 hn h3 h4 h5
  go_enter Try.func50, Try.ntmps50
  go_wp2_with fail
  go_loopw [1, 5] (fun j i wr => ∃ m : Nat, m ≤ n ∧ i = .int .i64 m ∧ j = .int .i64 (kAt k ds m : Nat) ∧ wr.ownsRow lo 55 1 (.slice A n c) n (cellsF cRing rows) ∧ (∀ (i : Nat) (a : ARing), rows[i]? = some a → wr.ownsRow lo 26 2 (hdL a) a.2.2.length (cellsF cPt (if i < m then marksPt (kAt k ds i) a.2.2.length else a.2.2))) ∧ Mid lo hi w wr) (fun _ i _ => n - (intOf i).toNat)
  case atStart => exact ⟨0, Nat.zero_le _, rfl, by rw [HZ0.out], h2, fun i a ha => by rw [if_neg (by omega)]; exact g4 i a ha, Mid.refl _ _ _⟩
  case round =>
    clear h2 g4
    obtain ⟨m, hm, rfl, rfl, hown, hrows, hmid⟩ := hrel
    have HW := Lib.hid hrows
    clear hrows
    by_cases hlt : m < n
    case pos =>
      obtain ⟨g, cap, hv, _, hgl⟩ := hown.form (by omega)
      obtain rfl : A = some ⟨g, 0, none⟩ := by injection hv
      obtain ⟨⟨xA, xc, xl⟩, ha⟩ : ∃ a, rows[m]? = some a := ⟨rows[m]'(by have := HR.out; omega), List.getElem?_eq_getElem (by have := HR.out; omega)⟩
      have hda : ds[m]? = some xl := by rw [← H1.out, List.getElem?_map, ha]; rfl
      have y0 : wr.cell? ⟨g, m, none⟩ = some (.slice xA xl.length xc) := (hown.cellAt m (by omega)).trans (loop_cell ha)
      have hme := HW.out m _ ha
      rw [if_neg (by omega)] at hme
      have hks := kAt_succ (k := k) hda
      have hkl := kAt_le k ds (m + 1)
      have hkl0 := kAt_le k ds m
      have HA := Lib.hid ha
      obtain ⟨z, hz⟩ : ∃ z, z = kAt k ds m := ⟨_, rfl⟩
      rw [← hz] at hks hkl0 ⊢
      have hz1 : 1 ≤ z := by omega
      have hz2 : z + 2 * xl.length ≤ 4611686018427387904 := by have := HKN.out; have := HN.out; omega
      have HZ := Lib.hid hz
      have HKS := Lib.hid hks
      clear hv ha hda hks hkl hkl0 hz
      have hki : (m : Int) < (n : Int) := by omega
      go_wp2_with fail
      refine (markPtS_any z xl.length xA xc lo (cellsF cPt xl) _ hz1 hz2 hme).mono ?_
      rintro e w2 ⟨rfl, hm2, hg⟩
      have HOUT := Lib.hid (own_grown hown hg (fun q hq hr => ((H4.out m _ HA.out) q hr).2 hq))
      have HMID := Lib.hid (hmid.trans (Mid.of_grown hg (fun q hq => ⟨(own_block hme hq).1, ((H4.out m _ HA.out) q hq).1⟩)))
      have HRO := Lib.hid (show ∀ (i : Nat) (a : ARing), rows[i]? = some a → w2.ownsRow lo 26 2 (hdL a) a.2.2.length (cellsF cPt (if i < m + 1 then marksPt (kAt k ds i) a.2.2.length else a.2.2)) from fun i a hb => by
        by_cases hi : i = m
        · subst hi
          obtain rfl := Option.some.inj (HA.out.symm.trans hb)
          rw [if_pos (by omega), ← HZ.out]
          exact hm2
        · have h0 := own_grown (HW.out i a hb) hg (fun q hq hr => H5.out i m a _ hi hb HA.out q hq hr)
          by_cases h6 : i < m
          · rw [if_pos (by omega)]; rw [if_pos h6] at h0; exact h0
          · rw [if_neg (by omega)]; rw [if_neg h6] at h0; exact h0)
      clear hown hmid hg hm2 hme HW y0
      go_wp2_with fail
      go_roundw
      case rel => exact ⟨m + 1, by omega, by go_num, by have h1 := HKS.out; have h2 := HZ.out; rw [h1]; go_num, HOUT.out, HRO.out, HMID.out⟩
      case measure => simp [intOf]; omega
    case neg =>
      obtain rfl : m = n := by omega
      go_wp2_with fail
      go_ret
      refine ⟨rfl, ⟨rows.mapIdx fun i a => (a.1, a.2.1, marksPt (kAt k ds i) a.2.2.length), ?_, ?_, H3.out, fun i a ha => ?_, fun i j a b hij ha hb => ?_⟩, hmid⟩
      · apply List.ext_getElem?
        intro i
        simp only [mds, List.getElem?_map, List.getElem?_mapIdx, ← H1.out]
        cases rows[i]? <;> rfl
      · have he : cellsF cRing (rows.mapIdx fun i a => (a.1, a.2.1, marksPt (kAt k ds i) a.2.2.length)) = cellsF cRing rows := by
          apply List.ext_getElem?
          intro i
          rcases Nat.lt_or_ge i rows.length with hi | hi
          · obtain ⟨a, ha⟩ : ∃ a, rows[i]? = some a := ⟨rows[i], List.getElem?_eq_getElem hi⟩
            rw [loop_cell ha, loop_cell (a := (a.1, a.2.1, marksPt (kAt k ds i) a.2.2.length)) (by rw [List.getElem?_mapIdx, ha]; rfl)]
            simp only [hdL, marksPt_len]
          · rw [List.getElem?_eq_none (by rw [cellsF_len (fun a => cRing_len a), List.length_mapIdx]; omega), List.getElem?_eq_none (by rw [cellsF_len (fun a => cRing_len a)]; omega)]
        rw [he]; exact hown
      · rw [List.getElem?_mapIdx] at ha
        cases hb : rows[i]? with
        | none => rw [hb] at ha; cases ha
        | some b =>
          rw [hb] at ha
          obtain rfl := Option.some.inj ha
          have h0 := HW.out i b hb
          have hi : i < m := by have := HR.out; rw [← this]; exact (List.getElem?_eq_some_iff.1 hb).1
          rw [if_pos hi] at h0
          simp only [hdL, marksPt_len]
          exact ⟨h0, H4.out i b hb⟩
      · rw [List.getElem?_mapIdx] at ha hb
        cases hc : rows[i]? with
        | none => rw [hc] at ha; cases ha
        | some a' =>
          cases hd' : rows[j]? with
          | none => rw [hd'] at hb; cases hb
          | some b' =>
            rw [hc] at ha
            rw [hd'] at hb
            obtain rfl := Option.some.inj ha
            obtain rfl := Option.some.inj hb
            simp only [hdL, marksPt_len]
            exact H5.out i j a' b' hij hc hd'
set_option maxHeartbeats 1600000 in
theorem heldRingS_any (k : Nat) (ds : List DRing) (A : Option Addr) (c : Nat) (w : World) (hk : 1 ≤ k) (hn : kAt k ds ds.length ≤ 4611686018427387904) (hd : ds.length ≤ 4611686018427387904) (h : RdRing w w.heap.size A (mds k ds)) :
    Calls Try.prog 51 #[.slice A ds.length c, .int .i64 k] w fun e w' => e = .returned (.int .i64 (kAt k ds ds.length : Nat)) ∧ Below w.heap.size w w' := by
  obtain ⟨n, hnn⟩ : ∃ n, n = ds.length := ⟨_, rfl⟩
  have HKN := Lib.hid hn
  have HZ0 := Lib.hid (kAt_zero k ds)
  rw [← hnn] at hd ⊢
  have HN := Lib.hid hnn
  clear hnn hn
  go_enter Try.func51, Try.ntmps51
  go_wp2_with fail
  go_loopw [1, 5] (fun j i wr => ∃ m : Nat, m ≤ n ∧ i = .int .i64 m ∧ j = .int .i64 (kAt k ds m : Nat) ∧ Below w.heap.size w wr) (fun _ i _ => n - (intOf i).toNat)
  case atStart => exact ⟨0, Nat.zero_le _, rfl, by rw [HZ0.out], Below.refl _ _⟩
  case round =>
    obtain ⟨m, hm, rfl, rfl, hbl⟩ := hrel
    by_cases hlt : m < n
    case pos =>
      obtain ⟨xl, hda⟩ : ∃ a, ds[m]? = some a := ⟨ds[m]'(by have := HN.out; omega), List.getElem?_eq_getElem (by have := HN.out; omega)⟩
      obtain ⟨g, o, A', c', rfl, hg, hc, hrd⟩ := (h.carry hbl (Nat.le_refl _)).elem (mds_at (k := k) hda)
      have y0 : wr.cell? ⟨g, o + m, none⟩ = some (.slice A' (marksPt (kAt k ds m) xl.length).length c') := by have h := hc 0 _ rfl; rw [Nat.mul_one] at h; exact h
      rw [marksPt_len] at y0
      have hks := kAt_succ (k := k) hda
      have hkl := kAt_le k ds (m + 1)
      have hkl0 := kAt_le k ds m
      obtain ⟨z, hz⟩ : ∃ z, z = kAt k ds m := ⟨_, rfl⟩
      rw [← hz] at hks hkl0 hrd ⊢
      have hz1 : 1 ≤ z := by omega
      have hz2 : z + 2 * xl.length ≤ 4611686018427387904 := by have := HKN.out; have := HN.out; omega
      have HZ := Lib.hid hz
      have HKS := Lib.hid hks
      have hki : (m : Int) < (n : Int) := by omega
      have hzr := hbl.size
      clear hc hda hks hkl hkl0 hz
      obtain ⟨V, hV⟩ : ∃ V : Int, V = ((z + 2 * xl.length : Nat) : Int) := ⟨_, rfl⟩
      have hv0 : 0 ≤ V := by omega
      have HV := Lib.hid hV
      go_wp2_with fail
      refine (heldPtS_any z xl.length A' c' _ hz1 hz2 (hrd.more hzr)).mono ?_
      rw [← hV]
      clear hV
      rintro e w2 ⟨rfl, hb2⟩
      go_wp2_with fail
      go_roundw
      case rel => exact ⟨m + 1, by omega, by go_num, by rw [HKS.out, HV.out], by repeat' (first | with_reducible assumption | with_reducible exact Below.refl _ _ | (with_reducible refine Below.setCell ?_ ?_ _) | (with_reducible refine Below.alloc ?_ ?_ _) | (with_reducible refine Below.drew ?_) | (with_reducible refine below_dr ?_ _) | (with_reducible refine Below.trans ?_ (Below.mono (by with_reducible assumption) ?_)) | omega | (simp; done) | (simp; omega))⟩
      case measure => simp [intOf]; omega
    case neg =>
      obtain rfl : m = n := by omega
      go_wp2_with fail
      go_ret
      exact ⟨rfl, hbl⟩
set_option maxHeartbeats 1600000 in
theorem markRegion_any (k : Nat) (ds : List DRing) (A : Option Addr) (c lo hi : Nat) (w : World) (hk : 1 ≤ k) (hn : kAt k ds ds.length ≤ 4611686018427387904) (hd : ds.length ≤ 4611686018427387904) (h : OwnRing w lo hi A c ds) :
    Calls Try.prog 19 #[.agg #[.slice A ds.length c], .int .i64 k] w fun e w' => e = .returned (.int .i64 (kAt k ds ds.length : Nat)) ∧ OwnRing w' lo hi A c (mds k ds) ∧ Mid lo hi w w' := by
  have C := Lib.hid (fun w1 h1 => markRingS_any k ds A c lo hi w1 hk hn hd h1)
  clear hk hn hd
  go_enter Try.func19, Try.ntmps19
  go_wp2_with fail
  refine (C.out _ (h.carry ?_)).mono ?_
  · repeat' (first | with_reducible assumption | with_reducible exact Below.refl _ _ | (with_reducible refine Below.setCell ?_ ?_ _) | (with_reducible refine Below.alloc ?_ ?_ _) | (with_reducible refine Below.drew ?_) | (with_reducible refine below_dr ?_ _) | (with_reducible refine Below.trans ?_ (Below.mono (by with_reducible assumption) ?_)) | omega | (simp; done) | (simp; omega))
  rintro e w1 ⟨rfl, ho, hm⟩
  go_wp2_with fail
  go_ret
  exact ⟨rfl, ho, Mid.trans (Mid.of_below (by repeat' (first | with_reducible assumption | with_reducible exact Below.refl _ _ | (with_reducible refine Below.setCell ?_ ?_ _) | (with_reducible refine Below.alloc ?_ ?_ _) | (with_reducible refine Below.drew ?_) | (with_reducible refine below_dr ?_ _) | (with_reducible refine Below.trans ?_ (Below.mono (by with_reducible assumption) ?_)) | omega | (simp; done) | (simp; omega)))) hm⟩
set_option maxHeartbeats 1600000 in
theorem heldRegion_any (k : Nat) (ds : List DRing) (A : Option Addr) (c : Nat) (w : World) (hk : 1 ≤ k) (hn : kAt k ds ds.length ≤ 4611686018427387904) (hd : ds.length ≤ 4611686018427387904) (h : RdRing w w.heap.size A (mds k ds)) :
    Calls Try.prog 20 #[.agg #[.slice A ds.length c], .int .i64 k] w fun e w' => e = .returned (.int .i64 (kAt k ds ds.length : Nat)) ∧ Below w.heap.size w w' := by
  have C := Lib.hid (fun w1 h1 => heldRingS_any k ds A c w1 hk hn hd h1)
  obtain ⟨V, hV⟩ : ∃ V : Int, V = (kAt k ds ds.length : Nat) := ⟨_, rfl⟩
  have hv0 : 0 ≤ V := by omega
  rw [← hV] at C ⊢
  clear hk hn hd hV
  go_enter Try.func20, Try.ntmps20
  go_wp2_with fail
  refine (C.out _ ?_).mono ?_
  · exact (h.alloc (Nat.le_refl _) _).more (by simp)
  rintro e w1 ⟨rfl, hb⟩
  go_wp2_with fail
  go_ret
  exact ⟨rfl, by repeat' (first | with_reducible assumption | with_reducible exact Below.refl _ _ | (with_reducible refine Below.setCell ?_ ?_ _) | (with_reducible refine Below.alloc ?_ ?_ _) | (with_reducible refine Below.drew ?_) | (with_reducible refine below_dr ?_ _) | (with_reducible refine Below.trans ?_ (Below.mono (by with_reducible assumption) ?_)) | omega | (simp; done) | (simp; omega))⟩

end Go.Proofs.Ytdeemhfhmgnbgaa
