/- Walks: lists of rings are joined by the library. -/
import Derived.Test.YtdeemhfhmgnbgaaYd
import Derived.Shelf.Spec.SlicesGrow
namespace Go.Proofs.Ytdeemhfhmgnbgaa
open Go.RowKit
set_option linter.unusedVariables false
def growRen : Go.Shelf.Ren := ⟨fun | 4 => 77 | n => n, fun | 22 => 38 | 25 => 55 | n => n, fun n => n⟩
theorem growLays : Go.Proofs.Lays8.n4 Try.prog growRen := {
  mixed := by kernel_rfl
  f4 := ⟨Try.f77.name, by decide, Try.func77.trans (congrArg some (by kernel_rfl))⟩
  t0 := Try.underlying0
  a0 := Try.isAgg0
  z0 := Try.sizeOf0
  v0 := Try.zeroValue0
  t3 := Try.underlying3
  a3 := Try.isAgg3
  z3 := Try.sizeOf3
  v3 := Try.zeroValue3
  t4 := Try.underlying4
  a4 := Try.isAgg4
  z4 := Try.sizeOf4
  v4 := Try.zeroValue4
  t9 := Try.underlying9
  a9 := Try.isAgg9
  z9 := Try.sizeOf9
  v9 := Try.zeroValue9
  t20 := Try.underlying20
  a20 := Try.isAgg20
  z20 := Try.sizeOf20
  v20 := Try.zeroValue20
  t22 := Try.underlying38
  a22 := Try.isAgg38
  z22 := Try.sizeOf38
  v22 := Try.zeroValue38 }
theorem zeroCells_len (z : Value) (h : z.cells.size = 1) (n : Nat) : (Builtin.zeroCells z.cells n).size = n := by
  simp [Builtin.zeroCells, h]
set_option maxRecDepth 100000 in
theorem grow_rings (n : Nat) (w : World) (hn : n ≤ 1000) :
    Calls Try.prog 77 #[.slice none 0 0, .int .i64 n] w fun e w' =>
      ∃ (A : Option Addr) (c : Nat), e = .returned (.slice A 0 c) ∧ w'.ownsRow w.heap.size 55 1 (.slice A 0 c) 0 [] ∧ Below w.heap.size w w' := by
  by_cases h0 : n = 0
  · subst h0
    refine (Any8.slices_Grow_room growLays none 0 0 0 w (by omega) (by omega) (by omega) (by omega)).mono ?_
    rintro e w' ⟨rfl, rfl⟩
    exact ⟨none, 0, rfl, World.ownsRow_nil _ _ _ _, Below.refl _ _⟩
  · obtain ⟨i0, hi0, hz0, hs0, hb0⟩ := info_parts infoRing
    refine (Any8.slices_Grow_grow growLays i0 _ hi0 hz0 (by omega) none 0 0 n [] w (by omega) (by omega) (by rw [hb0]; omega) (by omega) (by simp) (fun _ => rfl) (fun a h => by cases h)).mono ?_
    rintro e w' ⟨rfl, rfl⟩
    have hg := grownCap_ge w (0 + n) 0 (growRen.t 25)
    have hm := grownCap_le_maxLen w (0 + n) 0 (growRen.t 25) (by unfold maxLen; omega)
    refine ⟨_, _, rfl, ⟨rfl, .inr ⟨w.heap.size, _, _, rfl, Nat.le_refl _, heap_alloc_new w.drew _, Nat.zero_le _, hm, ?_, by simp⟩⟩, ?_⟩
    · simp only [Array.size_append, zeroCells_len _ (show (Value.agg #[.slice none 0 0]).cells.size = 1 from rfl)]
      rw [Nat.zero_add] at hg ⊢
      simp; omega
    · exact (Below.drew (Below.refl _ _)).alloc (Nat.le_refl _) _
theorem reads_rings {w : World} {A : Option Addr} {l : List ARing} (r : Rd cRing 1 w w.heap.size A l) : Reads w w.heap.size 1 A l.length (cellsF cRing l) := by
  refine ⟨cellsF_len (fun a => cRing_len a) l, fun hn => ?_⟩
  obtain ⟨g, o, hA, hg, -⟩ := r.elem (k := 0) (List.getElem?_eq_getElem (by omega))
  refine ⟨⟨g, o, none⟩, hA, hg, fun j u hu => ?_⟩
  have hj : j < l.length := by
    rcases Nat.lt_or_ge j l.length with h | h
    · exact h
    · rw [List.getElem?_eq_none (by rw [cellsF_len (fun a => cRing_len a)]; omega)] at hu; cases hu
  obtain ⟨g', o', hA', _, hc⟩ := r.elem (k := j) (List.getElem?_eq_getElem hj)
  obtain ⟨rfl, rfl⟩ : g = g' ∧ o = o' := by rw [hA] at hA'; injection hA' with h; injection h with h1 h2; exact ⟨h1, h2⟩
  have h2 := cellsF_at (fun a => cRing_len a) l j _ (List.getElem?_eq_getElem hj) 0 (by omega)
  rw [show j * 1 + 0 = j by omega, hu] at h2
  have h4 := hc 0 u h2.symm
  rw [show o + j * 1 + 0 = o + j by omega] at h4
  rw [Addr.add_lit]; exact h4
def rwK (r1 r2 : List ARing) : Nat → List ARing
  | 0 => []
  | 1 => r1
  | _ => r1 ++ r2
theorem ring_cells_one (es : List ARing) : ∀ z ∈ cellsF cRing es, z.oneCell' = true := cellsF_one (fun a => cRing_one a) es
theorem pslice_of {t : TypeId} {w : World} {base s n : Nat} {v : Value} {xs : List Value} (h : w.ownsRow base t s v n xs) : ∃ ao cap, v = .slice ao n cap := by
  rcases h.2 with ⟨rfl, rfl⟩ | ⟨g, cap, cur, rfl, _⟩
  · exact ⟨none, 0, rfl⟩
  · exact ⟨_, _, rfl⟩
theorem own_more {t : TypeId} {w : World} {base s n c : Nat} {A : Option Addr} {xs : List Value} (h : w.ownsRow base t s (.slice A n c) n xs) {w' : World} (hb : Below w.heap.size w w') : w'.ownsRow base t s (.slice A n c) n xs := own_stays h hb
set_option maxRecDepth 100000 in
set_option maxHeartbeats 6400000 in
theorem concatRows_any (s1 s2 : List ARing) (A1 A2 : Option Addr) (c1 c2 q : Nat) (w : World) (hl1 : s1.length ≤ 400) (hl2 : s2.length ≤ 400) (hq : q < w.heap.size) (k0 : w.cell? ⟨q, 0, none⟩ = some (.slice A1 s1.length c1)) (k1 : w.cell? ⟨q, 1, none⟩ = some (.slice A2 s2.length c2)) (r1 : Rd cRing 1 w w.heap.size A1 s1) (r2 : Rd cRing 1 w w.heap.size A2 s2) :
    Calls Try.prog 47 #[.slice (some ⟨q, 0, none⟩) 2 2] w fun e w' => ∃ (A' : Option Addr) (c' : Nat), e = .returned (.slice A' (s1 ++ s2).length c') ∧ w'.ownsRow w.heap.size 55 1 (.slice A' (s1 ++ s2).length c') (s1 ++ s2).length (cellsF cRing (s1 ++ s2)) ∧ Below w.heap.size w w' := by
  obtain ⟨i0, hi0, hz0', hz1', hz2'⟩ := info_parts infoRing
  have HI0 := Lib.hid hi0
  have HZ0 := Lib.hid hz0'
  have HZ1 := Lib.hid hz1'
  have HZ2 := Lib.hid hz2'
  clear hi0 hz0' hz1' hz2'
  have HK := Lib.hid (fun (wr : World) (hb : Below w.heap.size w wr) => (⟨(hb.cell (p := ⟨q, 0, none⟩) hq).trans k0, (hb.cell (p := ⟨q, 1, none⟩) hq).trans k1⟩ : wr.cell? ⟨q, 0, none⟩ = some (.slice A1 s1.length c1) ∧ wr.cell? ⟨q, 1, none⟩ = some (.slice A2 s2.length c2)))
  have R1 := Lib.hid (fun (wr : World) (hb : Below w.heap.size w wr) => reads_rings ((r1.below hb).more hb.size))
  have R2 := Lib.hid (fun (wr : World) (hb : Below w.heap.size w wr) => reads_rings ((r2.below hb).more hb.size))
  clear k0 k1 r1 r2
  obtain ⟨n1, hn1⟩ : ∃ n, n = s1.length := ⟨_, rfl⟩
  obtain ⟨n2, hn2⟩ : ∃ n, n = s2.length := ⟨_, rfl⟩
  have H12 := Lib.hid (show (s1 ++ s2).length = n1 + n2 by rw [hn1, hn2, List.length_append])
  rw [H12.out]
  rw [← hn1, ← hn2] at HK
  rw [← hn1] at hl1 R1
  rw [← hn2] at hl2 R2
  clear hn1 hn2
  have CG := Lib.hid (fun w => grow_rings (n1 + n2) w (by omega))
  have HC1 := Lib.hid (show cellsF cRing (rwK s1 s2 0) ++ cellsF cRing s1 = cellsF cRing (rwK s1 s2 1) from rfl)
  have HC2 := Lib.hid (show cellsF cRing (rwK s1 s2 1) ++ cellsF cRing s2 = cellsF cRing (rwK s1 s2 2) by simp [rwK, cellsF])
  go_enter Try.func47, Try.ntmps47
  go_wp2_with fail
  go_loopw [3, 11] (fun s i wr => ∃ k : Nat, k ≤ 2 ∧ i = .int .i64 (k : Int) ∧ s = .int .i64 ((if k = 0 then 0 else if k = 1 then n1 else n1 + n2 : Nat) : Int) ∧ w = wr) (fun _ i _ => 2 - (intOf i).toNat)
  case atStart => exact ⟨0, by omega, rfl, rfl, rfl⟩
  case round =>
    obtain ⟨k, hk, rfl, rfl, rfl⟩ := hrel
    obtain ⟨k0, k1⟩ := HK.out w (Below.refl _ _)
    by_cases hlt : k < 2
    case pos =>
      rcases (by omega : k = 0 ∨ k = 1) with rfl | rfl
      · clear hk hlt
        skip
        have b1 : IntKind.i64.wrap ((0 : Int) + (n1 : Int)) = (n1 : Int) := by rw [Int.zero_add]; exact IntWalk.i64_in _ (by omega)
        have d1 : decide ((n1 : Int) < 0) = false := by first | (simp; done) | (simp; omega)
        have d2 : decide ((n1 : Int) + (n2 : Int) < 0) = false := by first | (simp; done) | (simp; omega)
        go_wp2_with fail
        go_roundw
        case rel => exact ⟨1, by omega, by go_num, by first | rfl | (simp; done) | (congr 1; omega), by first | rfl | trivial⟩
        case measure => simp [intOf]
      · clear hk hlt
        skip
        have b1 : IntKind.i64.wrap ((n1 : Int) + (n2 : Int)) = (n1 : Int) + (n2 : Int) := IntWalk.i64_in _ (by omega)
        have d1 : decide ((n1 : Int) < 0) = false := by first | (simp; done) | (simp; omega)
        have d2 : decide ((n1 : Int) + (n2 : Int) < 0) = false := by first | (simp; done) | (simp; omega)
        go_wp2_with fail
        go_roundw
        case rel => exact ⟨2, by omega, by go_num, by first | rfl | (simp; done) | (congr 1; omega), by first | rfl | trivial⟩
        case measure => simp [intOf]
    case neg =>
      obtain rfl : k = 2 := by omega
      clear hk hlt
      simp only [show ¬ (2 : Nat) = 0 by omega, show ¬ (2 : Nat) = 1 by omega, if_false]
      have ec : (((n1 + n2 : Nat) : Int)) = (n1 : Int) + (n2 : Int) := by omega
      go_wp2_with fail
      refine (CG.out _).mono ?_
      intro e w1 hq1
      obtain ⟨A0, c0, rfl, ow0, hb1⟩ := hq1
      have z1 := hb1.size
      go_wp2_with fail
      go_loopw [6, 27] (fun s i wr => ∃ (k : Nat) (A' : Option Addr) (m c' : Nat), k ≤ 2 ∧ m = (if k = 0 then 0 else if k = 1 then n1 else n1 + n2) ∧ i = .int .i64 (k : Int) ∧ s = .slice A' m c' ∧ wr.ownsRow w.heap.size 55 1 (.slice A' m c') m (cellsF cRing (rwK s1 s2 k)) ∧ Below w.heap.size w wr) (fun _ i _ => 2 - (intOf i).toNat)
      case atStart => exact ⟨0, _, 0, _, by omega, rfl, rfl, rfl, ow0, hb1⟩
      case round =>
        obtain ⟨k, A', m, c', hk, hm, rfl, rfl, ow, hbl⟩ := hrel
        clear k0 k1
        obtain ⟨k0, k1⟩ := HK.out wr hbl
        have zr := hbl.size
        have lq : q < wr.heap.size := by omega
        by_cases hlt : k < 2
        case pos =>
          rcases (by omega : k = 0 ∨ k = 1) with rfl | rfl
          · have hm' : m = 0 := by simpa using hm
            clear hm hk hlt
            have HOW := Lib.hid ow
            have HRD := Lib.hid (R1.out wr hbl)
            have HRB := Lib.hid (fun b (hb : (Value.slice A' m c').ownBlock = some b) => own_block ow hb)
            have HMX := Lib.hid (show m + n1 ≤ maxLen by unfold maxLen; omega)
            have HBY := Lib.hid (show (m + n1) * 24 ≤ 140737488355328 by omega)
            have HBS := Lib.hid (show w.heap.size ≤ wr.heap.size by omega)
            have HM := Lib.hid hm'
            clear ow hm'
            go_wp2_with (at_builtin; refine wpList_append_any _ rfl (.tmp 31) (.tmp 32) _ rfl (w.heap.size) 55 i0 _ 1 24 Try.underlying38 HI0.out HZ0.out HZ1.out HZ2.out rfl (by omega) (.slice A' m c') m _ rfl HOW.out _ A1 n1 c1 (cellsF cRing s1) rfl HRD.out (ring_cells_one _) HMX.out HBY.out HBS.out ?_; intro v9 w9 hown9 hg9 hat9; obtain ⟨A9, c9, rfl⟩ := pslice_of hown9; have HOWN9 := Lib.hid hown9; have HG9 := Lib.hid hg9; clear hown9 hg9 hat9)
            have g9b : Below w.heap.size w w9 := below_of_grown hbl HG9.out (by omega) (fun q hq => by have := HRB.out q hq; omega)
            go_roundw
            case rel => exact ⟨1, A9, m + n1, c9, by omega, by (have := HM.out; (first | (simp; done) | (simp; omega))), by go_num, rfl, by rw [← HC1.out]; exact HOWN9.out, g9b⟩
            case measure => simp [intOf]
          · have hm' : m = n1 := by simpa using hm
            clear hm hk hlt
            have HOW := Lib.hid ow
            have HRD := Lib.hid (R2.out wr hbl)
            have HRB := Lib.hid (fun b (hb : (Value.slice A' m c').ownBlock = some b) => own_block ow hb)
            have HMX := Lib.hid (show m + n2 ≤ maxLen by unfold maxLen; omega)
            have HBY := Lib.hid (show (m + n2) * 24 ≤ 140737488355328 by omega)
            have HBS := Lib.hid (show w.heap.size ≤ wr.heap.size by omega)
            have HM := Lib.hid hm'
            clear ow hm'
            go_wp2_with (at_builtin; refine wpList_append_any _ rfl (.tmp 31) (.tmp 32) _ rfl (w.heap.size) 55 i0 _ 1 24 Try.underlying38 HI0.out HZ0.out HZ1.out HZ2.out rfl (by omega) (.slice A' m c') m _ rfl HOW.out _ A2 n2 c2 (cellsF cRing s2) rfl HRD.out (ring_cells_one _) HMX.out HBY.out HBS.out ?_; intro v9 w9 hown9 hg9 hat9; obtain ⟨A9, c9, rfl⟩ := pslice_of hown9; have HOWN9 := Lib.hid hown9; have HG9 := Lib.hid hg9; clear hown9 hg9 hat9)
            have g9b : Below w.heap.size w w9 := below_of_grown hbl HG9.out (by omega) (fun q hq => by have := HRB.out q hq; omega)
            go_roundw
            case rel => exact ⟨2, A9, m + n2, c9, by omega, by (have := HM.out; (first | (simp; done) | (simp; omega))), by go_num, rfl, by rw [← HC2.out]; exact HOWN9.out, g9b⟩
            case measure => simp [intOf]
        case neg =>
          obtain rfl : k = 2 := by omega
          have hm' : m = n1 + n2 := by simpa using hm
          clear hm hk hlt
          subst hm'
          go_wp2_with fail
          go_ret
          exact ⟨A', c', rfl, ow, hbl⟩
end Go.Proofs.Ytdeemhfhmgnbgaa
