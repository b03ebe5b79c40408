/- Walks: lists of points are joined by the library. -/
import Derived.Test.YtdeemhfhmgnbgaaBi
namespace Go.Proofs.Ytdeemhfhmgnbgaa
open Go.RowKit
set_option linter.unusedVariables false
def growRenP : Go.Shelf.Ren := ⟨fun | 4 => 88 | n => n, fun | 22 => 53 | 25 => 26 | n => n, fun n => n⟩
theorem growLaysP : Go.Proofs.Lays8.n4 Try.prog growRenP := {
  mixed := by kernel_rfl
  f4 := ⟨Try.f88.name, by decide, Try.func88.trans (congrArg some (by kernel_rfl))⟩
  t0 := Try.underlying0
  a0 := Try.isAgg0
  z0 := Try.sizeOf0
  v0 := Try.zeroValue0
  t3 := Try.underlying3
  a3 := Try.isAgg3
  z3 := Try.sizeOf3
  v3 := Try.zeroValue3
  t4 := Try.underlying4
  a4 := Try.isAgg4
  z4 := Try.sizeOf4
  v4 := Try.zeroValue4
  t9 := Try.underlying9
  a9 := Try.isAgg9
  z9 := Try.sizeOf9
  v9 := Try.zeroValue9
  t20 := Try.underlying20
  a20 := Try.isAgg20
  z20 := Try.sizeOf20
  v20 := Try.zeroValue20
  t22 := Try.underlying53
  a22 := Try.isAgg53
  z22 := Try.sizeOf53
  v22 := Try.zeroValue53 }
theorem zeroCells_len2 (z : Value) (h : z.cells.size = 2) (n : Nat) : (Builtin.zeroCells z.cells n).size = n * 2 := by
  simp [Builtin.zeroCells, h]
set_option maxRecDepth 100000 in
theorem grow_pts (n : Nat) (w : World) (hn : n ≤ 100000) :
    Calls Try.prog 88 #[.slice none 0 0, .int .i64 n] w fun e w' =>
      ∃ (A : Option Addr) (c : Nat), e = .returned (.slice A 0 c) ∧ w'.ownsRow w.heap.size 26 2 (.slice A 0 c) 0 [] ∧ Below w.heap.size w w' := by
  by_cases h0 : n = 0
  · subst h0
    refine (Any8.slices_Grow_room growLaysP none 0 0 0 w (by omega) (by omega) (by omega) (by omega)).mono ?_
    rintro e w' ⟨rfl, rfl⟩
    exact ⟨none, 0, rfl, World.ownsRow_nil _ _ _ _, Below.refl _ _⟩
  · obtain ⟨i0, hi0, hz0, hs0, hb0⟩ := info_parts infoPt
    refine (Any8.slices_Grow_grow growLaysP i0 _ hi0 hz0 (by omega) none 0 0 n [] w (by omega) (by omega) (by rw [hb0]; omega) (by omega) (by simp) (fun _ => rfl) (fun a h => by cases h)).mono ?_
    rintro e w' ⟨rfl, rfl⟩
    have hg := grownCap_ge w (0 + n) 0 (growRenP.t 25)
    have hm := grownCap_le_maxLen w (0 + n) 0 (growRenP.t 25) (by unfold maxLen; omega)
    refine ⟨_, _, rfl, ⟨rfl, .inr ⟨w.heap.size, _, _, rfl, Nat.le_refl _, heap_alloc_new w.drew _, Nat.zero_le _, hm, ?_, by simp⟩⟩, ?_⟩
    · simp only [Array.size_append, zeroCells_len2 _ (show (Value.agg #[.int .i64 0, .int .i64 0]).cells.size = 2 from rfl)]
      rw [Nat.zero_add] at hg ⊢
      simp; omega
    · exact (Below.drew (Below.refl _ _)).alloc (Nat.le_refl _) _
theorem pall_one (es : List APt) : ∀ z ∈ cellsF cPt es, z.oneCell' = true := cellsF_one (fun a => cPt_one a) es
theorem reads_pts0 {w : World} {A : Option Addr} {l : List APt} (r : Rd cPt 2 w w.heap.size A l) : Reads w w.heap.size 2 A l.length (cellsF cPt l) := by
  rcases l with _ | ⟨a, l⟩
  · exact ⟨rfl, fun h => absurd h (by simp)⟩
  · exact reads_pts (by simp) r
/-- The points of the first k slices. -/
def paUp (ps : List ARing) (k : Nat) : List APt := (ps.take k).flatMap (·.2.2)
theorem paUp_succ {ps : List ARing} {k : Nat} {a : ARing} (h : ps[k]? = some a) : paUp ps k ++ a.2.2 = paUp ps (k + 1) := by
  unfold paUp; rw [List.take_add_one, h, List.flatMap_append]; simp
theorem paUp_len_ {ps : List ARing} {N : Nat} (h : ∀ (i : Nat) (a : ARing), ps[i]? = some a → a.2.2.length ≤ N) (k : Nat) : (paUp ps k).length ≤ k * N := by
  induction k with
  | zero => simp [paUp]
  | succ k ih =>
    rcases hd : ps[k]? with _ | d
    · have h2 : paUp ps (k + 1) = paUp ps k := by unfold paUp; rw [List.take_add_one, hd]; simp
      rw [h2, Nat.succ_mul]; omega
    · rw [← paUp_succ hd, List.length_append, Nat.succ_mul]
      have := h k d hd
      omega
theorem paUp_len {ps : List ARing} (h : ∀ (i : Nat) (a : ARing), ps[i]? = some a → a.2.2.length ≤ 1000) (k : Nat) : (paUp ps k).length ≤ k * 1000 := paUp_len_ h k
set_option maxRecDepth 100000 in
set_option maxHeartbeats 6400000 in
theorem concatPts_any (ps : List ARing) (A : Option Addr) (c : Nat) (w : World) (hm : ps.length ≤ 10) (ht : ∀ (i : Nat) (a : ARing), ps[i]? = some a → a.2.2.length ≤ 1000) (r : Rd cRing 1 w w.heap.size A ps) (hp : ∀ (i : Nat) (a : ARing), ps[i]? = some a → Rd cPt 2 w w.heap.size a.1 a.2.2) :
    Calls Try.prog 66 #[.slice A ps.length c] w fun e w' => ∃ (A' : Option Addr) (c' : Nat), e = .returned (.slice A' (paUp ps ps.length).length c') ∧ w'.ownsRow w.heap.size 26 2 (.slice A' (paUp ps ps.length).length c') (paUp ps ps.length).length (cellsF cPt (paUp ps ps.length)) ∧ Below w.heap.size w w' := by
  obtain ⟨i0, hi0, hz0', hz1', hz2'⟩ := info_parts infoPt
  have HI0 := Lib.hid hi0
  have HZ0 := Lib.hid hz0'
  have HZ1 := Lib.hid hz1'
  have HZ2 := Lib.hid hz2'
  clear hi0 hz0' hz1' hz2'
  have RR := Lib.hid (fun (wr : World) (hb : Below w.heap.size w wr) => r.below hb)
  have RP := Lib.hid (fun i a h (wr : World) (hb : Below w.heap.size w wr) => reads_pts0 (((hp i a h).below hb).more hb.size))
  have HTT := Lib.hid ht
  clear r hp ht
  obtain ⟨m, hmm⟩ : ∃ m, m = ps.length := ⟨_, rfl⟩
  rw [← hmm] at hm ⊢
  have HM := Lib.hid hmm
  clear hmm
  obtain ⟨L, hL⟩ : ∃ L, L = paUp ps m := ⟨_, rfl⟩
  rw [← hL]
  have HL := Lib.hid hL
  have hLl : L.length ≤ 10000 := by rw [hL]; have := paUp_len HTT.out m; omega
  clear hL
  have CG := Lib.hid (fun w => grow_pts L.length w (by omega))
  go_enter Try.func66, Try.ntmps66
  go_wp2_with fail
  go_loopw [3, 11] (fun s i wr => ∃ k : Nat, k ≤ m ∧ i = .int .i64 (k : Int) ∧ s = .int .i64 (((paUp ps k).length : Nat) : Int) ∧ w = wr) (fun _ i _ => m - (intOf i).toNat)
  case atStart => exact ⟨0, by omega, rfl, rfl, rfl⟩
  case round =>
    obtain ⟨k, hk, rfl, rfl, rfl⟩ := hrel
    by_cases hlt : k < m
    case pos =>
      obtain ⟨⟨Ae, ce, le⟩, ha⟩ : ∃ a, ps[k]? = some a := ⟨ps[k]'(by have := HM.out; omega), List.getElem?_eq_getElem (by have := HM.out; omega)⟩
      have hle := HTT.out k _ ha
      simp only at hle
      obtain ⟨g, o, hAe, hg, hc⟩ := (RR.out w (Below.refl _ _)).elem ha
      subst hAe
      have p0 : w.cell? ⟨g, o + k, none⟩ = some (.slice Ae le.length ce) := by have h := hc 0 _ rfl; rw [Nat.mul_one] at h; exact h
      have hki : (k : Int) < (m : Int) := by omega
      have HS := Lib.hid (paUp_succ ha)
      have hlk := paUp_len HTT.out k
      clear hc ha
      have HSL := Lib.hid (show ((paUp ps k).length : Int) + (le.length : Int) = ((paUp ps (k + 1)).length : Int) by rw [← HS.out, List.length_append]; simp)
      generalize (paUp ps k).length = s0 at *
      generalize le.length = n1 at *
      have b1 : IntKind.i64.wrap ((s0 : Int) + (n1 : Int)) = (s0 : Int) + (n1 : Int) := IntWalk.i64_in _ (by omega)
      have d2 : decide ((s0 : Int) + (n1 : Int) < 0) = false := by simp; omega
      go_wp2_with fail
      go_roundw
      case rel => exact ⟨k + 1, by omega, by go_num, by rw [HSL.out], by first | rfl | trivial⟩
      case measure => simp [intOf]; omega
    case neg =>
      obtain rfl : k = m := by omega
      have ec := HL.out
      rw [← ec]
      clear ec hk hlt
      go_wp2_with fail
      refine (CG.out _).mono ?_
      intro e w1 hq1
      obtain ⟨A0, c0, rfl, ow0, hb1⟩ := hq1
      have z1 := hb1.size
      go_wp2_with fail
      go_loopw [6, 27] (fun s i wr => ∃ (j : Nat) (A' : Option Addr) (q c' : Nat), j ≤ k ∧ q = (paUp ps j).length ∧ i = .int .i64 (j : Int) ∧ s = .slice A' q c' ∧ wr.ownsRow w.heap.size 26 2 (.slice A' q c') q (cellsF cPt (paUp ps j)) ∧ Below w.heap.size w wr) (fun _ i _ => k - (intOf i).toNat)
      case atStart => exact ⟨0, _, 0, _, by omega, rfl, rfl, rfl, ow0, hb1⟩
      case round =>
        obtain ⟨j, A', q, c', hj, hq, rfl, rfl, ow, hbl⟩ := hrel
        have zr := hbl.size
        by_cases hlt : j < k
        case pos =>
          obtain ⟨⟨Ae, ce, le⟩, ha⟩ : ∃ a, ps[j]? = some a := ⟨ps[j]'(by have := HM.out; omega), List.getElem?_eq_getElem (by have := HM.out; omega)⟩
          have hle := HTT.out j _ ha
          simp only at hle
          obtain ⟨g, o, hAe, hg, hc⟩ := (RR.out wr hbl).elem ha
          subst hAe
          have p0 : wr.cell? ⟨g, o + j, none⟩ = some (.slice Ae le.length ce) := by have h := hc 0 _ rfl; rw [Nat.mul_one] at h; exact h
          have hki : (j : Int) < (k : Int) := by omega
          have HS := Lib.hid (paUp_succ ha)
          have hlk := paUp_len HTT.out j
          have HRD := Lib.hid (RP.out j _ ha wr hbl)
          simp only at HRD
          clear hc ha
          have hlk2 : q ≤ j * 1000 := by rw [hq]; exact hlk
          have HQ := Lib.hid hq
          clear hq hlk
          have HOW := Lib.hid ow
          have HRB := Lib.hid (fun b (hb : (Value.slice A' q c').ownBlock = some b) => own_block ow hb)
          clear ow
          have HLE := Lib.hid (show le.length = le.length from rfl)
          obtain ⟨n1, hn1⟩ : ∃ n, n = le.length := ⟨_, rfl⟩
          rw [← hn1] at hle p0 HRD
          have HN1 := Lib.hid hn1
          clear hn1
          have HMX := Lib.hid (show q + n1 ≤ maxLen by unfold maxLen; omega)
          have HBY := Lib.hid (show (q + n1) * 16 ≤ 140737488355328 by omega)
          have HBS := Lib.hid (show w.heap.size ≤ wr.heap.size by omega)
          go_wp2_with (at_builtin; refine wpList_append_any _ rfl (.tmp 31) (.tmp 32) _ rfl (w.heap.size) 26 i0 _ 2 16 Try.underlying53 HI0.out HZ0.out HZ1.out HZ2.out rfl (by omega) (.slice A' q c') q _ rfl HOW.out _ Ae n1 ce (cellsF cPt le) rfl HRD.out (pall_one _) HMX.out HBY.out HBS.out ?_; intro v9 w9 hown9 hg9 hat9; obtain ⟨A9, c9, rfl⟩ := pslice_of hown9; have HOWN9 := Lib.hid hown9; have HG9 := Lib.hid hg9; clear hown9 hg9 hat9)
          have g9b : Below w.heap.size w w9 := below_of_grown hbl HG9.out (by omega) (fun q hq => by have := HRB.out q hq; omega)
          have hown9 := HOWN9.out
          rw [show cellsF cPt (paUp ps j) ++ cellsF cPt le = cellsF cPt (paUp ps (j + 1)) by rw [← HS.out]; unfold cellsF; exact List.flatMap_append.symm] at hown9
          have HO9 := Lib.hid hown9
          clear hown9
          go_roundw
          case rel => exact ⟨j + 1, A9, q + n1, c9, by omega, by rw [← HS.out, List.length_append, HQ.out, HN1.out], by go_num, rfl, HO9.out, g9b⟩
          case measure => simp [intOf]; omega
        case neg =>
          obtain rfl : j = k := by omega
          rw [← HL.out] at ow hq
          subst hq
          go_wp2_with fail
          go_ret
          exact ⟨A', c', rfl, ow, hbl⟩
end Go.Proofs.Ytdeemhfhmgnbgaa
