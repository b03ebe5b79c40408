/- Walks: which regions are the same, on both sides; the law on SameRegion: it returns true. -/
import Derived.Test.YtnlhofepobkljaaVj
namespace Go.Proofs.Ytnlhofepobkljaa
open Go.RowKit
set_option linter.unusedVariables false
def oUp (l m : List DRing) (k : Nat) : Bool := decide (l.take k = m.take k)
def oEq (l m : List DRing) : Bool := decide (l = m)
theorem oUp_zero (l m : List DRing) : oUp l m 0 = true := by simp [oUp]
theorem oUp_succ {l m : List DRing} {k : Nat} {a b : DRing} (h : oUp l m k = true) (ha : l[k]? = some a) (hb : m[k]? = some b) (he : a = b) : oUp l m (k + 1) = true := by
  unfold oUp at *
  rw [List.take_add_one, List.take_add_one, ha, hb]
  simp only [decide_eq_true_eq] at h
  simp [h, he]
theorem oEq_len {l m : List DRing} (h : ¬ l.length = m.length) : false = oEq l m := by
  unfold oEq; symm; rw [decide_eq_false_iff_not]; intro e; apply h; rw [e]
theorem oEq_no {l m : List DRing} {k : Nat} {a b : DRing} (ha : l[k]? = some a) (hb : m[k]? = some b) (he : ¬ a = b) : false = oEq l m := by
  unfold oEq; symm; rw [decide_eq_false_iff_not]; intro e; apply he
  rw [e, hb] at ha
  exact (Option.some.inj ha).symm
theorem oEq_yes {l m : List DRing} (hl : l.length = m.length) (h : oUp l m l.length = true) : true = oEq l m := by
  unfold oUp at h
  rw [List.take_length, hl, List.take_length] at h
  unfold oEq; exact h.symm
theorem sEq_t {l m : List APt} (h : sEq l m = true) : l = m := by simpa [sEq] using h
theorem sEq_f {l m : List APt} (h : sEq l m = false) : ¬ l = m := by simpa [sEq] using h
set_option maxHeartbeats 1600000 in
theorem ringSame_any (l m : List APt) (A A' : Option Addr) (c c' : Nat) (w : World) (hl : l.length ≤ 1048576) (hm : m.length ≤ 1048576) (r : Rd cPt 2 w w.heap.size A l) (r' : Rd cPt 2 w w.heap.size A' m) :
    Calls Try.prog 72 #[.agg #[.slice A l.length c], .agg #[.slice A' m.length c']] w fun e w' => e = .returned (.bool (sEq l m)) ∧ Below w.heap.size w w' := by
  have C := Lib.hid (fun B w r r' => slicesEqual_any l m A A' c c' B w hl hm r r')
  go_enter Try.func72, Try.ntmps72
  go_wp2_with fail
  refine (C.out w.heap.size _ ?_ ?_).mono ?_
  · exact (r.alloc (Nat.le_refl _) _).alloc (by simp) _
  · exact (r'.alloc (Nat.le_refl _) _).alloc (by simp) _
  rintro e w1 ⟨rfl, q, rfl⟩
  go_wp2_with fail
  go_ret
  exact ⟨rfl, by repeat' (first | with_reducible assumption | with_reducible exact Below.refl _ _ | (with_reducible refine Below.setCell ?_ ?_ _) | (with_reducible refine Below.alloc ?_ ?_ _) | (with_reducible refine Below.drew ?_) | (with_reducible refine below_dr ?_ _) | (with_reducible refine Below.trans ?_ (Below.mono (by with_reducible assumption) ?_)) | omega | (simp; done) | (simp; omega))⟩
set_option maxHeartbeats 3200000 in
theorem equalFunc_any (l m : List DRing) (A A' : Option Addr) (c c' : Nat) (w : World) (hl : l.length ≤ 1048576) (hm : m.length ≤ 1048576) (hi : ∀ (i : Nat) (d : DRing), l[i]? = some d → d.length ≤ 1048576) (hi' : ∀ (i : Nat) (d : DRing), m[i]? = some d → d.length ≤ 1048576) (r : RdRing w w.heap.size A l) (r' : RdRing w w.heap.size A' m) :
    Calls Try.prog 71 #[.slice A l.length c, .slice A' m.length c', .func (.func 72) #[] #[]] w fun e w' => e = .returned (.bool (oEq l m)) ∧ Below w.heap.size w w' := by
  have HI := Lib.hid hi
  have HI' := Lib.hid hi'
  clear hi hi'
  by_cases hln : l.length = m.length
  case neg =>
    have e0 : ((l.length : Int) != (m.length : Int)) = true := by rw [bne_iff_ne]; omega
    have H := Lib.hid (oEq_len hln)
    clear hln
    go_enter Try.func71, Try.ntmps71
    go_wp2_with fail
    go_ret
    exact ⟨ret_bool H.out, by repeat' (first | with_reducible assumption | with_reducible exact Below.refl _ _ | (with_reducible refine Below.setCell ?_ ?_ _) | (with_reducible refine Below.alloc ?_ ?_ _) | (with_reducible refine Below.drew ?_) | (with_reducible refine below_dr ?_ _) | (with_reducible refine Below.trans ?_ (Below.mono (by with_reducible assumption) ?_)) | omega | (simp; done) | (simp; omega))⟩
  case pos =>
    obtain ⟨n, hn⟩ : ∃ n, n = l.length := ⟨_, rfl⟩
    have HL := Lib.hid hln
    rw [← hln, ← hn]
    rw [← hn] at hl
    have HN := Lib.hid hn
    have e0 : ((n : Int) != (n : Int)) = false := by simp
    clear hn hln hm
    go_enter Try.func71, Try.ntmps71
    go_wp2_with fail
    go_loopw [17] (fun i wr => ∃ k : Nat, k ≤ n ∧ i = .int .i64 k ∧ oUp l m k = true ∧ Below w.heap.size w wr) (fun i _ => n - (intOf i).toNat)
    case atStart => exact ⟨0, Nat.zero_le _, rfl, oUp_zero _ _, by repeat' (first | with_reducible assumption | with_reducible exact Below.refl _ _ | (with_reducible refine Below.setCell ?_ ?_ _) | (with_reducible refine Below.alloc ?_ ?_ _) | (with_reducible refine Below.drew ?_) | (with_reducible refine below_dr ?_ _) | (with_reducible refine Below.trans ?_ (Below.mono (by with_reducible assumption) ?_)) | omega | (simp; done) | (simp; omega))⟩
    case round =>
      obtain ⟨k, hk, rfl, hup, g1⟩ := hrel
      have HUP := Lib.hid hup
      clear hup
      have r1 := r.carry g1 (Nat.le_refl _)
      have r1' := r'.carry g1 (Nat.le_refl _)
      have zr := g1.size
      by_cases hlt : k < n
      case pos =>
        obtain ⟨dl, ha⟩ : ∃ a, l[k]? = some a := ⟨l[k]'(by have := HN.out; omega), List.getElem?_eq_getElem (by have := HN.out; omega)⟩
        obtain ⟨dm, hb⟩ : ∃ a, m[k]? = some a := ⟨m[k]'(by have := HN.out; have := HL.out; omega), List.getElem?_eq_getElem (by have := HN.out; have := HL.out; omega)⟩
        obtain ⟨g, o, A3, c3, rfl, hg, hc, rr⟩ := r1.elem ha
        obtain ⟨g', o', B3, d3, rfl, hg', hd, rr'⟩ := r1'.elem hb
        have hlx : dl.length ≤ 1048576 := HI.out k _ ha
        have hly : dm.length ≤ 1048576 := HI'.out k _ hb
        have c0 : wr.cell? ⟨g, o + k, none⟩ = some (.slice A3 dl.length c3) := by have h := hc 0 _ rfl; rw [Nat.mul_one] at h; exact h
        have d0 : wr.cell? ⟨g', o' + k, none⟩ = some (.slice B3 dm.length d3) := by have h := hd 0 _ rfl; rw [Nat.mul_one] at h; exact h
        have HA := Lib.hid ha
        have HB := Lib.hid hb
        clear hc hd ha hb
        have hki : (k : Int) < (n : Int) := by omega
        have hgw : g < wr.heap.size := by omega
        have hgw' : g' < wr.heap.size := by omega
        rcases hv : sEq dl dm with _ | _
        case false =>
          have C := Lib.hid (fun w q q' => ringSame_any dl dm A3 B3 c3 d3 w hlx hly q q')
          simp only [hv] at C
          have HV := Lib.hid hv
          clear hv r1 r1'
          go_wp2_with fail
          refine (C.out _ ?_ ?_).mono ?_
          · exact ((rr.alloc (by omega) _).alloc (by simp; omega) _).more (by simp; omega)
          · exact ((rr'.alloc (by omega) _).alloc (by simp; omega) _).more (by simp; omega)
          rintro e w1 ⟨rfl, hb⟩
          go_wp2_with fail
          go_ret
          exact ⟨ret_bool (oEq_no HA.out HB.out (sEq_f HV.out)), by repeat' (first | with_reducible assumption | with_reducible exact Below.refl _ _ | (with_reducible refine Below.setCell ?_ ?_ _) | (with_reducible refine Below.alloc ?_ ?_ _) | (with_reducible refine Below.drew ?_) | (with_reducible refine below_dr ?_ _) | (with_reducible refine Below.trans ?_ (Below.mono (by with_reducible assumption) ?_)) | omega | (simp; done) | (simp; omega))⟩
        case true =>
          have C := Lib.hid (fun w q q' => ringSame_any dl dm A3 B3 c3 d3 w hlx hly q q')
          simp only [hv] at C
          have HV := Lib.hid hv
          clear hv r1 r1'
          go_wp2_with fail
          refine (C.out _ ?_ ?_).mono ?_
          · exact ((rr.alloc (by omega) _).alloc (by simp; omega) _).more (by simp; omega)
          · exact ((rr'.alloc (by omega) _).alloc (by simp; omega) _).more (by simp; omega)
          rintro e w1 ⟨rfl, hb⟩
          go_wp2_with fail
          go_roundw
          case rel => exact ⟨k + 1, by omega, by go_num, oUp_succ HUP.out HA.out HB.out (sEq_t HV.out), by repeat' (first | with_reducible assumption | with_reducible exact Below.refl _ _ | (with_reducible refine Below.setCell ?_ ?_ _) | (with_reducible refine Below.alloc ?_ ?_ _) | (with_reducible refine Below.drew ?_) | (with_reducible refine below_dr ?_ _) | (with_reducible refine Below.trans ?_ (Below.mono (by with_reducible assumption) ?_)) | omega | (simp; done) | (simp; omega))⟩
          case measure => simp [intOf]; omega
      case neg =>
        obtain rfl : k = n := by omega
        go_wp2_with fail
        go_ret
        exact ⟨ret_bool (oEq_yes HL.out (HN.out ▸ HUP.out)), g1⟩
set_option maxHeartbeats 1600000 in
theorem implSameRegion_any (l m : List DRing) (A A' : Option Addr) (c c' : Nat) (w : World) (hl : l.length ≤ 1048576) (hm : m.length ≤ 1048576) (hi : ∀ (i : Nat) (d : DRing), l[i]? = some d → d.length ≤ 1048576) (hi' : ∀ (i : Nat) (d : DRing), m[i]? = some d → d.length ≤ 1048576) (r : RdRing w w.heap.size A l) (r' : RdRing w w.heap.size A' m) :
    Calls Try.prog 29 #[.agg #[.slice A l.length c], .agg #[.slice A' m.length c']] w fun e w' => e = .returned (.bool (oEq l m)) ∧ Below w.heap.size w w' := by
  have C := Lib.hid (fun w r r' => equalFunc_any l m A A' c c' w hl hm hi hi' r r')
  clear hi hi'
  go_enter Try.func29, Try.ntmps29
  go_wp2_with fail
  refine (C.out _ ?_ ?_).mono ?_
  · exact ((r.alloc (Nat.le_refl _) _).alloc (by simp) _).more (by simp; omega)
  · exact ((r'.alloc (Nat.le_refl _) _).alloc (by simp) _).more (by simp; omega)
  rintro e w1 ⟨rfl, hb⟩
  go_wp2_with fail
  go_ret
  exact ⟨rfl, by repeat' (first | with_reducible assumption | with_reducible exact Below.refl _ _ | (with_reducible refine Below.setCell ?_ ?_ _) | (with_reducible refine Below.alloc ?_ ?_ _) | (with_reducible refine Below.drew ?_) | (with_reducible refine below_dr ?_ _) | (with_reducible refine Below.trans ?_ (Below.mono (by with_reducible assumption) ?_)) | omega | (simp; done) | (simp; omega))⟩
set_option maxHeartbeats 6400000 in
theorem specSameRegion_any (l m : List DRing) (A A' : Option Addr) (c c' : Nat) (w : World) (hl : l.length ≤ 1048576) (hm : m.length ≤ 1048576) (hi : ∀ (i : Nat) (d : DRing), l[i]? = some d → d.length ≤ 1048576) (hi' : ∀ (i : Nat) (d : DRing), m[i]? = some d → d.length ≤ 1048576) (r : RdRing w w.heap.size A l) (r' : RdRing w w.heap.size A' m) :
    Calls Try.prog 28 #[.agg #[.slice A l.length c], .agg #[.slice A' m.length c']] w fun e w' => e = .returned (.bool (oEq l m)) ∧ Below w.heap.size w w' := by
  have HI := Lib.hid hi
  have HI' := Lib.hid hi'
  clear hi hi'
  by_cases hln : l.length = m.length
  case neg =>
    have e0 : ((l.length : Int) != (m.length : Int)) = true := by rw [bne_iff_ne]; omega
    have H := Lib.hid (oEq_len hln)
    clear hln
    go_enter Try.func28, Try.ntmps28
    go_wp2_with fail
    go_ret
    exact ⟨ret_bool H.out, by repeat' (first | with_reducible assumption | with_reducible exact Below.refl _ _ | (with_reducible refine Below.setCell ?_ ?_ _) | (with_reducible refine Below.alloc ?_ ?_ _) | (with_reducible refine Below.drew ?_) | (with_reducible refine below_dr ?_ _) | (with_reducible refine Below.trans ?_ (Below.mono (by with_reducible assumption) ?_)) | omega | (simp; done) | (simp; omega))⟩
  case pos =>
    obtain ⟨n, hn⟩ : ∃ n, n = l.length := ⟨_, rfl⟩
    have HL := Lib.hid hln
    rw [← hln, ← hn]
    rw [← hn] at hl
    have HN := Lib.hid hn
    have e0 : ((n : Int) != (n : Int)) = false := by simp
    clear hn hln hm
    go_enter Try.func28, Try.ntmps28
    go_wp2_with fail
    generalize hW : (w.alloc (.cells #[.slice A n c] 54)).alloc (.cells #[.slice A' n c'] 54) = W0
    have r0 : RdRing W0 w.heap.size A l := by rw [← hW]; exact (r.alloc (Nat.le_refl _) _).alloc (by simp) _
    have r0' : RdRing W0 w.heap.size A' m := by rw [← hW]; exact (r'.alloc (Nat.le_refl _) _).alloc (by simp) _
    have k0 : W0.cell? ⟨w.heap.size, 0, none⟩ = some (.slice A n c) := by rw [← hW]; simp [go_sem]
    have k1 : W0.cell? ⟨w.heap.size + 1, 0, none⟩ = some (.slice A' n c') := by rw [← hW]; simp [go_sem]
    have g0 : Below w.heap.size w W0 := by rw [← hW]; repeat' (first | with_reducible assumption | with_reducible exact Below.refl _ _ | (with_reducible refine Below.setCell ?_ ?_ _) | (with_reducible refine Below.alloc ?_ ?_ _) | (with_reducible refine Below.drew ?_) | (with_reducible refine below_dr ?_ _) | (with_reducible refine Below.trans ?_ (Below.mono (by with_reducible assumption) ?_)) | omega | (simp; done) | (simp; omega))
    clear hW r r'
    go_loopw [5] (fun i wr => ∃ k q : Nat, k ≤ n ∧ i = .int .i64 k ∧ oUp l m k = true ∧ wr = W0.drewN q) (fun i _ => n - (intOf i).toNat)
    case atStart => exact ⟨0, 0, Nat.zero_le _, rfl, oUp_zero _ _, rfl⟩
    case round =>
      obtain ⟨k, q, hk, rfl, hup, rfl⟩ := hrel
      have HUP := Lib.hid hup
      clear hup
      have r1 := r0
      have r1' := r0'
      by_cases hlt : k < n
      case pos =>
        obtain ⟨dl, ha⟩ : ∃ a, l[k]? = some a := ⟨l[k]'(by have := HN.out; omega), List.getElem?_eq_getElem (by have := HN.out; omega)⟩
        obtain ⟨dm, hb⟩ : ∃ a, m[k]? = some a := ⟨m[k]'(by have := HN.out; have := HL.out; omega), List.getElem?_eq_getElem (by have := HN.out; have := HL.out; omega)⟩
        obtain ⟨g, o, A3, c3, rfl, hg, hc, rr⟩ := r1.elem ha
        obtain ⟨g', o', B3, d3, rfl, hg', hd, rr'⟩ := r1'.elem hb
        have hlx : dl.length ≤ 1048576 := HI.out k _ ha
        have hly : dm.length ≤ 1048576 := HI'.out k _ hb
        have c0 : W0.cell? ⟨g, o + k, none⟩ = some (.slice A3 dl.length c3) := by have h := hc 0 _ rfl; rw [Nat.mul_one] at h; exact h
        have d0 : W0.cell? ⟨g', o' + k, none⟩ = some (.slice B3 dm.length d3) := by have h := hd 0 _ rfl; rw [Nat.mul_one] at h; exact h
        have HA := Lib.hid ha
        have HB := Lib.hid hb
        clear hc hd ha hb
        have hki : (k : Int) < (n : Int) := by omega
        rcases hv : sEq dl dm with _ | _
        case false =>
          have C := Lib.hid (fun q2 => l13Same_any dl dm A3 B3 c3 d3 w.heap.size (W0.drewN q2) hlx hly (rr.drewN q2) (rr'.drewN q2))
          simp only [hv] at C
          have HV := Lib.hid hv
          clear hv r1 r1' r0 r0' rr rr'
          go_wp2_with fail
          go_quiet (first | (go_at_call 70; refine (C.out _).mono ?_; rintro e w2 ⟨he, m, hm⟩; refine ⟨he, ?_⟩; rw [hm, World.drewN_drewN, Nat.add_assoc]; exact ⟨_, rfl⟩))
          go_wp2_with fail
          go_ret
          exact ⟨ret_bool (oEq_no HA.out HB.out (sEq_f HV.out)), by repeat' (first | with_reducible assumption | with_reducible exact Below.refl _ _ | (with_reducible refine Below.setCell ?_ ?_ _) | (with_reducible refine Below.alloc ?_ ?_ _) | (with_reducible refine Below.drew ?_) | (with_reducible refine below_dr ?_ _) | (with_reducible refine Below.trans ?_ (Below.mono (by with_reducible assumption) ?_)) | omega | (simp; done) | (simp; omega))⟩
        case true =>
          have C := Lib.hid (fun q2 => l13Same_any dl dm A3 B3 c3 d3 w.heap.size (W0.drewN q2) hlx hly (rr.drewN q2) (rr'.drewN q2))
          simp only [hv] at C
          have HV := Lib.hid hv
          clear hv r1 r1' r0 r0' rr rr'
          go_wp2_with fail
          go_quiet (first | (go_at_call 70; refine (C.out _).mono ?_; rintro e w2 ⟨he, m, hm⟩; refine ⟨he, ?_⟩; rw [hm, World.drewN_drewN, Nat.add_assoc]; exact ⟨_, rfl⟩))
          go_wp2_with fail
          go_roundw
          case rel => exact ⟨k + 1, q + nq, by omega, by go_num, oUp_succ HUP.out HA.out HB.out (sEq_t HV.out), rfl⟩
          case measure => simp [intOf]; omega
      case neg =>
        obtain rfl : k = n := by omega
        go_wp2_with fail
        go_ret
        exact ⟨ret_bool (oEq_yes HL.out (HN.out ▸ HUP.out)), by repeat' (first | with_reducible assumption | with_reducible exact Below.refl _ _ | (with_reducible refine Below.setCell ?_ ?_ _) | (with_reducible refine Below.alloc ?_ ?_ _) | (with_reducible refine Below.drew ?_) | (with_reducible refine below_dr ?_ _) | (with_reducible refine Below.trans ?_ (Below.mono (by with_reducible assumption) ?_)) | omega | (simp; done) | (simp; omega))⟩
set_option maxRecDepth 100000 in
set_option maxHeartbeats 12800000 in
theorem walk_SameRegion (a : ARegion) (b : ARegion) (w : World) (k_a : okRegion w w.heap.size a) (k_b : okRegion w w.heap.size b) :
    Calls Try.prog 7 #[.agg #[.slice a.1 a.2.2.length a.2.1], .agg #[.slice b.1 b.2.2.length b.2.1]] w fun e w' => e = .returned (.bool true) ∧ Below w.heap.size w w' := by
  obtain ⟨a0A, a0c, a0l⟩ := a
  obtain ⟨nc_a0, cm_a0, rd_a0, ok_a0⟩ := k_a
  simp only at nc_a0 cm_a0 rd_a0 ok_a0 ⊢
  have hm_a0 : a0l.length ≤ 9223372036854775807 := by unfold maxLen at cm_a0; omega
  have okd_a0 := okDRing_all a0l ok_a0
  replace rd_a0 := RdRing.of a0l rd_a0 ok_a0
  obtain ⟨a0d, hd_a0⟩ : ∃ ds, ds = a0l.map dRing := ⟨_, rfl⟩
  have hn_a0 : a0l.length = a0d.length := by rw [hd_a0, List.length_map]
  rw [← hd_a0] at okd_a0 rd_a0
  rw [hn_a0] at hm_a0 ⊢
  have HOK_a0 := Lib.hid okd_a0
  clear ok_a0 nc_a0 cm_a0 okd_a0 hd_a0 hn_a0
  obtain ⟨b0A, b0c, b0l⟩ := b
  obtain ⟨nc_b0, cm_b0, rd_b0, ok_b0⟩ := k_b
  simp only at nc_b0 cm_b0 rd_b0 ok_b0 ⊢
  have hm_b0 : b0l.length ≤ 9223372036854775807 := by unfold maxLen at cm_b0; omega
  have okd_b0 := okDRing_all b0l ok_b0
  replace rd_b0 := RdRing.of b0l rd_b0 ok_b0
  obtain ⟨b0d, hd_b0⟩ : ∃ ds, ds = b0l.map dRing := ⟨_, rfl⟩
  have hn_b0 : b0l.length = b0d.length := by rw [hd_b0, List.length_map]
  rw [← hd_b0] at okd_b0 rd_b0
  rw [hn_b0] at hm_b0 ⊢
  have HOK_b0 := Lib.hid okd_b0
  clear ok_b0 nc_b0 cm_b0 okd_b0 hd_b0 hn_b0
  have C1 := Lib.hid (fun A c A' c' w hl hm hi hi' r r' => specSameRegion_any a0d b0d A A' c c' w hl hm hi hi' r r')
  have C2 := Lib.hid (fun A c A' c' w hl hm hi hi' r r' => implSameRegion_any a0d b0d A A' c c' w hl hm hi hi' r r')
  generalize oEq a0d b0d = v at C1 C2
  have e_v : (v != v) = false := by simp
  go_enter Try.func7, Try.ntmps7
  go_wp2_with fail
  generalize hW : ((w.alloc (.cells #[.slice a0A a0d.length a0c] 49)).alloc (.cells #[.slice b0A b0d.length b0c] 49)) = W0
  have rd_a0w : RdRing w (w.heap.size) a0A a0d := rd_a0
  have rd_b0w : RdRing w (w.heap.size) b0A b0d := rd_b0
  have bx_aW0 : AtL (w.heap.size) [.slice a0A a0d.length a0c] W0 := by rw [← hW]; repeat' (first | with_reducible assumption | with_reducible exact AtL.new _ _ _ | ((with_reducible refine AtL.newAt ?_); (first | rfl | (simp; done))) | (with_reducible refine AtL.drew ?_) | (with_reducible refine AtL.below ?_ (by with_reducible assumption)) | (with_reducible refine AtL.alloc ?_ _) | (with_reducible refine AtL.far ?_ ?_ _ _) | omega | (simp; done) | (simp; omega))
  have rd_a0W0 : RdRing W0 (w.heap.size) a0A a0d := by rw [← hW]; repeat' (first | with_reducible assumption | (with_reducible refine RdRing.drew ?_) | (with_reducible refine RdRing.carry ?_ (by with_reducible assumption) ?_) | (with_reducible refine RdRing.alloc ?_ ?_ _) | (with_reducible refine RdRing.setCell ?_ ?_ _) | omega | (simp; done) | (simp; omega))
  have bx_bW0 : AtL (w.heap.size + 1) [.slice b0A b0d.length b0c] W0 := by rw [← hW]; repeat' (first | with_reducible assumption | with_reducible exact AtL.new _ _ _ | ((with_reducible refine AtL.newAt ?_); (first | rfl | (simp; done))) | (with_reducible refine AtL.drew ?_) | (with_reducible refine AtL.below ?_ (by with_reducible assumption)) | (with_reducible refine AtL.alloc ?_ _) | (with_reducible refine AtL.far ?_ ?_ _ _) | omega | (simp; done) | (simp; omega))
  have rd_b0W0 : RdRing W0 (w.heap.size) b0A b0d := by rw [← hW]; repeat' (first | with_reducible assumption | (with_reducible refine RdRing.drew ?_) | (with_reducible refine RdRing.carry ?_ (by with_reducible assumption) ?_) | (with_reducible refine RdRing.alloc ?_ ?_ _) | (with_reducible refine RdRing.setCell ?_ ?_ _) | omega | (simp; done) | (simp; omega))
  have qW0 : w.heap.size ≤ W0.heap.size := by rw [← hW]; simp; omega
  have bn : Below w.heap.size w W0 := by rw [← hW]; repeat' (first | with_reducible assumption | with_reducible exact Below.refl _ _ | (with_reducible refine Below.setCell ?_ ?_ _) | (with_reducible refine Below.alloc ?_ ?_ _) | (with_reducible refine Below.drew ?_) | (with_reducible refine below_dr ?_ _) | (with_reducible refine Below.trans ?_ (Below.mono (by with_reducible assumption) ?_)) | omega | (simp; done) | (simp; omega))
  have bW0 := Lib.hid bn
  clear hW bn
  clear rd_a0w rd_b0w rd_a0 rd_b0
  have hV0 : 0 ≤ (1048576 : Int) ∧ (1048576 : Int) ≤ 1048576 := by omega
  by_cases hfit : ((a0d.length + totRing a0d : Nat) : Int) ≤ 1048576
  case neg =>
    replace hfit : 1048576 < ((a0d.length + totRing a0d : Nat) : Int) := by omega
    refine (szRegion_no a0A a0c a0d 1048576 _ (by omega) (by omega) hm_a0 hfit ?_ HOK_a0.out).mono ?_
    · (refine RdRing.more (B := w.heap.size) ?_ (by first | omega | ((try simp only [World.size_setCell]); (try simp only [World.size_drew]); (try simp only [World.size_alloc]); omega) | (simp; done) | (simp; omega))); (repeat' (first | with_reducible assumption | (with_reducible refine RdRing.drew ?_) | (with_reducible refine RdRing.carry ?_ (by with_reducible assumption) ?_) | (with_reducible refine RdRing.alloc ?_ ?_ _) | (with_reducible refine RdRing.setCell ?_ ?_ _) | omega | (simp; done) | (simp; omega)))
    rintro e wN ⟨rfl, hb⟩
    go_wp2_with fail
    go_ret
    have bp := bW0.out
    exact ⟨rfl, by repeat' (first | with_reducible assumption | with_reducible exact Below.refl _ _ | (with_reducible refine Below.setCell ?_ ?_ _) | (with_reducible refine Below.alloc ?_ ?_ _) | (with_reducible refine Below.drew ?_) | (with_reducible refine below_dr ?_ _) | (with_reducible refine Below.trans ?_ (Below.mono (by with_reducible assumption) ?_)) | omega | (simp; done) | (simp; omega))⟩
  case pos =>
    have hl_a0 : a0d.length ≤ 1048576 := by omega
    have hin_a0 : totRing a0d ≤ 1048576 := by omega
    have HIN_a0 := Lib.hid (inRing hin_a0)
    have HT_a0 := Lib.hid hin_a0
    clear hin_a0
    refine (szRegion_yes a0A a0c a0d 1048576 _ (by omega) (by omega) (by omega) hfit ?_ HOK_a0.out).mono ?_
    · (refine RdRing.more (B := w.heap.size) ?_ (by first | omega | ((try simp only [World.size_setCell]); (try simp only [World.size_drew]); (try simp only [World.size_alloc]); omega) | (simp; done) | (simp; omega))); (repeat' (first | with_reducible assumption | (with_reducible refine RdRing.drew ?_) | (with_reducible refine RdRing.carry ?_ (by with_reducible assumption) ?_) | (with_reducible refine RdRing.alloc ?_ ?_ _) | (with_reducible refine RdRing.setCell ?_ ?_ _) | omega | (simp; done) | (simp; omega)))
    obtain ⟨V0, hV⟩ : ∃ V : Int, V = 1048576 - (a0d.length + totRing a0d : Nat) := ⟨_, rfl⟩
    have hVV : 0 ≤ V0 ∧ V0 ≤ 1048576 := by omega
    rw [← hV]
    rintro e wS0 ⟨rfl, hbwS0⟩
    clear hV hfit
    obtain ⟨hV0_0, hV1_0⟩ := hVV
    have zwS0 := hbwS0.size
    (try simp only [World.size_setCell] at zwS0)
    (try simp only [World.size_drew] at zwS0)
    (try simp only [World.size_alloc] at zwS0)
    have qwS0 : w.heap.size ≤ wS0.heap.size := by omega
    have bx_awS0 : AtL (w.heap.size) [.slice a0A a0d.length a0c] wS0 := by repeat' (first | with_reducible assumption | with_reducible exact AtL.new _ _ _ | ((with_reducible refine AtL.newAt ?_); (first | rfl | (simp; done))) | (with_reducible refine AtL.drew ?_) | (with_reducible refine AtL.below ?_ (by with_reducible assumption)) | (with_reducible refine AtL.alloc ?_ _) | (with_reducible refine AtL.far ?_ ?_ _ _) | omega | (simp; done) | (simp; omega))
    have rd_a0wS0 : RdRing wS0 (w.heap.size) a0A a0d := by repeat' (first | with_reducible assumption | (with_reducible refine RdRing.drew ?_) | (with_reducible refine RdRing.carry ?_ (by with_reducible assumption) ?_) | (with_reducible refine RdRing.alloc ?_ ?_ _) | (with_reducible refine RdRing.setCell ?_ ?_ _) | omega | (simp; done) | (simp; omega))
    have bx_bwS0 : AtL (w.heap.size + 1) [.slice b0A b0d.length b0c] wS0 := by repeat' (first | with_reducible assumption | with_reducible exact AtL.new _ _ _ | ((with_reducible refine AtL.newAt ?_); (first | rfl | (simp; done))) | (with_reducible refine AtL.drew ?_) | (with_reducible refine AtL.below ?_ (by with_reducible assumption)) | (with_reducible refine AtL.alloc ?_ _) | (with_reducible refine AtL.far ?_ ?_ _ _) | omega | (simp; done) | (simp; omega))
    have rd_b0wS0 : RdRing wS0 (w.heap.size) b0A b0d := by repeat' (first | with_reducible assumption | (with_reducible refine RdRing.drew ?_) | (with_reducible refine RdRing.carry ?_ (by with_reducible assumption) ?_) | (with_reducible refine RdRing.alloc ?_ ?_ _) | (with_reducible refine RdRing.setCell ?_ ?_ _) | omega | (simp; done) | (simp; omega))
    have bp := bW0.out
    have bn : Below w.heap.size w wS0 := by repeat' (first | with_reducible assumption | with_reducible exact Below.refl _ _ | (with_reducible refine Below.setCell ?_ ?_ _) | (with_reducible refine Below.alloc ?_ ?_ _) | (with_reducible refine Below.drew ?_) | (with_reducible refine below_dr ?_ _) | (with_reducible refine Below.trans ?_ (Below.mono (by with_reducible assumption) ?_)) | omega | (simp; done) | (simp; omega))
    have bwS0 := Lib.hid bn
    clear bn
    clear bp bW0
    clear hbwS0
    clear bx_aW0
    clear rd_a0W0
    clear bx_bW0
    clear rd_b0W0
    have kbx_a0 := bx_awS0.cell 0 rfl
    have lbx_a := bx_awS0.lt
    have kbx_b0 := bx_bwS0.cell 0 rfl
    have lbx_b := bx_bwS0.lt
    go_wp2_with fail
    clear kbx_a0 lbx_a
    clear kbx_b0 lbx_b
    have hV1 : 0 ≤ (V0 : Int) ∧ (V0 : Int) ≤ 1048576 := by omega
    by_cases hfit : ((b0d.length + totRing b0d : Nat) : Int) ≤ V0
    case neg =>
      replace hfit : V0 < ((b0d.length + totRing b0d : Nat) : Int) := by omega
      refine (szRegion_no b0A b0c b0d V0 _ (by omega) (by omega) hm_b0 hfit ?_ HOK_b0.out).mono ?_
      · (refine RdRing.more (B := w.heap.size) ?_ (by first | omega | ((try simp only [World.size_setCell]); (try simp only [World.size_drew]); (try simp only [World.size_alloc]); omega) | (simp; done) | (simp; omega))); (repeat' (first | with_reducible assumption | (with_reducible refine RdRing.drew ?_) | (with_reducible refine RdRing.carry ?_ (by with_reducible assumption) ?_) | (with_reducible refine RdRing.alloc ?_ ?_ _) | (with_reducible refine RdRing.setCell ?_ ?_ _) | omega | (simp; done) | (simp; omega)))
      rintro e wN ⟨rfl, hb⟩
      go_wp2_with fail
      go_ret
      have bp := bwS0.out
      exact ⟨rfl, by repeat' (first | with_reducible assumption | with_reducible exact Below.refl _ _ | (with_reducible refine Below.setCell ?_ ?_ _) | (with_reducible refine Below.alloc ?_ ?_ _) | (with_reducible refine Below.drew ?_) | (with_reducible refine below_dr ?_ _) | (with_reducible refine Below.trans ?_ (Below.mono (by with_reducible assumption) ?_)) | omega | (simp; done) | (simp; omega))⟩
    case pos =>
      have hl_b0 : b0d.length ≤ 1048576 := by omega
      have hin_b0 : totRing b0d ≤ 1048576 := by omega
      have HIN_b0 := Lib.hid (inRing hin_b0)
      have HT_b0 := Lib.hid hin_b0
      clear hin_b0
      refine (szRegion_yes b0A b0c b0d V0 _ (by omega) (by omega) (by omega) hfit ?_ HOK_b0.out).mono ?_
      · (refine RdRing.more (B := w.heap.size) ?_ (by first | omega | ((try simp only [World.size_setCell]); (try simp only [World.size_drew]); (try simp only [World.size_alloc]); omega) | (simp; done) | (simp; omega))); (repeat' (first | with_reducible assumption | (with_reducible refine RdRing.drew ?_) | (with_reducible refine RdRing.carry ?_ (by with_reducible assumption) ?_) | (with_reducible refine RdRing.alloc ?_ ?_ _) | (with_reducible refine RdRing.setCell ?_ ?_ _) | omega | (simp; done) | (simp; omega)))
      obtain ⟨V1, hV⟩ : ∃ V : Int, V = V0 - (b0d.length + totRing b0d : Nat) := ⟨_, rfl⟩
      have hVV : 0 ≤ V1 ∧ V1 ≤ 1048576 := by omega
      rw [← hV]
      rintro e wS1 ⟨rfl, hbwS1⟩
      clear hV hfit
      obtain ⟨hV0_1, hV1_1⟩ := hVV
      have zwS1 := hbwS1.size
      (try simp only [World.size_setCell] at zwS1)
      (try simp only [World.size_drew] at zwS1)
      (try simp only [World.size_alloc] at zwS1)
      have qwS1 : w.heap.size ≤ wS1.heap.size := by omega
      have bx_awS1 : AtL (w.heap.size) [.slice a0A a0d.length a0c] wS1 := by repeat' (first | with_reducible assumption | with_reducible exact AtL.new _ _ _ | ((with_reducible refine AtL.newAt ?_); (first | rfl | (simp; done))) | (with_reducible refine AtL.drew ?_) | (with_reducible refine AtL.below ?_ (by with_reducible assumption)) | (with_reducible refine AtL.alloc ?_ _) | (with_reducible refine AtL.far ?_ ?_ _ _) | omega | (simp; done) | (simp; omega))
      have rd_a0wS1 : RdRing wS1 (w.heap.size) a0A a0d := by repeat' (first | with_reducible assumption | (with_reducible refine RdRing.drew ?_) | (with_reducible refine RdRing.carry ?_ (by with_reducible assumption) ?_) | (with_reducible refine RdRing.alloc ?_ ?_ _) | (with_reducible refine RdRing.setCell ?_ ?_ _) | omega | (simp; done) | (simp; omega))
      have bx_bwS1 : AtL (w.heap.size + 1) [.slice b0A b0d.length b0c] wS1 := by repeat' (first | with_reducible assumption | with_reducible exact AtL.new _ _ _ | ((with_reducible refine AtL.newAt ?_); (first | rfl | (simp; done))) | (with_reducible refine AtL.drew ?_) | (with_reducible refine AtL.below ?_ (by with_reducible assumption)) | (with_reducible refine AtL.alloc ?_ _) | (with_reducible refine AtL.far ?_ ?_ _ _) | omega | (simp; done) | (simp; omega))
      have rd_b0wS1 : RdRing wS1 (w.heap.size) b0A b0d := by repeat' (first | with_reducible assumption | (with_reducible refine RdRing.drew ?_) | (with_reducible refine RdRing.carry ?_ (by with_reducible assumption) ?_) | (with_reducible refine RdRing.alloc ?_ ?_ _) | (with_reducible refine RdRing.setCell ?_ ?_ _) | omega | (simp; done) | (simp; omega))
      have bp := bwS0.out
      have bn : Below w.heap.size w wS1 := by repeat' (first | with_reducible assumption | with_reducible exact Below.refl _ _ | (with_reducible refine Below.setCell ?_ ?_ _) | (with_reducible refine Below.alloc ?_ ?_ _) | (with_reducible refine Below.drew ?_) | (with_reducible refine below_dr ?_ _) | (with_reducible refine Below.trans ?_ (Below.mono (by with_reducible assumption) ?_)) | omega | (simp; done) | (simp; omega))
      have bwS1 := Lib.hid bn
      clear bn
      clear bp bwS0
      clear hbwS1
      clear bx_awS0
      clear rd_a0wS0
      clear bx_bwS0
      clear rd_b0wS0
      have kbx_a0 := bx_awS1.cell 0 rfl
      have lbx_a := bx_awS1.lt
      have kbx_b0 := bx_bwS1.cell 0 rfl
      have lbx_b := bx_bwS1.lt
      go_wp2_with fail
      clear kbx_a0 lbx_a
      clear kbx_b0 lbx_b
      have kbx_a0 := bx_awS1.cell 0 rfl
      have lbx_a := bx_awS1.lt
      have kbx_b0 := bx_bwS1.cell 0 rfl
      have lbx_b := bx_bwS1.lt
      go_wp2_with fail
      go_region_held3 (fun w' => (∀ b o, b < wS1.heap.size → w'.cell? ⟨b, o, none⟩ = wS1.cell? ⟨b, o, none⟩) ∧ wS1.heap.size ≤ w'.heap.size)
        (first | ((try dsimp only); exact ⟨fun b o h => (by (repeat (first | with_reducible exact rfl | (with_reducible refine (cell_drew_at _ _).trans ?_) | (with_reducible refine (cell_set_at _ _ (by first | omega | (simp; done) | (simp; omega))).trans ?_) | (with_reducible refine (cell_alloc_at _ _ (by first | omega | (simp; done) | (simp; omega))).trans ?_) | (with_reducible refine (hcwA0 b o (by first | omega | (simp; done) | (simp; omega))).trans ?_) | (with_reducible refine (hcwA1 b o (by first | omega | (simp; done) | (simp; omega))).trans ?_) | (with_reducible refine (hcwB b o (by first | omega | (simp; done) | (simp; omega))).trans ?_)))), (by first | omega | (simp; done) | (simp; omega))⟩) | fail)
        (first
          | (go_at_call 25; (with_reducible refine (toRegion_any a0A a0c a0d _ hl_a0 HIN_a0.out ?_).mono ?_); (focus ((refine RdRing.more (B := w.heap.size) ?_ (by first | omega | ((try simp only [World.size_setCell]); (try simp only [World.size_drew]); (try simp only [World.size_alloc]); omega) | (simp; done) | (simp; omega))); (repeat' (first | with_reducible assumption | (with_reducible refine RdRing.drew ?_) | (with_reducible refine RdRing.carry ?_ (by with_reducible assumption) ?_) | (with_reducible refine RdRing.alloc ?_ ?_ _) | (with_reducible refine RdRing.setCell ?_ ?_ _) | omega | (simp; done) | (simp; omega))))); intro e wA0 hq; obtain ⟨g_owA0_a0, rfl, owA0_a0, hbwA0⟩ := hq; obtain ⟨hcwA0, hfwA0⟩ := bcell hbwA0; have hzwA0 := hbwA0.size; (try simp only [World.size_drew] at hcwA0 hfwA0 hzwA0); (try simp only [World.size_alloc] at hcwA0 hfwA0 hzwA0))
          | (go_at_call 25; (with_reducible refine (toRegion_any b0A b0c b0d _ hl_b0 HIN_b0.out ?_).mono ?_); (focus ((refine RdRing.more (B := w.heap.size) ?_ (by first | omega | ((try simp only [World.size_setCell]); (try simp only [World.size_drew]); (try simp only [World.size_alloc]); omega) | (simp; done) | (simp; omega))); (repeat' (first | with_reducible assumption | (with_reducible refine RdRing.drew ?_) | (with_reducible refine RdRing.carry ?_ (by with_reducible assumption) ?_) | (with_reducible refine RdRing.alloc ?_ ?_ _) | (with_reducible refine RdRing.setCell ?_ ?_ _) | omega | (simp; done) | (simp; omega))))); intro e wA1 hq; obtain ⟨g_owA1_b0, rfl, owA1_b0, hbwA1⟩ := hq; obtain ⟨hcwA1, hfwA1⟩ := bcell hbwA1; have hzwA1 := hbwA1.size; (try simp only [World.size_drew] at hcwA1 hfwA1 hzwA1); (try simp only [World.size_alloc] at hcwA1 hfwA1 hzwA1))
          | (go_at_call 28; (with_reducible refine (C1.out (some ⟨g_owA0_a0, 0, none⟩) a0d.length (some ⟨g_owA1_b0, 0, none⟩) b0d.length _ hl_a0 hl_b0 HIN_a0.out HIN_b0.out ?_ ?_).mono ?_); (focus ((refine RdRing.more (B := wA0.heap.size) ?_ (by first | exact Nat.le_refl _ | omega | ((try simp only [World.size_drew]); (try simp only [World.size_alloc]); (try simp only [World.size_drew]); omega) | (simp; done) | (simp; omega))); (repeat' (first | with_reducible assumption | exact owA0_a0.here | (with_reducible refine RdRing.drew ?_) | (with_reducible refine RdRing.alloc ?_ ?_ _) | (with_reducible refine RdRing.carry ?_ (by with_reducible assumption) ?_) | exact Nat.le_refl _ | omega | (simp; done) | (simp; omega))))); (focus ((refine RdRing.more (B := wA1.heap.size) ?_ (by first | exact Nat.le_refl _ | omega | ((try simp only [World.size_drew]); (try simp only [World.size_alloc]); (try simp only [World.size_drew]); omega) | (simp; done) | (simp; omega))); (repeat' (first | with_reducible assumption | exact owA1_b0.here | (with_reducible refine RdRing.drew ?_) | (with_reducible refine RdRing.alloc ?_ ?_ _) | (with_reducible refine RdRing.carry ?_ (by with_reducible assumption) ?_) | exact Nat.le_refl _ | omega | (simp; done) | (simp; omega))))); rintro e wB ⟨rfl, hbwB⟩; obtain ⟨hcwB, hfwB⟩ := bcell hbwB; have hzwB := hbwB.size; (try simp only [World.size_drew] at hcwB hfwB hzwB); (try simp only [World.size_alloc] at hcwB hfwB hzwB)))
      clear kbx_a0 lbx_a
      clear kbx_b0 lbx_b
      all_goals
        have zwB := hbwB.size
        (try simp only [World.size_setCell] at zwB)
        (try simp only [World.size_drew] at zwB)
        (try simp only [World.size_alloc] at zwB)
        have qwB : w.heap.size ≤ wB.heap.size := by omega
        have bx_awB : AtL (w.heap.size) [.slice a0A a0d.length a0c] wB := by repeat' (first | with_reducible assumption | with_reducible exact AtL.new _ _ _ | ((with_reducible refine AtL.newAt ?_); (first | rfl | (simp; done))) | (with_reducible refine AtL.drew ?_) | (with_reducible refine AtL.below ?_ (by with_reducible assumption)) | (with_reducible refine AtL.alloc ?_ _) | (with_reducible refine AtL.far ?_ ?_ _ _) | omega | (simp; done) | (simp; omega))
        have rd_a0wB : RdRing wB (w.heap.size) a0A a0d := by repeat' (first | with_reducible assumption | (with_reducible refine RdRing.drew ?_) | (with_reducible refine RdRing.carry ?_ (by with_reducible assumption) ?_) | (with_reducible refine RdRing.alloc ?_ ?_ _) | (with_reducible refine RdRing.setCell ?_ ?_ _) | omega | (simp; done) | (simp; omega))
        have bx_bwB : AtL (w.heap.size + 1) [.slice b0A b0d.length b0c] wB := by repeat' (first | with_reducible assumption | with_reducible exact AtL.new _ _ _ | ((with_reducible refine AtL.newAt ?_); (first | rfl | (simp; done))) | (with_reducible refine AtL.drew ?_) | (with_reducible refine AtL.below ?_ (by with_reducible assumption)) | (with_reducible refine AtL.alloc ?_ _) | (with_reducible refine AtL.far ?_ ?_ _ _) | omega | (simp; done) | (simp; omega))
        have rd_b0wB : RdRing wB (w.heap.size) b0A b0d := by repeat' (first | with_reducible assumption | (with_reducible refine RdRing.drew ?_) | (with_reducible refine RdRing.carry ?_ (by with_reducible assumption) ?_) | (with_reducible refine RdRing.alloc ?_ ?_ _) | (with_reducible refine RdRing.setCell ?_ ?_ _) | omega | (simp; done) | (simp; omega))
        have bp := bwS1.out
        have bn : Below w.heap.size w wB := by repeat' (first | with_reducible assumption | with_reducible exact Below.refl _ _ | (with_reducible refine Below.setCell ?_ ?_ _) | (with_reducible refine Below.alloc ?_ ?_ _) | (with_reducible refine Below.drew ?_) | (with_reducible refine below_dr ?_ _) | (with_reducible refine Below.trans ?_ (Below.mono (by with_reducible assumption) ?_)) | omega | (simp; done) | (simp; omega))
        have bwB := Lib.hid bn
        clear bn
        clear bp bwS1
        clear hbwB
        clear bx_awS1
        clear rd_a0wS1
        clear bx_bwS1
        clear rd_b0wS1
        clear hbwA0 hcwA0 hfwA0 hbwA1 hcwA1 hfwA1 hcwB hfwB
        have kbx_a0 := bx_awB.cell 0 rfl
        have lbx_a := bx_awB.lt
        go_wp2_with fail
        clear kbx_a0 lbx_a
        refine (toRegion_any a0A a0c a0d _ hl_a0 HIN_a0.out ?_).mono ?_
        · (refine RdRing.more (B := w.heap.size) ?_ (by first | omega | ((try simp only [World.size_setCell]); (try simp only [World.size_drew]); (try simp only [World.size_alloc]); omega) | (simp; done) | (simp; omega))); (repeat' (first | with_reducible assumption | (with_reducible refine RdRing.drew ?_) | (with_reducible refine RdRing.carry ?_ (by with_reducible assumption) ?_) | (with_reducible refine RdRing.alloc ?_ ?_ _) | (with_reducible refine RdRing.setCell ?_ ?_ _) | omega | (simp; done) | (simp; omega)))
        intro e wX0 hq
        obtain ⟨gX_a0, rfl, owX_a0, hbwX0⟩ := hq
        have zwX0 := hbwX0.size
        (try simp only [World.size_setCell] at zwX0)
        (try simp only [World.size_drew] at zwX0)
        (try simp only [World.size_alloc] at zwX0)
        have qwX0 : w.heap.size ≤ wX0.heap.size := by omega
        have bx_awX0 : AtL (w.heap.size) [.slice a0A a0d.length a0c] wX0 := by repeat' (first | with_reducible assumption | with_reducible exact AtL.new _ _ _ | ((with_reducible refine AtL.newAt ?_); (first | rfl | (simp; done))) | (with_reducible refine AtL.drew ?_) | (with_reducible refine AtL.below ?_ (by with_reducible assumption)) | (with_reducible refine AtL.alloc ?_ _) | (with_reducible refine AtL.far ?_ ?_ _ _) | omega | (simp; done) | (simp; omega))
        have rd_a0wX0 : RdRing wX0 (w.heap.size) a0A a0d := by repeat' (first | with_reducible assumption | (with_reducible refine RdRing.drew ?_) | (with_reducible refine RdRing.carry ?_ (by with_reducible assumption) ?_) | (with_reducible refine RdRing.alloc ?_ ?_ _) | (with_reducible refine RdRing.setCell ?_ ?_ _) | omega | (simp; done) | (simp; omega))
        have bx_bwX0 : AtL (w.heap.size + 1) [.slice b0A b0d.length b0c] wX0 := by repeat' (first | with_reducible assumption | with_reducible exact AtL.new _ _ _ | ((with_reducible refine AtL.newAt ?_); (first | rfl | (simp; done))) | (with_reducible refine AtL.drew ?_) | (with_reducible refine AtL.below ?_ (by with_reducible assumption)) | (with_reducible refine AtL.alloc ?_ _) | (with_reducible refine AtL.far ?_ ?_ _ _) | omega | (simp; done) | (simp; omega))
        have rd_b0wX0 : RdRing wX0 (w.heap.size) b0A b0d := by repeat' (first | with_reducible assumption | (with_reducible refine RdRing.drew ?_) | (with_reducible refine RdRing.carry ?_ (by with_reducible assumption) ?_) | (with_reducible refine RdRing.alloc ?_ ?_ _) | (with_reducible refine RdRing.setCell ?_ ?_ _) | omega | (simp; done) | (simp; omega))
        have bp := bwB.out
        have bn : Below w.heap.size w wX0 := by repeat' (first | with_reducible assumption | with_reducible exact Below.refl _ _ | (with_reducible refine Below.setCell ?_ ?_ _) | (with_reducible refine Below.alloc ?_ ?_ _) | (with_reducible refine Below.drew ?_) | (with_reducible refine below_dr ?_ _) | (with_reducible refine Below.trans ?_ (Below.mono (by with_reducible assumption) ?_)) | omega | (simp; done) | (simp; omega))
        have bwX0 := Lib.hid bn
        clear bn
        clear bp bwB
        clear hbwX0
        clear bx_awB
        clear rd_a0wB
        clear bx_bwB
        clear rd_b0wB
        have rx_a0wX0 : RdRing wX0 (wX0.heap.size) (some ⟨gX_a0, 0, none⟩) a0d := owX_a0.here
        clear owX_a0
        have kbx_b0 := bx_bwX0.cell 0 rfl
        have lbx_b := bx_bwX0.lt
        go_wp2_with fail
        clear kbx_b0 lbx_b
        refine (toRegion_any b0A b0c b0d _ hl_b0 HIN_b0.out ?_).mono ?_
        · (refine RdRing.more (B := w.heap.size) ?_ (by first | omega | ((try simp only [World.size_setCell]); (try simp only [World.size_drew]); (try simp only [World.size_alloc]); omega) | (simp; done) | (simp; omega))); (repeat' (first | with_reducible assumption | (with_reducible refine RdRing.drew ?_) | (with_reducible refine RdRing.carry ?_ (by with_reducible assumption) ?_) | (with_reducible refine RdRing.alloc ?_ ?_ _) | (with_reducible refine RdRing.setCell ?_ ?_ _) | omega | (simp; done) | (simp; omega)))
        intro e wX1 hq
        obtain ⟨gX_b0, rfl, owX_b0, hbwX1⟩ := hq
        have zwX1 := hbwX1.size
        (try simp only [World.size_setCell] at zwX1)
        (try simp only [World.size_drew] at zwX1)
        (try simp only [World.size_alloc] at zwX1)
        have qwX1 : w.heap.size ≤ wX1.heap.size := by omega
        have bx_awX1 : AtL (w.heap.size) [.slice a0A a0d.length a0c] wX1 := by repeat' (first | with_reducible assumption | with_reducible exact AtL.new _ _ _ | ((with_reducible refine AtL.newAt ?_); (first | rfl | (simp; done))) | (with_reducible refine AtL.drew ?_) | (with_reducible refine AtL.below ?_ (by with_reducible assumption)) | (with_reducible refine AtL.alloc ?_ _) | (with_reducible refine AtL.far ?_ ?_ _ _) | omega | (simp; done) | (simp; omega))
        have rd_a0wX1 : RdRing wX1 (w.heap.size) a0A a0d := by repeat' (first | with_reducible assumption | (with_reducible refine RdRing.drew ?_) | (with_reducible refine RdRing.carry ?_ (by with_reducible assumption) ?_) | (with_reducible refine RdRing.alloc ?_ ?_ _) | (with_reducible refine RdRing.setCell ?_ ?_ _) | omega | (simp; done) | (simp; omega))
        have bx_bwX1 : AtL (w.heap.size + 1) [.slice b0A b0d.length b0c] wX1 := by repeat' (first | with_reducible assumption | with_reducible exact AtL.new _ _ _ | ((with_reducible refine AtL.newAt ?_); (first | rfl | (simp; done))) | (with_reducible refine AtL.drew ?_) | (with_reducible refine AtL.below ?_ (by with_reducible assumption)) | (with_reducible refine AtL.alloc ?_ _) | (with_reducible refine AtL.far ?_ ?_ _ _) | omega | (simp; done) | (simp; omega))
        have rd_b0wX1 : RdRing wX1 (w.heap.size) b0A b0d := by repeat' (first | with_reducible assumption | (with_reducible refine RdRing.drew ?_) | (with_reducible refine RdRing.carry ?_ (by with_reducible assumption) ?_) | (with_reducible refine RdRing.alloc ?_ ?_ _) | (with_reducible refine RdRing.setCell ?_ ?_ _) | omega | (simp; done) | (simp; omega))
        have rx_a0wX1 : RdRing wX1 (wX0.heap.size) (some ⟨gX_a0, 0, none⟩) a0d := by repeat' (first | with_reducible assumption | (with_reducible refine RdRing.drew ?_) | (with_reducible refine RdRing.carry ?_ (by with_reducible assumption) ?_) | (with_reducible refine RdRing.alloc ?_ ?_ _) | (with_reducible refine RdRing.setCell ?_ ?_ _) | omega | (simp; done) | (simp; omega))
        have at_awX1 : AtL (wX0.heap.size) [.slice (some ⟨gX_a0, 0, none⟩) a0d.length a0d.length] wX1 := by repeat' (first | with_reducible assumption | with_reducible exact AtL.new _ _ _ | ((with_reducible refine AtL.newAt ?_); (first | rfl | (simp; done))) | (with_reducible refine AtL.drew ?_) | (with_reducible refine AtL.below ?_ (by with_reducible assumption)) | (with_reducible refine AtL.alloc ?_ _) | (with_reducible refine AtL.far ?_ ?_ _ _) | omega | (simp; done) | (simp; omega))
        have bp := bwX0.out
        have bn : Below w.heap.size w wX1 := by repeat' (first | with_reducible assumption | with_reducible exact Below.refl _ _ | (with_reducible refine Below.setCell ?_ ?_ _) | (with_reducible refine Below.alloc ?_ ?_ _) | (with_reducible refine Below.drew ?_) | (with_reducible refine below_dr ?_ _) | (with_reducible refine Below.trans ?_ (Below.mono (by with_reducible assumption) ?_)) | omega | (simp; done) | (simp; omega))
        have bwX1 := Lib.hid bn
        clear bn
        clear bp bwX0
        clear hbwX1
        clear bx_awX0
        clear rd_a0wX0
        clear bx_bwX0
        clear rd_b0wX0
        clear rx_a0wX0
        have rx_b0wX1 : RdRing wX1 (wX1.heap.size) (some ⟨gX_b0, 0, none⟩) b0d := owX_b0.here
        clear owX_b0
        have kat_a0 := at_awX1.cell 0 rfl
        have lat_a := at_awX1.lt
        go_wp2_with fail
        clear kat_a0 lat_a
        refine (C2.out (some ⟨gX_a0, 0, none⟩) a0d.length (some ⟨gX_b0, 0, none⟩) b0d.length _ hl_a0 hl_b0 HIN_a0.out HIN_b0.out ?_ ?_).mono ?_
        · (refine RdRing.more (B := wX0.heap.size) ?_ (by first | omega | ((try simp only [World.size_setCell]); (try simp only [World.size_drew]); (try simp only [World.size_alloc]); omega) | (simp; done) | (simp; omega))); (repeat' (first | with_reducible assumption | (with_reducible refine RdRing.drew ?_) | (with_reducible refine RdRing.carry ?_ (by with_reducible assumption) ?_) | (with_reducible refine RdRing.alloc ?_ ?_ _) | (with_reducible refine RdRing.setCell ?_ ?_ _) | omega | (simp; done) | (simp; omega)))
        · (refine RdRing.more (B := wX1.heap.size) ?_ (by first | omega | ((try simp only [World.size_setCell]); (try simp only [World.size_drew]); (try simp only [World.size_alloc]); omega) | (simp; done) | (simp; omega))); (repeat' (first | with_reducible assumption | (with_reducible refine RdRing.drew ?_) | (with_reducible refine RdRing.carry ?_ (by with_reducible assumption) ?_) | (with_reducible refine RdRing.alloc ?_ ?_ _) | (with_reducible refine RdRing.setCell ?_ ?_ _) | omega | (simp; done) | (simp; omega)))
        rintro e wI ⟨rfl, hbwI⟩
        have zwI := hbwI.size
        (try simp only [World.size_setCell] at zwI)
        (try simp only [World.size_drew] at zwI)
        (try simp only [World.size_alloc] at zwI)
        have qwI : w.heap.size ≤ wI.heap.size := by omega
        have bx_awI : AtL (w.heap.size) [.slice a0A a0d.length a0c] wI := by repeat' (first | with_reducible assumption | with_reducible exact AtL.new _ _ _ | ((with_reducible refine AtL.newAt ?_); (first | rfl | (simp; done))) | (with_reducible refine AtL.drew ?_) | (with_reducible refine AtL.below ?_ (by with_reducible assumption)) | (with_reducible refine AtL.alloc ?_ _) | (with_reducible refine AtL.far ?_ ?_ _ _) | omega | (simp; done) | (simp; omega))
        have rd_a0wI : RdRing wI (w.heap.size) a0A a0d := by repeat' (first | with_reducible assumption | (with_reducible refine RdRing.drew ?_) | (with_reducible refine RdRing.carry ?_ (by with_reducible assumption) ?_) | (with_reducible refine RdRing.alloc ?_ ?_ _) | (with_reducible refine RdRing.setCell ?_ ?_ _) | omega | (simp; done) | (simp; omega))
        have bx_bwI : AtL (w.heap.size + 1) [.slice b0A b0d.length b0c] wI := by repeat' (first | with_reducible assumption | with_reducible exact AtL.new _ _ _ | ((with_reducible refine AtL.newAt ?_); (first | rfl | (simp; done))) | (with_reducible refine AtL.drew ?_) | (with_reducible refine AtL.below ?_ (by with_reducible assumption)) | (with_reducible refine AtL.alloc ?_ _) | (with_reducible refine AtL.far ?_ ?_ _ _) | omega | (simp; done) | (simp; omega))
        have rd_b0wI : RdRing wI (w.heap.size) b0A b0d := by repeat' (first | with_reducible assumption | (with_reducible refine RdRing.drew ?_) | (with_reducible refine RdRing.carry ?_ (by with_reducible assumption) ?_) | (with_reducible refine RdRing.alloc ?_ ?_ _) | (with_reducible refine RdRing.setCell ?_ ?_ _) | omega | (simp; done) | (simp; omega))
        have rx_a0wI : RdRing wI (wX0.heap.size) (some ⟨gX_a0, 0, none⟩) a0d := by repeat' (first | with_reducible assumption | (with_reducible refine RdRing.drew ?_) | (with_reducible refine RdRing.carry ?_ (by with_reducible assumption) ?_) | (with_reducible refine RdRing.alloc ?_ ?_ _) | (with_reducible refine RdRing.setCell ?_ ?_ _) | omega | (simp; done) | (simp; omega))
        have at_awI : AtL (wX0.heap.size) [.slice (some ⟨gX_a0, 0, none⟩) a0d.length a0d.length] wI := by repeat' (first | with_reducible assumption | with_reducible exact AtL.new _ _ _ | ((with_reducible refine AtL.newAt ?_); (first | rfl | (simp; done))) | (with_reducible refine AtL.drew ?_) | (with_reducible refine AtL.below ?_ (by with_reducible assumption)) | (with_reducible refine AtL.alloc ?_ _) | (with_reducible refine AtL.far ?_ ?_ _ _) | omega | (simp; done) | (simp; omega))
        have rx_b0wI : RdRing wI (wX1.heap.size) (some ⟨gX_b0, 0, none⟩) b0d := by repeat' (first | with_reducible assumption | (with_reducible refine RdRing.drew ?_) | (with_reducible refine RdRing.carry ?_ (by with_reducible assumption) ?_) | (with_reducible refine RdRing.alloc ?_ ?_ _) | (with_reducible refine RdRing.setCell ?_ ?_ _) | omega | (simp; done) | (simp; omega))
        have at_bwI : AtL (wX1.heap.size) [.slice (some ⟨gX_b0, 0, none⟩) b0d.length b0d.length] wI := by repeat' (first | with_reducible assumption | with_reducible exact AtL.new _ _ _ | ((with_reducible refine AtL.newAt ?_); (first | rfl | (simp; done))) | (with_reducible refine AtL.drew ?_) | (with_reducible refine AtL.below ?_ (by with_reducible assumption)) | (with_reducible refine AtL.alloc ?_ _) | (with_reducible refine AtL.far ?_ ?_ _ _) | omega | (simp; done) | (simp; omega))
        have bp := bwX1.out
        have bn : Below w.heap.size w wI := by repeat' (first | with_reducible assumption | with_reducible exact Below.refl _ _ | (with_reducible refine Below.setCell ?_ ?_ _) | (with_reducible refine Below.alloc ?_ ?_ _) | (with_reducible refine Below.drew ?_) | (with_reducible refine below_dr ?_ _) | (with_reducible refine Below.trans ?_ (Below.mono (by with_reducible assumption) ?_)) | omega | (simp; done) | (simp; omega))
        have bwI := Lib.hid bn
        clear bn
        clear bp bwX1
        clear hbwI
        clear bx_awX1
        clear rd_a0wX1
        clear bx_bwX1
        clear rd_b0wX1
        clear rx_a0wX1
        clear at_awX1
        clear rx_b0wX1
        have kat_a0 := at_awI.cell 0 rfl
        have lat_a := at_awI.lt
        have kbx_a0 := bx_awI.cell 0 rfl
        have lbx_a := bx_awI.lt
        go_wp2_with fail
        go_region_held3 (fun w' => (∀ b o, b < wI.heap.size → w'.cell? ⟨b, o, none⟩ = wI.cell? ⟨b, o, none⟩) ∧ wI.heap.size ≤ w'.heap.size)
          (first | ((try dsimp only); exact ⟨fun b o h => (by (repeat (first | with_reducible exact rfl | (with_reducible refine (cell_drew_at _ _).trans ?_) | (with_reducible refine (cell_set_at _ _ (by first | omega | (simp; done) | (simp; omega))).trans ?_) | (with_reducible refine (cell_alloc_at _ _ (by first | omega | (simp; done) | (simp; omega))).trans ?_) | (with_reducible refine (hcwT0 b o (by first | omega | (simp; done) | (simp; omega))).trans ?_) | (with_reducible refine (hcwE0 b o (by first | omega | (simp; done) | (simp; omega))).trans ?_)))), (by first | omega | (simp; done) | (simp; omega))⟩) | fail)
          (first
            | (go_at_call 25; (with_reducible refine (toRegion_any a0A a0c a0d _ hl_a0 HIN_a0.out ?_).mono ?_); (focus ((refine RdRing.more (B := w.heap.size) ?_ (by first | omega | ((try simp only [World.size_setCell]); (try simp only [World.size_drew]); (try simp only [World.size_alloc]); omega) | (simp; done) | (simp; omega))); (repeat' (first | with_reducible assumption | (with_reducible refine RdRing.drew ?_) | (with_reducible refine RdRing.carry ?_ (by with_reducible assumption) ?_) | (with_reducible refine RdRing.alloc ?_ ?_ _) | (with_reducible refine RdRing.setCell ?_ ?_ _) | omega | (simp; done) | (simp; omega))))); intro e wT0 hq; obtain ⟨g_owE_a0, rfl, owE_a0, hbwT0⟩ := hq; obtain ⟨hcwT0, hfwT0⟩ := bcell hbwT0; have hzwT0 := hbwT0.size; (try simp only [World.size_drew] at hcwT0 hfwT0 hzwT0); (try simp only [World.size_alloc] at hcwT0 hfwT0 hzwT0))
            | (go_at_call 27; (with_reducible refine (eqRegion_same (some ⟨gX_a0, 0, none⟩) a0d.length a0d (some ⟨g_owE_a0, 0, none⟩) a0d.length _ (by omega) (fun i d h => Nat.le_trans (HIN_a0.out i d h) (by omega)) ?_ ?_).mono ?_); (focus ((refine RdRing.more (B := wX0.heap.size) ?_ (by first | omega | ((try simp only [World.size_setCell]); (try simp only [World.size_drew]); (try simp only [World.size_alloc]); omega) | (simp; done) | (simp; omega))); (repeat' (first | with_reducible assumption | (with_reducible refine RdRing.drew ?_) | (with_reducible refine RdRing.carry ?_ (by with_reducible assumption) ?_) | (with_reducible refine RdRing.alloc ?_ ?_ _) | (with_reducible refine RdRing.setCell ?_ ?_ _) | omega | (simp; done) | (simp; omega))))); (focus ((first | exact owE_a0.here | exact RdRing.drew owE_a0.here))); rintro e wE0 ⟨rfl, hbwE0⟩; obtain ⟨hcwE0, hfwE0⟩ := bcell hbwE0; have hzwE0 := hbwE0.size; (try simp only [World.size_drew] at hcwE0 hfwE0 hzwE0); (try simp only [World.size_alloc] at hcwE0 hfwE0 hzwE0)))
        clear kat_a0 lat_a
        clear kbx_a0 lbx_a
        all_goals
          have zwE0 := hbwE0.size
          (try simp only [World.size_setCell] at zwE0)
          (try simp only [World.size_drew] at zwE0)
          (try simp only [World.size_alloc] at zwE0)
          have qwE0 : w.heap.size ≤ wE0.heap.size := by omega
          have bx_awE0 : AtL (w.heap.size) [.slice a0A a0d.length a0c] wE0 := by repeat' (first | with_reducible assumption | with_reducible exact AtL.new _ _ _ | ((with_reducible refine AtL.newAt ?_); (first | rfl | (simp; done))) | (with_reducible refine AtL.drew ?_) | (with_reducible refine AtL.below ?_ (by with_reducible assumption)) | (with_reducible refine AtL.alloc ?_ _) | (with_reducible refine AtL.far ?_ ?_ _ _) | omega | (simp; done) | (simp; omega))
          have rd_a0wE0 : RdRing wE0 (w.heap.size) a0A a0d := by repeat' (first | with_reducible assumption | (with_reducible refine RdRing.drew ?_) | (with_reducible refine RdRing.carry ?_ (by with_reducible assumption) ?_) | (with_reducible refine RdRing.alloc ?_ ?_ _) | (with_reducible refine RdRing.setCell ?_ ?_ _) | omega | (simp; done) | (simp; omega))
          have bx_bwE0 : AtL (w.heap.size + 1) [.slice b0A b0d.length b0c] wE0 := by repeat' (first | with_reducible assumption | with_reducible exact AtL.new _ _ _ | ((with_reducible refine AtL.newAt ?_); (first | rfl | (simp; done))) | (with_reducible refine AtL.drew ?_) | (with_reducible refine AtL.below ?_ (by with_reducible assumption)) | (with_reducible refine AtL.alloc ?_ _) | (with_reducible refine AtL.far ?_ ?_ _ _) | omega | (simp; done) | (simp; omega))
          have rd_b0wE0 : RdRing wE0 (w.heap.size) b0A b0d := by repeat' (first | with_reducible assumption | (with_reducible refine RdRing.drew ?_) | (with_reducible refine RdRing.carry ?_ (by with_reducible assumption) ?_) | (with_reducible refine RdRing.alloc ?_ ?_ _) | (with_reducible refine RdRing.setCell ?_ ?_ _) | omega | (simp; done) | (simp; omega))
          have rx_a0wE0 : RdRing wE0 (wX0.heap.size) (some ⟨gX_a0, 0, none⟩) a0d := by repeat' (first | with_reducible assumption | (with_reducible refine RdRing.drew ?_) | (with_reducible refine RdRing.carry ?_ (by with_reducible assumption) ?_) | (with_reducible refine RdRing.alloc ?_ ?_ _) | (with_reducible refine RdRing.setCell ?_ ?_ _) | omega | (simp; done) | (simp; omega))
          have at_awE0 : AtL (wX0.heap.size) [.slice (some ⟨gX_a0, 0, none⟩) a0d.length a0d.length] wE0 := by repeat' (first | with_reducible assumption | with_reducible exact AtL.new _ _ _ | ((with_reducible refine AtL.newAt ?_); (first | rfl | (simp; done))) | (with_reducible refine AtL.drew ?_) | (with_reducible refine AtL.below ?_ (by with_reducible assumption)) | (with_reducible refine AtL.alloc ?_ _) | (with_reducible refine AtL.far ?_ ?_ _ _) | omega | (simp; done) | (simp; omega))
          have rx_b0wE0 : RdRing wE0 (wX1.heap.size) (some ⟨gX_b0, 0, none⟩) b0d := by repeat' (first | with_reducible assumption | (with_reducible refine RdRing.drew ?_) | (with_reducible refine RdRing.carry ?_ (by with_reducible assumption) ?_) | (with_reducible refine RdRing.alloc ?_ ?_ _) | (with_reducible refine RdRing.setCell ?_ ?_ _) | omega | (simp; done) | (simp; omega))
          have at_bwE0 : AtL (wX1.heap.size) [.slice (some ⟨gX_b0, 0, none⟩) b0d.length b0d.length] wE0 := by repeat' (first | with_reducible assumption | with_reducible exact AtL.new _ _ _ | ((with_reducible refine AtL.newAt ?_); (first | rfl | (simp; done))) | (with_reducible refine AtL.drew ?_) | (with_reducible refine AtL.below ?_ (by with_reducible assumption)) | (with_reducible refine AtL.alloc ?_ _) | (with_reducible refine AtL.far ?_ ?_ _ _) | omega | (simp; done) | (simp; omega))
          have bp := bwI.out
          have bn : Below w.heap.size w wE0 := by repeat' (first | with_reducible assumption | with_reducible exact Below.refl _ _ | (with_reducible refine Below.setCell ?_ ?_ _) | (with_reducible refine Below.alloc ?_ ?_ _) | (with_reducible refine Below.drew ?_) | (with_reducible refine below_dr ?_ _) | (with_reducible refine Below.trans ?_ (Below.mono (by with_reducible assumption) ?_)) | omega | (simp; done) | (simp; omega))
          have bwE0 := Lib.hid bn
          clear bn
          clear bp bwI
          clear hbwE0
          clear bx_awI
          clear rd_a0wI
          clear bx_bwI
          clear rd_b0wI
          clear rx_a0wI
          clear at_awI
          clear rx_b0wI
          clear at_bwI
          go_wp2_with fail
          have kat_b0 := at_bwE0.cell 0 rfl
          have lat_b := at_bwE0.lt
          have kbx_b0 := bx_bwE0.cell 0 rfl
          have lbx_b := bx_bwE0.lt
          go_wp2_with fail
          go_region_held3 (fun w' => (∀ b o, b < wE0.heap.size → w'.cell? ⟨b, o, none⟩ = wE0.cell? ⟨b, o, none⟩) ∧ wE0.heap.size ≤ w'.heap.size)
            (first | ((try dsimp only); exact ⟨fun b o h => (by (repeat (first | with_reducible exact rfl | (with_reducible refine (cell_drew_at _ _).trans ?_) | (with_reducible refine (cell_set_at _ _ (by first | omega | (simp; done) | (simp; omega))).trans ?_) | (with_reducible refine (cell_alloc_at _ _ (by first | omega | (simp; done) | (simp; omega))).trans ?_) | (with_reducible refine (hcwT1 b o (by first | omega | (simp; done) | (simp; omega))).trans ?_) | (with_reducible refine (hcwE1 b o (by first | omega | (simp; done) | (simp; omega))).trans ?_)))), (by first | omega | (simp; done) | (simp; omega))⟩) | fail)
            (first
              | (go_at_call 25; (with_reducible refine (toRegion_any b0A b0c b0d _ hl_b0 HIN_b0.out ?_).mono ?_); (focus ((refine RdRing.more (B := w.heap.size) ?_ (by first | omega | ((try simp only [World.size_setCell]); (try simp only [World.size_drew]); (try simp only [World.size_alloc]); omega) | (simp; done) | (simp; omega))); (repeat' (first | with_reducible assumption | (with_reducible refine RdRing.drew ?_) | (with_reducible refine RdRing.carry ?_ (by with_reducible assumption) ?_) | (with_reducible refine RdRing.alloc ?_ ?_ _) | (with_reducible refine RdRing.setCell ?_ ?_ _) | omega | (simp; done) | (simp; omega))))); intro e wT1 hq; obtain ⟨g_owE_b0, rfl, owE_b0, hbwT1⟩ := hq; obtain ⟨hcwT1, hfwT1⟩ := bcell hbwT1; have hzwT1 := hbwT1.size; (try simp only [World.size_drew] at hcwT1 hfwT1 hzwT1); (try simp only [World.size_alloc] at hcwT1 hfwT1 hzwT1))
              | (go_at_call 27; (with_reducible refine (eqRegion_same (some ⟨gX_b0, 0, none⟩) b0d.length b0d (some ⟨g_owE_b0, 0, none⟩) b0d.length _ (by omega) (fun i d h => Nat.le_trans (HIN_b0.out i d h) (by omega)) ?_ ?_).mono ?_); (focus ((refine RdRing.more (B := wX1.heap.size) ?_ (by first | omega | ((try simp only [World.size_setCell]); (try simp only [World.size_drew]); (try simp only [World.size_alloc]); omega) | (simp; done) | (simp; omega))); (repeat' (first | with_reducible assumption | (with_reducible refine RdRing.drew ?_) | (with_reducible refine RdRing.carry ?_ (by with_reducible assumption) ?_) | (with_reducible refine RdRing.alloc ?_ ?_ _) | (with_reducible refine RdRing.setCell ?_ ?_ _) | omega | (simp; done) | (simp; omega))))); (focus ((first | exact owE_b0.here | exact RdRing.drew owE_b0.here))); rintro e wE1 ⟨rfl, hbwE1⟩; obtain ⟨hcwE1, hfwE1⟩ := bcell hbwE1; have hzwE1 := hbwE1.size; (try simp only [World.size_drew] at hcwE1 hfwE1 hzwE1); (try simp only [World.size_alloc] at hcwE1 hfwE1 hzwE1)))
          clear kat_b0 lat_b
          clear kbx_b0 lbx_b
          all_goals
            have zwE1 := hbwE1.size
            (try simp only [World.size_setCell] at zwE1)
            (try simp only [World.size_drew] at zwE1)
            (try simp only [World.size_alloc] at zwE1)
            have qwE1 : w.heap.size ≤ wE1.heap.size := by omega
            have bx_awE1 : AtL (w.heap.size) [.slice a0A a0d.length a0c] wE1 := by repeat' (first | with_reducible assumption | with_reducible exact AtL.new _ _ _ | ((with_reducible refine AtL.newAt ?_); (first | rfl | (simp; done))) | (with_reducible refine AtL.drew ?_) | (with_reducible refine AtL.below ?_ (by with_reducible assumption)) | (with_reducible refine AtL.alloc ?_ _) | (with_reducible refine AtL.far ?_ ?_ _ _) | omega | (simp; done) | (simp; omega))
            have rd_a0wE1 : RdRing wE1 (w.heap.size) a0A a0d := by repeat' (first | with_reducible assumption | (with_reducible refine RdRing.drew ?_) | (with_reducible refine RdRing.carry ?_ (by with_reducible assumption) ?_) | (with_reducible refine RdRing.alloc ?_ ?_ _) | (with_reducible refine RdRing.setCell ?_ ?_ _) | omega | (simp; done) | (simp; omega))
            have bx_bwE1 : AtL (w.heap.size + 1) [.slice b0A b0d.length b0c] wE1 := by repeat' (first | with_reducible assumption | with_reducible exact AtL.new _ _ _ | ((with_reducible refine AtL.newAt ?_); (first | rfl | (simp; done))) | (with_reducible refine AtL.drew ?_) | (with_reducible refine AtL.below ?_ (by with_reducible assumption)) | (with_reducible refine AtL.alloc ?_ _) | (with_reducible refine AtL.far ?_ ?_ _ _) | omega | (simp; done) | (simp; omega))
            have rd_b0wE1 : RdRing wE1 (w.heap.size) b0A b0d := by repeat' (first | with_reducible assumption | (with_reducible refine RdRing.drew ?_) | (with_reducible refine RdRing.carry ?_ (by with_reducible assumption) ?_) | (with_reducible refine RdRing.alloc ?_ ?_ _) | (with_reducible refine RdRing.setCell ?_ ?_ _) | omega | (simp; done) | (simp; omega))
            have rx_a0wE1 : RdRing wE1 (wX0.heap.size) (some ⟨gX_a0, 0, none⟩) a0d := by repeat' (first | with_reducible assumption | (with_reducible refine RdRing.drew ?_) | (with_reducible refine RdRing.carry ?_ (by with_reducible assumption) ?_) | (with_reducible refine RdRing.alloc ?_ ?_ _) | (with_reducible refine RdRing.setCell ?_ ?_ _) | omega | (simp; done) | (simp; omega))
            have at_awE1 : AtL (wX0.heap.size) [.slice (some ⟨gX_a0, 0, none⟩) a0d.length a0d.length] wE1 := by repeat' (first | with_reducible assumption | with_reducible exact AtL.new _ _ _ | ((with_reducible refine AtL.newAt ?_); (first | rfl | (simp; done))) | (with_reducible refine AtL.drew ?_) | (with_reducible refine AtL.below ?_ (by with_reducible assumption)) | (with_reducible refine AtL.alloc ?_ _) | (with_reducible refine AtL.far ?_ ?_ _ _) | omega | (simp; done) | (simp; omega))
            have rx_b0wE1 : RdRing wE1 (wX1.heap.size) (some ⟨gX_b0, 0, none⟩) b0d := by repeat' (first | with_reducible assumption | (with_reducible refine RdRing.drew ?_) | (with_reducible refine RdRing.carry ?_ (by with_reducible assumption) ?_) | (with_reducible refine RdRing.alloc ?_ ?_ _) | (with_reducible refine RdRing.setCell ?_ ?_ _) | omega | (simp; done) | (simp; omega))
            have at_bwE1 : AtL (wX1.heap.size) [.slice (some ⟨gX_b0, 0, none⟩) b0d.length b0d.length] wE1 := by repeat' (first | with_reducible assumption | with_reducible exact AtL.new _ _ _ | ((with_reducible refine AtL.newAt ?_); (first | rfl | (simp; done))) | (with_reducible refine AtL.drew ?_) | (with_reducible refine AtL.below ?_ (by with_reducible assumption)) | (with_reducible refine AtL.alloc ?_ _) | (with_reducible refine AtL.far ?_ ?_ _ _) | omega | (simp; done) | (simp; omega))
            have bp := bwE0.out
            have bn : Below w.heap.size w wE1 := by repeat' (first | with_reducible assumption | with_reducible exact Below.refl _ _ | (with_reducible refine Below.setCell ?_ ?_ _) | (with_reducible refine Below.alloc ?_ ?_ _) | (with_reducible refine Below.drew ?_) | (with_reducible refine below_dr ?_ _) | (with_reducible refine Below.trans ?_ (Below.mono (by with_reducible assumption) ?_)) | omega | (simp; done) | (simp; omega))
            have bwE1 := Lib.hid bn
            clear bn
            clear bp bwE0
            clear hbwE1
            clear bx_awE0
            clear rd_a0wE0
            clear bx_bwE0
            clear rd_b0wE0
            clear rx_a0wE0
            clear at_awE0
            clear rx_b0wE0
            clear at_bwE0
            go_wp2_with fail
            go_ret
            have bp := bwE1.out
            exact ⟨rfl, by repeat' (first | with_reducible assumption | with_reducible exact Below.refl _ _ | (with_reducible refine Below.setCell ?_ ?_ _) | (with_reducible refine Below.alloc ?_ ?_ _) | (with_reducible refine Below.drew ?_) | (with_reducible refine below_dr ?_ _) | (with_reducible refine Below.trans ?_ (Below.mono (by with_reducible assumption) ?_)) | omega | (simp; done) | (simp; omega))⟩
end Go.Proofs.Ytnlhofepobkljaa
