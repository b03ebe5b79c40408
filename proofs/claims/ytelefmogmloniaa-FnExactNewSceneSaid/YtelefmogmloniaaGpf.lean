/- Walks: the order in which parts come first, the program's side. -/
import Derived.Test.YtelefmogmloniaaGpc
import Derived.Test.YtelefmogmloniaaGl4
import Derived.Deep.RegionLaw
namespace Go.Proofs.Ytelefmogmloniaa
open Go.RowKit
set_option linter.unusedVariables false
def bArr (n : Nat) (out : List Int) : Array Value := ((List.range n).map fun j : Nat => Value.bool (decide ((j : Int) ∈ out))).toArray
theorem bArr_at {n : Nat} {out : List Int} {j : Nat} (h : j < n) : (bArr n out)[j]? = some (.bool (decide ((j : Int) ∈ out))) := by
  unfold bArr
  simp [h]
theorem bArr_set {n k : Nat} {out : List Int} (h : k < n) : (bArr n out).setIfInBounds k (.bool true) = bArr n (out ++ [(k : Int)]) := by
  apply Array.ext'
  apply List.ext_getElem?
  intro j
  unfold bArr
  simp only [List.setIfInBounds_toArray, List.toList_toArray]
  rw [List.getElem?_set]
  by_cases hjn : j < n
  · by_cases e : k = j
    · subst e
      simp [h]
    · rw [if_neg e]
      have e2 : ¬ (j : Int) = (k : Int) := by omega
      simp [hjn, e2]
  · have e : ¬ k = j := by omega
    rw [if_neg e]
    simp [hjn]
theorem bArr_made (n : Nat) : madeCells (Value.cells (.bool false)) (n * 1) = bArr n [] := by
  apply Array.ext'
  have h : Value.cells (.bool false) = #[.bool false] := rfl
  rw [h, toList_madeCells_one, Nat.mul_one]
  unfold bArr
  rw [List.toList_toArray]
  apply List.ext_getElem?
  intro j
  by_cases hj : j < n <;> simp [List.getElem?_replicate, hj]
theorem infoBool : (Try.prog.info? 4).map (fun i => (i.zero, i.size, i.bytes)) = some (some (.bool false), 1, 1) := by kernel_rfl
set_option maxHeartbeats 1600000 in
theorem upwards1_any (Bp P n : Nat) (out : List Int) (x y z : Int) (w : World) (b0 : Blk w Bp 183 #[.slice (some ⟨P, 0, none⟩) n n]) (bp : Blk w P 4 (bArr n out)) (h0 : 0 ≤ x) (hx : x < (n : Int)) :
    Calls Try.prog 155 #[.agg #[.int .i64 x, .int .i64 y, .int .i64 z], .pointer (some ⟨Bp, 0, none⟩)] w fun e w' => e = .returned (.bool (decide (x ∈ out))) ∧ Below w.heap.size w w' := by
  obtain ⟨j, rfl⟩ : ∃ j : Nat, x = (j : Int) := ⟨x.toNat, by omega⟩
  have c0 := b0.cell 0 rfl
  have c1 := bp.cell j (bArr_at (out := out) (show j < n by omega))
  have l0 := b0.lt
  have l1 := bp.lt
  clear b0 bp
  have C0 : w.cell? ⟨Bp, 0, none⟩ = some (.slice (some ⟨P, 0, none⟩) n n) := c0
  clear c0
  generalize decide ((j : Int) ∈ out) = v at c1 ⊢
  go_enter Try.func155, Try.ntmps155
  go_wp2_with fail
  go_ret
  exact ⟨rfl, by repeat' (first | with_reducible assumption | with_reducible exact Below.refl _ _ | (with_reducible refine Below.setCell ?_ ?_ _) | (with_reducible refine Below.alloc ?_ ?_ _) | (with_reducible refine Below.drew ?_) | (with_reducible refine below_dr ?_ _) | (with_reducible refine Below.trans ?_ (Below.mono (by with_reducible assumption) ?_)) | omega | (simp; done) | (simp; omega))⟩
set_option maxHeartbeats 1600000 in
theorem areAll1_placed (Bp : Nat) (x0 : Int) (x1 : Int) (x2 : Int) (p : DPart → Bool) (Bh : Nat) (w : World)  (b0 : w.cell? ⟨Bh, 0, none⟩ = some (.func (.func 155) #[] #[.pointer (some ⟨Bp, 0, none⟩)])) (hh : Bh < w.heap.size) (hC : ∀ (w1 : World), Below w.heap.size w w1 → Calls Try.prog 155 #[.agg #[.int .i64 x0, .int .i64 x1, .int .i64 x2], .pointer (some ⟨Bp, 0, none⟩)] w1 fun e w2 => e = .returned (.bool (p (x0, x1, x2))) ∧ Below w1.heap.size w1 w2) :
    Calls Try.prog 123 #[.agg #[.int .i64 x0, .int .i64 x1, .int .i64 x2], .pointer (some ⟨Bh, 0, none⟩)] w fun e w' => e = .returned (.bool (!(p (x0, x1, x2)))) ∧ Below w.heap.size w w' := by
  have N := Lib.hid hC
  clear hC
  generalize p (x0, x1, x2) = v at *
  go_enter Try.func123, Try.ntmps123
  go_wp2_with fail
  refine (N.out _ (by repeat' (first | with_reducible assumption | with_reducible exact Below.refl _ _ | (with_reducible refine Below.setCell ?_ ?_ _) | (with_reducible refine Below.alloc ?_ ?_ _) | (with_reducible refine Below.drew ?_) | (with_reducible refine below_dr ?_ _) | (with_reducible refine Below.trans ?_ (Below.mono (by with_reducible assumption) ?_)) | omega | (simp; done) | (simp; omega)))).mono ?_
  rintro e w1 ⟨rfl, hb1⟩
  go_wp2_with fail
  go_ret
  exact ⟨rfl, by repeat' (first | with_reducible assumption | with_reducible exact Below.refl _ _ | (with_reducible refine Below.setCell ?_ ?_ _) | (with_reducible refine Below.alloc ?_ ?_ _) | (with_reducible refine Below.drew ?_) | (with_reducible refine below_dr ?_ _) | (with_reducible refine Below.trans ?_ (Below.mono (by with_reducible assumption) ?_)) | omega | (simp; done) | (simp; omega))⟩
set_option maxHeartbeats 3200000 in
theorem indexFunc_placed (Bp : Nat) (l : List DPart) (A : Option Addr) (c : Nat) (p : DPart → Bool) (Bh : Nat) (w : World) (hl : l.length ≤ 1048576) (r : Row RvPart 3 w w.heap.size A l) (b0 : w.cell? ⟨Bh, 0, none⟩ = some (.func (.func 155) #[] #[.pointer (some ⟨Bp, 0, none⟩)])) (hh : Bh < w.heap.size) (hC : ∀ (w1 : World), Below w.heap.size w w1 → ∀ (k : Nat) (x0 : Int) (x1 : Int) (x2 : Int), l[k]? = some (x0, x1, x2) → Calls Try.prog 155 #[.agg #[.int .i64 x0, .int .i64 x1, .int .i64 x2], .pointer (some ⟨Bp, 0, none⟩)] w1 fun e w2 => e = .returned (.bool (p (x0, x1, x2))) ∧ Below w1.heap.size w1 w2) :
    Calls Try.prog 157 #[.slice A l.length c, .func (.func 123) #[] #[.pointer (some ⟨Bh, 0, none⟩)]] w fun e w' => (∃ i : Int, e = .returned (.int .i64 i) ∧ decide (0 ≤ i) = !(l.all p)) ∧ Below w.heap.size w w' := by
  have N := Lib.hid hC
  clear hC
  have RA := Lib.hid r
  have B0 := Lib.hid b0
  clear r b0
  obtain ⟨n, hn⟩ : ∃ n, n = l.length := ⟨_, rfl⟩
  rw [← hn] at hl ⊢
  have HN := Lib.hid hn
  clear hn
  go_enter Try.func157, Try.ntmps157
  go_wp2
  go_loopw [5, 8] (fun u i wr => ∃ k : Nat, k ≤ n ∧ i = .int .i64 k ∧ alU p l k ∧ Below w.heap.size w wr) (fun u i _ => n - (intOf i).toNat)
  case atStart => exact ⟨0, Nat.zero_le _, rfl, alU_zero, Below.refl _ _⟩
  case round =>
    obtain ⟨k, hk, rfl, hyes, hbl⟩ := hrel
    have HY := Lib.hid hyes
    clear hyes
    have hzw := hbl.size
    by_cases hlt : k < n
    case pos =>
      obtain ⟨⟨x0, x1, x2⟩, ha⟩ : ∃ a, l[k]? = some a := ⟨l[k]'(by have := HN.out; omega), List.getElem?_eq_getElem (by have := HN.out; omega)⟩
      obtain ⟨g, o, rowc, rfl, hg, hRc, hcc⟩ := (Row.carry (w' := wr) RA.out hbl (Nat.le_refl _)).elem ha
      obtain rfl := hRc
      have c0 : wr.cell? ⟨g, o + k * 3, none⟩ = some (.int .i64 x0) := hcc 0 _ rfl
      have c1 : wr.cell? ⟨g, o + k * 3 + 1, none⟩ = some (.int .i64 x1) := hcc 1 _ rfl
      have c2 : wr.cell? ⟨g, o + k * 3 + 2, none⟩ = some (.int .i64 x2) := hcc 2 _ rfl
      clear hcc
      have HA := Lib.hid ha
      clear ha
      have hgw : g < wr.heap.size := by omega
      have hki : (k : Int) < (n : Int) := by omega
      have CC := areAll1_placed Bp x0 x1 x2 p Bh wr  ((hbl.cell (p := ⟨Bh, 0, none⟩) hh).trans B0.out) (by omega) (fun w1 hb1  => N.out w1 (by repeat' (first | with_reducible assumption | with_reducible exact Below.refl _ _ | (with_reducible refine Below.setCell ?_ ?_ _) | (with_reducible refine Below.alloc ?_ ?_ _) | (with_reducible refine Below.drew ?_) | (with_reducible refine below_dr ?_ _) | (with_reducible refine Below.trans ?_ (Below.mono (by with_reducible assumption) ?_)) | omega | (simp; done) | (simp; omega))) k x0 x1 x2 HA.out )
      rcases hv : p (x0, x1, x2) with _ | _
      case false =>
        have HV := Lib.hid hv
        rw [hv] at CC
        have C := Lib.hid CC
        clear hv CC
        go_wp2_with fail
        refine C.out.mono ?_
        rintro e w1 ⟨rfl, hb1⟩
        go_wp2
        go_ret
        exact ⟨⟨_, rfl, by rw [all_no HA.out HV.out]; simp⟩, by repeat' (first | with_reducible assumption | with_reducible exact Below.refl _ _ | (with_reducible refine Below.setCell ?_ ?_ _) | (with_reducible refine Below.alloc ?_ ?_ _) | (with_reducible refine Below.drew ?_) | (with_reducible refine below_dr ?_ _) | (with_reducible refine Below.trans ?_ (Below.mono (by with_reducible assumption) ?_)) | omega | (simp; done) | (simp; omega))⟩
      case true =>
        have HV := Lib.hid hv
        rw [hv] at CC
        have C := Lib.hid CC
        clear hv CC
        go_wp2_with fail
        refine C.out.mono ?_
        rintro e w1 ⟨rfl, hb1⟩
        go_wp2
        go_roundw
        case rel => exact ⟨k + 1, by omega, by go_num, alU_succ HY.out HA.out HV.out, by repeat' (first | with_reducible assumption | with_reducible exact Below.refl _ _ | (with_reducible refine Below.setCell ?_ ?_ _) | (with_reducible refine Below.alloc ?_ ?_ _) | (with_reducible refine Below.drew ?_) | (with_reducible refine below_dr ?_ _) | (with_reducible refine Below.trans ?_ (Below.mono (by with_reducible assumption) ?_)) | omega | (simp; done) | (simp; omega))⟩
        case measure => simp [intOf]; omega
    case neg =>
      obtain rfl : k = n := by omega
      go_wp2
      go_ret
      exact ⟨⟨_, rfl, by rw [all_yes (by rw [← HN.out]; exact HY.out)]; rfl⟩, hbl⟩
set_option maxHeartbeats 1600000 in
theorem containsFunc_placed (Bp : Nat) (l : List DPart) (A : Option Addr) (c : Nat) (p : DPart → Bool) (Bh : Nat) (w : World) (hl : l.length ≤ 1048576) (r : Row RvPart 3 w w.heap.size A l) (b0 : w.cell? ⟨Bh, 0, none⟩ = some (.func (.func 155) #[] #[.pointer (some ⟨Bp, 0, none⟩)])) (hh : Bh < w.heap.size) (hC : ∀ (w1 : World), Below w.heap.size w w1 → ∀ (k : Nat) (x0 : Int) (x1 : Int) (x2 : Int), l[k]? = some (x0, x1, x2) → Calls Try.prog 155 #[.agg #[.int .i64 x0, .int .i64 x1, .int .i64 x2], .pointer (some ⟨Bp, 0, none⟩)] w1 fun e w2 => e = .returned (.bool (p (x0, x1, x2))) ∧ Below w1.heap.size w1 w2) :
    Calls Try.prog 103 #[.slice A l.length c, .func (.func 123) #[] #[.pointer (some ⟨Bh, 0, none⟩)]] w fun e w' => e = .returned (.bool (!(l.all p))) ∧ Below w.heap.size w w' := by
  have N := Lib.hid (indexFunc_placed Bp l A c p Bh w hl r b0 hh hC)
  clear hC b0 r hl
  generalize l.length = n at *
  generalize l.all p = v at *
  go_enter Try.func103, Try.ntmps103
  go_wp2_with fail
  refine N.out.mono ?_
  rintro e w1 ⟨⟨i, rfl, hi⟩, hb1⟩
  go_wp2
  go_ret
  exact ⟨rfl, hb1⟩
set_option maxHeartbeats 1600000 in
theorem areAll_placed (Bp : Nat) (l : List DPart) (A : Option Addr) (c : Nat) (p : DPart → Bool) (w : World) (hl : l.length ≤ 1048576) (r : Row RvPart 3 w w.heap.size A l) (hC : ∀ (w1 : World), Below w.heap.size w w1 → ∀ (k : Nat) (x0 : Int) (x1 : Int) (x2 : Int), l[k]? = some (x0, x1, x2) → Calls Try.prog 155 #[.agg #[.int .i64 x0, .int .i64 x1, .int .i64 x2], .pointer (some ⟨Bp, 0, none⟩)] w1 fun e w2 => e = .returned (.bool (p (x0, x1, x2))) ∧ Below w1.heap.size w1 w2) :
    Calls Try.prog 55 #[.slice A l.length c, .func (.func 155) #[] #[.pointer (some ⟨Bp, 0, none⟩)]] w fun e w' => e = .returned (.bool (l.all p)) ∧ Below w.heap.size w w' := by
  have N := Lib.hid (fun (w' : World) (hb : Below w.heap.size w w') r b0 hh => containsFunc_placed Bp l A c p w.heap.size w' hl r b0 hh (fun w1 h1 => hC w1 (hb.trans (Below.mono h1 hb.size))))
  clear hC
  have RA := Lib.hid r
  clear r hl
  generalize l.length = n at *
  generalize l.all p = v at *
  go_enter Try.func55, Try.ntmps55
  go_wp2_with fail
  refine (N.out _ (by repeat' (first | with_reducible assumption | with_reducible exact Below.refl _ _ | (with_reducible refine Below.setCell ?_ ?_ _) | (with_reducible refine Below.alloc ?_ ?_ _) | (with_reducible refine Below.drew ?_) | (with_reducible refine below_dr ?_ _) | (with_reducible refine Below.trans ?_ (Below.mono (by with_reducible assumption) ?_)) | omega | (simp; done) | (simp; omega))) ((RA.out.alloc (Nat.le_refl _) _).more (by simp)) (by simp [go_sem]) (by simp)).mono ?_
  rintro e w1 ⟨rfl, hb1⟩
  go_wp2
  go_ret
  exact ⟨by simp, by repeat' (first | with_reducible assumption | with_reducible exact Below.refl _ _ | (with_reducible refine Below.setCell ?_ ?_ _) | (with_reducible refine Below.alloc ?_ ?_ _) | (with_reducible refine Below.drew ?_) | (with_reducible refine below_dr ?_ _) | (with_reducible refine Below.trans ?_ (Below.mono (by with_reducible assumption) ?_)) | omega | (simp; done) | (simp; omega))⟩
theorem allPlaced_any (Bp P n : Nat) (out : List Int) (l : List DPart) (A : Option Addr) (c : Nat) (w : World) (hl : l.length ≤ 1048576) (hp : ∀ (k : Nat) (a : DPart), l[k]? = some a → 0 ≤ a.1 ∧ a.1 < (n : Int)) (b0 : Blk w Bp 183 #[.slice (some ⟨P, 0, none⟩) n n]) (bp : Blk w P 4 (bArr n out)) (r : Row RvPart 3 w w.heap.size A l) :
    Calls Try.prog 55 #[.slice A l.length c, .func (.func 155) #[] #[.pointer (some ⟨Bp, 0, none⟩)]] w fun e w' => e = .returned (.bool (l.all fun a : DPart => decide (a.1 ∈ out))) ∧ Below w.heap.size w w' :=
  areAll_placed Bp l A c (fun a : DPart => decide (a.1 ∈ out)) w hl r (fun w1 hb k x y z hk => upwards1_any Bp P n out x y z w1 (b0.carry hb) (bp.carry hb) (hp k _ hk).1 (hp k _ hk).2)
theorem all_in {out : List Int} {l : List DPart} : (l.all fun a : DPart => decide (a.1 ∈ out)) = decide (∀ g ∈ l.map (fun a : DPart => a.1), g ∈ out) := by
  by_cases h : ∀ g ∈ l.map (fun a : DPart => a.1), g ∈ out
  · rw [decide_eq_true h, List.all_eq_true]
    intro a ha
    rw [decide_eq_true_eq]
    exact h _ (List.mem_map.2 ⟨a, ha, rfl⟩)
  · rw [decide_eq_false h, Bool.eq_false_iff]
    intro h2
    apply h
    intro g hg
    obtain ⟨a, ha, rfl⟩ := List.mem_map.1 hg
    have := List.all_eq_true.1 h2 a ha
    simpa using this
set_option maxRecDepth 100000 in
set_option maxHeartbeats 12800000 in
theorem upwards_any (u : Int) (l : List DGlyph) (A : Option Addr) (c : Nat) (w : World) (hl : l.length ≤ 40) (ht : totRow totGlyph l ≤ 1048576) (hp : ∀ (i : Nat) (d : DGlyph), l[i]? = some d → ∀ (k : Nat) (a : DPart), d.2.2.2.2.1[k]? = some a → 0 ≤ a.1 ∧ a.1 < (l.length : Int)) (r : Row RvGlyph 7 w w.heap.size A l) :
    Calls Try.prog 94 #[.agg #[.int .i64 u, .slice A l.length c]] w fun e w' => ∃ A' c', e = .returned (.slice A' (ordL (psOf l)).length c') ∧ OwI 3 w' w.heap.size A' (ordL (psOf l)).length c' (ordL (psOf l)) ∧ Below w.heap.size w w' := by
  obtain ⟨n, hn⟩ : ∃ n, n = l.length := ⟨_, rfl⟩
  obtain ⟨ps, hps⟩ : ∃ ps, ps = psOf l := ⟨_, rfl⟩
  have hpn : ps.length = n := by rw [hps, psOf_len, hn]
  have HI := Lib.hid (glyphs_le ht)
  have HPG := Lib.hid (show ∀ (k : Nat) (d : DGlyph), l[k]? = some d → ps.getD k [] = pG d from fun k d h => by rw [hps]; exact psOf_pG h)
  rw [← hn] at hp
  have HP := Lib.hid hp
  clear hp
  rw [← hps]
  rw [← hn] at hl ⊢
  have HN := Lib.hid hn
  have HPN := Lib.hid hpn
  clear hn hps hpn ht
  obtain ⟨i0, hi0, hz0', hz1', hz2'⟩ := oinfo_parts infoInt
  have HI0 := Lib.hid hi0
  have HZ00 := Lib.hid hz0'
  have HZ10 := Lib.hid hz1'
  have HZ20 := Lib.hid hz2'
  clear hi0 hz0' hz1' hz2'
  obtain ⟨j0, hj0, hy0', hy1', hy2'⟩ := oinfo_parts infoBool
  have hmk := fun W => run_make_rowN (P := Try.prog) 183 4 j0 _ Try.underlying183 hj0 hy0' .i64 .i64 n n (Nat.le_refl _) (by rw [hy2']; omega) (by omega) W
  rw [hy1', bArr_made] at hmk
  clear hj0 hy0' hy1' hy2'
  go_enter Try.func94, Try.ntmps94
  go_wp2_with fail
  clear hmk
  obtain ⟨P0, hP0⟩ : ∃ P, P = w.heap.size := ⟨_, rfl⟩
  generalize hW : ((w.alloc (.cells #[.int .i64 u, .slice A n c] 49)).alloc (.cells (bArr n []) 4)).alloc (.cells #[.slice (some ⟨w.heap.size + 1, 0, none⟩) n n] 183) = W0
  have k0 : Blk W0 w.heap.size 49 #[.int .i64 u, .slice A n c] := by rw [← hW]; exact ((Blk.new _ _ _).alloc _).alloc _
  have k1 : Blk W0 (w.heap.size + 1) 4 (bArr n (oIt ps 0)) := by rw [← hW]; exact (Blk.newAt _ _ _ (by simp)).alloc _
  have k2 : Blk W0 (w.heap.size + 1 + 1) 183 #[.slice (some ⟨w.heap.size + 1, 0, none⟩) n n] := by rw [← hW]; exact Blk.newAt _ _ _ (by simp)
  have hb0 : Below w.heap.size w W0 := by rw [← hW]; repeat' (first | with_reducible assumption | with_reducible exact Below.refl _ _ | (with_reducible refine Below.setCell ?_ ?_ _) | (with_reducible refine Below.alloc ?_ ?_ _) | (with_reducible refine Below.drew ?_) | (with_reducible refine below_dr ?_ _) | (with_reducible refine Below.trans ?_ (Below.mono (by with_reducible assumption) ?_)) | omega | (simp; done) | (simp; omega))
  have ow0 : OwI 3 W0 (w.heap.size + 1 + 1 + 1) none 0 0 (oIt ps 0) := OwI.nil _ _
  clear hW hP0 P0
  have v0 : W0.cell? ⟨w.heap.size, 1, none⟩ = some (.slice A n c) := k0.cell 1 rfl
  go_loopw [3, 14] (fun s i wr => ∃ (q N : Nat) (A' : Option Addr) (c' : Nat), q ≤ n ∧ i = .int .i64 q ∧ N = (oIt ps q).length ∧ s = .slice A' N c' ∧ OwI 3 wr (w.heap.size + 1 + 1 + 1) A' N c' (oIt ps q) ∧ Blk wr w.heap.size 49 #[.int .i64 u, .slice A n c] ∧ Blk wr (w.heap.size + 1) 4 (bArr n (oIt ps q)) ∧ Blk wr (w.heap.size + 1 + 1) 183 #[.slice (some ⟨w.heap.size + 1, 0, none⟩) n n] ∧ Below w.heap.size w wr) (fun _ i _ => n - (intOf i).toNat)
  case atStart => exact ⟨0, 0, _, _, Nat.zero_le _, rfl, rfl, rfl, ow0, k0, k1, k2, hb0⟩
  case round =>
    clear k0 k1 k2 hb0 ow0 v0
    obtain ⟨q, N, A', c', hq, rfl, hN, rfl, owr, b0, b1, b2, hbl⟩ := hrel
    have HNN := Lib.hid hN
    clear hN
    by_cases hqn : q < n
    case neg =>
      obtain rfl : n = q := by omega
      have HO := Lib.hid (show oIt ps n = ordL ps by unfold ordL; rw [HPN.out])
      have owz := owr.base_ (base' := w.heap.size) (by omega)
      rw [HO.out] at owz
      have HL := Lib.hid (show N = (ordL ps).length by rw [HNN.out, HO.out])
      go_wp2_with fail
      go_ret
      exact ⟨A', c', by rw [← HL.out]; rfl, by rw [← HL.out]; exact owz, hbl⟩
    case pos =>
      have hqi : (q : Int) < (n : Int) := by omega
      have v0 : wr.cell? ⟨w.heap.size, 1, none⟩ = some (.slice A n c) := b0.cell 1 rfl
      have v2 : wr.cell? ⟨w.heap.size + 1 + 1, 0, none⟩ = some (.slice (some ⟨w.heap.size + 1, 0, none⟩) n n) := b2.cell 0 rfl
      have HOW := Lib.hid owr
      have HB0 := Lib.hid b0
      have HB1 := Lib.hid b1
      have HB2 := Lib.hid b2
      clear owr b0 b1 b2
      have zr := hbl.size
      go_wp2_with fail
      clear v0 v2
      go_loopw [3, 19] (fun s i wr => ∃ (k N2 : Nat) (A' : Option Addr) (c' : Nat), k ≤ n ∧ i = .int .i64 k ∧ N2 = (oUp ps (oIt ps q) k).length ∧ s = .slice A' N2 c' ∧ OwI 3 wr (w.heap.size + 1 + 1 + 1) A' N2 c' (oUp ps (oIt ps q) k) ∧ Blk wr w.heap.size 49 #[.int .i64 u, .slice A n c] ∧ Blk wr (w.heap.size + 1) 4 (bArr n (oUp ps (oIt ps q) k)) ∧ Blk wr (w.heap.size + 1 + 1) 183 #[.slice (some ⟨w.heap.size + 1, 0, none⟩) n n] ∧ Below w.heap.size w wr) (fun _ i _ => n - (intOf i).toNat)
      case atStart => exact ⟨0, N, _, _, Nat.zero_le _, rfl, HNN.out, rfl, HOW.out, HB0.out, HB1.out, HB2.out, hbl⟩
      case round =>
        clear HOW HB0 HB1 HB2
        obtain ⟨k, N2, B', d', hk, rfl, hN2, rfl, ow2, b0, b1, b2, hb2⟩ := hrel
        have h2n : N2 ≤ n := by rw [hN2, ← HPN.out]; exact ((Oinv.it q).up (by rw [HPN.out]; exact hk)).len
        have HN2 := Lib.hid hN2
        clear hN2
        have z2 := hb2.size
        by_cases hlt : k < n
        case neg =>
          obtain rfl : n = k := by omega
          have HE := Lib.hid (show oUp ps (oIt ps q) n = oIt ps (q + 1) by show _ = oUp ps (oIt ps q) ps.length; rw [HPN.out])
          rw [HE.out] at ow2 b1
          go_wp2_with fail
          go_roundw
          case rel => exact ⟨q + 1, N2, B', d', by omega, by go_num, by rw [HN2.out, HE.out], rfl, ow2, b0, b1, b2, hb2⟩
          case measure => simp [intOf]; omega
        case pos =>
          have v0 : wr.cell? ⟨w.heap.size, 1, none⟩ = some (.slice A n c) := b0.cell 1 rfl
          have v2 : wr.cell? ⟨w.heap.size + 1 + 1, 0, none⟩ = some (.slice (some ⟨w.heap.size + 1, 0, none⟩) n n) := b2.cell 0 rfl
          obtain ⟨⟨x0, x1, x2, x3l, x4l, x5l, x6⟩, ha⟩ : ∃ a, l[k]? = some a := ⟨l[k]'(by have := HN.out; omega), List.getElem?_eq_getElem (by have := HN.out; omega)⟩
          obtain ⟨g, o, rowc, rfl, hg, hRc, hcc⟩ := (Row.carry (w' := wr) r hb2 (Nat.le_refl _)).elem ha
          obtain ⟨x3A, x3c, x4A, x4c, x5A, x5c, rfl, u_x3, u_x4, u_x5⟩ := hRc
          have c0 : wr.cell? ⟨g, o + k * 7, none⟩ = some (.string x0) := hcc 0 _ rfl
          have c1 : wr.cell? ⟨g, o + k * 7 + 1, none⟩ = some (.int .i64 x1) := hcc 1 _ rfl
          have c2 : wr.cell? ⟨g, o + k * 7 + 2, none⟩ = some (.int .i64 x2) := hcc 2 _ rfl
          have c3 : wr.cell? ⟨g, o + k * 7 + 3, none⟩ = some (.slice x3A x3l.length x3c) := hcc 3 _ rfl
          have c4 : wr.cell? ⟨g, o + k * 7 + 4, none⟩ = some (.slice x4A x4l.length x4c) := hcc 4 _ rfl
          have c5 : wr.cell? ⟨g, o + k * 7 + 5, none⟩ = some (.slice x5A x5l.length x5c) := hcc 5 _ rfl
          have c6 : wr.cell? ⟨g, o + k * 7 + 6, none⟩ = some (.string x6) := hcc 6 _ rfl
          clear hcc
          have HA := Lib.hid ha
          have hti := HI.out k _ ha
          have h4 : x4l.length ≤ 1048576 := by have := totRow_len totPart x4l; simp only [totGlyph] at hti; omega
          have hpk := HP.out k _ ha
          clear ha hti u_x3 u_x5
          have hgw : g < wr.heap.size := by omega
          have hki : (k : Int) < (n : Int) := by omega
          have v1 : wr.cell? ⟨w.heap.size + 1, k, none⟩ = some (.bool (decide ((k : Int) ∈ oUp ps (oIt ps q) k))) := b1.cell k (bArr_at hlt)
          have lb2 := b2.lt
          have lb1 := b1.lt
          have lb0 := b0.lt
          by_cases hin : (k : Int) ∈ oUp ps (oIt ps q) k
          case pos =>
            rw [decide_eq_true hin] at v1
            have HE := Lib.hid (oStep_in (ps := ps) hin)
            clear hin
            go_wp2_with fail
            go_roundw
            case rel => exact ⟨k + 1, N2, B', d', by omega, by go_num, by rw [oUp_succ, HE.out, ← HN2.out], rfl, by rw [oUp_succ, HE.out]; exact OwI.alloc ow2 _, b0.alloc _, by rw [oUp_succ, HE.out]; exact b1.alloc _, b2.alloc _, by repeat' (first | with_reducible assumption | with_reducible exact Below.refl _ _ | (with_reducible refine Below.setCell ?_ ?_ _) | (with_reducible refine Below.alloc ?_ ?_ _) | (with_reducible refine Below.drew ?_) | (with_reducible refine below_dr ?_ _) | (with_reducible refine Below.trans ?_ (Below.mono (by with_reducible assumption) ?_)) | omega | (simp; done) | (simp; omega))⟩
            case measure => simp [intOf]; omega
          case neg =>
            rw [decide_eq_false hin] at v1
            have HNI := Lib.hid hin
            clear hin
            have CP := Lib.hid (fun (w1 : World) (z0 : Blk w1 (w.heap.size + 1 + 1) 183 #[.slice (some ⟨w.heap.size + 1, 0, none⟩) n n]) (z1 : Blk w1 (w.heap.size + 1) 4 (bArr n (oUp ps (oIt ps q) k))) r => allPlaced_any (w.heap.size + 1 + 1) (w.heap.size + 1) n (oUp ps (oIt ps q) k) x4l x4A x4c w1 h4 hpk z0 z1 r)
            have HAI := Lib.hid (all_in (out := oUp ps (oIt ps q) k) (l := x4l))
            have HB0 := Lib.hid b0
            have HB1 := Lib.hid b1
            have HB2 := Lib.hid b2
            have HOW2 := Lib.hid ow2
            clear b0 b1 b2 ow2 hpk
            rcases hv : (x4l.all fun a : DPart => decide (a.1 ∈ oUp ps (oIt ps q) k)) with _ | _
            case false =>
              simp only [hv] at CP
              have HE := Lib.hid (oStep_no (ps := ps) (i := k) (out := oUp ps (oIt ps q) k) (by rw [HPG.out k _ HA.out]; have h := HAI.out; rw [hv] at h; exact decide_eq_false_iff_not.1 h.symm))
              clear hv
              go_wp2_with fail
              refine (CP.out _ (HB2.out.alloc _) (HB1.out.alloc _) ?_).mono ?_
              · exact (Row.alloc u_x4 (by omega) _).more (by simp; omega)
              rintro e wA ⟨rfl, hbA⟩
              have b0A := (HB0.out.alloc (.cells #[.string x0, .int .i64 x1, .int .i64 x2, .slice x3A x3l.length x3c, .slice x4A x4l.length x4c, .slice x5A x5l.length x5c, .string x6] 37)).carry hbA
              have b1A := (HB1.out.alloc (.cells #[.string x0, .int .i64 x1, .int .i64 x2, .slice x3A x3l.length x3c, .slice x4A x4l.length x4c, .slice x5A x5l.length x5c, .string x6] 37)).carry hbA
              have b2A := (HB2.out.alloc (.cells #[.string x0, .int .i64 x1, .int .i64 x2, .slice x3A x3l.length x3c, .slice x4A x4l.length x4c, .slice x5A x5l.length x5c, .string x6] 37)).carry hbA
              have owA := (OwI.alloc HOW2.out (.cells #[.string x0, .int .i64 x1, .int .i64 x2, .slice x3A x3l.length x3c, .slice x4A x4l.length x4c, .slice x5A x5l.length x5c, .string x6] 37)).stays hbA
              have gA : Below w.heap.size w wA := by repeat' (first | with_reducible assumption | with_reducible exact Below.refl _ _ | (with_reducible refine Below.setCell ?_ ?_ _) | (with_reducible refine Below.alloc ?_ ?_ _) | (with_reducible refine Below.drew ?_) | (with_reducible refine below_dr ?_ _) | (with_reducible refine Below.trans ?_ (Below.mono (by with_reducible assumption) ?_)) | omega | (simp; done) | (simp; omega))
              have zA := gA.size
              clear hbA
              go_wp2_with fail
              go_roundw
              case rel => exact ⟨k + 1, N2, B', d', by omega, by go_num, by rw [oUp_succ, HE.out, ← HN2.out], rfl, by rw [oUp_succ, HE.out]; exact owA, b0A, by rw [oUp_succ, HE.out]; exact b1A, b2A, gA⟩
              case measure => simp [intOf]; omega
            case true =>
              simp only [hv] at CP
              have HE := Lib.hid (oStep_yes (ps := ps) (i := k) HNI.out (by rw [HPG.out k _ HA.out]; have h := HAI.out; rw [hv] at h; exact decide_eq_true_iff.1 h.symm))
              clear hv
              go_wp2_with fail
              refine (CP.out _ (HB2.out.alloc _) (HB1.out.alloc _) ?_).mono ?_
              · exact (Row.alloc u_x4 (by omega) _).more (by simp; omega)
              rintro e wA ⟨rfl, hbA⟩
              have b0A := (HB0.out.alloc (.cells #[.string x0, .int .i64 x1, .int .i64 x2, .slice x3A x3l.length x3c, .slice x4A x4l.length x4c, .slice x5A x5l.length x5c, .string x6] 37)).carry hbA
              have b1A := (HB1.out.alloc (.cells #[.string x0, .int .i64 x1, .int .i64 x2, .slice x3A x3l.length x3c, .slice x4A x4l.length x4c, .slice x5A x5l.length x5c, .string x6] 37)).carry hbA
              have b2A := (HB2.out.alloc (.cells #[.string x0, .int .i64 x1, .int .i64 x2, .slice x3A x3l.length x3c, .slice x4A x4l.length x4c, .slice x5A x5l.length x5c, .string x6] 37)).carry hbA
              have owA := (OwI.alloc HOW2.out (.cells #[.string x0, .int .i64 x1, .int .i64 x2, .slice x3A x3l.length x3c, .slice x4A x4l.length x4c, .slice x5A x5l.length x5c, .string x6] 37)).stays hbA
              have gA : Below w.heap.size w wA := by repeat' (first | with_reducible assumption | with_reducible exact Below.refl _ _ | (with_reducible refine Below.setCell ?_ ?_ _) | (with_reducible refine Below.alloc ?_ ?_ _) | (with_reducible refine Below.drew ?_) | (with_reducible refine below_dr ?_ _) | (with_reducible refine Below.trans ?_ (Below.mono (by with_reducible assumption) ?_)) | omega | (simp; done) | (simp; omega))
              have zA := gA.size
              clear hbA
              have lA := b2A.lt
              have lA1 := b1A.lt
              have vA2 : wA.cell? ⟨w.heap.size + 1 + 1, 0, none⟩ = some (.slice (some ⟨w.heap.size + 1, 0, none⟩) n n) := b2A.cell 0 rfl
              have vA3 : ∀ o1, (wA.alloc o1).cell? ⟨w.heap.size + 1 + 1, 0, none⟩ = some (.slice (some ⟨w.heap.size + 1, 0, none⟩) n n) := fun o1 => (b2A.alloc o1).cell 0 rfl
              have vB : wA.cell? ⟨w.heap.size + 1, k, none⟩ = some (.bool (decide ((k : Int) ∈ oUp ps (oIt ps q) k))) := b1A.cell k (bArr_at hlt)
              have vF := b1A.frozen k
              have HMX := Lib.hid (show N2 + 1 ≤ maxLen by unfold maxLen; omega)
              have HBY := Lib.hid (show (N2 + 1) * 8 ≤ 140737488355328 by omega)
              have HRD := Lib.hid (show Reads (wA.drew.alloc (.cells #[.int .i64 (k : Int)] 3)) (wA.heap.size + 1) 1 (some ⟨wA.heap.size, 0, none⟩) 1 [.int .i64 (k : Int)] by have := ireads_new wA.drew (k : Int) 3; simpa using this)
              have HOW9 := Lib.hid (show (wA.drew.alloc (.cells #[.int .i64 (k : Int)] 3)).ownsRow (w.heap.size + 1 + 1 + 1) 3 1 (.slice B' N2 d') N2 _ from ((OwI.drew owA).alloc _).2)
              have HRB := Lib.hid owA.block
              have HBS := Lib.hid (show w.heap.size + 1 + 1 + 1 ≤ (wA.drew.alloc (.cells #[.int .i64 (k : Int)] 3)).heap.size by simp; omega)
              have HGA := Lib.hid (show Below w.heap.size w (wA.drew.alloc (.cells #[.int .i64 (k : Int)] 3)) from (Below.drew gA).alloc zA _)
              have HA0 := Lib.hid (show Blk (wA.drew.alloc (.cells #[.int .i64 (k : Int)] 3)) w.heap.size _ _ from b0A.drew.alloc _)
              have HA1 := Lib.hid (show Blk (wA.drew.alloc (.cells #[.int .i64 (k : Int)] 3)) (w.heap.size + 1) _ _ from b1A.drew.alloc _)
              have HA2 := Lib.hid (show Blk (wA.drew.alloc (.cells #[.int .i64 (k : Int)] 3)) (w.heap.size + 1 + 1) _ _ from b2A.drew.alloc _)
              clear b0A b1A b2A owA
              have vA4 : ∀ o1, (wA.drew.alloc o1).cell? ⟨w.heap.size + 1 + 1, 0, none⟩ = some (.slice (some ⟨w.heap.size + 1, 0, none⟩) n n) := fun o1 => vA3 o1
              have FIN : ∀ (w9 : World) (g9 cap9 : Nat), w9.ownsRow (w.heap.size + 1 + 1 + 1) 3 1 (.slice (some ⟨g9, 0, none⟩) (N2 + 1) cap9) (N2 + 1) (cellsF cInt (oUp ps (oIt ps q) k) ++ cellsF cInt [(k : Int)]) → (wA.drew.alloc (.cells #[.int .i64 (k : Int)] 3)).grownBy w9 (Value.slice B' N2 d').ownBlock → OwI 3 (w9.setCell ⟨w.heap.size + 1, k, none⟩ (.bool true)) (w.heap.size + 1 + 1 + 1) (some ⟨g9, 0, none⟩) (N2 + 1) cap9 (oUp ps (oIt ps q) k ++ [(k : Int)]) ∧ Blk (w9.setCell ⟨w.heap.size + 1, k, none⟩ (.bool true)) w.heap.size 49 #[.int .i64 u, .slice (some ⟨g, o, none⟩) n c] ∧ Blk (w9.setCell ⟨w.heap.size + 1, k, none⟩ (.bool true)) (w.heap.size + 1) 4 (bArr n (oUp ps (oIt ps q) k ++ [(k : Int)])) ∧ Blk (w9.setCell ⟨w.heap.size + 1, k, none⟩ (.bool true)) (w.heap.size + 1 + 1) 183 #[.slice (some ⟨w.heap.size + 1, 0, none⟩) n n] ∧ Below w.heap.size w (w9.setCell ⟨w.heap.size + 1, k, none⟩ (.bool true)) := by
                intro w9 g9 cap9 h9 hg9
                have ow9 : OwI 3 w9 (w.heap.size + 1 + 1 + 1) (some ⟨g9, 0, none⟩) (N2 + 1) cap9 (oUp ps (oIt ps q) k ++ [(k : Int)]) := OwI.grown (by have := HN2.out; simp only [List.length_cons, List.length_nil]; omega) h9
                have hne : ∀ q, (Value.slice B' N2 d').ownBlock = some q → w.heap.size + 1 + 1 + 1 ≤ q := fun q hq => (HRB.out q hq).1
                refine ⟨⟨ow9.1, own_keep ow9.2 (fun q hq => by have := ow9.block q hq; simp only; omega) _⟩, Blk.far (HA0.out.grown hg9 (fun q hq => by have := hne q hq; omega)) (by simp only; omega) _, ?_, Blk.far (HA2.out.grown hg9 (fun q hq => by have := hne q hq; omega)) (by simp only; omega) _, (below_of_grown HGA.out hg9 (by have := HBS.out; omega) (fun q hq => by have := hne q hq; omega)).setCell (by simp only; omega) _⟩
                rw [← bArr_set hlt]
                exact (HA1.out.grown hg9 (fun q hq => by have := hne q hq; omega)).set_ k _
              have HFIN := Lib.hid FIN
              clear FIN
              have HC9 := Lib.hid (fun (w9 : World) (hg9 : (wA.drew.alloc (.cells #[.int .i64 (k : Int)] 3)).grownBy w9 (Value.slice B' N2 d').ownBlock) => (HA1.out.grown hg9 (fun q hq => by have := (HRB.out q hq).1; omega)))
              have HD9 := Lib.hid (fun (w9 : World) (hg9 : (wA.drew.alloc (.cells #[.int .i64 (k : Int)] 3)).grownBy w9 (Value.slice B' N2 d').ownBlock) => (HA2.out.grown hg9 (fun q hq => by have := (HRB.out q hq).1; omega)))
              go_wp2_with fail
              go_region_law (refine step_append_any _ rfl (.tmp 37) (.tmp 39) _ rfl (w.heap.size + 1 + 1 + 1) 3 i0 _ 1 8 Try.underlying127 HI0.out HZ00.out HZ10.out HZ20.out rfl (by omega) (.slice B' N2 d') N2 _ rfl HOW9.out (wA.heap.size + 1) (some ⟨wA.heap.size, 0, none⟩) 1 1 [.int .i64 (k : Int)] rfl HRD.out (cInt_one (k : Int)) HMX.out HBY.out HBS.out ?_; intro v' w9 hown9 hg9 hat9; obtain ⟨g9, cap9, rfl, _, _⟩ := hown9.form (by omega); have HF9 := Lib.hid (HFIN.out w9 g9 cap9 hown9 hg9); have y9 : w9.cell? ⟨w.heap.size + 1, k, none⟩ = some (.bool (decide ((k : Int) ∈ oUp ps (oIt ps q) k))) := (HC9.out w9 hg9).cell k (bArr_at hlt); have yf9 := (HC9.out w9 hg9).frozen k; have yy9 : w9.cell? ⟨w.heap.size + 1 + 1, 0, none⟩ = some (.slice (some ⟨w.heap.size + 1, 0, none⟩) n n) := (HD9.out w9 hg9).cell 0 rfl; clear hown9 hg9 hat9)
              all_goals
                go_wp2_with fail
                obtain ⟨f1, f2, f3, f4, f5⟩ := HF9.out
                go_roundw
                case rel => exact ⟨k + 1, N2 + 1, some ⟨g9, 0, none⟩, cap9, by omega, by go_num, by rw [oUp_succ, HE.out, List.length_append, ← HN2.out]; rfl, rfl, by rw [oUp_succ, HE.out]; exact f1, f2, by rw [oUp_succ, HE.out]; exact f3, f4, f5⟩
                case measure => first | (simp [intOf]; done) | (simp [intOf]; omega)
end Go.Proofs.Ytelefmogmloniaa
