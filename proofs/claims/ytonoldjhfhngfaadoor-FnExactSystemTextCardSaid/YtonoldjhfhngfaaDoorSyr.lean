/- Walks: the names that occur in the expressions of a system: a map. -/
import Derived.Test.YtonoldjhfhngfaaDoorSyn
import Derived.Test.YtonoldjhfhngfaaDoorSyq
namespace Go.Proofs.YtonoldjhfhngfaaDoor
open Go.RowKit Go.Maps
set_option linter.unusedVariables false
def occT (ts : List DTerm) (q : Nat) (s : List UInt8) : Bool := (ts.take q).any fun t => decide (t.1.data.toList = s)
def occU (l : List DSRow) (k : Nat) (s : List UInt8) : Bool := (l.take k).any fun d => d.2.2.2.any fun t => decide (t.1.data.toList = s)
def occA (l : List DSRow) (s : List UInt8) : Bool := occU l l.length s
theorem occU_zero {l : List DSRow} : (fun s => occU l 0 s) = fun _ => false := by funext s; simp [occU]
theorem occT_zero {l : List DSRow} {ts : List DTerm} {k : Nat} : (fun s => occU l k s || occT ts 0 s) = fun s => occU l k s := by funext s; simp [occT]
theorem occT_succ {l : List DSRow} {ts : List DTerm} {k q : Nat} {t : DTerm} (h : ts[q]? = some t) :
    (fun s => if s = t.1.data.toList then true else (occU l k s || occT ts q s)) = fun s => occU l k s || occT ts (q + 1) s := by
  funext s
  unfold occT
  rw [List.take_add_one, h]
  by_cases e : s = t.1.data.toList
  · simp [e]
  · have e2 : ¬ t.1.data.toList = s := fun h => e h.symm
    rw [if_neg e]
    simp only [List.any_append, Option.toList_some, List.any_cons, List.any_nil, decide_eq_false e2, Bool.or_false]
theorem occU_succ {l : List DSRow} {k : Nat} {d : DSRow} (h : l[k]? = some d) : (fun s => occU l k s || occT d.2.2.2 d.2.2.2.length s) = fun s => occU l (k + 1) s := by
  funext s
  unfold occT occU
  rw [List.take_length, List.take_add_one, h]
  simp only [List.any_append, Option.toList_some, List.any_cons, List.any_nil, Bool.or_false]
theorem hasB_mem {l : List DSRow} {s : ByteArray} (h : hasB l s = true) : ∃ (j : Nat) (d : DSRow), l[j]? = some d ∧ d.1.data.toList = s.data.toList := by
  unfold hasB at h
  rw [List.any_eq_true] at h
  obtain ⟨d, hd, h⟩ := h
  obtain ⟨j, hj⟩ := List.mem_iff_getElem?.1 hd
  exact ⟨j, d, hj, of_decide_eq_true h⟩
theorem occA_mem {l : List DSRow} {s : List UInt8} : occA l s = true ↔ ∃ (k : Nat) (d : DSRow), l[k]? = some d ∧ ∃ (q : Nat) (t : DTerm), d.2.2.2[q]? = some t ∧ t.1.data.toList = s := by
  unfold occA occU
  rw [List.take_length, List.any_eq_true]
  constructor
  · rintro ⟨d, hd, h⟩
    rw [List.any_eq_true] at h
    obtain ⟨t, ht, h⟩ := h
    obtain ⟨k, hk⟩ := List.mem_iff_getElem?.1 hd
    obtain ⟨q, hq⟩ := List.mem_iff_getElem?.1 ht
    exact ⟨k, d, hk, q, t, hq, of_decide_eq_true h⟩
  · rintro ⟨k, d, hk, q, t, hq, h⟩
    refine ⟨d, List.mem_of_getElem? hk, ?_⟩
    rw [List.any_eq_true]
    exact ⟨t, List.mem_of_getElem? hq, decide_eq_true h⟩
theorem occ_yes {l : List DSRow} (h : ∀ (j : Nat) (d : DSRow), l[j]? = some d → occA l d.1.data.toList = false) : upT l l.length := by
  intro k hk
  have hd : l[k]? = some l[k] := List.getElem?_eq_getElem hk
  rw [tmK_at hd]
  refine tmA_yes fun q hq => ?_
  have ht : (l[k]).2.2.2[q]? = some ((l[k]).2.2.2[q]) := List.getElem?_eq_getElem hq
  refine tmB_at ht ?_
  rcases hh : hasB l ((l[k]).2.2.2[q]).1 with _ | _
  · rfl
  · obtain ⟨j, e, he, hn⟩ := hasB_mem hh
    have h1 := h j e he
    rw [occA_mem.2 ⟨k, l[k], hd, q, _, ht, hn.symm⟩] at h1
    cases h1
theorem occ_no {l : List DSRow} {j : Nat} {e : DSRow} (he : l[j]? = some e) (h : occA l e.1.data.toList = true) : false = vSys l := by
  obtain ⟨k, d, hd, q, t, ht, hn⟩ := occA_mem.1 h
  refine vSys_nt (k := k) (List.getElem?_eq_some_iff.1 hd).1 ?_
  rw [tmK_at hd]
  refine tmA_no ht ?_
  unfold hasB
  rw [List.any_eq_true]
  exact ⟨e, List.mem_of_getElem? he, decide_eq_true hn.symm⟩
set_option maxRecDepth 100000 in
set_option maxHeartbeats 12800000 in
theorem occurring_any (l : List DSRow) (A : Option Addr) (c : Nat) (w : World) (h : totSystem l ≤ 1048576) (hok : okS l) (r : Row RvSRow 4 w w.heap.size A l) :
    Calls Tryd.prog 42 #[.agg #[.slice A l.length c]] w fun e w' => ∃ N, e = .returned (.map (some (w.heap.size + 1))) ∧ MapS w' (w.heap.size + 1) N (occA l) ∧ Below w.heap.size w w' := by
  have HT := Lib.hid (show totRow totSRow l ≤ 1048576 from h)
  have hl : l.length ≤ 1048576 := Nat.le_trans (totRow_len totSRow l) h
  have HOK := Lib.hid hok
  clear h hok
  obtain ⟨n, hn⟩ : ∃ n, n = l.length := ⟨_, rfl⟩
  rw [← hn] at hl ⊢
  have HN := Lib.hid hn
  clear hn
  have HR := Lib.hid r
  clear r
  have hmm := @run_makeMap Tryd.prog
  go_enter Tryd.func42, Tryd.ntmps42
  go_wp2_with fail
  clear hmm
  generalize hW : (w.alloc (.cells #[.slice A n c] 32)).alloc (.map #[] 0) = W0
  have M0 : MapS W0 (w.heap.size + 1) 0 (fun s => occU l 0 s) := by
    rw [occU_zero, ← hW]
    have h9 := MapS.made (w.alloc (.cells #[.slice A n c] 32))
    rw [World.size_alloc] at h9
    exact h9
  have hb0 : Below w.heap.size w W0 := by rw [← hW]; repeat' (first | with_reducible assumption | with_reducible exact Below.refl _ _ | (with_reducible refine Below.setCell ?_ ?_ _) | (with_reducible refine Below.alloc ?_ ?_ _) | (with_reducible refine Below.drew ?_) | (with_reducible refine below_dr ?_ _) | (with_reducible refine Below.trans ?_ (Below.mono (by with_reducible assumption) ?_)) | omega | (simp; done) | (simp; omega))
  have s0 : W0.cell? ⟨w.heap.size, 0, none⟩ = some (.slice A n c) := by rw [← hW]; simp [go_sem]
  clear hW
  go_wp2_with fail
  clear s0
  go_loopw [12] (fun i wr => ∃ k N : Nat, k ≤ n ∧ i = .int .i64 k ∧ N ≤ k * 1048576 ∧ MapS wr (w.heap.size + 1) N (fun s => occU l k s) ∧ Below w.heap.size w wr) (fun i _ => n - (intOf i).toNat)
  case atStart => exact ⟨0, 0, Nat.zero_le _, rfl, Nat.zero_le _, M0, hb0⟩
  case round =>
    obtain ⟨k, N, hk, rfl, hN, mk, hbl⟩ := hrel
    have MK := Lib.hid mk
    have hmlt := mk.lt
    clear mk M0 hb0
    by_cases hlt : k < n
    case neg =>
      obtain rfl : k = n := by omega
      have HM9 := MK.out
      have HE := Lib.hid (show (fun s => occU l k s) = occA l by funext s; unfold occA; rw [← HN.out])
      go_wp2_with fail
      go_ret
      exact ⟨N, rfl, by rw [← HE.out]; exact HM9, hbl⟩
    case pos =>
      obtain ⟨Wq, hWq⟩ : ∃ W : World, W = wr := ⟨_, rfl⟩
      rw [← hWq] at hbl MK hmlt ⊢
      clear hWq
      have zr := hbl.size
      obtain ⟨⟨x0, x1, x2, x3l⟩, ha⟩ : ∃ a, l[k]? = some a := ⟨l[k]'(by have := HN.out; omega), List.getElem?_eq_getElem (by have := HN.out; omega)⟩
      obtain ⟨g, o, rowc, rfl, hg, hRc, hcc⟩ := (Row.carry (w' := Wq) HR.out hbl (Nat.le_refl _)).elem ha
      obtain ⟨x3A, x3c, rfl, u_x3⟩ := hRc
      have c0 : Wq.cell? ⟨g, o + k * 4, none⟩ = some (.string x0) := hcc 0 _ rfl
      have c1 : Wq.cell? ⟨g, o + k * 4 + 1, none⟩ = some (.int .i64 x1) := hcc 1 _ rfl
      have c2 : Wq.cell? ⟨g, o + k * 4 + 2, none⟩ = some (.int .i64 x2) := hcc 2 _ rfl
      have c3 : Wq.cell? ⟨g, o + k * 4 + 3, none⟩ = some (.slice x3A x3l.length x3c) := hcc 3 _ rfl
      clear hcc
      have hki : (k : Int) < (n : Int) := by omega
      obtain ⟨-, hok, -⟩ := HOK.out k _ ha
      have htt : totSRow (x0, x1, x2, x3l) ≤ 1048576 := Nat.le_trans (totRow_at ha) HT.out
      have hx3 : x3l.length ≤ 1048576 := by have := totRow_len totTerm x3l; simp only [totSRow] at htt; omega
      have HA := Lib.hid ha
      have HOT := Lib.hid hok
      clear ha htt hok
      have RT := Lib.hid (Row.toRd u_x3)
      clear u_x3
      have hgw : g < Wq.heap.size := by omega
      obtain ⟨m, hm⟩ : ∃ m, m = x3l.length := ⟨_, rfl⟩
      have HM := Lib.hid hm
      rw [← hm] at c3 hx3
      clear hm
      go_wp2_with fail
      generalize hW : Wq.alloc (.cells #[.string x0, .int .i64 x1, .int .i64 x2, .slice x3A m x3c] 52) = W1
      have hb1 : Below Wq.heap.size Wq W1 := by rw [← hW]; repeat' (first | with_reducible assumption | with_reducible exact Below.refl _ _ | (with_reducible refine Below.setCell ?_ ?_ _) | (with_reducible refine Below.alloc ?_ ?_ _) | (with_reducible refine Below.drew ?_) | (with_reducible refine below_dr ?_ _) | (with_reducible refine Below.trans ?_ (Below.mono (by with_reducible assumption) ?_)) | omega | (simp; done) | (simp; omega))
      have M1 : MapS W1 (w.heap.size + 1) N (fun s => occU l k s || occT x3l 0 s) := by rw [occT_zero]; exact MK.out.below hb1 hmlt
      have s3 : W1.cell? ⟨Wq.heap.size, 3, none⟩ = some (.slice x3A m x3c) := by rw [← hW]; simp [go_sem]
      clear hW c0 c1 c2 c3
      go_wp2_with fail
      clear s3
      go_loopw [20] (fun i wy => ∃ q N2 : Nat, q ≤ m ∧ i = .int .i64 q ∧ N2 ≤ N + q ∧ MapS wy (w.heap.size + 1) N2 (fun s => occU l k s || occT x3l q s) ∧ Below w.heap.size Wq wy ∧ Wq.heap.size ≤ wy.heap.size ∧ (∀ p : Addr, p.block < w.heap.size → wy.cell? p = Wq.cell? p)) (fun i _ => m - (intOf i).toNat)
      case atStart => exact ⟨0, N, Nat.zero_le _, rfl, by omega, M1, hb1.mono (by omega), hb1.size, fun p hp => hb1.cell (by omega)⟩
      case round =>
        clear M1 hb1
        obtain ⟨q, N2, hq, rfl, hN2, my, hby, zy, hcy⟩ := hrel
        have MY := Lib.hid my
        have hylt := my.lt
        have HCY := Lib.hid hcy
        clear my hcy
        by_cases hqm : q < m
        case neg =>
          obtain rfl : q = m := by omega
          have HE := Lib.hid (occU_succ HA.out)
          simp only at HE
          rw [← HM.out] at HE
          have HMY := MY.out
          go_wp2_with fail
          go_roundw
          case rel => exact ⟨k + 1, N2, by omega, by go_num, by omega, by rw [← HE.out]; exact HMY, by exact hbl.trans hby⟩
          case measure => simp [intOf]; omega
        case pos =>
          obtain ⟨⟨t0, t1, t2⟩, htm⟩ : ∃ t, x3l[q]? = some t := ⟨x3l[q]'(by have := HM.out; omega), List.getElem?_eq_getElem (by have := HM.out; omega)⟩
          obtain ⟨g3, o3, rfl, hg3, hc3⟩ := (Rd.keep RT.out HCY.out).elem htm
          have e0 : wr.cell? ⟨g3, o3 + q * 3, none⟩ = some (.string t0) := hc3 0 _ rfl
          have e1 : wr.cell? ⟨g3, o3 + q * 3 + 1, none⟩ = some (.int .i64 t1) := hc3 1 _ rfl
          have e2 : wr.cell? ⟨g3, o3 + q * 3 + 2, none⟩ = some (.int .i64 t2) := hc3 2 _ rfl
          clear hc3
          have hts := (HOT.out wr 0 q _ htm).1
          simp only at hts
          have HTM := Lib.hid htm
          clear htm
          have hqi : (q : Int) < (m : Int) := by omega
          have hg3y : g3 < wr.heap.size := by omega
          go_wp2_with fail
          generalize hW : wr.alloc (.cells #[.string t0, .int .i64 t1, .int .i64 t2] 82) = W2
          have hb2 : Below wr.heap.size wr W2 := by rw [← hW]; repeat' (first | with_reducible assumption | with_reducible exact Below.refl _ _ | (with_reducible refine Below.setCell ?_ ?_ _) | (with_reducible refine Below.alloc ?_ ?_ _) | (with_reducible refine Below.drew ?_) | (with_reducible refine below_dr ?_ _) | (with_reducible refine Below.trans ?_ (Below.mono (by with_reducible assumption) ?_)) | omega | (simp; done) | (simp; omega))
          have M2 := MY.out.below hb2 hylt
          have n0 : W2.cell? ⟨wr.heap.size, 0, none⟩ = some (.string t0) := by rw [← hW]; simp [go_sem]
          clear hW e0 e1 e2
          have hN9 : N2 < maxLen := Nat.lt_of_le_of_lt (show N2 ≤ 1048576 * 1048576 + 1048576 by have := Nat.mul_le_mul_right 1048576 (show k ≤ 1048576 by omega); omega) (by decide)
          have hz2 := hb2.size
          obtain ⟨w9, hr9, m9, g9⟩ := M2.put t0 hts hN9 true
          have hb9 : Below w.heap.size Wq w9 := (hby.trans (hb2.mono (by omega))).grown g9 (by omega) (by rintro j ⟨⟩; omega)
          have z9 := hb9.size
          have HSU := Lib.hid (occT_succ (l := l) (k := k) HTM.out)
          have M9 := Lib.hid m9
          clear m9 M2
          have hg2 : W2.heap.size ≤ w9.heap.size := g9.size
          go_wp2_with fail
          go_roundw
          case rel => exact ⟨q + 1, N2 + 1, by omega, by go_num, by omega, by rw [← HSU.out]; exact M9.out, hb9, by omega, fun p hp => hb9.cell hp⟩
          case measure => simp [intOf]; omega
end Go.Proofs.YtonoldjhfhngfaaDoor
