/- Walks: the values of a glyph over those of its parts: how deep, how many loops; the program's side of both laws. -/
import Derived.Test.YtelefmogmloniaaGrb
namespace Go.Proofs.Ytelefmogmloniaa
open Go.RowKit
set_option linter.unusedVariables false
theorem mU_in {ps : List Int} {k : Nat} (h : vB k ps) (h0 : 0 < ps.length) : ∀ j, 1 ≤ j → j ≤ ps.length → 0 ≤ mU ps j ∧ mU ps j ≤ 13 + (k : Int)
  | 0, h1, _ => by omega
  | 1, _, _ => by
    obtain ⟨v, hv⟩ : ∃ v, ps[0]? = some v := ⟨ps[0], List.getElem?_eq_getElem h0⟩
    have := h v (List.mem_of_getElem? hv)
    rw [mU_one hv]; exact this
  | j + 2, _, hj => by
    obtain ⟨v, hv⟩ : ∃ v, ps[j + 1]? = some v := ⟨ps[j + 1], List.getElem?_eq_getElem (by omega)⟩
    have := h v (List.mem_of_getElem? hv)
    have ih := mU_in h h0 (j + 1) (by omega) (by omega)
    rw [mU_succ hv]; omega
set_option maxHeartbeats 3200000 in
theorem slicesMax_any (ps : List Int) (B : Option Addr) (d Bd k : Nat) (w : World) (h1 : 1 ≤ ps.length) (hl : ps.length ≤ 1048576) (r : Rd cInt 1 w Bd B ps) :
    Calls Try.prog 160 #[.slice B ps.length d] w fun e w' => e = .returned (.int .i64 (mU ps ps.length)) ∧ Below w.heap.size w w' := by
  obtain ⟨v0, hv0⟩ : ∃ a, ps[0]? = some a := ⟨ps[0]'(by omega), List.getElem?_eq_getElem (by omega)⟩
  have HM1 := Lib.hid (mU_one hv0)
  obtain ⟨M, hM⟩ : ∃ M, M = ps.length := ⟨_, rfl⟩
  rw [← hM] at h1 hl ⊢
  have HM := Lib.hid hM
  clear hM
  obtain ⟨g, o, hB, hg, hc⟩ := r.elem hv0
  have e0 : w.cell? ⟨g, o, none⟩ = some (.int .i64 v0) := by have h := hc 0 _ rfl; simpa using h
  have HB := Lib.hid hB
  have R := Lib.hid r
  subst hB
  clear hc hv0 r
  have q1 : decide ((M : Int) < 1) = false := by simp; omega
  have q2 : (0 : Int) < (M : Int) := by omega
  go_enter Try.func160, Try.ntmps160
  go_wp2_with fail
  go_loopw [3, 4] (fun m i wr => ∃ j q : Nat, 1 ≤ j ∧ j ≤ M ∧ i = .int .i64 j ∧ m = .int .i64 (mU ps j) ∧ wr = w.drewN q) (fun _ i _ => M - (intOf i).toNat)
  case atStart => exact ⟨1, 0, Nat.le_refl _, h1, rfl, by rw [HM1.out], rfl⟩
  case round =>
    obtain ⟨j, q, hj1, hj, rfl, rfl, rfl⟩ := hrel
    by_cases hlt : j < M
    · obtain ⟨v, hv⟩ : ∃ a, ps[j]? = some a := ⟨ps[j]'(by have := HM.out; omega), List.getElem?_eq_getElem (by have := HM.out; omega)⟩
      obtain ⟨g2, o2, hB2, hg2, hc2⟩ := R.out.elem hv
      injection hB2 with hB2
      injection hB2 with b1 b2
      subst b1 b2
      have ej : w.cell? ⟨g, o + j, none⟩ = some (.int .i64 v) := by have h := hc2 0 _ rfl; rw [Nat.mul_one] at h; exact h
      have HS := Lib.hid (mU_succ hv)
      clear hc2 hv
      have hjM : (j : Int) < (M : Int) := by omega
      generalize mU ps j = m at *
      by_cases hm : m ≤ v
      · have HX := Lib.hid (show max m v = v by omega)
        go_wp2_with fail
        go_roundw
        case rel => exact ⟨j + 1, q, by omega, by omega, by go_num, by rw [HS.out, HX.out]; congr 1; split <;> omega, rfl⟩
        case measure => simp [intOf]; omega
      · have HX := Lib.hid (show max m v = m by omega)
        go_wp2_with fail
        go_roundw
        case rel => exact ⟨j + 1, q, by omega, by omega, by go_num, by rw [HS.out, HX.out]; congr 1; split <;> omega, rfl⟩
        case measure => simp [intOf]; omega
    · obtain rfl : M = j := by omega
      go_wp2_with fail
      go_ret
      exact ⟨rfl, by repeat' (first | with_reducible assumption | with_reducible exact Below.refl _ _ | (with_reducible refine Below.setCell ?_ ?_ _) | (with_reducible refine Below.alloc ?_ ?_ _) | (with_reducible refine Below.drew ?_) | (with_reducible refine below_dr ?_ _) | (with_reducible refine Below.trans ?_ (Below.mono (by with_reducible assumption) ?_)) | omega | (simp; done) | (simp; omega))⟩
set_option maxHeartbeats 3200000 in
theorem depthOver_any (w : World) (k : Nat) (x0 : ByteArray) (x1 : Int) (x2 : Int) (x3A : Option Addr) (x3c : Nat) (x3l : List DLoop) (x4A : Option Addr) (x4c : Nat) (x4l : List DPart) (x5A : Option Addr) (x5c : Nat) (x5l : List DAnchor) (x6 : ByteArray) (ps : List Int) (B : Option Addr) (d : Nat) (r_x3 : Row RvLoop 1 w w.heap.size x3A x3l) (r_x4 : Row RvPart 3 w w.heap.size x4A x4l) (r_x5 : Row RvAnchor 3 w w.heap.size x5A x5l) (ht : totGlyph (x0, x1, x2, x3l, x4l, x5l, x6) ≤ 1048576) (hb : vB k ps) (hk : k ≤ 40) (hl : ps.length = x4l.length) (r : Rd cInt 1 w w.heap.size B ps) :
    Calls Try.prog 109 #[.agg #[.string x0, .int .i64 x1, .int .i64 x2, .slice x3A x3l.length x3c, .slice x4A x4l.length x4c, .slice x5A x5l.length x5c, .string x6], .slice B ps.length d] w fun e w' => e = .returned (.int .i64 (ovD (x0, x1, x2, x3l, x4l, x5l, x6) ps)) ∧ Below w.heap.size w w' := by
  have hm : ps.length ≤ 1048576 := by have := totRow_len totPart x4l; simp only [totGlyph] at ht; omega
  have HO := Lib.hid (show ovD (x0, x1, x2, x3l, x4l, x5l, x6) ps = dU ps ps.length from rfl)
  rw [HO.out]
  by_cases h0 : ps.length = 0
  · have HZ := Lib.hid (show dU ps ps.length = 0 by rw [h0]; exact dU_zero)
    rw [HZ.out, h0]
    clear hb r hl hm h0
    go_enter Try.func109, Try.ntmps109
    go_wp2_with fail
    go_ret
    exact ⟨rfl, by repeat' (first | with_reducible assumption | with_reducible exact Below.refl _ _ | (with_reducible refine Below.setCell ?_ ?_ _) | (with_reducible refine Below.alloc ?_ ?_ _) | (with_reducible refine Below.drew ?_) | (with_reducible refine below_dr ?_ _) | (with_reducible refine Below.trans ?_ (Below.mono (by with_reducible assumption) ?_)) | omega | (simp; done) | (simp; omega))⟩
  · have CM := Lib.hid (fun (w1 : World) r => slicesMax_any ps B d w.heap.size k w1 (by omega) hm r)
    have HE := Lib.hid (mU_dU (fun v hv => (hb v hv).1) (by omega) ps.length (by omega) (Nat.le_refl _))
    have hin := mU_in hb (by omega) ps.length (by omega) (Nat.le_refl _)
    rw [HE.out]
    generalize mU ps ps.length = m at CM hin ⊢
    have hw : IntKind.i64.wrap (1 + m) = 1 + m := IntWalk.i64_in _ (by omega)
    have R := Lib.hid r
    clear r hb hl
    obtain ⟨M, hM⟩ : ∃ M, M = ps.length := ⟨_, rfl⟩
    rw [← hM] at h0 CM ⊢
    clear hM hm hin
    have q1 : ((M : Int) == 0) = false := by rw [beq_eq_false_iff_ne]; omega
    go_enter Try.func109, Try.ntmps109
    go_wp2_with fail
    refine (CM.out _ ?_).mono ?_
    · exact Rd.alloc R.out (Nat.le_refl _) _
    rintro e w1 ⟨rfl, hb1⟩
    go_wp2_with fail
    go_ret
    exact ⟨rfl, by repeat' (first | with_reducible assumption | with_reducible exact Below.refl _ _ | (with_reducible refine Below.setCell ?_ ?_ _) | (with_reducible refine Below.alloc ?_ ?_ _) | (with_reducible refine Below.drew ?_) | (with_reducible refine below_dr ?_ _) | (with_reducible refine Below.trans ?_ (Below.mono (by with_reducible assumption) ?_)) | omega | (simp; done) | (simp; omega))⟩
theorem sum_take {ps : List Int} {j : Nat} {v : Int} (h : ps[j]? = some v) : (ps.take (j + 1)).sum = (ps.take j).sum + v := by
  rw [List.take_add_one, h, Option.toList_some, List.sum_append]; simp
theorem sum_in {ps : List Int} {k : Nat} (h : vB k ps) : ∀ j : Nat, 0 ≤ (ps.take j).sum ∧ (ps.take j).sum ≤ (13 + (k : Int)) * j
  | 0 => by simp
  | j + 1 => by
    have ih := sum_in h j
    cases hx : ps[j]? with
    | none =>
      have e : ps.take (j + 1) = ps.take j := by rw [List.take_add_one, hx]; simp
      rw [e]
      have : (13 + (k : Int)) * ((j + 1 : Nat) : Int) = (13 + (k : Int)) * j + (13 + (k : Int)) := by rw [Int.natCast_add, Int.mul_add]; simp
      omega
    | some v =>
      have hv := h v (List.mem_of_getElem? hx)
      rw [sum_take hx]
      have : (13 + (k : Int)) * ((j + 1 : Nat) : Int) = (13 + (k : Int)) * j + (13 + (k : Int)) := by rw [Int.natCast_add, Int.mul_add]; simp
      omega
set_option maxHeartbeats 3200000 in
theorem loopsOver_any (w : World) (k : Nat) (x0 : ByteArray) (x1 : Int) (x2 : Int) (x3A : Option Addr) (x3c : Nat) (x3l : List DLoop) (x4A : Option Addr) (x4c : Nat) (x4l : List DPart) (x5A : Option Addr) (x5c : Nat) (x5l : List DAnchor) (x6 : ByteArray) (ps : List Int) (B : Option Addr) (d : Nat) (r_x3 : Row RvLoop 1 w w.heap.size x3A x3l) (r_x4 : Row RvPart 3 w w.heap.size x4A x4l) (r_x5 : Row RvAnchor 3 w w.heap.size x5A x5l) (ht : totGlyph (x0, x1, x2, x3l, x4l, x5l, x6) ≤ 1048576) (hb : vB k ps) (hk : k ≤ 40) (hl : ps.length = x4l.length) (r : Rd cInt 1 w w.heap.size B ps) :
    Calls Try.prog 162 #[.agg #[.string x0, .int .i64 x1, .int .i64 x2, .slice x3A x3l.length x3c, .slice x4A x4l.length x4c, .slice x5A x5l.length x5c, .string x6], .slice B ps.length d] w fun e w' => e = .returned (.int .i64 (ovC (x0, x1, x2, x3l, x4l, x5l, x6) ps)) ∧ Below w.heap.size w w' := by
  have hm : ps.length ≤ 1048576 := by have := totRow_len totPart x4l; simp only [totGlyph] at ht; omega
  have h3 : x3l.length ≤ 1048576 := by have := totRow_len totLoop x3l; simp only [totGlyph] at ht; omega
  have HO := Lib.hid (show ovC (x0, x1, x2, x3l, x4l, x5l, x6) ps = min ((x3l.length : Int) + ps.sum) 13 from rfl)
  rw [HO.out]
  have HS := Lib.hid (fun (j : Nat) (hj : j ≤ ps.length) => (show 0 ≤ (ps.take j).sum ∧ (ps.take j).sum ≤ 55574528 by
    have h1 := sum_in hb j
    have h2 : (13 + (k : Int)) * (j : Int) ≤ 53 * 1048576 := Int.mul_le_mul (by omega) (by omega) (by omega) (by omega)
    omega))
  obtain ⟨sm, hsm⟩ : ∃ s, s = ps.sum := ⟨_, rfl⟩
  rw [← hsm]
  have HA := Lib.hid (show (ps.take ps.length).sum = sm by rw [List.take_length, hsm])
  clear hsm
  obtain ⟨M, hM⟩ : ∃ M, M = ps.length := ⟨_, rfl⟩
  rw [← hM] at HS hm HA ⊢
  have HM := Lib.hid hM
  have R := Lib.hid r
  clear hM r hb hl ht
  generalize x3l.length = n3 at *
  go_enter Try.func162, Try.ntmps162
  go_wp2_with fail
  generalize hW : w.alloc (.cells #[.string x0, .int .i64 x1, .int .i64 x2, .slice x3A n3 x3c, .slice x4A x4l.length x4c, .slice x5A x5l.length x5c, .string x6] 37) = W0
  have hb0 : Below w.heap.size w W0 := by rw [← hW]; repeat' (first | with_reducible assumption | with_reducible exact Below.refl _ _ | (with_reducible refine Below.setCell ?_ ?_ _) | (with_reducible refine Below.alloc ?_ ?_ _) | (with_reducible refine Below.drew ?_) | (with_reducible refine below_dr ?_ _) | (with_reducible refine Below.trans ?_ (Below.mono (by with_reducible assumption) ?_)) | omega | (simp; done) | (simp; omega))
  clear hW
  go_loopw [5, 14] (fun s i wr => ∃ j : Nat, j ≤ M ∧ i = .int .i64 j ∧ s = .int .i64 ((n3 : Int) + (ps.take j).sum) ∧ Below w.heap.size w wr) (fun _ i _ => M - (intOf i).toNat)
  case atStart => exact ⟨0, Nat.zero_le _, rfl, by simp, hb0⟩
  case round =>
    clear hb0
    obtain ⟨j, hj, rfl, rfl, hbl⟩ := hrel
    have hs := HS.out j hj
    by_cases hlt : j < M
    · obtain ⟨v, hv⟩ : ∃ a, ps[j]? = some a := ⟨ps[j]'(by have := HM.out; omega), List.getElem?_eq_getElem (by have := HM.out; omega)⟩
      obtain ⟨g2, o2, rfl, hg2, hc2⟩ := (R.out.below hbl).elem hv
      have ej : wr.cell? ⟨g2, o2 + j, none⟩ = some (.int .i64 v) := by have h := hc2 0 _ rfl; rw [Nat.mul_one] at h; exact h
      have HT := Lib.hid (sum_take hv)
      have hs2 := HS.out (j + 1) (by omega)
      rw [HT.out] at hs2
      clear hc2 hv
      have hjM : (j : Int) < (M : Int) := by omega
      generalize (ps.take j).sum = sj at *
      have hw : IntKind.i64.wrap ((n3 : Int) + sj + v) = (n3 : Int) + sj + v := IntWalk.i64_in _ (by omega)
      go_wp2_with fail
      go_roundw
      case rel => exact ⟨j + 1, by omega, by go_num, by rw [HT.out]; congr 1; omega, by repeat' (first | with_reducible assumption | with_reducible exact Below.refl _ _ | (with_reducible refine Below.setCell ?_ ?_ _) | (with_reducible refine Below.alloc ?_ ?_ _) | (with_reducible refine Below.drew ?_) | (with_reducible refine below_dr ?_ _) | (with_reducible refine Below.trans ?_ (Below.mono (by with_reducible assumption) ?_)) | omega | (simp; done) | (simp; omega))⟩
      case measure => simp [intOf]; omega
    · obtain rfl : M = j := by omega
      rw [HA.out] at hs
      have HB := Lib.hid hbl
      by_cases hmn : (n3 : Int) + sm ≤ 13
      · have HX := Lib.hid (show min ((n3 : Int) + sm) 13 = (n3 : Int) + sm by omega)
        rw [HA.out]
        go_wp2_with fail
        go_ret
        exact ⟨ret_i (by rw [HX.out]), HB.out⟩
      · have HX := Lib.hid (show min ((n3 : Int) + sm) 13 = 13 by omega)
        rw [HA.out]
        go_wp2_with fail
        go_ret
        exact ⟨ret_i (by rw [HX.out]), HB.out⟩
end Go.Proofs.Ytelefmogmloniaa
