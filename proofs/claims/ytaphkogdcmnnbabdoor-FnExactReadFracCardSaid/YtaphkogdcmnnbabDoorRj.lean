/- Walks: ReadFrac on the program's side, and the law on it. -/
import Derived.Test.YtaphkogdcmnnbabDoorRs
namespace Go.Proofs.YtaphkogdcmnnbabDoor
open Go.RowKit

theorem cut_lens (l : List UInt8) : (Lib.cut l [47]).1.length ≤ l.length ∧ (Lib.cut l [47]).2.1.length ≤ l.length := by
  rcases cut_cases l with ⟨x, y, hx, rfl⟩ | h
  · rw [cut_mid x y hx]; simp; omega
  · rw [cut_none47 l h]; simp
theorem cell_lt {w : World} {a : Addr} {v : Value} (h : w.cell? a = some v) : a.block < w.heap.size := by
  rcases Nat.lt_or_ge a.block w.heap.size with hlt | hge
  · exact hlt
  · simp [World.cell?, Array.getElem?_eq_none hge] at h
/-- Some number stands in the library's variable. -/
def MaxIs (w : World) : Prop := ∃ m, w.cell? ⟨0, 0, none⟩ = some (.int .i64 m)
theorem MaxIs.stay {w w' : World} (h : MaxIs w) (hb : Below w.heap.size w w') : MaxIs w' := by
  obtain ⟨m, hm⟩ := h
  exact ⟨m, (hb.cell (cell_lt hm)).trans hm⟩
def CutRet (c : List UInt8 × List UInt8 × Bool) (w : World) (e : Ending) (w' : World) : Prop :=
  ∃ a b : ByteArray, a.data.toList = c.1 ∧ b.data.toList = c.2.1 ∧ e = .returned (.tuple #[.string a, .string b, .bool c.2.2]) ∧ Below w.heap.size w w'
theorem cut_any (s : ByteArray) (w : World) (hs : s.size ≤ 1048576) (hM : MaxIs w) :
    Calls Tryd.prog 16 #[.string s, .string ⟨#[47]⟩] w (CutRet (Lib.cut s.data.toList [47]) w) := by
  obtain ⟨m, hm⟩ := hM
  exact (Tryd.strings_Cut s ⟨#[47]⟩ m w (by omega) hm).mono fun e w' ⟨he, n, hw⟩ => ⟨_, _, by simp, by simp, he, by rw [hw]; exact Joins.below_draws _ _ _⟩
theorem implReadDecimal_yes {s : ByteArray} {n : Int} (h : numL s.data.toList = some n) (w : World) (hs : s.size ≤ 1048576) (hT : Tabs w) :
    Calls Tryd.prog 17 #[.string s] w fun e w' => e = .returned (.tuple #[.int .i64 n, .bool true]) ∧ Below w.heap.size w w' := by
  have := implReadDecimal_any s w hs hT
  rw [h] at this
  exact this
theorem implReadDecimal_no {s : ByteArray} (h : numL s.data.toList = none) (w : World) (hs : s.size ≤ 1048576) (hT : Tabs w) :
    Calls Tryd.prog 17 #[.string s] w fun e w' => e = .returned (.tuple #[.int .i64 0, .bool false]) ∧ Below w.heap.size w w' := by
  have := implReadDecimal_any s w hs hT
  rw [h] at this
  exact this


/-- The result's two cells hold zeros. -/
def RZ (g : Nat) (w : World) : Prop := w.cell? ⟨g, 0, none⟩ = some (.int .i64 0) ∧ w.cell? ⟨g, 1, none⟩ = some (.int .i64 0) ∧ w.frozen? ⟨g, 0, none⟩ = false ∧ w.frozen? ⟨g, 1, none⟩ = false
theorem RZ.stay {g : Nat} {w w' : World} (h : RZ g w) (hb : Below w.heap.size w w') : RZ g w' := by
  have hg : g < w.heap.size := cell_lt h.1
  obtain ⟨hc, hf⟩ := bcell hb
  unfold RZ
  rw [hc _ _ hg, hc _ _ hg, hf _ _ hg, hf _ _ hg]
  exact h
theorem RZ.q0 {g : Nat} {w : World} (h : RZ g w) : ∀ v : Value, (w.setCell ⟨g, 0, none⟩ v).cell? ⟨g, 0, none⟩ = some v := fun _ => World.cell?_setCell_same _ _ _ h.1
theorem RZ.q1 {g : Nat} {w : World} (h : RZ g w) : ∀ u v : Value, ((w.setCell ⟨g, 0, none⟩ u).setCell ⟨g, 1, none⟩ v).cell? ⟨g, 1, none⟩ = some v := fun _ _ => World.cell?_setCell_same _ _ _ ((World.cell?_setCell_other _ _ _ _ (by simp)).trans h.2.1)

set_option maxHeartbeats 1600000 in
theorem implReadFrac_any (s : ByteArray) (w : World) (hs : s.size ≤ 1048576) (hT : Tabs w) (hM : MaxIs w) :
    Calls Tryd.prog 9 #[.string s] w fun e w' => e = .returned (ansF (ansI s.data.toList)) ∧ Below w.heap.size w w' := by
  have CC := Lib.hid (fun w1 (hb : Below w.heap.size w w1) => cut_any s w1 hs (hM.stay hb))
  have HT := Lib.hid (fun w1 (hb : Below w.heap.size w w1) => hT.stay hb)
  have hl := cut_lens s.data.toList
  rw [← Lib.size_eq] at hl
  have HI := Lib.hid (show ansI s.data.toList = (numL (Lib.cut s.data.toList [47]).1).bind fun n => if (Lib.cut s.data.toList [47]).2.2 = true then (numL (Lib.cut s.data.toList [47]).2.1).bind fun d => if d = 1 then none else finI n d else finI n 1 from rfl)
  generalize ansI s.data.toList = ans at HI ⊢
  generalize Lib.cut s.data.toList [47] = c at CC HI hl
  obtain ⟨x, y, dv⟩ := c
  clear hT hM
  go_enter Tryd.func9, Tryd.ntmps9
  go_wp2_with fail
  refine (CC.out _ ((Below.refl _ _).alloc (Nat.le_refl _) _)).mono ?_
  rintro e w1 ⟨a, b, ha, hb', rfl, hb1⟩
  simp only at ha hb' hl HI
  have hsa : a.size ≤ 1048576 := by rw [Lib.size_eq, ha]; omega
  have hsb : b.size ≤ 1048576 := by rw [Lib.size_eq, hb']; omega
  rw [← ha, ← hb'] at HI
  clear ha hb' hl CC
  have B1 : Below w.heap.size w w1 := ((Below.refl _ _).alloc (Nat.le_refl _) _).trans (hb1.mono (by simp))
  have hz1 : w.heap.size < w1.heap.size := by have := hb1.size; simp at this; omega
  have R1 : RZ w.heap.size w1 := RZ.stay (w := w.alloc _) (by unfold RZ; simp [go_sem]) hb1
  clear hb1
  cases hA : numL a.data.toList with
  | none =>
    have H := Lib.hid (show ans = none by rw [HI.out, hA]; rfl)
    have CA := Lib.hid (fun w2 (hb : Below w.heap.size w w2) => implReadDecimal_no hA w2 hsa (HT.out w2 hb))
    clear hA HI
    go_wp2_with fail
    refine (CA.out _ B1).mono ?_
    rintro e w2 ⟨rfl, hb2⟩
    have R2 := R1.stay hb2
    obtain ⟨r1, r2, r3, r4⟩ := R2
    have hz2 : w.heap.size < w2.heap.size := cell_lt r1
    have B2 := B1.trans (hb2.mono B1.size)
    go_wp2
    have q0 := RZ.q0 ⟨r1, r2, r3, r4⟩
    have q1 := RZ.q1 ⟨r1, r2, r3, r4⟩
    refine bodyPost_ret (v := .tuple #[.agg #[.int .i64 0, .int .i64 0], .bool false]) (by simp [results, Tryd.results9, go_sem, q0, q1]) rfl ⟨ret_no H.out, ?_⟩
    repeat' (first | exact B2 | exact Below.refl _ _ | (refine Below.setCell ?_ ?_ _) | (refine Below.alloc ?_ ?_ _) | (refine below_dr ?_ _) | exact Nat.le_refl _ | (simp; done) | (simp; omega))
  | some num =>
    have hnb := (numL_some hA).2
    have CA := Lib.hid (fun w2 (hb : Below w.heap.size w w2) => implReadDecimal_yes hA w2 hsa (HT.out w2 hb))
    have HI2 := HI.out
    rw [hA] at HI2
    simp only [Option.bind_some] at HI2
    clear hA HI
    cases dv with
    | false =>
      simp only [Bool.false_eq_true, if_false] at HI2
      have CV := fun w => (implValidFrac_any num 1 w (by omega) (by omega)).mono fun _ _ h => h.below
      unfold finI at HI2
      by_cases hv : validB num 1 = true
      · rw [hv] at CV
        rw [if_pos hv] at HI2
        have H := Lib.hid HI2
        have CV2 := Lib.hid CV
        clear HI2 CV hv
        go_wp2_with fail
        refine (CA.out _ B1).mono ?_
        rintro e w2 ⟨rfl, hb2⟩
        have R2 := R1.stay hb2
        have B2 := B1.trans (hb2.mono B1.size)
        clear hb2
        go_wp2_with fail
        refine (CV2.out _).mono ?_
        rintro e w3 ⟨rfl, hb3⟩
        have R3 := RZ.stay (RZ.stay R2 (w' := w2.alloc _) ((Below.refl _ _).alloc (Nat.le_refl _) _)) hb3
        have B3 : Below w.heap.size w w3 := (B2.alloc B2.size _).trans (hb3.mono (by have := B2.size; simp; omega))
        obtain ⟨hc, hf⟩ := bcell hb3
        simp only [World.size_alloc] at hc hf
        have f0 : w3.cell? ⟨w2.heap.size, 0, none⟩ = some (.int .i64 num) := by rw [hc _ _ (by omega)]; simp [go_sem]
        have f1 : w3.cell? ⟨w2.heap.size, 1, none⟩ = some (.int .i64 1) := by rw [hc _ _ (by omega)]; simp [go_sem]
        clear hc hf hb3
        obtain ⟨r1, r2, r3, r4⟩ := R3
        have hz3 : w.heap.size < w3.heap.size := cell_lt r1
        go_wp2
        have q0 := RZ.q0 ⟨r1, r2, r3, r4⟩
        have q1 := RZ.q1 ⟨r1, r2, r3, r4⟩
        refine bodyPost_ret (v := .tuple #[.agg #[.int .i64 num, .int .i64 1], .bool true]) (by simp [results, Tryd.results9, go_sem, q0, q1]) rfl ⟨ret_yes H.out, ?_⟩
        repeat' (first | exact B3 | exact Below.refl _ _ | (refine Below.setCell ?_ ?_ _) | (refine Below.alloc ?_ ?_ _) | (refine below_dr ?_ _) | exact Nat.le_refl _ | (simp; done) | (simp; omega))
      · have hv2 : validB num 1 = false := by simpa using hv
        rw [hv2] at CV
        rw [if_neg hv] at HI2
        have H := Lib.hid HI2
        have CV2 := Lib.hid CV
        clear HI2 CV hv hv2
        go_wp2_with fail
        refine (CA.out _ B1).mono ?_
        rintro e w2 ⟨rfl, hb2⟩
        have R2 := R1.stay hb2
        have B2 := B1.trans (hb2.mono B1.size)
        clear hb2
        go_wp2_with fail
        refine (CV2.out _).mono ?_
        rintro e w3 ⟨rfl, hb3⟩
        have R3 := RZ.stay (RZ.stay R2 (w' := w2.alloc _) ((Below.refl _ _).alloc (Nat.le_refl _) _)) hb3
        have B3 : Below w.heap.size w w3 := (B2.alloc B2.size _).trans (hb3.mono (by have := B2.size; simp; omega))
        obtain ⟨hc, hf⟩ := bcell hb3
        simp only [World.size_alloc] at hc hf
        have f0 : w3.cell? ⟨w2.heap.size, 0, none⟩ = some (.int .i64 num) := by rw [hc _ _ (by omega)]; simp [go_sem]
        have f1 : w3.cell? ⟨w2.heap.size, 1, none⟩ = some (.int .i64 1) := by rw [hc _ _ (by omega)]; simp [go_sem]
        clear hc hf hb3
        obtain ⟨r1, r2, r3, r4⟩ := R3
        have hz3 : w.heap.size < w3.heap.size := cell_lt r1
        go_wp2
        have q0 := RZ.q0 ⟨r1, r2, r3, r4⟩
        have q1 := RZ.q1 ⟨r1, r2, r3, r4⟩
        refine bodyPost_ret (v := .tuple #[.agg #[.int .i64 0, .int .i64 0], .bool false]) (by simp [results, Tryd.results9, go_sem, q0, q1]) rfl ⟨ret_no H.out, ?_⟩
        repeat' (first | exact B3 | exact Below.refl _ _ | (refine Below.setCell ?_ ?_ _) | (refine Below.alloc ?_ ?_ _) | (refine below_dr ?_ _) | exact Nat.le_refl _ | (simp; done) | (simp; omega))
    | true =>
      simp only [if_true] at HI2
      cases hB : numL b.data.toList with
      | none =>
        have H := Lib.hid (show ans = none by rw [HI2, hB]; rfl)
        have CB := Lib.hid (fun w2 (hb : Below w.heap.size w w2) => implReadDecimal_no hB w2 hsb (HT.out w2 hb))
        clear hB HI2
        go_wp2_with fail
        refine (CA.out _ B1).mono ?_
        rintro e w2 ⟨rfl, hb2⟩
        have R2 := R1.stay hb2
        have B2 := B1.trans (hb2.mono B1.size)
        clear hb2
        go_wp2_with fail
        refine (CB.out _ B2).mono ?_
        rintro e w3 ⟨rfl, hb3⟩
        have R3 := R2.stay hb3
        have B3 := B2.trans (hb3.mono B2.size)
        clear hb3
        obtain ⟨r1, r2, r3, r4⟩ := R3
        have hz3 : w.heap.size < w3.heap.size := cell_lt r1
        go_wp2
        have q0 := RZ.q0 ⟨r1, r2, r3, r4⟩
        have q1 := RZ.q1 ⟨r1, r2, r3, r4⟩
        refine bodyPost_ret (v := .tuple #[.agg #[.int .i64 0, .int .i64 0], .bool false]) (by simp [results, Tryd.results9, go_sem, q0, q1]) rfl ⟨ret_no H.out, ?_⟩
        repeat' (first | exact B3 | exact Below.refl _ _ | (refine Below.setCell ?_ ?_ _) | (refine Below.alloc ?_ ?_ _) | (refine below_dr ?_ _) | exact Nat.le_refl _ | (simp; done) | (simp; omega))
      | some den =>
        have hdb := (numL_some hB).2
        have CB := Lib.hid (fun w2 (hb : Below w.heap.size w w2) => implReadDecimal_yes hB w2 hsb (HT.out w2 hb))
        rw [hB] at HI2
        simp only [Option.bind_some] at HI2
        clear hB
        by_cases h1 : den = 1
        · subst h1
          rw [if_pos rfl] at HI2
          have H := Lib.hid HI2
          clear HI2
          go_wp2_with fail
          refine (CA.out _ B1).mono ?_
          rintro e w2 ⟨rfl, hb2⟩
          have R2 := R1.stay hb2
          have B2 := B1.trans (hb2.mono B1.size)
          clear hb2
          go_wp2_with fail
          refine (CB.out _ B2).mono ?_
          rintro e w3 ⟨rfl, hb3⟩
          have R3 := R2.stay hb3
          have B3 := B2.trans (hb3.mono B2.size)
          clear hb3
          obtain ⟨r1, r2, r3, r4⟩ := R3
          have hz3 : w.heap.size < w3.heap.size := cell_lt r1
          go_wp2
          have q0 := RZ.q0 ⟨r1, r2, r3, r4⟩
          have q1 := RZ.q1 ⟨r1, r2, r3, r4⟩
          refine bodyPost_ret (v := .tuple #[.agg #[.int .i64 0, .int .i64 0], .bool false]) (by simp [results, Tryd.results9, go_sem, q0, q1]) rfl ⟨ret_no H.out, ?_⟩
          repeat' (first | exact B3 | exact Below.refl _ _ | (refine Below.setCell ?_ ?_ _) | (refine Below.alloc ?_ ?_ _) | (refine below_dr ?_ _) | exact Nat.le_refl _ | (simp; done) | (simp; omega))
        · rw [if_neg h1] at HI2
          have h2 : (den == 1) = false := beq_eq_false_iff_ne.2 h1
          clear h1
          have CV := fun w => (implValidFrac_any num den w (by omega) (by omega)).mono fun _ _ h => h.below
          unfold finI at HI2
          by_cases hv : validB num den = true
          · rw [hv] at CV
            rw [if_pos hv] at HI2
            have H := Lib.hid HI2
            have CV2 := Lib.hid CV
            clear HI2 CV hv
            go_wp2_with fail
            refine (CA.out _ B1).mono ?_
            rintro e w2 ⟨rfl, hb2⟩
            have R2 := R1.stay hb2
            have B2 := B1.trans (hb2.mono B1.size)
            clear hb2
            go_wp2_with fail
            refine (CB.out _ B2).mono ?_
            rintro e w3 ⟨rfl, hb3⟩
            have R3 := R2.stay hb3
            have B3 := B2.trans (hb3.mono B2.size)
            clear hb3
            go_wp2_with fail
            refine (CV2.out _).mono ?_
            rintro e w4 ⟨rfl, hb4⟩
            have R4 := RZ.stay (RZ.stay R3 (w' := w3.alloc _) ((Below.refl _ _).alloc (Nat.le_refl _) _)) hb4
            have B4 : Below w.heap.size w w4 := (B3.alloc B3.size _).trans (hb4.mono (by have := B3.size; simp; omega))
            obtain ⟨hc, hf⟩ := bcell hb4
            simp only [World.size_alloc] at hc hf
            have f0 : w4.cell? ⟨w3.heap.size, 0, none⟩ = some (.int .i64 num) := by rw [hc _ _ (by omega)]; simp [go_sem]
            have f1 : w4.cell? ⟨w3.heap.size, 1, none⟩ = some (.int .i64 den) := by rw [hc _ _ (by omega)]; simp [go_sem]
            clear hc hf hb4
            obtain ⟨r1, r2, r3, r4⟩ := R4
            have hz4 : w.heap.size < w4.heap.size := cell_lt r1
            go_wp2
            have q0 := RZ.q0 ⟨r1, r2, r3, r4⟩
            have q1 := RZ.q1 ⟨r1, r2, r3, r4⟩
            refine bodyPost_ret (v := .tuple #[.agg #[.int .i64 num, .int .i64 den], .bool true]) (by simp [results, Tryd.results9, go_sem, q0, q1]) rfl ⟨ret_yes H.out, ?_⟩
            repeat' (first | exact B4 | exact Below.refl _ _ | (refine Below.setCell ?_ ?_ _) | (refine Below.alloc ?_ ?_ _) | (refine below_dr ?_ _) | exact Nat.le_refl _ | (simp; done) | (simp; omega))
          · have hv2 : validB num den = false := by simpa using hv
            rw [hv2] at CV
            rw [if_neg hv] at HI2
            have H := Lib.hid HI2
            have CV2 := Lib.hid CV
            clear HI2 CV hv hv2
            go_wp2_with fail
            refine (CA.out _ B1).mono ?_
            rintro e w2 ⟨rfl, hb2⟩
            have R2 := R1.stay hb2
            have B2 := B1.trans (hb2.mono B1.size)
            clear hb2
            go_wp2_with fail
            refine (CB.out _ B2).mono ?_
            rintro e w3 ⟨rfl, hb3⟩
            have R3 := R2.stay hb3
            have B3 := B2.trans (hb3.mono B2.size)
            clear hb3
            go_wp2_with fail
            refine (CV2.out _).mono ?_
            rintro e w4 ⟨rfl, hb4⟩
            have R4 := RZ.stay (RZ.stay R3 (w' := w3.alloc _) ((Below.refl _ _).alloc (Nat.le_refl _) _)) hb4
            have B4 : Below w.heap.size w w4 := (B3.alloc B3.size _).trans (hb4.mono (by have := B3.size; simp; omega))
            obtain ⟨hc, hf⟩ := bcell hb4
            simp only [World.size_alloc] at hc hf
            have f0 : w4.cell? ⟨w3.heap.size, 0, none⟩ = some (.int .i64 num) := by rw [hc _ _ (by omega)]; simp [go_sem]
            have f1 : w4.cell? ⟨w3.heap.size, 1, none⟩ = some (.int .i64 den) := by rw [hc _ _ (by omega)]; simp [go_sem]
            clear hc hf hb4
            obtain ⟨r1, r2, r3, r4⟩ := R4
            have hz4 : w.heap.size < w4.heap.size := cell_lt r1
            go_wp2
            have q0 := RZ.q0 ⟨r1, r2, r3, r4⟩
            have q1 := RZ.q1 ⟨r1, r2, r3, r4⟩
            refine bodyPost_ret (v := .tuple #[.agg #[.int .i64 0, .int .i64 0], .bool false]) (by simp [results, Tryd.results9, go_sem, q0, q1]) rfl ⟨ret_no H.out, ?_⟩
            repeat' (first | exact B4 | exact Below.refl _ _ | (refine Below.setCell ?_ ?_ _) | (refine Below.alloc ?_ ?_ _) | (refine below_dr ?_ _) | exact Nat.le_refl _ | (simp; done) | (simp; omega))

end Go.Proofs.YtaphkogdcmnnbabDoor
