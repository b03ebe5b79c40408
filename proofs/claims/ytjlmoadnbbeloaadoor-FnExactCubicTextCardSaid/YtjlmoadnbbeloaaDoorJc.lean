/- Walks: the text of a cubic, on both sides. -/
import Derived.Test.YtjlmoadnbbeloaaDoorJb
import Derived.Test.YtjlmoadnbbeloaaDoorJj
namespace Go.Proofs.YtjlmoadnbbeloaaDoor
open Go.RowKit
set_option linter.unusedVariables false
theorem rd4 {w : World} {g : Nat} {m0 m1 m2 m3 m4 m5 m6 m7 : Int} (h : AtL g [.int .i64 m0, .int .i64 m1, .int .i64 m2, .int .i64 m3, .int .i64 m4, .int .i64 m5, .int .i64 m6, .int .i64 m7] w) : Rd cPt 2 w w.heap.size (some ⟨g, 0, none⟩) [(m0, m1), (m2, m3), (m4, m5), (m6, m7)] := by
  refine Or.inr ⟨g, 0, rfl, h.lt, fun k a hk i u hu => ?_⟩
  have hi : i < 2 := by
    rcases Nat.lt_or_ge i 2 with h | h
    · exact h
    · rw [List.getElem?_eq_none (by rw [cPt_len]; exact h)] at hu; cases hu
  refine h.cell _ ?_
  match k, hk, i, hi with
  | 0, hk, 0, _ => cases hk; exact hu
  | 0, hk, 1, _ => cases hk; exact hu
  | 1, hk, 0, _ => cases hk; exact hu
  | 1, hk, 1, _ => cases hk; exact hu
  | 2, hk, 0, _ => cases hk; exact hu
  | 2, hk, 1, _ => cases hk; exact hu
  | 3, hk, 0, _ => cases hk; exact hu
  | 3, hk, 1, _ => cases hk; exact hu
def cubP (m0 m1 m2 m3 m4 m5 m6 m7 : Int) : List APt := [(m0, m1), (m2, m3), (m4, m5), (m6, m7)]
def cubT (m0 m1 m2 m3 m4 m5 m6 m7 : Int) : ByteArray := if okC m0 m1 m2 m3 m4 m5 m6 m7 = true then ptsB (cubP m0 m1 m2 m3 m4 m5 m6 m7) else ⟨#[]⟩
theorem cubT_t {m0 m1 m2 m3 m4 m5 m6 m7 : Int} (h : okC m0 m1 m2 m3 m4 m5 m6 m7 = true) : cubT m0 m1 m2 m3 m4 m5 m6 m7 = ptsB (cubP m0 m1 m2 m3 m4 m5 m6 m7) := by unfold cubT; rw [if_pos h]
theorem cubT_f {m0 m1 m2 m3 m4 m5 m6 m7 : Int} (h : okC m0 m1 m2 m3 m4 m5 m6 m7 = false) : cubT m0 m1 m2 m3 m4 m5 m6 m7 = ⟨#[]⟩ := by unfold cubT; rw [h]; rfl
theorem okC_parts {m0 m1 m2 m3 m4 m5 m6 m7 : Int} (h : okC m0 m1 m2 m3 m4 m5 m6 m7 = true) : okB m0 m1 = true ∧ okB m2 m3 = true ∧ okB m4 m5 = true ∧ okB m6 m7 = true := by
  unfold okC at h
  simpa [Bool.and_eq_true, and_assoc] using h
theorem cub_in {m0 m1 m2 m3 m4 m5 m6 m7 : Int} (h : okC m0 m1 m2 m3 m4 m5 m6 m7 = true) : ∀ (i : Nat) (a : APt), (cubP m0 m1 m2 m3 m4 m5 m6 m7)[i]? = some a → inI a := by
  obtain ⟨h0, h1, h2, h3⟩ := okC_parts h
  have key : ∀ {x y : Int}, okB x y = true → inI (x, y) := by
    intro x y h
    have := okB_bounds h
    exact ⟨⟨by omega, by omega⟩, ⟨by omega, by omega⟩⟩
  intro i a hi
  unfold cubP at hi
  match i, hi with
  | 0, hi => cases hi; exact key h0
  | 1, hi => cases hi; exact key h1
  | 2, hi => cases hi; exact key h2
  | 3, hi => cases hi; exact key h3
set_option maxRecDepth 100000 in
set_option maxHeartbeats 3200000 in
theorem specCubicText_any (m0 m1 m2 m3 m4 m5 m6 m7 : Int) (w : World) :
    Calls Tryd.prog 21 #[.agg #[.int .i64 m0, .int .i64 m1, .int .i64 m2, .int .i64 m3, .int .i64 m4, .int .i64 m5, .int .i64 m6, .int .i64 m7]] w fun e w' => e = .returned (.string (cubT m0 m1 m2 m3 m4 m5 m6 m7)) ∧ Below w.heap.size w w' := by
  have CV := Lib.hid (fun b w hb c0 c1 c2 c3 c4 c5 c6 c7 => l09Ok_any m0 m1 m2 m3 m4 m5 m6 m7 b w hb c0 c1 c2 c3 c4 c5 c6 c7)
  rcases hv : okC m0 m1 m2 m3 m4 m5 m6 m7 with _ | _
  · rw [hv] at CV
    rw [cubT_f hv]
    clear hv
    go_enter Tryd.func21, Tryd.ntmps21
    go_wp2_with fail
    refine (CV.out _ _ (by simp) (by simp [go_sem]) (by simp [go_sem]) (by simp [go_sem]) (by simp [go_sem]) (by simp [go_sem]) (by simp [go_sem]) (by simp [go_sem]) (by simp [go_sem])).mono ?_
    rintro e w1 ⟨rfl, hb1⟩
    have at1 : AtL w.heap.size [.int .i64 m0, .int .i64 m1, .int .i64 m2, .int .i64 m3, .int .i64 m4, .int .i64 m5, .int .i64 m6, .int .i64 m7] w1 := (AtL.new w _ _).below hb1
    have g1 : Below w.heap.size w w1 := by repeat' (first | with_reducible assumption | with_reducible exact Below.refl _ _ | (with_reducible refine Below.setCell ?_ ?_ _) | (with_reducible refine Below.alloc ?_ ?_ _) | (with_reducible refine Below.drew ?_) | (with_reducible refine below_dr ?_ _) | (with_reducible refine Below.trans ?_ (Below.mono (by with_reducible assumption) ?_)) | omega | (simp; done) | (simp; omega))
    clear hb1
    go_wp2_with fail
    go_ret
    exact ⟨rfl, g1⟩
  · have CP := Lib.hid (fun g w at0 => l09Points_any (cubP m0 m1 m2 m3 m4 m5 m6 m7) (some ⟨g, 0, none⟩) 4 w (by simp [cubP]) (cub_in hv) (rd4 at0))
    rw [hv] at CV
    rw [cubT_t hv]
    clear hv
    generalize ptsB (cubP m0 m1 m2 m3 m4 m5 m6 m7) = T at CP ⊢
    go_enter Tryd.func21, Tryd.ntmps21
    go_wp2_with fail
    refine (CV.out _ _ (by simp) (by simp [go_sem]) (by simp [go_sem]) (by simp [go_sem]) (by simp [go_sem]) (by simp [go_sem]) (by simp [go_sem]) (by simp [go_sem]) (by simp [go_sem])).mono ?_
    rintro e w1 ⟨rfl, hb1⟩
    have at1 : AtL w.heap.size [.int .i64 m0, .int .i64 m1, .int .i64 m2, .int .i64 m3, .int .i64 m4, .int .i64 m5, .int .i64 m6, .int .i64 m7] w1 := (AtL.new w _ _).below hb1
    have g1 : Below w.heap.size w w1 := by repeat' (first | with_reducible assumption | with_reducible exact Below.refl _ _ | (with_reducible refine Below.setCell ?_ ?_ _) | (with_reducible refine Below.alloc ?_ ?_ _) | (with_reducible refine Below.drew ?_) | (with_reducible refine below_dr ?_ _) | (with_reducible refine Below.trans ?_ (Below.mono (by with_reducible assumption) ?_)) | omega | (simp; done) | (simp; omega))
    clear hb1
    have k0 := at1.cell 0 rfl
    have k1 := at1.cell 1 rfl
    have k2 := at1.cell 2 rfl
    have k3 := at1.cell 3 rfl
    have k4 := at1.cell 4 rfl
    have k5 := at1.cell 5 rfl
    have k6 := at1.cell 6 rfl
    have k7 := at1.cell 7 rfl
    have lw := at1.lt
    go_wp2_with fail
    refine (CP.out w1.heap.size _ (AtL.new _ _ _)).mono ?_
    rintro e w2 ⟨rfl, hb2⟩
    go_wp2_with fail
    go_ret
    exact ⟨rfl, by repeat' (first | with_reducible assumption | with_reducible exact Below.refl _ _ | (with_reducible refine Below.setCell ?_ ?_ _) | (with_reducible refine Below.alloc ?_ ?_ _) | (with_reducible refine Below.drew ?_) | (with_reducible refine below_dr ?_ _) | (with_reducible refine Below.trans ?_ (Below.mono (by with_reducible assumption) ?_)) | omega | (simp; done) | (simp; omega))⟩
set_option maxRecDepth 100000 in
set_option maxHeartbeats 3200000 in
theorem implCubicText_any (m0 m1 m2 m3 m4 m5 m6 m7 : Int) (w : World) (ht : Lib.TabIs Tryd.prog w "internal/strconv.uint64pow10" .u64 Lib.pow10Tab) :
    Calls Tryd.prog 23 #[.agg #[.int .i64 m0, .int .i64 m1, .int .i64 m2, .int .i64 m3, .int .i64 m4, .int .i64 m5, .int .i64 m6, .int .i64 m7]] w fun e w' => e = .returned (.string (cubT m0 m1 m2 m3 m4 m5 m6 m7)) ∧ Below w.heap.size w w' := by
  have CV := Lib.hid (fun w => implCubic_any m0 m1 m2 m3 m4 m5 m6 m7 w)
  rcases hv : okC m0 m1 m2 m3 m4 m5 m6 m7 with _ | _
  · rw [hv] at CV
    rw [cubT_f hv]
    clear hv ht
    go_enter Tryd.func23, Tryd.ntmps23
    go_wp2_with fail
    refine (CV.out _).mono ?_
    rintro e w1 ⟨rfl, hb1⟩
    have at1 : AtL w.heap.size [.int .i64 m0, .int .i64 m1, .int .i64 m2, .int .i64 m3, .int .i64 m4, .int .i64 m5, .int .i64 m6, .int .i64 m7] w1 := (AtL.new w _ _).below hb1
    have g1 : Below w.heap.size w w1 := by repeat' (first | with_reducible assumption | with_reducible exact Below.refl _ _ | (with_reducible refine Below.setCell ?_ ?_ _) | (with_reducible refine Below.alloc ?_ ?_ _) | (with_reducible refine Below.drew ?_) | (with_reducible refine below_dr ?_ _) | (with_reducible refine Below.trans ?_ (Below.mono (by with_reducible assumption) ?_)) | omega | (simp; done) | (simp; omega))
    clear hb1
    go_wp2_with fail
    go_ret
    exact ⟨rfl, g1⟩
  · obtain ⟨v0, v1, v2, v3⟩ := okC_parts hv
    have b0 := okB_bounds v0
    have t0 : (ptB m0 m1).size ≤ 43 := ptB_size ⟨by omega, by omega⟩ ⟨by omega, by omega⟩
    have C0 := fun w1 (hb : Below w.heap.size w w1) => implPtText_any m0 m1 w1 ⟨by omega, by omega⟩ ⟨by omega, by omega⟩ (Joins.tab_stays gPow ht hb (Nat.le_refl _))
    simp only [ptT_yes v0] at C0
    have b1 := okB_bounds v1
    have t1 : (ptB m2 m3).size ≤ 43 := ptB_size ⟨by omega, by omega⟩ ⟨by omega, by omega⟩
    have C1 := fun w1 (hb : Below w.heap.size w w1) => implPtText_any m2 m3 w1 ⟨by omega, by omega⟩ ⟨by omega, by omega⟩ (Joins.tab_stays gPow ht hb (Nat.le_refl _))
    simp only [ptT_yes v1] at C1
    have b2 := okB_bounds v2
    have t2 : (ptB m4 m5).size ≤ 43 := ptB_size ⟨by omega, by omega⟩ ⟨by omega, by omega⟩
    have C2 := fun w1 (hb : Below w.heap.size w w1) => implPtText_any m4 m5 w1 ⟨by omega, by omega⟩ ⟨by omega, by omega⟩ (Joins.tab_stays gPow ht hb (Nat.le_refl _))
    simp only [ptT_yes v2] at C2
    have b3 := okB_bounds v3
    have t3 : (ptB m6 m7).size ≤ 43 := ptB_size ⟨by omega, by omega⟩ ⟨by omega, by omega⟩
    have C3 := fun w1 (hb : Below w.heap.size w w1) => implPtText_any m6 m7 w1 ⟨by omega, by omega⟩ ⟨by omega, by omega⟩ (Joins.tab_stays gPow ht hb (Nat.le_refl _))
    simp only [ptT_yes v3] at C3
    have HE := Lib.hid (show joinB ⟨#[32]⟩ [ptB m0 m1, ptB m2 m3, ptB m4 m5, ptB m6 m7] = ptsB (cubP m0 m1 m2 m3 m4 m5 m6 m7) from rfl)
    rw [hv] at CV
    rw [cubT_t hv]
    generalize ptB m0 m1 = T0 at *
    generalize ptB m2 m3 = T1 at *
    generalize ptB m4 m5 = T2 at *
    generalize ptB m6 m7 = T3 at *
    generalize ptsB (cubP m0 m1 m2 m3 m4 m5 m6 m7) = T at *
    have H0 := Lib.hid C0
    have H1 := Lib.hid C1
    have H2 := Lib.hid C2
    have H3 := Lib.hid C3
    clear C0 C1 C2 C3 b0 b1 b2 b3 v0 v1 v2 v3 hv ht
    have CJ := Lib.hid (fun bk w h0 h1 h2 h3 hbk => join4_any T0 T1 T2 T3 43 bk w h0 h1 h2 h3 hbk t0 t1 t2 t3 (by omega))
    rw [HE.out] at CJ
    clear t0 t1 t2 t3
    go_enter Tryd.func23, Tryd.ntmps23
    go_wp2_with fail
    refine (CV.out _).mono ?_
    rintro e w1 ⟨rfl, hb1⟩
    have at1 : AtL w.heap.size [.int .i64 m0, .int .i64 m1, .int .i64 m2, .int .i64 m3, .int .i64 m4, .int .i64 m5, .int .i64 m6, .int .i64 m7] w1 := (AtL.new w _ _).below hb1
    have g1 : Below w.heap.size w w1 := by repeat' (first | with_reducible assumption | with_reducible exact Below.refl _ _ | (with_reducible refine Below.setCell ?_ ?_ _) | (with_reducible refine Below.alloc ?_ ?_ _) | (with_reducible refine Below.drew ?_) | (with_reducible refine below_dr ?_ _) | (with_reducible refine Below.trans ?_ (Below.mono (by with_reducible assumption) ?_)) | omega | (simp; done) | (simp; omega))
    clear hb1
    have k0 := at1.cell 0 rfl
    have k1 := at1.cell 1 rfl
    have k2 := at1.cell 2 rfl
    have k3 := at1.cell 3 rfl
    have k4 := at1.cell 4 rfl
    have k5 := at1.cell 5 rfl
    have k6 := at1.cell 6 rfl
    have k7 := at1.cell 7 rfl
    have lw := at1.lt
    go_wp2_with fail
    go_region_held3 (fun w' => (∀ b o, b < w1.heap.size → w'.cell? ⟨b, o, none⟩ = w1.cell? ⟨b, o, none⟩) ∧ w1.heap.size ≤ w'.heap.size)
      (first | ((try dsimp only); exact ⟨fun b o h => (by (repeat (first | with_reducible exact rfl | (with_reducible refine (cell_drew_at _ _).trans ?_) | (with_reducible refine (cell_set_at _ _ (by first | omega | (simp; done) | (simp; omega))).trans ?_) | (with_reducible refine (cell_alloc_at _ _ (by first | omega | (simp; done) | (simp; omega))).trans ?_) | (with_reducible refine (hcwT0 b o (by first | omega | (simp; done) | (simp; omega))).trans ?_) | (with_reducible refine (hcwT1 b o (by first | omega | (simp; done) | (simp; omega))).trans ?_) | (with_reducible refine (hcwT2 b o (by first | omega | (simp; done) | (simp; omega))).trans ?_) | (with_reducible refine (hcwT3 b o (by first | omega | (simp; done) | (simp; omega))).trans ?_) | (with_reducible refine (hcwJ b o (by first | omega | (simp; done) | (simp; omega))).trans ?_)))), (by first | omega | (simp; done) | (simp; omega))⟩) | fail)
      (first
        | (go_at_call 51; (with_reducible refine (H0.out _ (by repeat' (first | with_reducible assumption | with_reducible exact Below.refl _ _ | (with_reducible refine Below.setCell ?_ ?_ _) | (with_reducible refine Below.alloc ?_ ?_ _) | (with_reducible refine Below.drew ?_) | (with_reducible refine below_dr ?_ _) | (with_reducible refine Below.trans ?_ (Below.mono (by with_reducible assumption) ?_)) | omega | (simp; done) | (simp; omega)))).mono ?_); rintro e wT0 ⟨rfl, hbwT0⟩; obtain ⟨hcwT0, hfwT0⟩ := bcell hbwT0; have hzwT0 := hbwT0.size; (try simp only [World.size_drew] at hcwT0 hfwT0 hzwT0); (try simp only [World.size_alloc] at hcwT0 hfwT0 hzwT0))
        | (go_at_call 51; (with_reducible refine (H1.out _ (by repeat' (first | with_reducible assumption | with_reducible exact Below.refl _ _ | (with_reducible refine Below.setCell ?_ ?_ _) | (with_reducible refine Below.alloc ?_ ?_ _) | (with_reducible refine Below.drew ?_) | (with_reducible refine below_dr ?_ _) | (with_reducible refine Below.trans ?_ (Below.mono (by with_reducible assumption) ?_)) | omega | (simp; done) | (simp; omega)))).mono ?_); rintro e wT1 ⟨rfl, hbwT1⟩; obtain ⟨hcwT1, hfwT1⟩ := bcell hbwT1; have hzwT1 := hbwT1.size; (try simp only [World.size_drew] at hcwT1 hfwT1 hzwT1); (try simp only [World.size_alloc] at hcwT1 hfwT1 hzwT1))
        | (go_at_call 51; (with_reducible refine (H2.out _ (by repeat' (first | with_reducible assumption | with_reducible exact Below.refl _ _ | (with_reducible refine Below.setCell ?_ ?_ _) | (with_reducible refine Below.alloc ?_ ?_ _) | (with_reducible refine Below.drew ?_) | (with_reducible refine below_dr ?_ _) | (with_reducible refine Below.trans ?_ (Below.mono (by with_reducible assumption) ?_)) | omega | (simp; done) | (simp; omega)))).mono ?_); rintro e wT2 ⟨rfl, hbwT2⟩; obtain ⟨hcwT2, hfwT2⟩ := bcell hbwT2; have hzwT2 := hbwT2.size; (try simp only [World.size_drew] at hcwT2 hfwT2 hzwT2); (try simp only [World.size_alloc] at hcwT2 hfwT2 hzwT2))
        | (go_at_call 51; (with_reducible refine (H3.out _ (by repeat' (first | with_reducible assumption | with_reducible exact Below.refl _ _ | (with_reducible refine Below.setCell ?_ ?_ _) | (with_reducible refine Below.alloc ?_ ?_ _) | (with_reducible refine Below.drew ?_) | (with_reducible refine below_dr ?_ _) | (with_reducible refine Below.trans ?_ (Below.mono (by with_reducible assumption) ?_)) | omega | (simp; done) | (simp; omega)))).mono ?_); rintro e wT3 ⟨rfl, hbwT3⟩; obtain ⟨hcwT3, hfwT3⟩ := bcell hbwT3; have hzwT3 := hbwT3.size; (try simp only [World.size_drew] at hcwT3 hfwT3 hzwT3); (try simp only [World.size_alloc] at hcwT3 hfwT3 hzwT3))
        | (go_at_call 35; (with_reducible refine (CJ.out _ _ (by simp [go_sem]) (by simp [go_sem]) (by simp [go_sem]) (by simp [go_sem]) (by simp)).mono ?_); rintro e wJ ⟨rfl, hbwJ⟩; obtain ⟨hcwJ, hfwJ⟩ := bcell hbwJ; have hzwJ := hbwJ.size; (try simp only [World.size_drew] at hcwJ hfwJ hzwJ); (try simp only [World.size_alloc] at hcwJ hfwJ hzwJ)))
    all_goals
      go_wp2_with fail
      go_ret
      exact ⟨rfl, by repeat' (first | with_reducible assumption | with_reducible exact Below.refl _ _ | (with_reducible refine Below.setCell ?_ ?_ _) | (with_reducible refine Below.alloc ?_ ?_ _) | (with_reducible refine Below.drew ?_) | (with_reducible refine below_dr ?_ _) | (with_reducible refine Below.trans ?_ (Below.mono (by with_reducible assumption) ?_)) | omega | (simp; done) | (simp; omega))⟩
end Go.Proofs.YtjlmoadnbbeloaaDoor
