/- Walks: sets of glyphs that are the same, on the reference's side. -/
import Derived.Test.YtelefmogmloniaaGmg
import Derived.Test.YtelefmogmloniaaGmh
namespace Go.Proofs.Ytelefmogmloniaa
open Go.RowKit
set_option linter.unusedVariables false
set_option maxHeartbeats 6400000 in
theorem specSameGlyphSet_any (a0 : Int) (a1A : Option Addr) (a1c : Nat) (a1l : List DGlyph) (b0 : Int) (b1A : Option Addr) (b1c : Nat) (b1l : List DGlyph) (w : World) (h_a : totGlyphSet (a0, a1l) ≤ 1048576) (h_b : totGlyphSet (b0, b1l) ≤ 1048576) (r_a1 : Row RvGlyph 7 w w.heap.size a1A a1l) (r_b1 : Row RvGlyph 7 w w.heap.size b1A b1l) :
    Calls Try.prog 21 #[.agg #[.int .i64 a0, .slice a1A a1l.length a1c], .agg #[.int .i64 b0, .slice b1A b1l.length b1c]] w fun e w' => e = .returned (.bool (smS (a0, a1l) (b0, b1l))) ∧ Below w.heap.size w w' := by
  have HI := Lib.hid (glyphs_in h_a)
  have HI' := Lib.hid (glyphs_in h_b)
  have hll := Nat.le_trans (totRow_len totGlyph a1l) h_a
  have hml := Nat.le_trans (totRow_len totGlyph b1l) h_b
  clear h_a h_b
  have hv : smS (a0, a1l) (b0, b1l) = (decide (a0 = b0) && eqG kGlyph a1l b1l) := rfl
  rw [hv]; clear hv
  obtain ⟨v, hv⟩ : ∃ v, v = eqG kGlyph a1l b1l := ⟨_, rfl⟩
  rw [← hv]
  have HV := Lib.hid hv
  clear hv
  have G := bne_dec a0 b0
  generalize decide (a0 = b0) = u at G ⊢
  cases u
  case false =>
    simp only [Bool.not_false] at G
    go_enter Try.func21, Try.ntmps21
    go_wp2_with fail
    go_ret
    exact ⟨rfl, by repeat' (first | with_reducible assumption | with_reducible exact Below.refl _ _ | (with_reducible refine Below.setCell ?_ ?_ _) | (with_reducible refine Below.alloc ?_ ?_ _) | (with_reducible refine Below.drew ?_) | (with_reducible refine below_dr ?_ _) | (with_reducible refine Below.trans ?_ (Below.mono (by with_reducible assumption) ?_)) | omega | (simp; done) | (simp; omega))⟩
  case true =>
    simp only [Bool.not_true] at G
    by_cases hln : a1l.length = b1l.length
    case neg =>
      have e0 : ((a1l.length : Int) != (b1l.length : Int)) = true := by rw [bne_iff_ne]; omega
      obtain rfl : v = false := by rw [HV.out]; exact (eqG_len (f := kGlyph) hln).symm
      clear hln
      go_enter Try.func21, Try.ntmps21
      go_wp2_with fail
      go_ret
      exact ⟨rfl, by repeat' (first | with_reducible assumption | with_reducible exact Below.refl _ _ | (with_reducible refine Below.setCell ?_ ?_ _) | (with_reducible refine Below.alloc ?_ ?_ _) | (with_reducible refine Below.drew ?_) | (with_reducible refine below_dr ?_ _) | (with_reducible refine Below.trans ?_ (Below.mono (by with_reducible assumption) ?_)) | omega | (simp; done) | (simp; omega))⟩
    case pos =>
      obtain ⟨n, hn⟩ : ∃ n, n = a1l.length := ⟨_, rfl⟩
      have HL := Lib.hid hln
      rw [← hln, ← hn]
      rw [← hn] at hll
      have HN := Lib.hid hn
      have e0 : ((n : Int) != (n : Int)) = false := by simp
      clear hn hln hml
      go_enter Try.func21, Try.ntmps21
      go_wp2_with fail
      generalize hW : (w.alloc (.cells #[.int .i64 a0, .slice a1A n a1c] 49)).alloc (.cells #[.int .i64 b0, .slice b1A n b1c] 49) = W0
      have s1 : W0.cell? ⟨w.heap.size, 1, none⟩ = some (.slice a1A n a1c) := by rw [← hW]; simp [go_sem]
      have t1 : W0.cell? ⟨w.heap.size + 1, 1, none⟩ = some (.slice b1A n b1c) := by rw [← hW]; simp [go_sem]
      have hb0 : Below w.heap.size w W0 := by rw [← hW]; repeat' (first | with_reducible assumption | with_reducible exact Below.refl _ _ | (with_reducible refine Below.setCell ?_ ?_ _) | (with_reducible refine Below.alloc ?_ ?_ _) | (with_reducible refine Below.drew ?_) | (with_reducible refine below_dr ?_ _) | (with_reducible refine Below.trans ?_ (Below.mono (by with_reducible assumption) ?_)) | omega | (simp; done) | (simp; omega))
      have z0 : w.heap.size + 1 < W0.heap.size := by rw [← hW]; simp
      have R0 : Row RvGlyph 7 W0 w.heap.size a1A a1l := by rw [← hW]; exact (r_a1.alloc (Nat.le_refl _) _).alloc (by simp) _
      have R0' : Row RvGlyph 7 W0 w.heap.size b1A b1l := by rw [← hW]; exact (r_b1.alloc (Nat.le_refl _) _).alloc (by simp) _
      clear hW r_a1 r_b1
      go_loopw [5] (fun i wr => ∃ k : Nat, k ≤ n ∧ i = .int .i64 k ∧ upG kGlyph a1l b1l k = true ∧ Below W0.heap.size W0 wr) (fun i _ => n - (intOf i).toNat)
      case atStart => exact ⟨0, Nat.zero_le _, rfl, upG_zero, by repeat' (first | with_reducible assumption | with_reducible exact Below.refl _ _ | (with_reducible refine Below.setCell ?_ ?_ _) | (with_reducible refine Below.alloc ?_ ?_ _) | (with_reducible refine Below.drew ?_) | (with_reducible refine below_dr ?_ _) | (with_reducible refine Below.trans ?_ (Below.mono (by with_reducible assumption) ?_)) | omega | (simp; done) | (simp; omega))⟩
      case round =>
        obtain ⟨k, hk, rfl, hup, hbl⟩ := hrel
        have HUP := Lib.hid hup
        clear hup
        have zr := hbl.size
        have y1 : w.heap.size + 1 < wr.heap.size := by omega
        have y2 : w.heap.size < wr.heap.size := by omega
        have s1z : wr.cell? ⟨w.heap.size, 1, none⟩ = some (.slice a1A n a1c) := (hbl.cell (p := ⟨w.heap.size, 1, none⟩) (by show w.heap.size < _; omega)).trans s1
        have t1z : wr.cell? ⟨w.heap.size + 1, 1, none⟩ = some (.slice b1A n b1c) := (hbl.cell (p := ⟨w.heap.size + 1, 1, none⟩) z0).trans t1
        by_cases hlt : k < n
        case pos =>
          obtain ⟨⟨x0, x1, x2, x3l, x4l, x5l, x6⟩, ha⟩ : ∃ a, a1l[k]? = some a := ⟨a1l[k]'(by have := HN.out; omega), List.getElem?_eq_getElem (by have := HN.out; omega)⟩
          obtain ⟨⟨y0, y1, y2, y3l, y4l, y5l, y6⟩, hb⟩ : ∃ a, b1l[k]? = some a := ⟨b1l[k]'(by have := HN.out; have := HL.out; omega), List.getElem?_eq_getElem (by have := HN.out; have := HL.out; omega)⟩
          obtain ⟨g, o, rowc, rfl, hg, hRc, hcc⟩ := (Row.carry (w' := wr) R0 hbl (by omega)).elem ha
          obtain ⟨x3A, x3c, x4A, x4c, x5A, x5c, rfl, u_x3, u_x4, u_x5⟩ := hRc
          have c0 : wr.cell? ⟨g, o + k * 7, none⟩ = some (.string x0) := hcc 0 _ rfl
          have c1 : wr.cell? ⟨g, o + k * 7 + 1, none⟩ = some (.int .i64 x1) := hcc 1 _ rfl
          have c2 : wr.cell? ⟨g, o + k * 7 + 2, none⟩ = some (.int .i64 x2) := hcc 2 _ rfl
          have c3 : wr.cell? ⟨g, o + k * 7 + 3, none⟩ = some (.slice x3A x3l.length x3c) := hcc 3 _ rfl
          have c4 : wr.cell? ⟨g, o + k * 7 + 4, none⟩ = some (.slice x4A x4l.length x4c) := hcc 4 _ rfl
          have c5 : wr.cell? ⟨g, o + k * 7 + 5, none⟩ = some (.slice x5A x5l.length x5c) := hcc 5 _ rfl
          have c6 : wr.cell? ⟨g, o + k * 7 + 6, none⟩ = some (.string x6) := hcc 6 _ rfl
          clear hcc
          obtain ⟨g', o', rowd, rfl, hg', hRd, hcd⟩ := (Row.carry (w' := wr) R0' hbl (by omega)).elem hb
          obtain ⟨y3A, y3c, y4A, y4c, y5A, y5c, rfl, v_y3, v_y4, v_y5⟩ := hRd
          have d0 : wr.cell? ⟨g', o' + k * 7, none⟩ = some (.string y0) := hcd 0 _ rfl
          have d1 : wr.cell? ⟨g', o' + k * 7 + 1, none⟩ = some (.int .i64 y1) := hcd 1 _ rfl
          have d2 : wr.cell? ⟨g', o' + k * 7 + 2, none⟩ = some (.int .i64 y2) := hcd 2 _ rfl
          have d3 : wr.cell? ⟨g', o' + k * 7 + 3, none⟩ = some (.slice y3A y3l.length y3c) := hcd 3 _ rfl
          have d4 : wr.cell? ⟨g', o' + k * 7 + 4, none⟩ = some (.slice y4A y4l.length y4c) := hcd 4 _ rfl
          have d5 : wr.cell? ⟨g', o' + k * 7 + 5, none⟩ = some (.slice y5A y5l.length y5c) := hcd 5 _ rfl
          have d6 : wr.cell? ⟨g', o' + k * 7 + 6, none⟩ = some (.string y6) := hcd 6 _ rfl
          clear hcd
          have ti := HI.out k _ ha
          have ti' := HI'.out k _ hb
          have HA := Lib.hid ha
          have HB := Lib.hid hb
          clear ha hb
          have hgw : g < wr.heap.size := by omega
          have hgw' : g' < wr.heap.size := by omega
          have hki : (k : Int) < (n : Int) := by omega
          rcases hv : smG (x0, x1, x2, x3l, x4l, x5l, x6) (y0, y1, y2, y3l, y4l, y5l, y6) with _ | _
          case false =>
            have C := Lib.hid (fun w1 z1 z2 c0 c1 c2 c3 c4 c5 c6 d0 d1 d2 d3 d4 d5 d6 qx3 qx4 qx5 qy3 qy4 qy5 => l17Same_any x0 x1 x2 x3A x3c x3l x4A x4c x4l x5A x5c x5l x6 y0 y1 y2 y3A y3c y3l y4A y4c y4l y5A y5c y5l y6 g (o + k * 7) g' (o' + k * 7) w1 ti ti' z1 z2 c0 c1 c2 c3 c4 c5 c6 d0 d1 d2 d3 d4 d5 d6 qx3 qx4 qx5 qy3 qy4 qy5)
            simp only [hv] at C
            have HVV := Lib.hid hv
            clear hv ti ti'
            go_wp2_with fail
            go_region_held3 (fun w' => (∀ b o, b < wr.heap.size → w'.cell? ⟨b, o, none⟩ = wr.cell? ⟨b, o, none⟩) ∧ wr.heap.size ≤ w'.heap.size)
              (first | ((try dsimp only); exact ⟨fun b o h => (by (repeat (first | with_reducible exact rfl | (with_reducible refine (cell_drew_at _ _).trans ?_) | (with_reducible refine (cell_set_at _ _ (by first | omega | (simp; done) | (simp; omega))).trans ?_) | (with_reducible refine (cell_alloc_at _ _ (by first | omega | (simp; done) | (simp; omega))).trans ?_) | (with_reducible refine (hcw9 b o (by first | omega | (simp; done) | (simp; omega))).trans ?_)))), (by first | omega | (simp; done) | (simp; omega))⟩) | fail)
              (first | (go_at_call 63; (refine (C.out _ (by omega) (by omega) (by first | assumption | exact c0 | (simp [*]; done)) (by first | assumption | exact c1 | (simp [*]; done)) (by first | assumption | exact c2 | (simp [*]; done)) (by first | assumption | exact c3 | (simp [*]; done)) (by first | assumption | exact c4 | (simp [*]; done)) (by first | assumption | exact c5 | (simp [*]; done)) (by first | assumption | exact c6 | (simp [*]; done)) (by first | assumption | exact d0 | (simp [*]; done)) (by first | assumption | exact d1 | (simp [*]; done)) (by first | assumption | exact d2 | (simp [*]; done)) (by first | assumption | exact d3 | (simp [*]; done)) (by first | assumption | exact d4 | (simp [*]; done)) (by first | assumption | exact d5 | (simp [*]; done)) (by first | assumption | exact d6 | (simp [*]; done)) ?_ ?_ ?_ ?_ ?_ ?_).mono ?_); (focus (first | exact u_x3.more (by omega) | exact (Row.drew u_x3).more (by first | omega | (simp; omega)) | (exact (Row.carry (w' := _) u_x3 (by repeat' (first | with_reducible assumption | with_reducible exact Below.refl _ _ | (with_reducible refine Below.setCell ?_ ?_ _) | (with_reducible refine Below.alloc ?_ ?_ _) | (with_reducible refine Below.drew ?_) | (with_reducible refine below_dr ?_ _) | (with_reducible refine Below.trans ?_ (Below.mono (by with_reducible assumption) ?_)) | omega | (simp; done) | (simp; omega))) (by omega)).more (by first | omega | (simp; omega))))); (focus (first | exact u_x4.more (by omega) | exact (Row.drew u_x4).more (by first | omega | (simp; omega)) | (exact (Row.carry (w' := _) u_x4 (by repeat' (first | with_reducible assumption | with_reducible exact Below.refl _ _ | (with_reducible refine Below.setCell ?_ ?_ _) | (with_reducible refine Below.alloc ?_ ?_ _) | (with_reducible refine Below.drew ?_) | (with_reducible refine below_dr ?_ _) | (with_reducible refine Below.trans ?_ (Below.mono (by with_reducible assumption) ?_)) | omega | (simp; done) | (simp; omega))) (by omega)).more (by first | omega | (simp; omega))))); (focus (first | exact u_x5.more (by omega) | exact (Row.drew u_x5).more (by first | omega | (simp; omega)) | (exact (Row.carry (w' := _) u_x5 (by repeat' (first | with_reducible assumption | with_reducible exact Below.refl _ _ | (with_reducible refine Below.setCell ?_ ?_ _) | (with_reducible refine Below.alloc ?_ ?_ _) | (with_reducible refine Below.drew ?_) | (with_reducible refine below_dr ?_ _) | (with_reducible refine Below.trans ?_ (Below.mono (by with_reducible assumption) ?_)) | omega | (simp; done) | (simp; omega))) (by omega)).more (by first | omega | (simp; omega))))); (focus (first | exact v_y3.more (by omega) | exact (Row.drew v_y3).more (by first | omega | (simp; omega)) | (exact (Row.carry (w' := _) v_y3 (by repeat' (first | with_reducible assumption | with_reducible exact Below.refl _ _ | (with_reducible refine Below.setCell ?_ ?_ _) | (with_reducible refine Below.alloc ?_ ?_ _) | (with_reducible refine Below.drew ?_) | (with_reducible refine below_dr ?_ _) | (with_reducible refine Below.trans ?_ (Below.mono (by with_reducible assumption) ?_)) | omega | (simp; done) | (simp; omega))) (by omega)).more (by first | omega | (simp; omega))))); (focus (first | exact v_y4.more (by omega) | exact (Row.drew v_y4).more (by first | omega | (simp; omega)) | (exact (Row.carry (w' := _) v_y4 (by repeat' (first | with_reducible assumption | with_reducible exact Below.refl _ _ | (with_reducible refine Below.setCell ?_ ?_ _) | (with_reducible refine Below.alloc ?_ ?_ _) | (with_reducible refine Below.drew ?_) | (with_reducible refine below_dr ?_ _) | (with_reducible refine Below.trans ?_ (Below.mono (by with_reducible assumption) ?_)) | omega | (simp; done) | (simp; omega))) (by omega)).more (by first | omega | (simp; omega))))); (focus (first | exact v_y5.more (by omega) | exact (Row.drew v_y5).more (by first | omega | (simp; omega)) | (exact (Row.carry (w' := _) v_y5 (by repeat' (first | with_reducible assumption | with_reducible exact Below.refl _ _ | (with_reducible refine Below.setCell ?_ ?_ _) | (with_reducible refine Below.alloc ?_ ?_ _) | (with_reducible refine Below.drew ?_) | (with_reducible refine below_dr ?_ _) | (with_reducible refine Below.trans ?_ (Below.mono (by with_reducible assumption) ?_)) | omega | (simp; done) | (simp; omega))) (by omega)).more (by first | omega | (simp; omega))))); rintro e w9 ⟨rfl, hb9⟩; obtain ⟨hcw9, hfw9⟩ := bcell hb9; have hzw9 := hb9.size; (try simp only [World.size_drew] at hcw9 hfw9 hzw9)))
            all_goals
              go_wp2_with fail
              go_ret
              obtain rfl : v = false := by rw [HV.out]; exact (eqG_no (f := kGlyph) HA.out HB.out (smG_no HVV.out)).symm
              exact ⟨rfl, by repeat' (first | with_reducible assumption | with_reducible exact Below.refl _ _ | (with_reducible refine Below.setCell ?_ ?_ _) | (with_reducible refine Below.alloc ?_ ?_ _) | (with_reducible refine Below.drew ?_) | (with_reducible refine below_dr ?_ _) | (with_reducible refine Below.trans ?_ (Below.mono (by with_reducible assumption) ?_)) | omega | (simp; done) | (simp; omega))⟩
          case true =>
            have C := Lib.hid (fun w1 z1 z2 c0 c1 c2 c3 c4 c5 c6 d0 d1 d2 d3 d4 d5 d6 qx3 qx4 qx5 qy3 qy4 qy5 => l17Same_any x0 x1 x2 x3A x3c x3l x4A x4c x4l x5A x5c x5l x6 y0 y1 y2 y3A y3c y3l y4A y4c y4l y5A y5c y5l y6 g (o + k * 7) g' (o' + k * 7) w1 ti ti' z1 z2 c0 c1 c2 c3 c4 c5 c6 d0 d1 d2 d3 d4 d5 d6 qx3 qx4 qx5 qy3 qy4 qy5)
            simp only [hv] at C
            have HVV := Lib.hid hv
            clear hv ti ti'
            go_wp2_with fail
            go_region_held3 (fun w' => (∀ b o, b < wr.heap.size → w'.cell? ⟨b, o, none⟩ = wr.cell? ⟨b, o, none⟩) ∧ wr.heap.size ≤ w'.heap.size)
              (first | ((try dsimp only); exact ⟨fun b o h => (by (repeat (first | with_reducible exact rfl | (with_reducible refine (cell_drew_at _ _).trans ?_) | (with_reducible refine (cell_set_at _ _ (by first | omega | (simp; done) | (simp; omega))).trans ?_) | (with_reducible refine (cell_alloc_at _ _ (by first | omega | (simp; done) | (simp; omega))).trans ?_) | (with_reducible refine (hcw9 b o (by first | omega | (simp; done) | (simp; omega))).trans ?_)))), (by first | omega | (simp; done) | (simp; omega))⟩) | fail)
              (first | (go_at_call 63; (refine (C.out _ (by omega) (by omega) (by first | assumption | exact c0 | (simp [*]; done)) (by first | assumption | exact c1 | (simp [*]; done)) (by first | assumption | exact c2 | (simp [*]; done)) (by first | assumption | exact c3 | (simp [*]; done)) (by first | assumption | exact c4 | (simp [*]; done)) (by first | assumption | exact c5 | (simp [*]; done)) (by first | assumption | exact c6 | (simp [*]; done)) (by first | assumption | exact d0 | (simp [*]; done)) (by first | assumption | exact d1 | (simp [*]; done)) (by first | assumption | exact d2 | (simp [*]; done)) (by first | assumption | exact d3 | (simp [*]; done)) (by first | assumption | exact d4 | (simp [*]; done)) (by first | assumption | exact d5 | (simp [*]; done)) (by first | assumption | exact d6 | (simp [*]; done)) ?_ ?_ ?_ ?_ ?_ ?_).mono ?_); (focus (first | exact u_x3.more (by omega) | exact (Row.drew u_x3).more (by first | omega | (simp; omega)) | (exact (Row.carry (w' := _) u_x3 (by repeat' (first | with_reducible assumption | with_reducible exact Below.refl _ _ | (with_reducible refine Below.setCell ?_ ?_ _) | (with_reducible refine Below.alloc ?_ ?_ _) | (with_reducible refine Below.drew ?_) | (with_reducible refine below_dr ?_ _) | (with_reducible refine Below.trans ?_ (Below.mono (by with_reducible assumption) ?_)) | omega | (simp; done) | (simp; omega))) (by omega)).more (by first | omega | (simp; omega))))); (focus (first | exact u_x4.more (by omega) | exact (Row.drew u_x4).more (by first | omega | (simp; omega)) | (exact (Row.carry (w' := _) u_x4 (by repeat' (first | with_reducible assumption | with_reducible exact Below.refl _ _ | (with_reducible refine Below.setCell ?_ ?_ _) | (with_reducible refine Below.alloc ?_ ?_ _) | (with_reducible refine Below.drew ?_) | (with_reducible refine below_dr ?_ _) | (with_reducible refine Below.trans ?_ (Below.mono (by with_reducible assumption) ?_)) | omega | (simp; done) | (simp; omega))) (by omega)).more (by first | omega | (simp; omega))))); (focus (first | exact u_x5.more (by omega) | exact (Row.drew u_x5).more (by first | omega | (simp; omega)) | (exact (Row.carry (w' := _) u_x5 (by repeat' (first | with_reducible assumption | with_reducible exact Below.refl _ _ | (with_reducible refine Below.setCell ?_ ?_ _) | (with_reducible refine Below.alloc ?_ ?_ _) | (with_reducible refine Below.drew ?_) | (with_reducible refine below_dr ?_ _) | (with_reducible refine Below.trans ?_ (Below.mono (by with_reducible assumption) ?_)) | omega | (simp; done) | (simp; omega))) (by omega)).more (by first | omega | (simp; omega))))); (focus (first | exact v_y3.more (by omega) | exact (Row.drew v_y3).more (by first | omega | (simp; omega)) | (exact (Row.carry (w' := _) v_y3 (by repeat' (first | with_reducible assumption | with_reducible exact Below.refl _ _ | (with_reducible refine Below.setCell ?_ ?_ _) | (with_reducible refine Below.alloc ?_ ?_ _) | (with_reducible refine Below.drew ?_) | (with_reducible refine below_dr ?_ _) | (with_reducible refine Below.trans ?_ (Below.mono (by with_reducible assumption) ?_)) | omega | (simp; done) | (simp; omega))) (by omega)).more (by first | omega | (simp; omega))))); (focus (first | exact v_y4.more (by omega) | exact (Row.drew v_y4).more (by first | omega | (simp; omega)) | (exact (Row.carry (w' := _) v_y4 (by repeat' (first | with_reducible assumption | with_reducible exact Below.refl _ _ | (with_reducible refine Below.setCell ?_ ?_ _) | (with_reducible refine Below.alloc ?_ ?_ _) | (with_reducible refine Below.drew ?_) | (with_reducible refine below_dr ?_ _) | (with_reducible refine Below.trans ?_ (Below.mono (by with_reducible assumption) ?_)) | omega | (simp; done) | (simp; omega))) (by omega)).more (by first | omega | (simp; omega))))); (focus (first | exact v_y5.more (by omega) | exact (Row.drew v_y5).more (by first | omega | (simp; omega)) | (exact (Row.carry (w' := _) v_y5 (by repeat' (first | with_reducible assumption | with_reducible exact Below.refl _ _ | (with_reducible refine Below.setCell ?_ ?_ _) | (with_reducible refine Below.alloc ?_ ?_ _) | (with_reducible refine Below.drew ?_) | (with_reducible refine below_dr ?_ _) | (with_reducible refine Below.trans ?_ (Below.mono (by with_reducible assumption) ?_)) | omega | (simp; done) | (simp; omega))) (by omega)).more (by first | omega | (simp; omega))))); rintro e w9 ⟨rfl, hb9⟩; obtain ⟨hcw9, hfw9⟩ := bcell hb9; have hzw9 := hb9.size; (try simp only [World.size_drew] at hcw9 hfw9 hzw9)))
            all_goals
              go_wp2_with fail
              go_roundw
              case rel => exact ⟨k + 1, by omega, by go_num, upG_succ HUP.out HA.out HB.out (smG_yes HVV.out), by repeat' (first | with_reducible assumption | with_reducible exact Below.refl _ _ | (with_reducible refine Below.setCell ?_ ?_ _) | (with_reducible refine Below.alloc ?_ ?_ _) | (with_reducible refine Below.drew ?_) | (with_reducible refine below_dr ?_ _) | (with_reducible refine Below.trans ?_ (Below.mono (by with_reducible assumption) ?_)) | omega | (simp; done) | (simp; omega))⟩
              case measure => simp [intOf]; omega
        case neg =>
          obtain rfl : k = n := by omega
          obtain rfl : v = true := by rw [HV.out]; exact (eqG_yes (f := kGlyph) HL.out (HN.out ▸ HUP.out)).symm
          go_wp2_with fail
          go_ret
          exact ⟨rfl, by repeat' (first | with_reducible assumption | with_reducible exact Below.refl _ _ | (with_reducible refine Below.setCell ?_ ?_ _) | (with_reducible refine Below.alloc ?_ ?_ _) | (with_reducible refine Below.drew ?_) | (with_reducible refine below_dr ?_ _) | (with_reducible refine Below.trans ?_ (Below.mono (by with_reducible assumption) ?_)) | omega | (simp; done) | (simp; omega))⟩
end Go.Proofs.Ytelefmogmloniaa
