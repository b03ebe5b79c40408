/- Walks: the law on ValidGlyphSet, over contracts of both sides. -/
import Derived.Test.YtelefmogmloniaaGl5
import Derived.Test.YtelefmogmloniaaGpd
import Derived.Test.YtelefmogmloniaaGpe
import Derived.Test.YtelefmogmloniaaGpf
namespace Go.Proofs.Ytelefmogmloniaa
open Go.RowKit
set_option linter.unusedVariables false
theorem vG_parts {d : DGlyph} (h : vG d = true) : d.2.2.2.2.1.all vPart = true := by
  obtain ⟨a0, a1, a2, a3, a4, a5, a6⟩ := d
  rw [vG_eq] at h
  simp only [Bool.and_eq_true] at h
  exact h.1.2.1
theorem vG_wf {d : DGlyph} (h : vG d = true) : (Lit.int .i64 d.2.1).wf = true := by
  obtain ⟨a0, a1, a2, a3, a4, a5, a6⟩ := d
  rw [vG_eq] at h
  simp only [Bool.and_eq_true, decide_eq_true_eq] at h
  have h2 := h.1.1.1.1.2
  show (Lit.int .i64 a1).wf = true
  exact WalkArith.wf_i64 (by omega)
theorem parts_ok {l : List DGlyph} {n : Nat} (h1 : l.all vG = true) (h2 : l.all (inSet n) = true) (i : Nat) (d : DGlyph) (hd : l[i]? = some d) (k : Nat) (a : DPart) (ha : d.2.2.2.2.1[k]? = some a) : 0 ≤ a.1 ∧ a.1 < (n : Int) := by
  have g1 := vG_parts (List.all_eq_true.1 h1 d (List.mem_of_getElem? hd))
  have g2 := List.all_eq_true.1 g1 a (List.mem_of_getElem? ha)
  have g3 := List.all_eq_true.1 h2 d (List.mem_of_getElem? hd)
  unfold inSet at g3
  have g4 := List.all_eq_true.1 g3 a (List.mem_of_getElem? ha)
  unfold vPart at g2
  simp only [Bool.and_eq_true, decide_eq_true_eq] at g2 g4
  exact ⟨g2.1.1, g4⟩
theorem ord_no {l : List DGlyph} (h : l.all (inSet l.length) = false) : decide ((ordL (psOf l)).length = l.length) = false := by
  rw [decide_eq_false_iff_not]
  intro e
  rw [List.all_eq_false] at h
  obtain ⟨d, hd, hn⟩ := h
  obtain ⟨i, hi⟩ := List.getElem?_of_mem hd
  apply hn
  unfold inSet
  rw [List.all_eq_true]
  intro a ha
  rw [decide_eq_true_eq]
  have hl : i < (psOf l).length := by rw [psOf_len]; exact (List.getElem?_eq_some_iff.1 hi).1
  obtain ⟨j, hj, hja⟩ := ordL_all (ps := psOf l) (i := i) (by rw [e, psOf_len]) hl a.1 (by rw [psOf_at hi]; exact List.mem_map.2 ⟨a, ha, rfl⟩)
  rw [psOf_len] at hj
  omega
theorem names_le {l : List DGlyph} {n : Nat} (h : totRow totGlyph l ≤ n) (i : Nat) (d : DGlyph) (hd : l[i]? = some d) : d.1.size ≤ n := by
  have h1 := totRow_at (f := totGlyph) hd
  obtain ⟨a0, a1, a2, a3, a4, a5, a6⟩ := d
  simp only [totGlyph] at h1
  show a0.size ≤ n
  omega
set_option maxHeartbeats 1600000 in
theorem isUnit_any (u : Int) (w : World) : Calls Try.prog 73 #[.int .i64 u] w fun e w' => e = .returned (.bool (decide (16 ≤ u ∧ u ≤ 16384))) ∧ Below w.heap.size w w' := by
  by_cases h : 16 ≤ u ∧ u ≤ 16384
  · rw [decide_eq_true h]
    obtain ⟨h1, h2⟩ := h
    have q1 : decide (u ≥ 16) = true := by simpa using h1
    have q2 : decide (u ≤ 16384) = true := by simpa using h2
    go_enter Try.func73, Try.ntmps73
    go_wp2_with fail
    go_ret
    exact ⟨rfl, by repeat' (first | with_reducible assumption | with_reducible exact Below.refl _ _ | (with_reducible refine Below.setCell ?_ ?_ _) | (with_reducible refine Below.alloc ?_ ?_ _) | (with_reducible refine Below.drew ?_) | (with_reducible refine below_dr ?_ _) | (with_reducible refine Below.trans ?_ (Below.mono (by with_reducible assumption) ?_)) | omega | (simp; done) | (simp; omega))⟩
  · rw [decide_eq_false h]
    by_cases h1 : 16 ≤ u
    · have q1 : decide (u ≥ 16) = true := by simpa using h1
      have q2 : decide (u ≤ 16384) = false := by simp; omega
      go_enter Try.func73, Try.ntmps73
      go_wp2_with fail
      go_ret
      exact ⟨rfl, by repeat' (first | with_reducible assumption | with_reducible exact Below.refl _ _ | (with_reducible refine Below.setCell ?_ ?_ _) | (with_reducible refine Below.alloc ?_ ?_ _) | (with_reducible refine Below.drew ?_) | (with_reducible refine below_dr ?_ _) | (with_reducible refine Below.trans ?_ (Below.mono (by with_reducible assumption) ?_)) | omega | (simp; done) | (simp; omega))⟩
    · have q1 : decide (u ≥ 16) = false := by simp; omega
      go_enter Try.func73, Try.ntmps73
      go_wp2_with fail
      go_ret
      exact ⟨rfl, by repeat' (first | with_reducible assumption | with_reducible exact Below.refl _ _ | (with_reducible refine Below.setCell ?_ ?_ _) | (with_reducible refine Below.alloc ?_ ?_ _) | (with_reducible refine Below.drew ?_) | (with_reducible refine below_dr ?_ _) | (with_reducible refine Below.trans ?_ (Below.mono (by with_reducible assumption) ?_)) | omega | (simp; done) | (simp; omega))⟩
set_option maxRecDepth 100000 in
set_option maxHeartbeats 12800000 in
theorem implValidGlyphSet_any (u : Int) (l : List DGlyph) (A : Option Addr) (c : Nat) (w : World) (ht : totRow totGlyph l ≤ 1048576) (r : Row RvGlyph 7 w w.heap.size A l) :
    Calls Try.prog 31 #[.agg #[.int .i64 u, .slice A l.length c]] w fun e w' => e = .returned (.bool (vS (u, l))) ∧ Below w.heap.size w w' := by
  have hll := Nat.le_trans (totRow_len totGlyph l) ht
  have hv : vS (u, l) = ((decide (16 ≤ u ∧ u ≤ 16384) && decide (l.length ≤ 40)) && (l.all vG && (nmOk gN l && cdUp l l.length)) && decide ((ordL (psOf l)).length = l.length)) := rfl
  rw [hv]
  clear hv
  have CU := Lib.hid (fun w => isUnit_any u w)
  have CG := Lib.hid (fun w r => allGlyphs_any l A c w ht r)
  have CN := Lib.hid (fun w r => areNamedGlyph_any l A c w hll (fun i d hd => Nat.le_trans (names_le ht i d hd) (by unfold maxLen; omega)) r)
  have CH1 := Lib.hid (fun w r => allHave_any u A l.length c l A c w ht r)
  have CD := Lib.hid (fun (h : l.all vG = true) w r => diffCodes_any u l A c w hll (fun i d hd => vG_wf (List.all_eq_true.1 h d (List.mem_of_getElem? hd))) r)
  have CO := Lib.hid (fun (h40 : l.length ≤ 40) (h1 : l.all vG = true) (h2 : l.all (inSet l.length) = true) w r => upwards_any u l A c w h40 ht (parts_ok h1 h2) r)
  have HNO := Lib.hid (ord_no (l := l))
  generalize decide (16 ≤ u ∧ u ≤ 16384) = v0 at CU ⊢
  generalize l.all vG = v1 at CG CD CO ⊢
  generalize nmOk gN l = v2 at CN ⊢
  generalize cdUp l l.length = v3 at CD ⊢
  generalize l.all (inSet l.length) = v4 at CH1 CO HNO
  obtain ⟨N, hN⟩ : ∃ N, N = (ordL (psOf l)).length := ⟨_, rfl⟩
  rw [← hN] at CO HNO ⊢
  clear hN
  obtain ⟨n, hn⟩ : ∃ n, n = l.length := ⟨_, rfl⟩
  rw [← hn] at hll CG CN CH1 CD CO HNO ⊢
  clear hn ht
  have F := len_eq_dec N n
  generalize decide (N = n) = vn at F HNO ⊢
  go_enter Try.func31, Try.ntmps31
  go_wp2_with fail
  refine (CU.out _).mono ?_
  rintro e wU ⟨rfl, hbwU⟩
  obtain ⟨hcwU, hfwU⟩ := bcell hbwU
  have hzwU := hbwU.size
  (try simp only [World.size_alloc] at hcwU hfwU hzwU)
  have ywU0 : wU.cell? ⟨w.heap.size, 0, none⟩ = some (.int .i64 u) := (hcwU _ _ (by first | omega | (simp; done) | (simp; omega))).trans (by simp [go_sem])
  have ywU1 : wU.cell? ⟨w.heap.size, 1, none⟩ = some (.slice A n c) := (hcwU _ _ (by first | omega | (simp; done) | (simp; omega))).trans (by simp [go_sem])
  have qwU : w.heap.size < wU.heap.size := by omega
  clear hcwU hfwU
  cases v0
  case false =>
    go_wp2_with fail
    go_ret
    exact ⟨ret_bool (by simp), by repeat' (first | with_reducible assumption | with_reducible exact Below.refl _ _ | (with_reducible refine Below.setCell ?_ ?_ _) | (with_reducible refine Below.alloc ?_ ?_ _) | (with_reducible refine Below.drew ?_) | (with_reducible refine below_dr ?_ _) | (with_reducible refine Below.trans ?_ (Below.mono (by with_reducible assumption) ?_)) | omega | (simp; done) | (simp; omega))⟩
  case true =>
    by_cases h40 : n ≤ 40
    case neg =>
      have q40 : (40 : Int) < n := by omega
      go_wp2_with fail
      go_ret
      exact ⟨ret_bool (by simp [h40]), by repeat' (first | with_reducible assumption | with_reducible exact Below.refl _ _ | (with_reducible refine Below.setCell ?_ ?_ _) | (with_reducible refine Below.alloc ?_ ?_ _) | (with_reducible refine Below.drew ?_) | (with_reducible refine below_dr ?_ _) | (with_reducible refine Below.trans ?_ (Below.mono (by with_reducible assumption) ?_)) | omega | (simp; done) | (simp; omega))⟩
    case pos =>
      have q40 : ¬ (40 : Int) < n := by omega
      have H40 := Lib.hid (decide_eq_true h40)
      go_wp2_with fail
      refine (CG.out _ ?_).mono ?_
      · exact (Row.carry (w' := _) r (by repeat' (first | with_reducible assumption | with_reducible exact Below.refl _ _ | (with_reducible refine Below.setCell ?_ ?_ _) | (with_reducible refine Below.alloc ?_ ?_ _) | (with_reducible refine Below.drew ?_) | (with_reducible refine below_dr ?_ _) | (with_reducible refine Below.trans ?_ (Below.mono (by with_reducible assumption) ?_)) | omega | (simp; done) | (simp; omega))) (Nat.le_refl _)).more (by (try simp only [World.size_setCell]); (try simp only [World.size_drew]); (try simp only [World.size_alloc]); omega)
      rintro e wG ⟨rfl, hbwG⟩
      obtain ⟨hcwG, hfwG⟩ := bcell hbwG
      have hzwG := hbwG.size
      (try simp only [World.size_alloc] at hcwG hfwG hzwG)
      have ywG0 : wG.cell? ⟨w.heap.size, 0, none⟩ = some (.int .i64 u) := (hcwG _ _ (by omega)).trans ywU0
      have ywG1 : wG.cell? ⟨w.heap.size, 1, none⟩ = some (.slice A n c) := (hcwG _ _ (by omega)).trans ywU1
      have qwG : w.heap.size < wG.heap.size := by omega
      clear hcwG hfwG ywU0 ywU1
      cases v1
      case false =>
        go_wp2_with fail
        go_ret
        exact ⟨ret_bool (by rw [H40.out]; simp), by repeat' (first | with_reducible assumption | with_reducible exact Below.refl _ _ | (with_reducible refine Below.setCell ?_ ?_ _) | (with_reducible refine Below.alloc ?_ ?_ _) | (with_reducible refine Below.drew ?_) | (with_reducible refine below_dr ?_ _) | (with_reducible refine Below.trans ?_ (Below.mono (by with_reducible assumption) ?_)) | omega | (simp; done) | (simp; omega))⟩
      case true =>
        go_wp2_with fail
        refine (CN.out _ ?_).mono ?_
        · exact (Row.carry (w' := _) r (by repeat' (first | with_reducible assumption | with_reducible exact Below.refl _ _ | (with_reducible refine Below.setCell ?_ ?_ _) | (with_reducible refine Below.alloc ?_ ?_ _) | (with_reducible refine Below.drew ?_) | (with_reducible refine below_dr ?_ _) | (with_reducible refine Below.trans ?_ (Below.mono (by with_reducible assumption) ?_)) | omega | (simp; done) | (simp; omega))) (Nat.le_refl _)).more (by (try simp only [World.size_setCell]); (try simp only [World.size_drew]); (try simp only [World.size_alloc]); omega)
        rintro e wN ⟨rfl, hbwN⟩
        obtain ⟨hcwN, hfwN⟩ := bcell hbwN
        have hzwN := hbwN.size
        (try simp only [World.size_alloc] at hcwN hfwN hzwN)
        have ywN0 : wN.cell? ⟨w.heap.size, 0, none⟩ = some (.int .i64 u) := (hcwN _ _ (by omega)).trans ywG0
        have ywN1 : wN.cell? ⟨w.heap.size, 1, none⟩ = some (.slice A n c) := (hcwN _ _ (by omega)).trans ywG1
        have qwN : w.heap.size < wN.heap.size := by omega
        clear hcwN hfwN ywG0 ywG1
        cases v2
        case false =>
          go_wp2_with fail
          go_ret
          exact ⟨ret_bool (by rw [H40.out]; simp), by repeat' (first | with_reducible assumption | with_reducible exact Below.refl _ _ | (with_reducible refine Below.setCell ?_ ?_ _) | (with_reducible refine Below.alloc ?_ ?_ _) | (with_reducible refine Below.drew ?_) | (with_reducible refine below_dr ?_ _) | (with_reducible refine Below.trans ?_ (Below.mono (by with_reducible assumption) ?_)) | omega | (simp; done) | (simp; omega))⟩
        case true =>
          go_wp2_with fail
          refine (CD.out (by first | rfl | trivial) _ ?_).mono ?_
          · exact (Row.carry (w' := _) r (by repeat' (first | with_reducible assumption | with_reducible exact Below.refl _ _ | (with_reducible refine Below.setCell ?_ ?_ _) | (with_reducible refine Below.alloc ?_ ?_ _) | (with_reducible refine Below.drew ?_) | (with_reducible refine below_dr ?_ _) | (with_reducible refine Below.trans ?_ (Below.mono (by with_reducible assumption) ?_)) | omega | (simp; done) | (simp; omega))) (Nat.le_refl _)).more (by (try simp only [World.size_setCell]); (try simp only [World.size_drew]); (try simp only [World.size_alloc]); omega)
          rintro e wD ⟨rfl, hbwD⟩
          obtain ⟨hcwD, hfwD⟩ := bcell hbwD
          have hzwD := hbwD.size
          (try simp only [World.size_alloc] at hcwD hfwD hzwD)
          have ywD0 : wD.cell? ⟨w.heap.size, 0, none⟩ = some (.int .i64 u) := (hcwD _ _ (by omega)).trans ywN0
          have ywD1 : wD.cell? ⟨w.heap.size, 1, none⟩ = some (.slice A n c) := (hcwD _ _ (by omega)).trans ywN1
          have qwD : w.heap.size < wD.heap.size := by omega
          clear hcwD hfwD ywN0 ywN1
          cases v3
          case false =>
            go_wp2_with fail
            go_ret
            exact ⟨ret_bool (by rw [H40.out]; simp), by repeat' (first | with_reducible assumption | with_reducible exact Below.refl _ _ | (with_reducible refine Below.setCell ?_ ?_ _) | (with_reducible refine Below.alloc ?_ ?_ _) | (with_reducible refine Below.drew ?_) | (with_reducible refine below_dr ?_ _) | (with_reducible refine Below.trans ?_ (Below.mono (by with_reducible assumption) ?_)) | omega | (simp; done) | (simp; omega))⟩
          case true =>
            go_wp2_with fail
            refine (CH1.out _ ?_).mono ?_
            · exact (Row.carry (w' := _) r (by repeat' (first | with_reducible assumption | with_reducible exact Below.refl _ _ | (with_reducible refine Below.setCell ?_ ?_ _) | (with_reducible refine Below.alloc ?_ ?_ _) | (with_reducible refine Below.drew ?_) | (with_reducible refine below_dr ?_ _) | (with_reducible refine Below.trans ?_ (Below.mono (by with_reducible assumption) ?_)) | omega | (simp; done) | (simp; omega))) (Nat.le_refl _)).more (by (try simp only [World.size_setCell]); (try simp only [World.size_drew]); (try simp only [World.size_alloc]); omega)
            rintro e wP ⟨rfl, hbwP⟩
            obtain ⟨hcwP, hfwP⟩ := bcell hbwP
            have hzwP := hbwP.size
            (try simp only [World.size_alloc] at hcwP hfwP hzwP)
            have ywP0 : wP.cell? ⟨w.heap.size, 0, none⟩ = some (.int .i64 u) := (hcwP _ _ (by omega)).trans ywD0
            have ywP1 : wP.cell? ⟨w.heap.size, 1, none⟩ = some (.slice A n c) := (hcwP _ _ (by omega)).trans ywD1
            have qwP : w.heap.size < wP.heap.size := by omega
            clear hcwP hfwP ywD0 ywD1
            cases v4
            case false =>
              have HQ := Lib.hid (HNO.out rfl)
              clear HNO
              obtain rfl : vn = false := HQ.out
              go_wp2_with fail
              go_ret
              exact ⟨ret_bool (by rw [H40.out]; simp), by repeat' (first | with_reducible assumption | with_reducible exact Below.refl _ _ | (with_reducible refine Below.setCell ?_ ?_ _) | (with_reducible refine Below.alloc ?_ ?_ _) | (with_reducible refine Below.drew ?_) | (with_reducible refine below_dr ?_ _) | (with_reducible refine Below.trans ?_ (Below.mono (by with_reducible assumption) ?_)) | omega | (simp; done) | (simp; omega))⟩
            case true =>
              have CO2 := Lib.hid (CO.out h40 (by first | rfl | trivial) (by first | rfl | trivial))
              have bP : Below w.heap.size w wP := by repeat' (first | with_reducible assumption | with_reducible exact Below.refl _ _ | (with_reducible refine Below.setCell ?_ ?_ _) | (with_reducible refine Below.alloc ?_ ?_ _) | (with_reducible refine Below.drew ?_) | (with_reducible refine below_dr ?_ _) | (with_reducible refine Below.trans ?_ (Below.mono (by with_reducible assumption) ?_)) | omega | (simp; done) | (simp; omega))
              have rP := (Row.carry (w' := wP) r bP (Nat.le_refl _)).more (B' := wP.heap.size) (by omega)
              go_wp2_with fail
              go_region_held3 (fun w' => (∀ b o, b < wP.heap.size → w'.cell? ⟨b, o, none⟩ = wP.cell? ⟨b, o, none⟩) ∧ wP.heap.size ≤ w'.heap.size)
                (first | ((try dsimp only); exact ⟨fun b o h => (by (repeat (first | with_reducible exact rfl | (with_reducible refine (cell_drew_at _ _).trans ?_) | (with_reducible refine (cell_set_at _ _ (by first | omega | (simp; done) | (simp; omega))).trans ?_) | (with_reducible refine (cell_alloc_at _ _ (by first | omega | (simp; done) | (simp; omega))).trans ?_) | (with_reducible refine (hcwO b o (by first | omega | (simp; done) | (simp; omega))).trans ?_)))), (by first | omega | (simp; done) | (simp; omega))⟩) | fail)
                (first | (go_at_call 94; (refine (CO2.out _ ?_).mono ?_); (focus (first | exact rP | exact rP.drew)); intro e wO hq; obtain ⟨A', c', rfl, -, hbwO⟩ := hq; obtain ⟨hcwO, hfwO⟩ := bcell hbwO; have hzwO := hbwO.size; (try simp only [World.size_drew] at hcwO hfwO hzwO)))
              all_goals
                go_wp2_with fail
                go_ret
                exact ⟨ret_bool (by rw [H40.out]; cases vn <;> rfl), by repeat' (first | with_reducible assumption | with_reducible exact Below.refl _ _ | (with_reducible refine Below.setCell ?_ ?_ _) | (with_reducible refine Below.alloc ?_ ?_ _) | (with_reducible refine Below.drew ?_) | (with_reducible refine below_dr ?_ _) | (with_reducible refine Below.trans ?_ (Below.mono (by with_reducible assumption) ?_)) | omega | (simp; done) | (simp; omega))⟩
theorem specVS_any (a0 : Int) (a1A : Option Addr) (a1c : Nat) (a1l : List DGlyph) (w : World) (h : totGlyphSet (a0, a1l) ≤ 1048576) (r : Row RvGlyph 7 w w.heap.size a1A a1l) :
    Calls Try.prog 30 #[.agg #[.int .i64 a0, .slice a1A a1l.length a1c]] w fun e w' => e = .returned (.bool (vS (a0, a1l))) ∧ Below w.heap.size w w' := specValidGlyphSet_any a0 a1l a1A a1c w h r
theorem implVS_any (a0 : Int) (a1A : Option Addr) (a1c : Nat) (a1l : List DGlyph) (w : World) (h : totGlyphSet (a0, a1l) ≤ 1048576) (r : Row RvGlyph 7 w w.heap.size a1A a1l) :
    Calls Try.prog 31 #[.agg #[.int .i64 a0, .slice a1A a1l.length a1c]] w fun e w' => e = .returned (.bool (vS (a0, a1l))) ∧ Below w.heap.size w w' := implValidGlyphSet_any a0 a1l a1A a1c w h r
set_option maxRecDepth 100000 in
set_option maxHeartbeats 12800000 in
theorem walk_ValidGlyphSet (a : AGlyphSet) (w : World) (k_a : okGlyphSet w w.heap.size a) :
    Calls Try.prog 7 #[.agg #[.int .i64 a.1, .slice a.2.1 a.2.2.2.length a.2.2.1]] w fun e w' => e = .returned (.bool true) ∧ Below w.heap.size w w' := by
  obtain ⟨a0, ⟨a1A, a1c, a1q⟩⟩ := a
  obtain ⟨w_a0, nc_a1, cm_a1, rd_a1, ok_a1⟩ := k_a
  simp only at w_a0 nc_a1 cm_a1 rd_a1 ok_a1 ⊢
  have row_a1 : Row RvGlyph 7 w w.heap.size a1A (a1q.map dGlyph) := Row.of rd_a1 (fun i b hb => rv_Glyph b (ok_a1 i b hb))
  have sz_a1 : szRow SzGlyph (a1q.map dGlyph) := ⟨Nat.le_trans (Nat.le_of_eq (List.length_map _)) (Nat.le_trans nc_a1 cm_a1), fun i b hb => sz_map sz_Glyph ok_a1 i b hb⟩
  have hn_a1 : a1q.length = (a1q.map dGlyph).length := (List.length_map _).symm
  rw [hn_a1]
  generalize a1q.map dGlyph = a1l at row_a1 sz_a1 ⊢
  have HZ_a1 := Lib.hid sz_a1
  clear nc_a1 cm_a1 rd_a1 ok_a1 hn_a1 sz_a1
  have HZP_a := Lib.hid (show SzGlyphSet (a0, a1l) from HZ_a1.out)
  have C1 := Lib.hid (fun (ha : totGlyphSet (a0, a1l) ≤ 1048576) a1A' a1c' w q_a1 => specVS_any a0 a1A' a1c' a1l w ha q_a1)
  have C2 := Lib.hid (fun (ha : totGlyphSet (a0, a1l) ≤ 1048576) a1A' a1c' w q_a1 => implVS_any a0 a1A' a1c' a1l w ha q_a1)
  generalize vS (a0, a1l) = v at C1 C2
  have e_v : (v != v) = false := by simp
  go_enter Try.func7, Try.ntmps7
  go_wp2_with fail
  generalize hW : (w.alloc (.cells #[.int .i64 a0, .slice a1A a1l.length a1c] 44)) = W0
  have row_a1w : Row RvGlyph 7 w (w.heap.size) a1A a1l := row_a1
  have bx_aW0 : AtL (w.heap.size) [.int .i64 a0, .slice a1A a1l.length a1c] W0 := by rw [← hW]; repeat' (first | with_reducible assumption | with_reducible exact AtL.new _ _ _ | ((with_reducible refine AtL.newAt ?_); (first | rfl | (simp; done))) | (with_reducible refine AtL.drew ?_) | (with_reducible refine AtL.below ?_ (by with_reducible assumption)) | (with_reducible refine AtL.alloc ?_ _) | (with_reducible refine AtL.far ?_ ?_ _ _) | omega | (simp; done) | (simp; omega))
  have row_a1W0 : Row RvGlyph 7 W0 (w.heap.size) a1A a1l := by rw [← hW]; repeat' (first | with_reducible assumption | (with_reducible refine Row.drew ?_) | (with_reducible refine Row.carry ?_ (by with_reducible assumption) ?_) | (with_reducible refine Row.alloc ?_ ?_ _) | (with_reducible refine Row.setCell ?_ ?_ _) | omega | (simp; done) | (simp; omega))
  have qW0 : w.heap.size ≤ W0.heap.size := by rw [← hW]; first | (simp; done) | (simp; omega)
  have bn : Below w.heap.size w W0 := by rw [← hW]; repeat' (first | with_reducible assumption | with_reducible exact Below.refl _ _ | (with_reducible refine Below.setCell ?_ ?_ _) | (with_reducible refine Below.alloc ?_ ?_ _) | (with_reducible refine Below.drew ?_) | (with_reducible refine below_dr ?_ _) | (with_reducible refine Below.trans ?_ (Below.mono (by with_reducible assumption) ?_)) | omega | (simp; done) | (simp; omega))
  have bW0 := Lib.hid bn
  clear hW bn
  clear row_a1w row_a1
  have kbx_a0 := bx_aW0.cell 0 rfl
  have kbx_a1 := bx_aW0.cell 1 rfl
  have lbx_a := bx_aW0.lt
  go_wp2_with fail
  clear kbx_a0 kbx_a1 lbx_a
  obtain ⟨T0, hT0⟩ : ∃ T, T = totGlyphSet (a0, a1l) := ⟨_, rfl⟩
  have HTT0 := Lib.hid hT0
  refine (szGlyphSet_any a0 a1A a1c a1l 1048576 _ (by omega) (by omega) HZP_a.out ?_).mono ?_
  · (refine Row.more (B := w.heap.size) ?_ (by first | omega | ((try simp only [World.size_setCell]); (try simp only [World.size_drew]); (try simp only [World.size_alloc]); omega))); repeat' (first | with_reducible assumption | (with_reducible refine Row.drew ?_) | (with_reducible refine Row.carry ?_ (by with_reducible assumption) ?_) | (with_reducible refine Row.alloc ?_ ?_ _) | (with_reducible refine Row.setCell ?_ ?_ _) | omega | (simp; done) | (simp; omega))
  rw [← hT0]
  clear hT0
  by_cases hfit : (T0 : Int) ≤ 1048576
  case neg =>
    rw [szV_no hfit]
    rintro e wN ⟨rfl, hb⟩
    go_wp2_with fail
    go_ret
    have bp := bW0.out
    exact ⟨rfl, by repeat' (first | with_reducible assumption | with_reducible exact Below.refl _ _ | (with_reducible refine Below.setCell ?_ ?_ _) | (with_reducible refine Below.alloc ?_ ?_ _) | (with_reducible refine Below.drew ?_) | (with_reducible refine below_dr ?_ _) | (with_reducible refine Below.trans ?_ (Below.mono (by with_reducible assumption) ?_)) | omega | (simp; done) | (simp; omega))⟩
  case pos =>
    rw [szV_yes hfit]
    have HT_a := Lib.hid (show totGlyphSet (a0, a1l) ≤ 1048576 by rw [← HTT0.out]; omega)
    obtain ⟨V0, hV⟩ : ∃ V : Int, V = 1048576 - T0 := ⟨_, rfl⟩
    have hVV : 0 ≤ V0 ∧ V0 ≤ 1048576 := by omega
    rw [← hV]
    rintro e wS0 ⟨rfl, hbwS0⟩
    clear hV hfit
    obtain ⟨hV0_0, hV1_0⟩ := hVV
    have zwS0 := hbwS0.size
    (try simp only [World.size_setCell] at zwS0)
    (try simp only [World.size_drew] at zwS0)
    (try simp only [World.size_alloc] at zwS0)
    have qwS0 : w.heap.size ≤ wS0.heap.size := by omega
    have bx_awS0 : AtL (w.heap.size) [.int .i64 a0, .slice a1A a1l.length a1c] wS0 := by repeat' (first | with_reducible assumption | with_reducible exact AtL.new _ _ _ | ((with_reducible refine AtL.newAt ?_); (first | rfl | (simp; done))) | (with_reducible refine AtL.drew ?_) | (with_reducible refine AtL.below ?_ (by with_reducible assumption)) | (with_reducible refine AtL.alloc ?_ _) | (with_reducible refine AtL.far ?_ ?_ _ _) | omega | (simp; done) | (simp; omega))
    have row_a1wS0 : Row RvGlyph 7 wS0 (w.heap.size) a1A a1l := by repeat' (first | with_reducible assumption | (with_reducible refine Row.drew ?_) | (with_reducible refine Row.carry ?_ (by with_reducible assumption) ?_) | (with_reducible refine Row.alloc ?_ ?_ _) | (with_reducible refine Row.setCell ?_ ?_ _) | omega | (simp; done) | (simp; omega))
    have bp := bW0.out
    have bn : Below w.heap.size w wS0 := by repeat' (first | with_reducible assumption | with_reducible exact Below.refl _ _ | (with_reducible refine Below.setCell ?_ ?_ _) | (with_reducible refine Below.alloc ?_ ?_ _) | (with_reducible refine Below.drew ?_) | (with_reducible refine below_dr ?_ _) | (with_reducible refine Below.trans ?_ (Below.mono (by with_reducible assumption) ?_)) | omega | (simp; done) | (simp; omega))
    have bwS0 := Lib.hid bn
    clear bn
    clear bp bW0
    clear hbwS0
    clear bx_aW0
    clear row_a1W0
    have kbx_a0 := bx_awS0.cell 0 rfl
    have kbx_a1 := bx_awS0.cell 1 rfl
    have lbx_a := bx_awS0.lt
    go_wp2_with fail
    refine (xtoGlyphSet_any a0 a1A a1c a1l _ (HT_a.out) ?_).mono ?_
    · (refine Row.more (B := w.heap.size) ?_ (by first | omega | ((try simp only [World.size_setCell]); (try simp only [World.size_drew]); (try simp only [World.size_alloc]); omega))); repeat' (first | with_reducible assumption | (with_reducible refine Row.drew ?_) | (with_reducible refine Row.carry ?_ (by with_reducible assumption) ?_) | (with_reducible refine Row.alloc ?_ ?_ _) | (with_reducible refine Row.setCell ?_ ?_ _) | omega | (simp; done) | (simp; omega))
    intro e wA0 hq
    obtain ⟨owA0_a1A, owA0_a1c, rfl, owA0_a1, hbwA0⟩ := hq
    clear kbx_a0 kbx_a1 lbx_a
    have zwA0 := hbwA0.size
    (try simp only [World.size_setCell] at zwA0)
    (try simp only [World.size_drew] at zwA0)
    (try simp only [World.size_alloc] at zwA0)
    have qwA0 : w.heap.size ≤ wA0.heap.size := by omega
    have bx_awA0 : AtL (w.heap.size) [.int .i64 a0, .slice a1A a1l.length a1c] wA0 := by repeat' (first | with_reducible assumption | with_reducible exact AtL.new _ _ _ | ((with_reducible refine AtL.newAt ?_); (first | rfl | (simp; done))) | (with_reducible refine AtL.drew ?_) | (with_reducible refine AtL.below ?_ (by with_reducible assumption)) | (with_reducible refine AtL.alloc ?_ _) | (with_reducible refine AtL.far ?_ ?_ _ _) | omega | (simp; done) | (simp; omega))
    have row_a1wA0 : Row RvGlyph 7 wA0 (w.heap.size) a1A a1l := by repeat' (first | with_reducible assumption | (with_reducible refine Row.drew ?_) | (with_reducible refine Row.carry ?_ (by with_reducible assumption) ?_) | (with_reducible refine Row.alloc ?_ ?_ _) | (with_reducible refine Row.setCell ?_ ?_ _) | omega | (simp; done) | (simp; omega))
    have bp := bwS0.out
    have bn : Below w.heap.size w wA0 := by repeat' (first | with_reducible assumption | with_reducible exact Below.refl _ _ | (with_reducible refine Below.setCell ?_ ?_ _) | (with_reducible refine Below.alloc ?_ ?_ _) | (with_reducible refine Below.drew ?_) | (with_reducible refine below_dr ?_ _) | (with_reducible refine Below.trans ?_ (Below.mono (by with_reducible assumption) ?_)) | omega | (simp; done) | (simp; omega))
    have bwA0 := Lib.hid bn
    clear bn
    clear bp bwS0
    clear hbwA0
    clear bx_awS0
    clear row_a1wS0
    go_wp2_with fail
    refine (C1.out HT_a.out owA0_a1A owA0_a1c _ ?_).mono ?_
    · exact Row.more (B := wA0.heap.size) owA0_a1.here (by first | exact Nat.le_refl _ | omega)
    rintro e wB ⟨rfl, hbwB⟩
    clear owA0_a1
    have zwB := hbwB.size
    (try simp only [World.size_setCell] at zwB)
    (try simp only [World.size_drew] at zwB)
    (try simp only [World.size_alloc] at zwB)
    have qwB : w.heap.size ≤ wB.heap.size := by omega
    have bx_awB : AtL (w.heap.size) [.int .i64 a0, .slice a1A a1l.length a1c] wB := by repeat' (first | with_reducible assumption | with_reducible exact AtL.new _ _ _ | ((with_reducible refine AtL.newAt ?_); (first | rfl | (simp; done))) | (with_reducible refine AtL.drew ?_) | (with_reducible refine AtL.below ?_ (by with_reducible assumption)) | (with_reducible refine AtL.alloc ?_ _) | (with_reducible refine AtL.far ?_ ?_ _ _) | omega | (simp; done) | (simp; omega))
    have row_a1wB : Row RvGlyph 7 wB (w.heap.size) a1A a1l := by repeat' (first | with_reducible assumption | (with_reducible refine Row.drew ?_) | (with_reducible refine Row.carry ?_ (by with_reducible assumption) ?_) | (with_reducible refine Row.alloc ?_ ?_ _) | (with_reducible refine Row.setCell ?_ ?_ _) | omega | (simp; done) | (simp; omega))
    have bp := bwA0.out
    have bn : Below w.heap.size w wB := by repeat' (first | with_reducible assumption | with_reducible exact Below.refl _ _ | (with_reducible refine Below.setCell ?_ ?_ _) | (with_reducible refine Below.alloc ?_ ?_ _) | (with_reducible refine Below.drew ?_) | (with_reducible refine below_dr ?_ _) | (with_reducible refine Below.trans ?_ (Below.mono (by with_reducible assumption) ?_)) | omega | (simp; done) | (simp; omega))
    have bwB := Lib.hid bn
    clear bn
    clear bp bwA0
    clear hbwB
    clear bx_awA0
    clear row_a1wA0
    have kbx_a0 := bx_awB.cell 0 rfl
    have kbx_a1 := bx_awB.cell 1 rfl
    have lbx_a := bx_awB.lt
    go_wp2_with fail
    clear kbx_a0 kbx_a1 lbx_a
    refine (xtoGlyphSet_any a0 a1A a1c a1l _ (HT_a.out) ?_).mono ?_
    · (refine Row.more (B := w.heap.size) ?_ (by first | omega | ((try simp only [World.size_setCell]); (try simp only [World.size_drew]); (try simp only [World.size_alloc]); omega))); repeat' (first | with_reducible assumption | (with_reducible refine Row.drew ?_) | (with_reducible refine Row.carry ?_ (by with_reducible assumption) ?_) | (with_reducible refine Row.alloc ?_ ?_ _) | (with_reducible refine Row.setCell ?_ ?_ _) | omega | (simp; done) | (simp; omega))
    intro e wX0 hq
    obtain ⟨gX0_a1A, gX0_a1c, rfl, owX_a1, hbwX0⟩ := hq
    have zwX0 := hbwX0.size
    (try simp only [World.size_setCell] at zwX0)
    (try simp only [World.size_drew] at zwX0)
    (try simp only [World.size_alloc] at zwX0)
    have qwX0 : w.heap.size ≤ wX0.heap.size := by omega
    have bx_awX0 : AtL (w.heap.size) [.int .i64 a0, .slice a1A a1l.length a1c] wX0 := by repeat' (first | with_reducible assumption | with_reducible exact AtL.new _ _ _ | ((with_reducible refine AtL.newAt ?_); (first | rfl | (simp; done))) | (with_reducible refine AtL.drew ?_) | (with_reducible refine AtL.below ?_ (by with_reducible assumption)) | (with_reducible refine AtL.alloc ?_ _) | (with_reducible refine AtL.far ?_ ?_ _ _) | omega | (simp; done) | (simp; omega))
    have row_a1wX0 : Row RvGlyph 7 wX0 (w.heap.size) a1A a1l := by repeat' (first | with_reducible assumption | (with_reducible refine Row.drew ?_) | (with_reducible refine Row.carry ?_ (by with_reducible assumption) ?_) | (with_reducible refine Row.alloc ?_ ?_ _) | (with_reducible refine Row.setCell ?_ ?_ _) | omega | (simp; done) | (simp; omega))
    have bp := bwB.out
    have bn : Below w.heap.size w wX0 := by repeat' (first | with_reducible assumption | with_reducible exact Below.refl _ _ | (with_reducible refine Below.setCell ?_ ?_ _) | (with_reducible refine Below.alloc ?_ ?_ _) | (with_reducible refine Below.drew ?_) | (with_reducible refine below_dr ?_ _) | (with_reducible refine Below.trans ?_ (Below.mono (by with_reducible assumption) ?_)) | omega | (simp; done) | (simp; omega))
    have bwX0 := Lib.hid bn
    clear bn
    clear bp bwB
    clear hbwX0
    clear bx_awB
    clear row_a1wB
    have rx_a1wX0 : Row RvGlyph 7 wX0 (wX0.heap.size) gX0_a1A a1l := owX_a1.here
    clear owX_a1
    go_wp2_with fail
    generalize hWB : wX0.alloc (.cells #[.int .i64 a0, .slice gX0_a1A a1l.length gX0_a1c] 49) = WB0
    have hbWB0 : Below wX0.heap.size wX0 WB0 := by rw [← hWB]; repeat' (first | with_reducible assumption | with_reducible exact Below.refl _ _ | (with_reducible refine Below.setCell ?_ ?_ _) | (with_reducible refine Below.alloc ?_ ?_ _) | (with_reducible refine Below.drew ?_) | (with_reducible refine below_dr ?_ _) | (with_reducible refine Below.trans ?_ (Below.mono (by with_reducible assumption) ?_)) | omega | (simp; done) | (simp; omega))
    have at_aWB0 : AtL (wX0.heap.size) [.int .i64 a0, .slice gX0_a1A a1l.length gX0_a1c] WB0 := by rw [← hWB]; exact AtL.new _ _ _
    clear hWB
    have zWB0 := hbWB0.size
    (try simp only [World.size_setCell] at zWB0)
    (try simp only [World.size_drew] at zWB0)
    (try simp only [World.size_alloc] at zWB0)
    have qWB0 : w.heap.size ≤ WB0.heap.size := by omega
    have bx_aWB0 : AtL (w.heap.size) [.int .i64 a0, .slice a1A a1l.length a1c] WB0 := by repeat' (first | with_reducible assumption | with_reducible exact AtL.new _ _ _ | ((with_reducible refine AtL.newAt ?_); (first | rfl | (simp; done))) | (with_reducible refine AtL.drew ?_) | (with_reducible refine AtL.below ?_ (by with_reducible assumption)) | (with_reducible refine AtL.alloc ?_ _) | (with_reducible refine AtL.far ?_ ?_ _ _) | omega | (simp; done) | (simp; omega))
    have row_a1WB0 : Row RvGlyph 7 WB0 (w.heap.size) a1A a1l := by repeat' (first | with_reducible assumption | (with_reducible refine Row.drew ?_) | (with_reducible refine Row.carry ?_ (by with_reducible assumption) ?_) | (with_reducible refine Row.alloc ?_ ?_ _) | (with_reducible refine Row.setCell ?_ ?_ _) | omega | (simp; done) | (simp; omega))
    have rx_a1WB0 : Row RvGlyph 7 WB0 (wX0.heap.size) gX0_a1A a1l := by repeat' (first | with_reducible assumption | (with_reducible refine Row.drew ?_) | (with_reducible refine Row.carry ?_ (by with_reducible assumption) ?_) | (with_reducible refine Row.alloc ?_ ?_ _) | (with_reducible refine Row.setCell ?_ ?_ _) | omega | (simp; done) | (simp; omega))
    have bp := bwX0.out
    have bn : Below w.heap.size w WB0 := by repeat' (first | with_reducible assumption | with_reducible exact Below.refl _ _ | (with_reducible refine Below.setCell ?_ ?_ _) | (with_reducible refine Below.alloc ?_ ?_ _) | (with_reducible refine Below.drew ?_) | (with_reducible refine below_dr ?_ _) | (with_reducible refine Below.trans ?_ (Below.mono (by with_reducible assumption) ?_)) | omega | (simp; done) | (simp; omega))
    have bWB0 := Lib.hid bn
    clear bn
    clear bp bwX0
    clear hbWB0
    clear bx_awX0
    clear row_a1wX0
    clear rx_a1wX0
    refine (C2.out HT_a.out gX0_a1A gX0_a1c _ ?_).mono ?_
    · (refine Row.more (B := wX0.heap.size) ?_ (by first | omega | ((try simp only [World.size_setCell]); (try simp only [World.size_drew]); (try simp only [World.size_alloc]); omega))); repeat' (first | with_reducible assumption | (with_reducible refine Row.drew ?_) | (with_reducible refine Row.carry ?_ (by with_reducible assumption) ?_) | (with_reducible refine Row.alloc ?_ ?_ _) | (with_reducible refine Row.setCell ?_ ?_ _) | omega | (simp; done) | (simp; omega))
    rintro e wI ⟨rfl, hbwI⟩
    have zwI := hbwI.size
    (try simp only [World.size_setCell] at zwI)
    (try simp only [World.size_drew] at zwI)
    (try simp only [World.size_alloc] at zwI)
    have qwI : w.heap.size ≤ wI.heap.size := by omega
    have bx_awI : AtL (w.heap.size) [.int .i64 a0, .slice a1A a1l.length a1c] wI := by repeat' (first | with_reducible assumption | with_reducible exact AtL.new _ _ _ | ((with_reducible refine AtL.newAt ?_); (first | rfl | (simp; done))) | (with_reducible refine AtL.drew ?_) | (with_reducible refine AtL.below ?_ (by with_reducible assumption)) | (with_reducible refine AtL.alloc ?_ _) | (with_reducible refine AtL.far ?_ ?_ _ _) | omega | (simp; done) | (simp; omega))
    have row_a1wI : Row RvGlyph 7 wI (w.heap.size) a1A a1l := by repeat' (first | with_reducible assumption | (with_reducible refine Row.drew ?_) | (with_reducible refine Row.carry ?_ (by with_reducible assumption) ?_) | (with_reducible refine Row.alloc ?_ ?_ _) | (with_reducible refine Row.setCell ?_ ?_ _) | omega | (simp; done) | (simp; omega))
    have rx_a1wI : Row RvGlyph 7 wI (wX0.heap.size) gX0_a1A a1l := by repeat' (first | with_reducible assumption | (with_reducible refine Row.drew ?_) | (with_reducible refine Row.carry ?_ (by with_reducible assumption) ?_) | (with_reducible refine Row.alloc ?_ ?_ _) | (with_reducible refine Row.setCell ?_ ?_ _) | omega | (simp; done) | (simp; omega))
    have at_awI : AtL (wX0.heap.size) [.int .i64 a0, .slice gX0_a1A a1l.length gX0_a1c] wI := by repeat' (first | with_reducible assumption | with_reducible exact AtL.new _ _ _ | ((with_reducible refine AtL.newAt ?_); (first | rfl | (simp; done))) | (with_reducible refine AtL.drew ?_) | (with_reducible refine AtL.below ?_ (by with_reducible assumption)) | (with_reducible refine AtL.alloc ?_ _) | (with_reducible refine AtL.far ?_ ?_ _ _) | omega | (simp; done) | (simp; omega))
    have bp := bWB0.out
    have bn : Below w.heap.size w wI := by repeat' (first | with_reducible assumption | with_reducible exact Below.refl _ _ | (with_reducible refine Below.setCell ?_ ?_ _) | (with_reducible refine Below.alloc ?_ ?_ _) | (with_reducible refine Below.drew ?_) | (with_reducible refine below_dr ?_ _) | (with_reducible refine Below.trans ?_ (Below.mono (by with_reducible assumption) ?_)) | omega | (simp; done) | (simp; omega))
    have bwI := Lib.hid bn
    clear bn
    clear bp bWB0
    clear hbwI
    clear bx_aWB0
    clear row_a1WB0
    clear rx_a1WB0
    clear at_aWB0
    have kat_a0 := at_awI.cell 0 rfl
    have kat_a1 := at_awI.cell 1 rfl
    have lat_a := at_awI.lt
    have kbx_a0 := bx_awI.cell 0 rfl
    have kbx_a1 := bx_awI.cell 1 rfl
    have lbx_a := bx_awI.lt
    go_wp2_with fail
    go_region_held3 (fun w' => (∀ b o, b < wI.heap.size → w'.cell? ⟨b, o, none⟩ = wI.cell? ⟨b, o, none⟩) ∧ wI.heap.size ≤ w'.heap.size)
      (first | ((try dsimp only); exact ⟨fun b o h => (by (repeat (first | with_reducible exact rfl | (with_reducible refine (cell_drew_at _ _).trans ?_) | (with_reducible refine (cell_set_at _ _ (by first | omega | (simp; done) | (simp; omega))).trans ?_) | (with_reducible refine (cell_alloc_at _ _ (by first | omega | (simp; done) | (simp; omega))).trans ?_) | (with_reducible refine (hcwT0 b o (by first | omega | (simp; done) | (simp; omega))).trans ?_) | (with_reducible refine (hcwE0 b o (by first | omega | (simp; done) | (simp; omega))).trans ?_)))), (by first | omega | (simp; done) | (simp; omega))⟩) | fail)
      (first
        | (go_at_call 22; (with_reducible refine (xtoGlyphSet_any a0 a1A a1c a1l _ (HT_a.out) ?_).mono ?_); (focus ((refine Row.more (B := w.heap.size) ?_ (by first | omega | ((try simp only [World.size_setCell]); (try simp only [World.size_drew]); (try simp only [World.size_alloc]); omega))); repeat' (first | with_reducible assumption | (with_reducible refine Row.drew ?_) | (with_reducible refine Row.carry ?_ (by with_reducible assumption) ?_) | (with_reducible refine Row.alloc ?_ ?_ _) | (with_reducible refine Row.setCell ?_ ?_ _) | omega | (simp; done) | (simp; omega)))); intro e wT0 hq; obtain ⟨owE_a1A, owE_a1c, rfl, owE_a1, hbwT0⟩ := hq; obtain ⟨hcwT0, hfwT0⟩ := bcell hbwT0; have hzwT0 := hbwT0.size; (try simp only [World.size_drew] at hcwT0 hfwT0 hzwT0); (try simp only [World.size_alloc] at hcwT0 hfwT0 hzwT0))
        | (go_at_call 24; (with_reducible refine (xeqGlyphSet_any a0 gX0_a1A gX0_a1c a1l owE_a1A owE_a1c _ (Nat.le_trans HT_a.out (by omega)) ?_ ?_).mono ?_); (focus ((refine Row.more (B := wX0.heap.size) ?_ (by first | omega | ((try simp only [World.size_setCell]); (try simp only [World.size_drew]); (try simp only [World.size_alloc]); omega))); repeat' (first | with_reducible assumption | (with_reducible refine Row.drew ?_) | (with_reducible refine Row.carry ?_ (by with_reducible assumption) ?_) | (with_reducible refine Row.alloc ?_ ?_ _) | (with_reducible refine Row.setCell ?_ ?_ _) | omega | (simp; done) | (simp; omega)))); (focus (first | exact owE_a1.here | exact (RowIn.here owE_a1).drew)); rintro e wE0 ⟨rfl, hbwE0⟩; obtain ⟨hcwE0, hfwE0⟩ := bcell hbwE0; have hzwE0 := hbwE0.size; (try simp only [World.size_drew] at hcwE0 hfwE0 hzwE0); (try simp only [World.size_alloc] at hcwE0 hfwE0 hzwE0)))
    clear kat_a0 kat_a1 lat_a
    clear kbx_a0 kbx_a1 lbx_a
    all_goals
      have zwE0 := hbwE0.size
      (try simp only [World.size_setCell] at zwE0)
      (try simp only [World.size_drew] at zwE0)
      (try simp only [World.size_alloc] at zwE0)
      have qwE0 : w.heap.size ≤ wE0.heap.size := by omega
      have bx_awE0 : AtL (w.heap.size) [.int .i64 a0, .slice a1A a1l.length a1c] wE0 := by repeat' (first | with_reducible assumption | with_reducible exact AtL.new _ _ _ | ((with_reducible refine AtL.newAt ?_); (first | rfl | (simp; done))) | (with_reducible refine AtL.drew ?_) | (with_reducible refine AtL.below ?_ (by with_reducible assumption)) | (with_reducible refine AtL.alloc ?_ _) | (with_reducible refine AtL.far ?_ ?_ _ _) | omega | (simp; done) | (simp; omega))
      have row_a1wE0 : Row RvGlyph 7 wE0 (w.heap.size) a1A a1l := by repeat' (first | with_reducible assumption | (with_reducible refine Row.drew ?_) | (with_reducible refine Row.carry ?_ (by with_reducible assumption) ?_) | (with_reducible refine Row.alloc ?_ ?_ _) | (with_reducible refine Row.setCell ?_ ?_ _) | omega | (simp; done) | (simp; omega))
      have rx_a1wE0 : Row RvGlyph 7 wE0 (wX0.heap.size) gX0_a1A a1l := by repeat' (first | with_reducible assumption | (with_reducible refine Row.drew ?_) | (with_reducible refine Row.carry ?_ (by with_reducible assumption) ?_) | (with_reducible refine Row.alloc ?_ ?_ _) | (with_reducible refine Row.setCell ?_ ?_ _) | omega | (simp; done) | (simp; omega))
      have at_awE0 : AtL (wX0.heap.size) [.int .i64 a0, .slice gX0_a1A a1l.length gX0_a1c] wE0 := by repeat' (first | with_reducible assumption | with_reducible exact AtL.new _ _ _ | ((with_reducible refine AtL.newAt ?_); (first | rfl | (simp; done))) | (with_reducible refine AtL.drew ?_) | (with_reducible refine AtL.below ?_ (by with_reducible assumption)) | (with_reducible refine AtL.alloc ?_ _) | (with_reducible refine AtL.far ?_ ?_ _ _) | omega | (simp; done) | (simp; omega))
      have bp := bwI.out
      have bn : Below w.heap.size w wE0 := by repeat' (first | with_reducible assumption | with_reducible exact Below.refl _ _ | (with_reducible refine Below.setCell ?_ ?_ _) | (with_reducible refine Below.alloc ?_ ?_ _) | (with_reducible refine Below.drew ?_) | (with_reducible refine below_dr ?_ _) | (with_reducible refine Below.trans ?_ (Below.mono (by with_reducible assumption) ?_)) | omega | (simp; done) | (simp; omega))
      have bwE0 := Lib.hid bn
      clear bn
      clear bp bwI
      clear hbwE0
      clear bx_awI
      clear row_a1wI
      clear rx_a1wI
      clear at_awI
      go_wp2_with fail
      go_ret
      have bp := bwE0.out
      exact ⟨rfl, by repeat' (first | with_reducible assumption | with_reducible exact Below.refl _ _ | (with_reducible refine Below.setCell ?_ ?_ _) | (with_reducible refine Below.alloc ?_ ?_ _) | (with_reducible refine Below.drew ?_) | (with_reducible refine below_dr ?_ _) | (with_reducible refine Below.trans ?_ (Below.mono (by with_reducible assumption) ?_)) | omega | (simp; done) | (simp; omega))⟩
end Go.Proofs.Ytelefmogmloniaa
