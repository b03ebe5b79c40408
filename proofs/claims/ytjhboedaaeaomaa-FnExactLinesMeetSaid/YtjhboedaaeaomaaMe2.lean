/- Walks: the different ends that are on both of two segments, the reference's side. -/
import Derived.Test.YtjhboedaaeaomaaMi
import Derived.Test.YtjhboedaaeaomaaMem
import Derived.Test.YtjhboedaaeaomaaAw
namespace Go.Proofs.Ytjhboedaaeaomaa
open Go.RowKit

def cellsP (l : List (Int × Int)) : List Value := l.flatMap fun p => [.int .i64 p.1, .int .i64 p.2]
theorem cellsP_length (l : List (Int × Int)) : (cellsP l).length = l.length * 2 := by
  induction l with
  | nil => rfl
  | cons p l ih =>
    show (([.int .i64 p.1, .int .i64 p.2] : List Value) ++ cellsP l).length = _
    rw [List.length_append, ih]; simp only [List.length_cons, List.length_nil]; omega
theorem cellsP_at : ∀ (l : List (Int × Int)) (j : Nat) (p : Int × Int), l[j]? = some p → (cellsP l)[j * 2]? = some (.int .i64 p.1) ∧ (cellsP l)[j * 2 + 1]? = some (.int .i64 p.2)
  | [], j, p, h => by simp at h
  | q :: l, 0, p, h => by
    simp only [List.getElem?_cons_zero, Option.some.injEq] at h
    subst h; exact ⟨rfl, rfl⟩
  | q :: l, j + 1, p, h => by
    simp only [List.getElem?_cons_succ] at h
    have := cellsP_at l j p h
    show (([.int .i64 q.1, .int .i64 q.2] : List Value) ++ cellsP l)[(j + 1) * 2]? = _ ∧ (([.int .i64 q.1, .int .i64 q.2] : List Value) ++ cellsP l)[(j + 1) * 2 + 1]? = _
    rw [List.getElem?_append_right (by simp; omega), List.getElem?_append_right (by simp; omega)]
    simp only [List.length_cons, List.length_nil]
    rw [show (j + 1) * 2 - (0 + 1 + 1) = j * 2 by omega, show (j + 1) * 2 + 1 - (0 + 1 + 1) = j * 2 + 1 by omega]
    exact this
theorem cellsP_snoc (l : List (Int × Int)) (p : Int × Int) : cellsP l ++ [.int .i64 p.1, .int .i64 p.2] = cellsP (l ++ [p]) := by
  unfold cellsP; rw [List.flatMap_append]; rfl
theorem cellsP_one (l : List (Int × Int)) : ∀ u ∈ cellsP l, u.oneCell' = true := by
  intro u hu
  obtain ⟨p, _, hp⟩ := List.mem_flatMap.1 hu
  simp at hp
  rcases hp with rfl | rfl <;> rfl
theorem ends_snoc (f : Int × Int → Bool) (l : List (Int × Int)) (p : Int × Int) : endsF f (l ++ [p]) = if p ∈ endsF f l then endsF f l else if f p then endsF f l ++ [p] else endsF f l := by
  unfold endsF; rw [List.foldl_append]; rfl
theorem heap_new (wr : World) (o : Obj) : (wr.alloc o).heap[wr.heap.size]? = some o := by
  show (wr.heap.push o)[wr.heap.size]? = _
  simp
theorem own_empty (wr : World) (base : Nat) (e : TypeId) (hb : base ≤ wr.heap.size) : (wr.alloc (.cells #[] e)).ownsRow base e 2 (.slice (some ⟨wr.heap.size, 0, none⟩) 0 0) 0 [] :=
  ⟨rfl, Or.inr ⟨wr.heap.size, 0, #[], rfl, hb, heap_new wr _, Nat.le_refl _, by unfold maxLen; omega, rfl, rfl⟩⟩
theorem own_pair (wr : World) (base : Nat) (e : TypeId) (x y : Value) (hb : base ≤ wr.heap.size) : (wr.alloc (.cells #[x, y] e)).ownsRow base e 2 (.slice (some ⟨wr.heap.size, 0, none⟩) 1 1) 1 [x, y] :=
  ⟨rfl, Or.inr ⟨wr.heap.size, 1, #[x, y], rfl, hb, heap_new wr _, Nat.le_refl _, by unfold maxLen; omega, rfl, rfl⟩⟩
theorem eq_pt_at {a b c d : Int} (w : World) : (Go.binOp BinOp.eql 25 (.agg #[.int .i64 a, .int .i64 b]) (.agg #[.int .i64 c, .int .i64 d])).run Try.prog w = Result.ok (.bool (decide ((a, b) = (c, d)))) w := by
  by_cases h1 : a = c
  · subst h1
    by_cases h2 : b = d
    · subst h2; simp [go_sem]
    · simp [go_sem, h2]
  · simp [go_sem, h1]
/-- Cell j of what the call owns. -/
theorem own_cell {w : World} {base : Nat} {e : TypeId} {g n cap : Nat} {xs : List Value} (h : w.ownsRow base e 2 (.slice (some ⟨g, 0, none⟩) n cap) n xs) {j : Nat} {u : Value} (hu : xs[j]? = some u) : w.cell? ⟨g, j, none⟩ = some u := by
  obtain ⟨hl, h⟩ := h
  rcases h with ⟨h, _⟩ | ⟨g', cap', cur, hv, _, hh, _, _, hs, ht⟩
  · simp at h
  · injection hv with h1 h2 h3
    injection h1 with h1; injection h1 with h1
    subst h1
    have hj : j < xs.length := by
      rcases Nat.lt_or_ge j xs.length with k | k
      · exact k
      · rw [List.getElem?_eq_none k] at hu; simp at hu
    rw [← ht, List.getElem?_take] at hu
    split at hu
    · simp only [World.cell?, hh]
      simpa using hu
    · simp at hu
theorem own_below {w w' : World} {base B : Nat} {e : TypeId} {g n cap : Nat} {xs : List Value} (h : w.ownsRow base e 2 (.slice (some ⟨g, 0, none⟩) n cap) n xs) (hb : Below B w w') (hg : g < B) : w'.ownsRow base e 2 (.slice (some ⟨g, 0, none⟩) n cap) n xs := by
  obtain ⟨hl, h⟩ := h
  refine ⟨hl, ?_⟩
  rcases h with ⟨h, _⟩ | ⟨g', cap', cur, hv, r1, hh, r2⟩
  · simp at h
  · refine Or.inr ⟨g', cap', cur, hv, r1, ?_, r2⟩
    injection hv with h1 h2 h3
    injection h1 with h1; injection h1 with h1
    subst h1
    rw [hb.block _ hg]; exact hh
theorem own_form {w : World} {base : Nat} {e : TypeId} {v : Value} {n : Nat} {xs : List Value} (h : w.ownsRow base e 2 v (n + 1) xs) : ∃ q cap, v = .slice (some ⟨q, 0, none⟩) (n + 1) cap ∧ q < w.heap.size := by
  obtain ⟨hl, h⟩ := h
  rcases h with ⟨_, h⟩ | ⟨g', cap', cur, hv, r1, hh, r2⟩
  · omega
  · refine ⟨g', cap', hv, ?_⟩
    rcases Nat.lt_or_ge g' w.heap.size with k | k
    · exact k
    · rw [Array.getElem?_eq_none k] at hh; simp at hh
theorem pt_info : (Try.prog.info? 25).map (fun i => (i.zero, i.size, i.bytes)) = some (some (.agg #[.int .i64 0, .int .i64 0]), 2, 16) := by kernel_rfl
/-- The outer loop. -/
def ERel (f : Int × Int → Bool) (pts : List (Int × Int)) (W0 : World) (g G : Nat) (v i : Value) (wr : World) : Prop :=
  ∃ (k q cap : Nat) (L : List (Int × Int)), k ≤ 4 ∧ i = .int .i64 k ∧ v = .slice (some ⟨q, 0, none⟩) L.length cap ∧ L = endsF f (pts.take k) ∧ L.length ≤ k ∧ wr.ownsRow g 25 2 v L.length (cellsP L) ∧ (q = g ∨ G ≤ q) ∧ q < wr.heap.size ∧ Below g W0 wr ∧ (∀ o, wr.cell? ⟨g + 1, o, none⟩ = W0.cell? ⟨g + 1, o, none⟩) ∧ G ≤ wr.heap.size
/-- The inner loop. -/
def IRel (L : List (Int × Int)) (p : Int × Int) (W1 : World) (tw i : Value) (wr : World) : Prop :=
  ∃ j n : Nat, j ≤ L.length ∧ i = .int .i64 j ∧ tw = .bool (decide (p ∈ L.take j)) ∧ wr = W1.drewN n
set_option maxRecDepth 100000 in
set_option maxHeartbeats 6400000 in
theorem l03Ends_any (ax ay bx ey cx cy dx dy : Int) (w : World) (va : okB ax ay = true) (vb : okB bx ey = true) (vc : okB cx cy = true) (vd : okB dx dy = true) :
    Calls Try.prog 90 #[.agg #[.int .i64 ax, .int .i64 ay], .agg #[.int .i64 bx, .int .i64 ey], .agg #[.int .i64 cx, .int .i64 cy], .agg #[.int .i64 dx, .int .i64 dy]] w fun e w' => ∃ (q n cap : Nat), e = .returned (.slice (some ⟨q, 0, none⟩) n cap) ∧ n = (endsF (bothB ax ay bx ey cx cy dx dy) [(ax, ay), (bx, ey), (cx, cy), (dx, dy)]).length ∧ ((∀ j u, (cellsP (endsF (bothB ax ay bx ey cx cy dx dy) [(ax, ay), (bx, ey), (cx, cy), (dx, dy)]))[j]? = some u → w'.cell? ⟨q, j, none⟩ = some u) ∧ q < w'.heap.size) ∧ Below w.heap.size w w' := by
  have CA := Lib.hid (fun x y (v : okB x y = true) w => l03On_any ax ay bx ey x y w va vb v)
  have CC := Lib.hid (fun x y (v : okB x y = true) w => l03On_any cx cy dx dy x y w vc vd v)
  have hokp : ∀ (k : Nat) (p : Int × Int), [(ax, ay), (bx, ey), (cx, cy), (dx, dy)][k]? = some p → okB p.1 p.2 = true := by
    intro k p h
    match k, h with
    | 0, h => injection h with h; subst h; exact va
    | 1, h => injection h with h; subst h; exact vb
    | 2, h => injection h with h; subst h; exact vc
    | 3, h => injection h with h; subst h; exact vd
    | k + 4, h => simp at h
  have HOK := Lib.hid hokp
  clear hokp va vb vc vd
  go_enter Try.func90, Try.ntmps90
  go_wp2_with fail
  generalize hW : (((((w.alloc (.cells #[.int .i64 ax, .int .i64 ay] 25)).alloc (.cells #[.int .i64 bx, .int .i64 ey] 25)).alloc (.cells #[.int .i64 cx, .int .i64 cy] 25)).alloc (.cells #[.int .i64 dx, .int .i64 dy] 25)).alloc (.cells #[] 25)).alloc (.cells #[.int .i64 ax, .int .i64 ay, .int .i64 bx, .int .i64 ey, .int .i64 cx, .int .i64 cy, .int .i64 dx, .int .i64 dy] 25) = W0
  have g0 : Below w.heap.size w W0 := by rw [← hW]; repeat' (first | with_reducible assumption | with_reducible exact Below.refl _ _ | (with_reducible refine Below.setCell ?_ ?_ _) | (with_reducible refine Below.alloc ?_ ?_ _) | (with_reducible refine Below.drew ?_) | (with_reducible refine below_dr ?_ _) | (with_reducible refine Below.trans ?_ (Below.mono (by with_reducible assumption) ?_)) | omega | (simp; done) | (simp; omega))
  have hown0 : W0.ownsRow (w.heap.size + 1 + 1 + 1 + 1) 25 2 (.slice (some ⟨w.heap.size + 1 + 1 + 1 + 1, 0, none⟩) 0 0) 0 [] := by
    rw [← hW]
    exact World.ownsRow.alloc (by simpa using own_empty ((((w.alloc (.cells #[.int .i64 ax, .int .i64 ay] 25)).alloc (.cells #[.int .i64 bx, .int .i64 ey] 25)).alloc (.cells #[.int .i64 cx, .int .i64 cy] 25)).alloc (.cells #[.int .i64 dx, .int .i64 dy] 25)) (w.heap.size + 1 + 1 + 1 + 1) 25 (by simp)) _
  have hz0 : W0.heap.size = w.heap.size + 1 + 1 + 1 + 1 + 1 + 1 := by rw [← hW]; simp
  have b00 : W0.cell? ⟨w.heap.size, 0, none⟩ = some (.int .i64 ax) := by rw [← hW]; simp [go_sem]
  have b01 : W0.cell? ⟨w.heap.size, 1, none⟩ = some (.int .i64 ay) := by rw [← hW]; simp [go_sem]
  have b10 : W0.cell? ⟨w.heap.size + 1, 0, none⟩ = some (.int .i64 bx) := by rw [← hW]; simp [go_sem]
  have b11 : W0.cell? ⟨w.heap.size + 1, 1, none⟩ = some (.int .i64 ey) := by rw [← hW]; simp [go_sem]
  have b20 : W0.cell? ⟨w.heap.size + 1 + 1, 0, none⟩ = some (.int .i64 cx) := by rw [← hW]; simp [go_sem]
  have b21 : W0.cell? ⟨w.heap.size + 1 + 1, 1, none⟩ = some (.int .i64 cy) := by rw [← hW]; simp [go_sem]
  have b30 : W0.cell? ⟨w.heap.size + 1 + 1 + 1, 0, none⟩ = some (.int .i64 dx) := by rw [← hW]; simp [go_sem]
  have b31 : W0.cell? ⟨w.heap.size + 1 + 1 + 1, 1, none⟩ = some (.int .i64 dy) := by rw [← hW]; simp [go_sem]
  have hall : ∀ (k : Nat) (p : Int × Int), [(ax, ay), (bx, ey), (cx, cy), (dx, dy)][k]? = some p → W0.cell? ⟨w.heap.size + 1 + 1 + 1 + 1 + 1, k * 2, none⟩ = some (.int .i64 p.1) ∧ W0.cell? ⟨w.heap.size + 1 + 1 + 1 + 1 + 1, k * 2 + 1, none⟩ = some (.int .i64 p.2) := by
    intro k p h
    rw [← hW]
    match k, h with
    | 0, h => injection h with h; subst h; exact ⟨by simp [go_sem], by simp [go_sem]⟩
    | 1, h => injection h with h; subst h; exact ⟨by simp [go_sem], by simp [go_sem]⟩
    | 2, h => injection h with h; subst h; exact ⟨by simp [go_sem], by simp [go_sem]⟩
    | 3, h => injection h with h; subst h; exact ⟨by simp [go_sem], by simp [go_sem]⟩
    | k + 4, h => simp at h
  have HALL := Lib.hid hall
  clear hW hall
  generalize hF : (bothB ax ay bx ey cx cy dx dy) = f
  generalize hP : [(ax, ay), (bx, ey), (cx, cy), (dx, dy)] = pts at *
  have hpl : pts.length = 4 := by rw [← hP]; rfl
  have HF := Lib.hid hF
  have HP := Lib.hid hP
  clear hF hP
  go_loopw [9, 11] (fun v i wr => ERel f pts W0 (w.heap.size + 1 + 1 + 1 + 1) W0.heap.size v i wr) (fun _ i _ => 4 - (intOf i).toNat)
  case atStart => exact ⟨0, _, 0, [], by omega, rfl, rfl, rfl, Nat.le_refl _, hown0, .inl rfl, by omega, Below.refl _ _, fun _ => rfl, Nat.le_refl _⟩
  case round =>
    obtain ⟨k, q, cap, L, hk, rfl, rfl, hL, hle, hown, hq, hqz, hbl, hcell, hG⟩ := hrel
    by_cases hlt : k < 4
    · obtain ⟨⟨px, py⟩, hp⟩ : ∃ p, pts[k]? = some p := ⟨pts[k]'(by omega), List.getElem?_eq_getElem (by omega)⟩
      have vp := HOK.out k _ hp
      have hcel := HALL.out k _ hp
      have c0 : wr.cell? ⟨w.heap.size + 1 + 1 + 1 + 1 + 1, k * 2, none⟩ = some (.int .i64 px) := (hcell _).trans hcel.1
      have c1 : wr.cell? ⟨w.heap.size + 1 + 1 + 1 + 1 + 1, k * 2 + 1, none⟩ = some (.int .i64 py) := (hcell _).trans hcel.2
      have hstep : endsF f (pts.take (k + 1)) = if (px, py) ∈ L then L else if f (px, py) then L ++ [(px, py)] else L := by rw [List.take_add_one, hp, hL]; exact ends_snoc f _ _
      have HS := Lib.hid hstep
      have HL := Lib.hid hL
      have HC := Lib.hid hcell
      clear hstep hL hcel hp hcell
      have wb00 := (hbl.cell (p := ⟨w.heap.size, 0, none⟩) (by simp only; omega)).trans b00
      have wb01 := (hbl.cell (p := ⟨w.heap.size, 1, none⟩) (by simp only; omega)).trans b01
      have wb10 := (hbl.cell (p := ⟨w.heap.size + 1, 0, none⟩) (by simp only; omega)).trans b10
      have wb11 := (hbl.cell (p := ⟨w.heap.size + 1, 1, none⟩) (by simp only; omega)).trans b11
      have wb20 := (hbl.cell (p := ⟨w.heap.size + 1 + 1, 0, none⟩) (by simp only; omega)).trans b20
      have wb21 := (hbl.cell (p := ⟨w.heap.size + 1 + 1, 1, none⟩) (by simp only; omega)).trans b21
      have wb30 := (hbl.cell (p := ⟨w.heap.size + 1 + 1 + 1, 0, none⟩) (by simp only; omega)).trans b30
      have wb31 := (hbl.cell (p := ⟨w.heap.size + 1 + 1 + 1, 1, none⟩) (by simp only; omega)).trans b31
      go_wp2_with fail
      generalize hW1 : wr.alloc (.cells #[.int .i64 px, .int .i64 py] 25) = W1
      have y0 : W1.cell? ⟨wr.heap.size, 0, none⟩ = some (.int .i64 px) := by rw [← hW1]; simp [go_sem]
      have y1 : W1.cell? ⟨wr.heap.size, 1, none⟩ = some (.int .i64 py) := by rw [← hW1]; simp [go_sem]
      have hown1 : W1.ownsRow (w.heap.size + 1 + 1 + 1 + 1) 25 2 (.slice (some ⟨q, 0, none⟩) L.length cap) L.length (cellsP L) := by rw [← hW1]; exact hown.alloc _
      have hbl1 : Below (w.heap.size + 1 + 1 + 1 + 1) W0 W1 := by rw [← hW1]; exact hbl.alloc (by omega) _
      have hcell1 : ∀ o, W1.cell? ⟨w.heap.size + 1 + 1 + 1 + 1 + 1, o, none⟩ = W0.cell? ⟨w.heap.size + 1 + 1 + 1 + 1 + 1, o, none⟩ := by intro o; rw [← hW1]; exact (cell_alloc_at _ _ (by omega)).trans (HC.out o)
      have HC1 := Lib.hid hcell1
      clear hcell1
      have hz1 : W1.heap.size = wr.heap.size + 1 := by rw [← hW1]; simp
      have wc00 : W1.cell? ⟨w.heap.size, 0, none⟩ = some (.int .i64 ax) := by rw [← hW1]; exact (cell_alloc_at _ _ (by omega)).trans wb00
      have wc01 : W1.cell? ⟨w.heap.size, 1, none⟩ = some (.int .i64 ay) := by rw [← hW1]; exact (cell_alloc_at _ _ (by omega)).trans wb01
      have wc10 : W1.cell? ⟨w.heap.size + 1, 0, none⟩ = some (.int .i64 bx) := by rw [← hW1]; exact (cell_alloc_at _ _ (by omega)).trans wb10
      have wc11 : W1.cell? ⟨w.heap.size + 1, 1, none⟩ = some (.int .i64 ey) := by rw [← hW1]; exact (cell_alloc_at _ _ (by omega)).trans wb11
      have wc20 : W1.cell? ⟨w.heap.size + 1 + 1, 0, none⟩ = some (.int .i64 cx) := by rw [← hW1]; exact (cell_alloc_at _ _ (by omega)).trans wb20
      have wc21 : W1.cell? ⟨w.heap.size + 1 + 1, 1, none⟩ = some (.int .i64 cy) := by rw [← hW1]; exact (cell_alloc_at _ _ (by omega)).trans wb21
      have wc30 : W1.cell? ⟨w.heap.size + 1 + 1 + 1, 0, none⟩ = some (.int .i64 dx) := by rw [← hW1]; exact (cell_alloc_at _ _ (by omega)).trans wb30
      have wc31 : W1.cell? ⟨w.heap.size + 1 + 1 + 1, 1, none⟩ = some (.int .i64 dy) := by rw [← hW1]; exact (cell_alloc_at _ _ (by omega)).trans wb31
      clear hW1 c0 c1 wb00 wb01 wb10 wb11 wb20 wb21 wb30 wb31
      go_loopw [13, 14] (fun tw i wq => IRel L (px, py) W1 tw i wq) (fun _ i _ => L.length - (intOf i).toNat)
      case atStart => exact ⟨0, 0, by omega, rfl, rfl, rfl⟩
      case round =>
        obtain ⟨j, n, hj, rfl, rfl, rfl⟩ := hrel
        by_cases hjl : j < L.length
        · obtain ⟨⟨ux, uy⟩, hu⟩ : ∃ u, L[j]? = some u := ⟨L[j], List.getElem?_eq_getElem hjl⟩
          have hc := cellsP_at L j _ hu
          have d0 : W1.cell? ⟨q, j * 2, none⟩ = some (.int .i64 ux) := own_cell hown1 hc.1
          have d1 : W1.cell? ⟨q, j * 2 + 1, none⟩ = some (.int .i64 uy) := own_cell hown1 hc.2
          have ht : decide ((px, py) ∈ L.take (j + 1)) = (decide ((px, py) ∈ L.take j) || decide ((ux, uy) = (px, py))) := by
            rw [List.take_add_one, hu]
            simp [eq_comm]
          have HT := Lib.hid ht
          have e1 := fun w => eq_pt_at (a := ux) (b := uy) (c := px) (d := py) w
          generalize decide ((ux, uy) = (px, py)) = same at *
          clear ht hc hu
          rcases htw : decide ((px, py) ∈ L.take j) with _ | _
          · rw [htw] at HT
            clear htw
            go_wp2_with fail
            go_quiet (fail)
            go_wp2_with fail
            go_roundw
            case rel => exact ⟨j + 1, _, by omega, by go_num, by rw [HT.out]; rfl, rfl⟩
            case measure => simp [intOf]; omega
          · rw [htw] at HT
            clear htw
            go_wp2_with fail
            go_quiet (fail)
            go_wp2_with fail
            go_roundw
            case rel => exact ⟨j + 1, _, by omega, by go_num, by rw [HT.out]; rfl, rfl⟩
            case measure => simp [intOf]; omega
        · obtain rfl : j = L.length := by omega
          rw [List.take_length]
          obtain ⟨W2, hD⟩ : ∃ W2, W2 = W1.drewN n := ⟨_, rfl⟩
          rw [← hD]
          have x0 : W2.cell? ⟨wr.heap.size, 0, none⟩ = some (.int .i64 px) := by rw [hD]; exact y0
          have x1 : W2.cell? ⟨wr.heap.size, 1, none⟩ = some (.int .i64 py) := by rw [hD]; exact y1
          have hown2 : W2.ownsRow (w.heap.size + 1 + 1 + 1 + 1) 25 2 (.slice (some ⟨q, 0, none⟩) L.length cap) L.length (cellsP L) := by rw [hD]; exact hown1
          have hbl2 : Below (w.heap.size + 1 + 1 + 1 + 1) W0 W2 := by rw [hD]; exact below_dr hbl1 _
          have hC2 : ∀ o, W2.cell? ⟨w.heap.size + 1 + 1 + 1 + 1 + 1, o, none⟩ = W0.cell? ⟨w.heap.size + 1 + 1 + 1 + 1 + 1, o, none⟩ := by intro o; rw [hD]; exact HC1.out o
          have HC2 := Lib.hid hC2
          clear hC2
          have hz2 : W2.heap.size = wr.heap.size + 1 := by rw [hD]; simpa using hz1
          have w200 : W2.cell? ⟨w.heap.size, 0, none⟩ = some (.int .i64 ax) := by rw [hD]; exact wc00
          have w201 : W2.cell? ⟨w.heap.size, 1, none⟩ = some (.int .i64 ay) := by rw [hD]; exact wc01
          have w210 : W2.cell? ⟨w.heap.size + 1, 0, none⟩ = some (.int .i64 bx) := by rw [hD]; exact wc10
          have w211 : W2.cell? ⟨w.heap.size + 1, 1, none⟩ = some (.int .i64 ey) := by rw [hD]; exact wc11
          have w220 : W2.cell? ⟨w.heap.size + 1 + 1, 0, none⟩ = some (.int .i64 cx) := by rw [hD]; exact wc20
          have w221 : W2.cell? ⟨w.heap.size + 1 + 1, 1, none⟩ = some (.int .i64 cy) := by rw [hD]; exact wc21
          have w230 : W2.cell? ⟨w.heap.size + 1 + 1 + 1, 0, none⟩ = some (.int .i64 dx) := by rw [hD]; exact wc30
          have w231 : W2.cell? ⟨w.heap.size + 1 + 1 + 1, 1, none⟩ = some (.int .i64 dy) := by rw [hD]; exact wc31
          clear hD y0 y1 hown1 hbl1 HC1 hz1 hown hbl HC wc00 wc01 wc10 wc11 wc20 wc21 wc30 wc31
          by_cases hm : (px, py) ∈ L
          · have HM := Lib.hid hm
            rw [decide_eq_true hm]
            clear hm
            go_wp2_with fail
            go_roundw
            case rel => exact ⟨k + 1, q, cap, L, by omega, by go_num, rfl, by rw [HS.out, if_pos HM.out], by omega, hown2, hq, by omega, hbl2, HC2.out, by omega⟩
            case measure => simp [intOf]; omega
          · have HM := Lib.hid hm
            rw [decide_eq_false hm]
            clear hm
            have hfv : f (px, py) = (onB ax ay bx ey px py && onB cx cy dx dy px py) := by rw [← HF.out]; rfl
            have HFV := Lib.hid hfv
            clear hfv
            rcases ho1 : onB ax ay bx ey px py with _ | _
            · have HO := Lib.hid ho1
              have CB := Lib.hid (fun v w => CA.out px py v w)
              rw [ho1] at CB
              clear ho1
              go_wp2_with fail
              refine (CB.out vp _).mono ?_
              rintro e wA ⟨rfl, hbwA⟩
              have hzwA := hbwA.size
              have wAx0 : wA.cell? ⟨wr.heap.size, 0, none⟩ = some (.int .i64 px) := (hbwA.cell (p := ⟨wr.heap.size, 0, none⟩) (by simp only; omega)).trans x0
              have wAx1 : wA.cell? ⟨wr.heap.size, 1, none⟩ = some (.int .i64 py) := (hbwA.cell (p := ⟨wr.heap.size, 1, none⟩) (by simp only; omega)).trans x1
              have wAown := own_below hown2 hbwA (by omega)
              have wAbl : Below (w.heap.size + 1 + 1 + 1 + 1) W0 wA := hbl2.trans (hbwA.mono (by omega))
              have wAC := Lib.hid (fun o => (hbwA.cell (p := ⟨w.heap.size + 1 + 1 + 1 + 1 + 1, o, none⟩) (by simp only; omega)).trans (HC2.out o))
              have wAw20 : wA.cell? ⟨w.heap.size + 1 + 1, 0, none⟩ = some (.int .i64 cx) := (hbwA.cell (p := ⟨w.heap.size + 1 + 1, 0, none⟩) (by simp only; omega)).trans w220
              have wAw21 : wA.cell? ⟨w.heap.size + 1 + 1, 1, none⟩ = some (.int .i64 cy) := (hbwA.cell (p := ⟨w.heap.size + 1 + 1, 1, none⟩) (by simp only; omega)).trans w221
              have wAw30 : wA.cell? ⟨w.heap.size + 1 + 1 + 1, 0, none⟩ = some (.int .i64 dx) := (hbwA.cell (p := ⟨w.heap.size + 1 + 1 + 1, 0, none⟩) (by simp only; omega)).trans w230
              have wAw31 : wA.cell? ⟨w.heap.size + 1 + 1 + 1, 1, none⟩ = some (.int .i64 dy) := (hbwA.cell (p := ⟨w.heap.size + 1 + 1 + 1, 1, none⟩) (by simp only; omega)).trans w231
              clear hbwA
              go_wp2_with fail
              go_roundw
              case rel => exact ⟨k + 1, q, cap, L, by omega, by go_num, rfl, by rw [HS.out, if_neg HM.out, HFV.out]; simp [HO.out], by omega, wAown, hq, by omega, wAbl, wAC.out, by omega⟩
              case measure => simp [intOf]; omega
            rcases ho2 : onB cx cy dx dy px py with _ | _
            · have HO := Lib.hid ho1
              have HO2 := Lib.hid ho2
              have CB := Lib.hid (fun v w => CA.out px py v w)
              rw [ho1] at CB
              have CD := Lib.hid (fun v w => CC.out px py v w)
              rw [ho2] at CD
              clear ho1 ho2
              go_wp2_with fail
              refine (CB.out vp _).mono ?_
              rintro e wA ⟨rfl, hbwA⟩
              have hzwA := hbwA.size
              have wAx0 : wA.cell? ⟨wr.heap.size, 0, none⟩ = some (.int .i64 px) := (hbwA.cell (p := ⟨wr.heap.size, 0, none⟩) (by simp only; omega)).trans x0
              have wAx1 : wA.cell? ⟨wr.heap.size, 1, none⟩ = some (.int .i64 py) := (hbwA.cell (p := ⟨wr.heap.size, 1, none⟩) (by simp only; omega)).trans x1
              have wAown := own_below hown2 hbwA (by omega)
              have wAbl : Below (w.heap.size + 1 + 1 + 1 + 1) W0 wA := hbl2.trans (hbwA.mono (by omega))
              have wAC := Lib.hid (fun o => (hbwA.cell (p := ⟨w.heap.size + 1 + 1 + 1 + 1 + 1, o, none⟩) (by simp only; omega)).trans (HC2.out o))
              have wAw20 : wA.cell? ⟨w.heap.size + 1 + 1, 0, none⟩ = some (.int .i64 cx) := (hbwA.cell (p := ⟨w.heap.size + 1 + 1, 0, none⟩) (by simp only; omega)).trans w220
              have wAw21 : wA.cell? ⟨w.heap.size + 1 + 1, 1, none⟩ = some (.int .i64 cy) := (hbwA.cell (p := ⟨w.heap.size + 1 + 1, 1, none⟩) (by simp only; omega)).trans w221
              have wAw30 : wA.cell? ⟨w.heap.size + 1 + 1 + 1, 0, none⟩ = some (.int .i64 dx) := (hbwA.cell (p := ⟨w.heap.size + 1 + 1 + 1, 0, none⟩) (by simp only; omega)).trans w230
              have wAw31 : wA.cell? ⟨w.heap.size + 1 + 1 + 1, 1, none⟩ = some (.int .i64 dy) := (hbwA.cell (p := ⟨w.heap.size + 1 + 1 + 1, 1, none⟩) (by simp only; omega)).trans w231
              clear hbwA
              go_wp2_with fail
              refine (CD.out vp _).mono ?_
              rintro e wB ⟨rfl, hbwB⟩
              have hzwB := hbwB.size
              have wBx0 : wB.cell? ⟨wr.heap.size, 0, none⟩ = some (.int .i64 px) := (hbwB.cell (p := ⟨wr.heap.size, 0, none⟩) (by simp only; omega)).trans wAx0
              have wBx1 : wB.cell? ⟨wr.heap.size, 1, none⟩ = some (.int .i64 py) := (hbwB.cell (p := ⟨wr.heap.size, 1, none⟩) (by simp only; omega)).trans wAx1
              have wBown := own_below wAown hbwB (by omega)
              have wBbl : Below (w.heap.size + 1 + 1 + 1 + 1) W0 wB := wAbl.trans (hbwB.mono (by omega))
              have wBC := Lib.hid (fun o => (hbwB.cell (p := ⟨w.heap.size + 1 + 1 + 1 + 1 + 1, o, none⟩) (by simp only; omega)).trans (wAC.out o))
              clear hbwB
              go_wp2_with fail
              go_roundw
              case rel => exact ⟨k + 1, q, cap, L, by omega, by go_num, rfl, by rw [HS.out, if_neg HM.out, HFV.out]; simp [HO.out, HO2.out], by omega, wBown, hq, by omega, wBbl, wBC.out, by omega⟩
              case measure => simp [intOf]; omega
            · obtain ⟨i0, hi0, hz0', hz1', hz2'⟩ := info_parts pt_info
              have HO := Lib.hid ho1
              have HO2 := Lib.hid ho2
              have CB := Lib.hid (fun v w => CA.out px py v w)
              rw [ho1] at CB
              have CD := Lib.hid (fun v w => CC.out px py v w)
              rw [ho2] at CD
              clear ho1 ho2
              go_wp2_with fail
              refine (CB.out vp _).mono ?_
              rintro e wA ⟨rfl, hbwA⟩
              have hzwA := hbwA.size
              have wAx0 : wA.cell? ⟨wr.heap.size, 0, none⟩ = some (.int .i64 px) := (hbwA.cell (p := ⟨wr.heap.size, 0, none⟩) (by simp only; omega)).trans x0
              have wAx1 : wA.cell? ⟨wr.heap.size, 1, none⟩ = some (.int .i64 py) := (hbwA.cell (p := ⟨wr.heap.size, 1, none⟩) (by simp only; omega)).trans x1
              have wAown := own_below hown2 hbwA (by omega)
              have wAbl : Below (w.heap.size + 1 + 1 + 1 + 1) W0 wA := hbl2.trans (hbwA.mono (by omega))
              have wAC := Lib.hid (fun o => (hbwA.cell (p := ⟨w.heap.size + 1 + 1 + 1 + 1 + 1, o, none⟩) (by simp only; omega)).trans (HC2.out o))
              have wAw20 : wA.cell? ⟨w.heap.size + 1 + 1, 0, none⟩ = some (.int .i64 cx) := (hbwA.cell (p := ⟨w.heap.size + 1 + 1, 0, none⟩) (by simp only; omega)).trans w220
              have wAw21 : wA.cell? ⟨w.heap.size + 1 + 1, 1, none⟩ = some (.int .i64 cy) := (hbwA.cell (p := ⟨w.heap.size + 1 + 1, 1, none⟩) (by simp only; omega)).trans w221
              have wAw30 : wA.cell? ⟨w.heap.size + 1 + 1 + 1, 0, none⟩ = some (.int .i64 dx) := (hbwA.cell (p := ⟨w.heap.size + 1 + 1 + 1, 0, none⟩) (by simp only; omega)).trans w230
              have wAw31 : wA.cell? ⟨w.heap.size + 1 + 1 + 1, 1, none⟩ = some (.int .i64 dy) := (hbwA.cell (p := ⟨w.heap.size + 1 + 1 + 1, 1, none⟩) (by simp only; omega)).trans w231
              clear hbwA
              go_wp2_with fail
              refine (CD.out vp _).mono ?_
              rintro e wB ⟨rfl, hbwB⟩
              have hzwB := hbwB.size
              have wBx0 : wB.cell? ⟨wr.heap.size, 0, none⟩ = some (.int .i64 px) := (hbwB.cell (p := ⟨wr.heap.size, 0, none⟩) (by simp only; omega)).trans wAx0
              have wBx1 : wB.cell? ⟨wr.heap.size, 1, none⟩ = some (.int .i64 py) := (hbwB.cell (p := ⟨wr.heap.size, 1, none⟩) (by simp only; omega)).trans wAx1
              have wBown := own_below wAown hbwB (by omega)
              have wBbl : Below (w.heap.size + 1 + 1 + 1 + 1) W0 wB := wAbl.trans (hbwB.mono (by omega))
              have wBC := Lib.hid (fun o => (hbwB.cell (p := ⟨w.heap.size + 1 + 1 + 1 + 1 + 1, o, none⟩) (by simp only; omega)).trans (wAC.out o))
              clear hbwB
              go_wp2_with (at_builtin; refine wpList_append_any _ rfl (.tmp 58) (.tmp 60) _ rfl (w.heap.size + 1 + 1 + 1 + 1) 25 i0 _ 2 16 Try.underlying31 hi0 hz0' hz1' hz2' rfl (by omega) _ L.length (cellsP L) rfl (wBown.alloc _) (wB.heap.size + 1) (some ⟨wB.heap.size, 0, none⟩) 1 1 [.int .i64 px, .int .i64 py] rfl (by have := Reads.of_own (own_pair wB 0 25 (.int .i64 px) (.int .i64 py) (Nat.zero_le _)); simpa using this) (by intro v hv; simp at hv; rcases hv with rfl | rfl <;> rfl) (by unfold maxLen; omega) (by omega) (by simp; omega) ?_; intro v' w3 hown3 hg3 hat3)
              obtain ⟨q', cap', rfl, hq'⟩ := own_form hown3
              have hqg : w.heap.size + 1 + 1 + 1 + 1 ≤ q := by omega
              have hz3 := hg3.size
              simp only [World.size_alloc] at hz3
              have hq2 : q' = q ∨ q' = wB.heap.size + 1 := by
                rcases hat3 with h | h
                · left; exact Option.some.inj h
                · right; have h2 := Option.some.inj h; simpa only [World.size_alloc] using h2
              refine ⟨⟨k + 1, q', cap', L ++ [(px, py)], by omega, by go_num, by rw [List.length_append]; rfl, by rw [HS.out, if_neg HM.out, HFV.out, HO.out, HO2.out]; rfl, by rw [List.length_append]; simp; omega, ?_, by omega, hq', ?_, ?_, by omega⟩, by simp [intOf]; omega⟩
              · rw [← cellsP_snoc, List.length_append]; exact hown3
              · exact (wBbl.alloc (by omega) _).grown hg3 (by simp; omega) (fun r hr => by have hr2 : q = r := (Option.some.inj hr); omega)
              · intro o
                refine (World.cell?_of_block (hg3.block _ (by simp; omega) (fun hr => by have hr2 : w.heap.size + 1 + 1 + 1 + 1 + 1 = q := Option.some.inj hr; omega))).trans ?_
                exact (cell_alloc_at _ _ (by omega)).trans (wBC.out o)
    · obtain rfl : k = 4 := by omega
      go_wp2
      go_ret
      have ht : pts.take 4 = pts := by rw [List.take_of_length_le (by omega)]
      rw [ht] at hL
      subst hL
      have hF := HF.out
      have hP := HP.out
      subst hF
      subst hP
      exact ⟨_, _, _, rfl, rfl, ⟨fun j u hu => own_cell hown hu, hqz⟩, g0.trans (hbl.mono (by omega))⟩
end Go.Proofs.Ytjhboedaaeaomaa
