/- Walks: a map as a grid of fractions, the program's side. -/
import Derived.Test.YtjlmoadnbbeloaaCm
import Derived.Deep.MidRow
namespace Go.Proofs.Ytjlmoadnbbeloaa
open Go.RowKit
set_option linter.unusedVariables false
theorem gcells_size (b : Nat) : ∀ (vs : List Value) (o : Nat) (w : World), (w.setCells b o vs).heap.size = w.heap.size
  | [], _, _ => rfl
  | v :: r, o, w => by rw [World.setCells, gcells_size b r]; simp
theorem gcells_below {B : Nat} {a : World} (b : Nat) (hb : B ≤ b) : ∀ (vs : List Value) (o : Nat) {w : World}, Below B a w → Below B a (w.setCells b o vs)
  | [], _, _, h => h
  | v :: r, o, _, h => gcells_below b hb r (o + 1) (h.setCell (p := ⟨b, o, none⟩) hb v)
theorem gcells_far {w : World} {g b i o : Nat} {vs : List Value} (h : ¬ b = g) : (w.setCells g o vs).cell? ⟨b, i, none⟩ = w.cell? ⟨b, i, none⟩ := World.cell?_setCells_out _ _ _ _ _ (fun e => absurd e h)
/-- A block of zeros, none frozen. -/
def Zs (g n : Nat) (w : World) : Prop := (∀ j, j < n → w.cell? ⟨g, j, none⟩ = some (.int .i64 0) ∧ w.frozen? ⟨g, j, none⟩ = false) ∧ g < w.heap.size
theorem Zs.below {g n : Nat} {w w' : World} (h : Zs g n w) (hb : Below w.heap.size w w') : Zs g n w' :=
  ⟨fun j hj => ⟨(hb.cell (p := ⟨g, j, none⟩) h.2).trans (h.1 j hj).1, (hb.frozen (p := ⟨g, j, none⟩) h.2).trans (h.1 j hj).2⟩, Nat.lt_of_lt_of_le h.2 hb.size⟩
theorem Zs.drew {g n : Nat} {w : World} (h : Zs g n w) : Zs g n w.drew := h
theorem Zs.there {g n : Nat} {w : World} {vs : List Value} (h : Zs g n w) (hl : vs.length = n) : w.there g 0 vs.length := fun j hj => ⟨by rw [Nat.zero_add, (h.1 j (by omega)).1]; rfl, by rw [Nat.zero_add]; exact (h.1 j (by omega)).2⟩
theorem Zs.get {g n : Nat} {w : World} {vs : List Value} (h : Zs g n w) (hl : vs.length = n) {i : Nat} {v : Value} (hv : vs[i]? = some v) : (w.setCells g 0 vs).cell? ⟨g, i, none⟩ = some v := by
  have h2 := World.rangeAt_setCells_same w g 0 vs (fun j hj => ⟨by rw [Nat.zero_add, (h.1 j (by omega)).1]; rfl, by rw [Nat.zero_add]; exact (h.1 j (by omega)).2⟩) i v hv
  rwa [Nat.zero_add] at h2
theorem grid_info : Option.map (fun x => x.size) (Try.prog.info? 68) = some 18 := by kernel_rfl
set_option maxRecDepth 100000 in
set_option maxHeartbeats 12800000 in
theorem grid_any (m0 m1 m2 m3 m4 m5 m6 m7 m8 m9 m10 m11 : Int) (w : World) :
    Calls Try.prog 26 #[.agg #[.int .i64 m0, .int .i64 m1, .int .i64 m2, .int .i64 m3, .int .i64 m4, .int .i64 m5, .int .i64 m6, .int .i64 m7, .int .i64 m8, .int .i64 m9, .int .i64 m10, .int .i64 m11]] w fun e w' => e = .returned (.agg #[.int .i64 m0, .int .i64 m1, .int .i64 m2, .int .i64 m3, .int .i64 m8, .int .i64 m9, .int .i64 m4, .int .i64 m5, .int .i64 m6, .int .i64 m7, .int .i64 m10, .int .i64 m11, .int .i64 0, .int .i64 1, .int .i64 0, .int .i64 1, .int .i64 1, .int .i64 1]) ∧ Below w.heap.size w w' := by
  have h1c : ∀ (v : Value), v ∈ ([.int .i64 m0, .int .i64 m1, .int .i64 m2, .int .i64 m3, .int .i64 m8, .int .i64 m9, .int .i64 m4, .int .i64 m5, .int .i64 m6, .int .i64 m7, .int .i64 m10, .int .i64 m11, .int .i64 0, .int .i64 1, .int .i64 0, .int .i64 1, .int .i64 1, .int .i64 1] : List Value) → v.oneCell' = true := by
    intro v hv
    simp only [List.mem_cons, List.not_mem_nil, or_false] at hv
    rcases hv with rfl | rfl | rfl | rfl | rfl | rfl | rfl | rfl | rfl | rfl | rfl | rfl | rfl | rfl | rfl | rfl | rfl | rfl <;> rfl
  have hin : Option.map (fun x => x.size) (Try.prog.info? 68) = some ([.int .i64 m0, .int .i64 m1, .int .i64 m2, .int .i64 m3, .int .i64 m8, .int .i64 m9, .int .i64 m4, .int .i64 m5, .int .i64 m6, .int .i64 m7, .int .i64 m10, .int .i64 m11, .int .i64 0, .int .i64 1, .int .i64 0, .int .i64 1, .int .i64 1, .int .i64 1] : List Value).length := grid_info
  go_enter Try.func26, Try.ntmps26
  go_upto_region 1 with fail
  generalize hW : (w.alloc (.cells #[.int .i64 m0, .int .i64 m1, .int .i64 m2, .int .i64 m3, .int .i64 m4, .int .i64 m5, .int .i64 m6, .int .i64 m7, .int .i64 m8, .int .i64 m9, .int .i64 m10, .int .i64 m11] 28)).alloc (.cells #[.int .i64 0, .int .i64 0, .int .i64 0, .int .i64 0, .int .i64 0, .int .i64 0, .int .i64 0, .int .i64 0, .int .i64 0, .int .i64 0, .int .i64 0, .int .i64 0, .int .i64 0, .int .i64 0, .int .i64 0, .int .i64 0, .int .i64 0, .int .i64 0] 68) = W0
  have g0 : Below w.heap.size w W0 := by rw [← hW]; repeat' (first | with_reducible assumption | with_reducible exact Below.refl _ _ | (with_reducible refine Below.setCell ?_ ?_ _) | (with_reducible refine Below.alloc ?_ ?_ _) | (with_reducible refine Below.drew ?_) | (with_reducible refine below_dr ?_ _) | (with_reducible refine Below.trans ?_ (Below.mono (by with_reducible assumption) ?_)) | omega | (simp; done) | (simp; omega))
  have z0 : Zs (w.heap.size + 1) 18 W0 := by
    rw [← hW]
    refine ⟨fun j hj => ?_, by simp⟩
    match j, hj with
    | 0, _ => exact ⟨by simp [go_sem], by simp [go_sem]⟩
    | 1, _ => exact ⟨by simp [go_sem], by simp [go_sem]⟩
    | 2, _ => exact ⟨by simp [go_sem], by simp [go_sem]⟩
    | 3, _ => exact ⟨by simp [go_sem], by simp [go_sem]⟩
    | 4, _ => exact ⟨by simp [go_sem], by simp [go_sem]⟩
    | 5, _ => exact ⟨by simp [go_sem], by simp [go_sem]⟩
    | 6, _ => exact ⟨by simp [go_sem], by simp [go_sem]⟩
    | 7, _ => exact ⟨by simp [go_sem], by simp [go_sem]⟩
    | 8, _ => exact ⟨by simp [go_sem], by simp [go_sem]⟩
    | 9, _ => exact ⟨by simp [go_sem], by simp [go_sem]⟩
    | 10, _ => exact ⟨by simp [go_sem], by simp [go_sem]⟩
    | 11, _ => exact ⟨by simp [go_sem], by simp [go_sem]⟩
    | 12, _ => exact ⟨by simp [go_sem], by simp [go_sem]⟩
    | 13, _ => exact ⟨by simp [go_sem], by simp [go_sem]⟩
    | 14, _ => exact ⟨by simp [go_sem], by simp [go_sem]⟩
    | 15, _ => exact ⟨by simp [go_sem], by simp [go_sem]⟩
    | 16, _ => exact ⟨by simp [go_sem], by simp [go_sem]⟩
    | 17, _ => exact ⟨by simp [go_sem], by simp [go_sem]⟩
    | n + 18, h => exact absurd h (by omega)
  have s0 : W0.cell? ⟨w.heap.size, 0, none⟩ = some (.int .i64 m0) := by rw [← hW]; simp [go_sem]
  have s1 : W0.cell? ⟨w.heap.size, 1, none⟩ = some (.int .i64 m1) := by rw [← hW]; simp [go_sem]
  have s2 : W0.cell? ⟨w.heap.size, 2, none⟩ = some (.int .i64 m2) := by rw [← hW]; simp [go_sem]
  have s3 : W0.cell? ⟨w.heap.size, 3, none⟩ = some (.int .i64 m3) := by rw [← hW]; simp [go_sem]
  have s4 : W0.cell? ⟨w.heap.size, 4, none⟩ = some (.int .i64 m4) := by rw [← hW]; simp [go_sem]
  have s5 : W0.cell? ⟨w.heap.size, 5, none⟩ = some (.int .i64 m5) := by rw [← hW]; simp [go_sem]
  have s6 : W0.cell? ⟨w.heap.size, 6, none⟩ = some (.int .i64 m6) := by rw [← hW]; simp [go_sem]
  have s7 : W0.cell? ⟨w.heap.size, 7, none⟩ = some (.int .i64 m7) := by rw [← hW]; simp [go_sem]
  have s8 : W0.cell? ⟨w.heap.size, 8, none⟩ = some (.int .i64 m8) := by rw [← hW]; simp [go_sem]
  have s9 : W0.cell? ⟨w.heap.size, 9, none⟩ = some (.int .i64 m9) := by rw [← hW]; simp [go_sem]
  have s10 : W0.cell? ⟨w.heap.size, 10, none⟩ = some (.int .i64 m10) := by rw [← hW]; simp [go_sem]
  have s11 : W0.cell? ⟨w.heap.size, 11, none⟩ = some (.int .i64 m11) := by rw [← hW]; simp [go_sem]
  have lw : w.heap.size + 1 < W0.heap.size := z0.2
  have lw0 : w.heap.size < W0.heap.size := by omega
  clear hW
  refine wp_region_held_drew (S := (fun w' => (∀ b o, b < w.heap.size + 1 → w'.cell? ⟨b, o, none⟩ = W0.cell? ⟨b, o, none⟩) ∧ W0.heap.size ≤ w'.heap.size)) (by kernel_rfl) ?_ (fun hHeld => ?_)
  · (try dsimp only); (first | ((try dsimp only); exact ⟨fun b o h => (by (repeat (first | with_reducible exact rfl | (with_reducible refine (cell_drew_at _ _).trans ?_) | (revert b o h; apply And.left; with_reducible assumption) | (with_reducible refine rfl)))), (by first | omega | (simp; done) | (simp; omega))⟩) | ((try dsimp only); exact ⟨fun b o h => (by ((refine (gcells_far (by omega)).trans ?_); (repeat (first | with_reducible exact rfl | (with_reducible refine (cell_drew_at _ _).trans ?_) | (revert b o h; apply And.left; with_reducible assumption) | (with_reducible refine rfl))))), (by (rw [gcells_size]; omega))⟩) | fail)
  refine wpAnyH_take (i := 0) (oi := ⟨_, _, _, _, _, _⟩) (v := ?_) rfl (by kernel_rfl) (by kernel_rfl) (by kernel_rfl) (fun _ _ _ h => h) (Or.inl ⟨by rfl, ?_⟩) (by assumption) ?_
  rotate_left
  · intro w hSw; (try dsimp only at hSw); go_simp; (try with_reducible rfl)
  (try simp only [Act.put, List.setIfInBounds_toArray, List.set_cons_zero, List.set_cons_succ])
  refine wpAnyH_take (i := 1) (oi := ⟨_, _, _, _, _, _⟩) (v := ?_) rfl (by kernel_rfl) (by kernel_rfl) (by kernel_rfl) (fun _ _ _ h => h) (Or.inl ⟨by rfl, ?_⟩) (by assumption) ?_
  rotate_left
  · intro w hSw; (try dsimp only at hSw); go_simp; (try with_reducible rfl)
  (try simp only [Act.put, List.setIfInBounds_toArray, List.set_cons_zero, List.set_cons_succ])
  refine wpAnyH_take (i := 2) (oi := ⟨_, _, _, _, _, _⟩) (v := ?_) rfl (by kernel_rfl) (by kernel_rfl) (by kernel_rfl) (fun _ _ _ h => h) (Or.inl ⟨by rfl, ?_⟩) (by assumption) ?_
  rotate_left
  · intro w hSw; (try dsimp only at hSw); go_simp; (try with_reducible rfl)
  (try simp only [Act.put, List.setIfInBounds_toArray, List.set_cons_zero, List.set_cons_succ])
  refine wpAnyH_take (i := 3) (oi := ⟨_, _, _, _, _, _⟩) (v := ?_) rfl (by kernel_rfl) (by kernel_rfl) (by kernel_rfl) (fun _ _ _ h => h) (Or.inl ⟨by rfl, ?_⟩) (by assumption) ?_
  rotate_left
  · intro w hSw; (try dsimp only at hSw); go_simp; (try with_reducible rfl)
  (try simp only [Act.put, List.setIfInBounds_toArray, List.set_cons_zero, List.set_cons_succ])
  refine wpAnyH_take (i := 4) (oi := ⟨_, _, _, _, _, _⟩) (v := ?_) rfl (by kernel_rfl) (by kernel_rfl) (by kernel_rfl) (fun _ _ _ h => h) (Or.inl ⟨by rfl, ?_⟩) (by assumption) ?_
  rotate_left
  · intro w hSw; (try dsimp only at hSw); go_simp; (try with_reducible rfl)
  (try simp only [Act.put, List.setIfInBounds_toArray, List.set_cons_zero, List.set_cons_succ])
  refine wpAnyH_take (i := 5) (oi := ⟨_, _, _, _, _, _⟩) (v := ?_) rfl (by kernel_rfl) (by kernel_rfl) (by kernel_rfl) (fun _ _ _ h => h) (Or.inl ⟨by rfl, ?_⟩) (by assumption) ?_
  rotate_left
  · intro w hSw; (try dsimp only at hSw); go_simp; (try with_reducible rfl)
  (try simp only [Act.put, List.setIfInBounds_toArray, List.set_cons_zero, List.set_cons_succ])
  refine wpAnyH_take (i := 6) (oi := ⟨_, _, _, _, _, _⟩) (v := ?_) rfl (by kernel_rfl) (by kernel_rfl) (by kernel_rfl) (fun _ _ _ h => h) (Or.inl ⟨by rfl, ?_⟩) (by assumption) ?_
  rotate_left
  · intro w hSw; (try dsimp only at hSw); go_simp; (try with_reducible rfl)
  (try simp only [Act.put, List.setIfInBounds_toArray, List.set_cons_zero, List.set_cons_succ])
  refine wpAnyH_take (i := 7) (oi := ⟨_, _, _, _, _, _⟩) (v := ?_) rfl (by kernel_rfl) (by kernel_rfl) (by kernel_rfl) (fun _ _ _ h => h) (Or.inl ⟨by rfl, ?_⟩) (by assumption) ?_
  rotate_left
  · intro w hSw; (try dsimp only at hSw); go_simp; (try with_reducible rfl)
  (try simp only [Act.put, List.setIfInBounds_toArray, List.set_cons_zero, List.set_cons_succ])
  refine wpAnyH_take (i := 8) (oi := ⟨_, _, _, _, _, _⟩) (v := ?_) rfl (by kernel_rfl) (by kernel_rfl) (by kernel_rfl) (fun _ _ _ h => h) (Or.inl ⟨by rfl, ?_⟩) (by assumption) ?_
  rotate_left
  · intro w hSw; (try dsimp only at hSw); go_simp; (try with_reducible rfl)
  (try simp only [Act.put, List.setIfInBounds_toArray, List.set_cons_zero, List.set_cons_succ])
  refine wpAnyH_take (i := 9) (oi := ⟨_, _, _, _, _, _⟩) (v := ?_) rfl (by kernel_rfl) (by kernel_rfl) (by kernel_rfl) (fun _ _ _ h => h) (Or.inl ⟨by rfl, ?_⟩) (by assumption) ?_
  rotate_left
  · intro w hSw; (try dsimp only at hSw); go_simp; (try with_reducible rfl)
  (try simp only [Act.put, List.setIfInBounds_toArray, List.set_cons_zero, List.set_cons_succ])
  refine wpAnyH_take (i := 10) (oi := ⟨_, _, _, _, _, _⟩) (v := ?_) rfl (by kernel_rfl) (by kernel_rfl) (by kernel_rfl) (fun _ _ _ h => h) (Or.inl ⟨by rfl, ?_⟩) (by assumption) ?_
  rotate_left
  · intro w hSw; (try dsimp only at hSw); go_simp; (try with_reducible rfl)
  (try simp only [Act.put, List.setIfInBounds_toArray, List.set_cons_zero, List.set_cons_succ])
  refine wpAnyH_take (i := 11) (oi := ⟨_, _, _, _, _, _⟩) (v := ?_) rfl (by kernel_rfl) (by kernel_rfl) (by kernel_rfl) (fun _ _ _ h => h) (Or.inl ⟨by rfl, ?_⟩) (by assumption) ?_
  rotate_left
  · intro w hSw; (try dsimp only at hSw); go_simp; (try with_reducible rfl)
  (try simp only [Act.put, List.setIfInBounds_toArray, List.set_cons_zero, List.set_cons_succ])
  refine wpAnyH_take (i := 12) (oi := ⟨_, _, _, _, _, _⟩) (v := ?_) rfl (by kernel_rfl) (by kernel_rfl) (by kernel_rfl) (fun _ _ _ h => h) (Or.inl ⟨by rfl, ?_⟩) (by assumption) ?_
  rotate_left
  · intro w hSw; (try dsimp only at hSw); go_simp; (try with_reducible rfl)
  (try simp only [Act.put, List.setIfInBounds_toArray, List.set_cons_zero, List.set_cons_succ])
  refine wpAnyH_take (i := 13) (oi := ⟨_, _, _, _, _, _⟩) (v := ?_) rfl (by kernel_rfl) (by kernel_rfl) (by kernel_rfl) (fun _ _ _ h => h) (Or.inl ⟨by rfl, ?_⟩) (by assumption) ?_
  rotate_left
  · intro w hSw; (try dsimp only at hSw); go_simp; (try with_reducible rfl)
  (try simp only [Act.put, List.setIfInBounds_toArray, List.set_cons_zero, List.set_cons_succ])
  refine wpAnyH_ready (rs := [14]) (by kernel_rfl) (by simp) ?_
  refine AllReadyH.cons (o := ⟨_, _, _, _, _, _⟩) rfl (fun K hK => ?_) AllReadyH.nil
  go_simp
  (go_at_call 36; (with_reducible refine (whole_b _ _).mono ?_); rintro e wV ⟨rfl, hbwV⟩; obtain ⟨hcwV, hfwV⟩ := bcell hbwV; have hzwV := hbwV.size; (try simp only [World.size_drew] at hcwV hfwV hzwV); have zV : Zs (w.heap.size + 1) 18 wV := (by repeat' (first | with_reducible assumption | (with_reducible refine Zs.drew ?_) | (with_reducible refine Zs.below ?_ (by with_reducible assumption)))); have gV : Below w.heap.size w wV := (by repeat' (first | with_reducible assumption | with_reducible exact Below.refl _ _ | (with_reducible refine Below.setCell ?_ ?_ _) | (with_reducible refine Below.alloc ?_ ?_ _) | (with_reducible refine Below.drew ?_) | (with_reducible refine below_dr ?_ _) | (with_reducible refine Below.trans ?_ (Below.mono (by with_reducible assumption) ?_)) | omega | (simp; done) | (simp; omega))); have lV := zV.2; have hth : wV.there (w.heap.size + 1) 0 ([.int .i64 m0, .int .i64 m1, .int .i64 m2, .int .i64 m3, .int .i64 m8, .int .i64 m9, .int .i64 m4, .int .i64 m5, .int .i64 m6, .int .i64 m7, .int .i64 m10, .int .i64 m11, .int .i64 0, .int .i64 1, .int .i64 0, .int .i64 1, .int .i64 1, .int .i64 1] : List Value).length := zV.there rfl)
  refine hK.out _ _ ?_ (fun hHeld => ?_)
  · (try dsimp only); (first | ((try dsimp only); exact ⟨fun b o h => (by (repeat (first | with_reducible exact rfl | (with_reducible refine (cell_drew_at _ _).trans ?_) | (revert b o h; apply And.left; with_reducible assumption) | (with_reducible refine (hcwV b o (by first | omega | (simp; done) | (simp; omega))).trans ?_)))), (by first | omega | (simp; done) | (simp; omega))⟩) | ((try dsimp only); exact ⟨fun b o h => (by ((refine (gcells_far (by omega)).trans ?_); (repeat (first | with_reducible exact rfl | (with_reducible refine (cell_drew_at _ _).trans ?_) | (revert b o h; apply And.left; with_reducible assumption) | (with_reducible refine (hcwV b o (by first | omega | (simp; done) | (simp; omega))).trans ?_))))), (by (rw [gcells_size]; omega))⟩) | fail)
  clear hK K
  (try simp only [Act.put, List.setIfInBounds_toArray, List.set_cons_zero, List.set_cons_succ])
  refine wpAnyH_ready (rs := [15]) (by kernel_rfl) (by simp) ?_
  refine AllReadyH.cons (o := ⟨_, _, _, _, _, _⟩) rfl (fun K hK => ?_) AllReadyH.nil
  go_simp
  (go_at_call 36; (with_reducible refine (whole_b _ _).mono ?_); rintro e wV ⟨rfl, hbwV⟩; obtain ⟨hcwV, hfwV⟩ := bcell hbwV; have hzwV := hbwV.size; (try simp only [World.size_drew] at hcwV hfwV hzwV); have zV : Zs (w.heap.size + 1) 18 wV := (by repeat' (first | with_reducible assumption | (with_reducible refine Zs.drew ?_) | (with_reducible refine Zs.below ?_ (by with_reducible assumption)))); have gV : Below w.heap.size w wV := (by repeat' (first | with_reducible assumption | with_reducible exact Below.refl _ _ | (with_reducible refine Below.setCell ?_ ?_ _) | (with_reducible refine Below.alloc ?_ ?_ _) | (with_reducible refine Below.drew ?_) | (with_reducible refine below_dr ?_ _) | (with_reducible refine Below.trans ?_ (Below.mono (by with_reducible assumption) ?_)) | omega | (simp; done) | (simp; omega))); have lV := zV.2; have hth : wV.there (w.heap.size + 1) 0 ([.int .i64 m0, .int .i64 m1, .int .i64 m2, .int .i64 m3, .int .i64 m8, .int .i64 m9, .int .i64 m4, .int .i64 m5, .int .i64 m6, .int .i64 m7, .int .i64 m10, .int .i64 m11, .int .i64 0, .int .i64 1, .int .i64 0, .int .i64 1, .int .i64 1, .int .i64 1] : List Value).length := zV.there rfl)
  refine hK.out _ _ ?_ (fun hHeld => ?_)
  · (try dsimp only); (first | ((try dsimp only); exact ⟨fun b o h => (by (repeat (first | with_reducible exact rfl | (with_reducible refine (cell_drew_at _ _).trans ?_) | (revert b o h; apply And.left; with_reducible assumption) | (with_reducible refine (hcwV b o (by first | omega | (simp; done) | (simp; omega))).trans ?_)))), (by first | omega | (simp; done) | (simp; omega))⟩) | ((try dsimp only); exact ⟨fun b o h => (by ((refine (gcells_far (by omega)).trans ?_); (repeat (first | with_reducible exact rfl | (with_reducible refine (cell_drew_at _ _).trans ?_) | (revert b o h; apply And.left; with_reducible assumption) | (with_reducible refine (hcwV b o (by first | omega | (simp; done) | (simp; omega))).trans ?_))))), (by (rw [gcells_size]; omega))⟩) | fail)
  clear hK K
  (try simp only [Act.put, List.setIfInBounds_toArray, List.set_cons_zero, List.set_cons_succ])
  refine wpAnyH_ready (rs := [16]) (by kernel_rfl) (by simp) ?_
  refine AllReadyH.cons (o := ⟨_, _, _, _, _, _⟩) rfl (fun K hK => ?_) AllReadyH.nil
  go_simp
  (go_at_call 36; (with_reducible refine (whole_b _ _).mono ?_); rintro e wV ⟨rfl, hbwV⟩; obtain ⟨hcwV, hfwV⟩ := bcell hbwV; have hzwV := hbwV.size; (try simp only [World.size_drew] at hcwV hfwV hzwV); have zV : Zs (w.heap.size + 1) 18 wV := (by repeat' (first | with_reducible assumption | (with_reducible refine Zs.drew ?_) | (with_reducible refine Zs.below ?_ (by with_reducible assumption)))); have gV : Below w.heap.size w wV := (by repeat' (first | with_reducible assumption | with_reducible exact Below.refl _ _ | (with_reducible refine Below.setCell ?_ ?_ _) | (with_reducible refine Below.alloc ?_ ?_ _) | (with_reducible refine Below.drew ?_) | (with_reducible refine below_dr ?_ _) | (with_reducible refine Below.trans ?_ (Below.mono (by with_reducible assumption) ?_)) | omega | (simp; done) | (simp; omega))); have lV := zV.2; have hth : wV.there (w.heap.size + 1) 0 ([.int .i64 m0, .int .i64 m1, .int .i64 m2, .int .i64 m3, .int .i64 m8, .int .i64 m9, .int .i64 m4, .int .i64 m5, .int .i64 m6, .int .i64 m7, .int .i64 m10, .int .i64 m11, .int .i64 0, .int .i64 1, .int .i64 0, .int .i64 1, .int .i64 1, .int .i64 1] : List Value).length := zV.there rfl)
  refine hK.out _ _ ?_ (fun hHeld => ?_)
  · (try dsimp only); (first | ((try dsimp only); exact ⟨fun b o h => (by (repeat (first | with_reducible exact rfl | (with_reducible refine (cell_drew_at _ _).trans ?_) | (revert b o h; apply And.left; with_reducible assumption) | (with_reducible refine (hcwV b o (by first | omega | (simp; done) | (simp; omega))).trans ?_)))), (by first | omega | (simp; done) | (simp; omega))⟩) | ((try dsimp only); exact ⟨fun b o h => (by ((refine (gcells_far (by omega)).trans ?_); (repeat (first | with_reducible exact rfl | (with_reducible refine (cell_drew_at _ _).trans ?_) | (revert b o h; apply And.left; with_reducible assumption) | (with_reducible refine (hcwV b o (by first | omega | (simp; done) | (simp; omega))).trans ?_))))), (by (rw [gcells_size]; omega))⟩) | fail)
  clear hK K
  (try simp only [Act.put, List.setIfInBounds_toArray, List.set_cons_zero, List.set_cons_succ])
  refine wpAnyH_take (i := 17) (oi := ⟨_, _, _, _, _, _⟩) (v := ?_) rfl (by kernel_rfl) (by kernel_rfl) (by kernel_rfl) (fun _ _ _ h => h) (Or.inl ⟨by rfl, ?_⟩) (by assumption) ?_
  rotate_left
  · intro w hSw; (try dsimp only at hSw); go_simp; (try with_reducible rfl)
  (try simp only [Act.put, List.setIfInBounds_toArray, List.set_cons_zero, List.set_cons_succ])
  refine wpAnyH_take (i := 18) (oi := ⟨_, _, _, _, _, _⟩) (v := ?_) rfl (by kernel_rfl) (by kernel_rfl) (by kernel_rfl) (fun _ _ _ h => h) (Or.inl ⟨by rfl, ?_⟩) (by assumption) ?_
  rotate_left
  · intro w hSw; (try dsimp only at hSw); go_simp; (try with_reducible rfl)
  (try simp only [Act.put, List.setIfInBounds_toArray, List.set_cons_zero, List.set_cons_succ])
  refine wpAnyH_ready (rs := [19]) (by kernel_rfl) (by simp) ?_
  refine AllReadyH.cons (o := ⟨_, _, _, _, _, _⟩) rfl (fun K hK => ?_) AllReadyH.nil
  rw [if_pos (by rfl)]
  refine wp_store_mid _ _ _ rfl _ _ (List.toArray [.int .i64 m0, .int .i64 m1, .int .i64 m2, .int .i64 m3, .int .i64 m8, .int .i64 m9, .int .i64 m4, .int .i64 m5, .int .i64 m6, .int .i64 m7, .int .i64 m10, .int .i64 m11, .int .i64 0, .int .i64 1, .int .i64 0, .int .i64 1, .int .i64 1, .int .i64 1]) rfl rfl ?_ ?_ (all_oneCell_toArray h1c) ?_
  · first | exact hth | exact (World.there_drew _ _ _ _).2 hth
  · exact hin
  (try simp only [Act.put])
  refine hK.out _ _ ?_ (fun hHeld => ?_)
  · (try dsimp only); (first | ((try dsimp only); exact ⟨fun b o h => (by (repeat (first | with_reducible exact rfl | (with_reducible refine (cell_drew_at _ _).trans ?_) | (revert b o h; apply And.left; with_reducible assumption) | (with_reducible refine (hcwV b o (by first | omega | (simp; done) | (simp; omega))).trans ?_)))), (by first | omega | (simp; done) | (simp; omega))⟩) | ((try dsimp only); exact ⟨fun b o h => (by ((refine (gcells_far (by omega)).trans ?_); (repeat (first | with_reducible exact rfl | (with_reducible refine (cell_drew_at _ _).trans ?_) | (revert b o h; apply And.left; with_reducible assumption) | (with_reducible refine (hcwV b o (by first | omega | (simp; done) | (simp; omega))).trans ?_))))), (by (rw [gcells_size]; omega))⟩) | fail)
  clear hK K
  (try simp only [Act.put, List.setIfInBounds_toArray, List.set_cons_zero, List.set_cons_succ])
  refine wpAnyH_done (by kernel_rfl) ?_ _
  generalize hW : wV.setCells (w.heap.size + 1) 0 [.int .i64 m0, .int .i64 m1, .int .i64 m2, .int .i64 m3, .int .i64 m8, .int .i64 m9, .int .i64 m4, .int .i64 m5, .int .i64 m6, .int .i64 m7, .int .i64 m10, .int .i64 m11, .int .i64 0, .int .i64 1, .int .i64 0, .int .i64 1, .int .i64 1, .int .i64 1] = W9
  have y0 : W9.cell? ⟨w.heap.size + 1, 0, none⟩ = some (.int .i64 m0) := by rw [← hW]; exact zV.get rfl rfl
  have y1 : W9.cell? ⟨w.heap.size + 1, 1, none⟩ = some (.int .i64 m1) := by rw [← hW]; exact zV.get rfl rfl
  have y2 : W9.cell? ⟨w.heap.size + 1, 2, none⟩ = some (.int .i64 m2) := by rw [← hW]; exact zV.get rfl rfl
  have y3 : W9.cell? ⟨w.heap.size + 1, 3, none⟩ = some (.int .i64 m3) := by rw [← hW]; exact zV.get rfl rfl
  have y4 : W9.cell? ⟨w.heap.size + 1, 4, none⟩ = some (.int .i64 m8) := by rw [← hW]; exact zV.get rfl rfl
  have y5 : W9.cell? ⟨w.heap.size + 1, 5, none⟩ = some (.int .i64 m9) := by rw [← hW]; exact zV.get rfl rfl
  have y6 : W9.cell? ⟨w.heap.size + 1, 6, none⟩ = some (.int .i64 m4) := by rw [← hW]; exact zV.get rfl rfl
  have y7 : W9.cell? ⟨w.heap.size + 1, 7, none⟩ = some (.int .i64 m5) := by rw [← hW]; exact zV.get rfl rfl
  have y8 : W9.cell? ⟨w.heap.size + 1, 8, none⟩ = some (.int .i64 m6) := by rw [← hW]; exact zV.get rfl rfl
  have y9 : W9.cell? ⟨w.heap.size + 1, 9, none⟩ = some (.int .i64 m7) := by rw [← hW]; exact zV.get rfl rfl
  have y10 : W9.cell? ⟨w.heap.size + 1, 10, none⟩ = some (.int .i64 m10) := by rw [← hW]; exact zV.get rfl rfl
  have y11 : W9.cell? ⟨w.heap.size + 1, 11, none⟩ = some (.int .i64 m11) := by rw [← hW]; exact zV.get rfl rfl
  have y12 : W9.cell? ⟨w.heap.size + 1, 12, none⟩ = some (.int .i64 0) := by rw [← hW]; exact zV.get rfl rfl
  have y13 : W9.cell? ⟨w.heap.size + 1, 13, none⟩ = some (.int .i64 1) := by rw [← hW]; exact zV.get rfl rfl
  have y14 : W9.cell? ⟨w.heap.size + 1, 14, none⟩ = some (.int .i64 0) := by rw [← hW]; exact zV.get rfl rfl
  have y15 : W9.cell? ⟨w.heap.size + 1, 15, none⟩ = some (.int .i64 1) := by rw [← hW]; exact zV.get rfl rfl
  have y16 : W9.cell? ⟨w.heap.size + 1, 16, none⟩ = some (.int .i64 1) := by rw [← hW]; exact zV.get rfl rfl
  have y17 : W9.cell? ⟨w.heap.size + 1, 17, none⟩ = some (.int .i64 1) := by rw [← hW]; exact zV.get rfl rfl
  have b9 : Below w.heap.size w W9 := by rw [← hW]; exact gcells_below _ (by omega) _ _ gV
  go_wp2_with fail
  refine bodyPost_ret (v := .agg #[.int .i64 m0, .int .i64 m1, .int .i64 m2, .int .i64 m3, .int .i64 m8, .int .i64 m9, .int .i64 m4, .int .i64 m5, .int .i64 m6, .int .i64 m7, .int .i64 m10, .int .i64 m11, .int .i64 0, .int .i64 1, .int .i64 0, .int .i64 1, .int .i64 1, .int .i64 1]) (by simp [results, Try.results26, go_sem, *]) rfl ⟨rfl, b9⟩
end Go.Proofs.Ytjlmoadnbbeloaa
