/- Walks: points compared and sorted, the program's side. -/
import Derived.Test.YtjhboedaaeaomaaSortSh
import Derived.Test.YtjhboedaaeaomaaShelf
import Derived.Test.YtjhboedaaeaomaaMj2
namespace Go.Proofs.Ytjhboedaaeaomaa
open Go.RowKit Go.Sort

def cmpI (x y : Int) : Int := if x < y then -1 else if y < x then 1 else 0
theorem cmpI_lt {x y : Int} (h : x < y) : -1 = cmpI x y := by unfold cmpI; rw [if_pos h]
theorem cmpI_gt {x y : Int} (h : y < x) : 1 = cmpI x y := by unfold cmpI; rw [if_neg (by omega), if_pos h]
theorem cmpI_eq (x : Int) : 0 = cmpI x x := by unfold cmpI; rw [if_neg (by omega), if_neg (by omega)]
set_option maxHeartbeats 800000 in
theorem cmp_any (x y : Int) (w : World) : Calls Try.prog 122 #[.int .i64 x, .int .i64 y] w fun e w' => e = .returned (.int .i64 (cmpI x y)) ∧ w = w' := by
  rcases Int.lt_trichotomy x y with h | h | h
  · have H := Lib.hid (cmpI_lt h)
    have d1 : decide (x < y) = true := by simpa using h
    clear h
    go_enter Try.func122, Try.ntmps122
    go_wp2_with (go_at_call 143; refine (isNaN_any _ _).mono ?_; rintro e w1 ⟨rfl, rfl⟩)
    go_ret
    exact ⟨ret_i64 H.out, rfl⟩
  · subst h
    have H := Lib.hid (cmpI_eq x)
    go_enter Try.func122, Try.ntmps122
    go_wp2_with (go_at_call 143; refine (isNaN_any _ _).mono ?_; rintro e w1 ⟨rfl, rfl⟩)
    go_ret
    exact ⟨ret_i64 H.out, rfl⟩
  · have H := Lib.hid (cmpI_gt h)
    have d1 : decide (x < y) = false := by simp; omega
    have d2 : decide (y < x) = true := by simpa using h
    clear h
    go_enter Try.func122, Try.ntmps122
    go_wp2_with (go_at_call 143; refine (isNaN_any _ _).mono ?_; rintro e w1 ⟨rfl, rfl⟩)
    go_ret
    exact ⟨ret_i64 H.out, rfl⟩
def orI (c d : Int) : Int := if c = 0 then d else c
set_option maxHeartbeats 800000 in
theorem or_any (c d : Int) (g : Nat) (w : World) (h0 : w.cell? ⟨g, 0, none⟩ = some (.int .i64 c)) (h1 : w.cell? ⟨g, 1, none⟩ = some (.int .i64 d)) :
    Calls Try.prog 145 #[.slice (some ⟨g, 0, none⟩) 2 2] w fun e w' => e = .returned (.int .i64 (orI c d)) ∧ w = w' := by
  by_cases hc : c = 0
  · subst hc
    have H := Lib.hid (show d = orI 0 d by simp [orI])
    by_cases hd : d = 0
    · subst hd
      go_enter Try.func145, Try.ntmps145
      go_wp2
      refine wp_loop_rounds 3 ?_
      rw [rounds_succ]
      go_wp2
      rw [rounds_succ]
      go_wp2
      rw [rounds_succ]
      go_wp2
      go_ret
      exact ⟨ret_i64 H.out, rfl⟩
    · have e1 : (d != 0) = true := by simpa using hd
      clear hd
      go_enter Try.func145, Try.ntmps145
      go_wp2
      refine wp_loop_rounds 3 ?_
      rw [rounds_succ]
      go_wp2
      rw [rounds_succ]
      go_wp2
      go_ret
      exact ⟨ret_i64 H.out, rfl⟩
  · have H := Lib.hid (show c = orI c d by simp [orI, hc])
    have e1 : (c != 0) = true := by simpa using hc
    clear hc
    go_enter Try.func145, Try.ntmps145
    go_wp2
    refine wp_loop_rounds 3 ?_
    rw [rounds_succ]
    go_wp2
    go_ret
    exact ⟨ret_i64 H.out, rfl⟩
theorem pair_0 {g : Nat} {a b : Value} {t : TypeId} (W : World) (h : g = W.heap.size) : (W.alloc (.cells #[a, b] t)).drew.cell? ⟨g, 0, none⟩ = some a := by subst h; simp [go_sem]
theorem pair_1 {g : Nat} {a b : Value} {t : TypeId} (W : World) (h : g = W.heap.size) : (W.alloc (.cells #[a, b] t)).drew.cell? ⟨g, 1, none⟩ = some b := by subst h; simp [go_sem]
def cfP (p q : Int × Int) : Int := orI (cmpI p.2 q.2) (cmpI p.1 q.1)
def encP (p : Int × Int) : List Value := [.int .i64 p.1, .int .i64 p.2]
set_option maxHeartbeats 1600000 in
theorem compare_any (x y u v : Int) (W : World) :
    Calls Try.prog 124 #[.agg #[.int .i64 x, .int .i64 y], .agg #[.int .i64 u, .int .i64 v]] W fun e w' => e = .returned (.int .i64 (cfP (x, y) (u, v))) ∧ ∃ q os', w' = grow (W.drewN q) os' := by
  have C1 := Lib.hid (fun w => cmp_any y v w)
  have C2 := Lib.hid (fun w => cmp_any x u w)
  have C3 := Lib.hid (fun g w h0 h1 => or_any (cmpI y v) (cmpI x u) g w h0 h1)
  have HE : orI (cmpI y v) (cmpI x u) = cfP (x, y) (u, v) := rfl
  rw [HE] at C3
  clear HE
  generalize cfP (x, y) (u, v) = r at *
  generalize cmpI y v = a at *
  generalize cmpI x u = b at *
  go_enter Try.func124, Try.ntmps124
  go_wp2_with fail
  generalize hW : (W.alloc (.cells #[.int .i64 x, .int .i64 y] 25)).alloc (.cells #[.int .i64 u, .int .i64 v] 25) = W0
  have s1 : W0.cell? ⟨W.heap.size, 0, none⟩ = some (.int .i64 x) := by rw [← hW]; simp [go_sem]
  have s2 : W0.cell? ⟨W.heap.size, 1, none⟩ = some (.int .i64 y) := by rw [← hW]; simp [go_sem]
  have s3 : W0.cell? ⟨W.heap.size + 1, 0, none⟩ = some (.int .i64 u) := by rw [← hW]; simp [go_sem]
  have s4 : W0.cell? ⟨W.heap.size + 1, 1, none⟩ = some (.int .i64 v) := by rw [← hW]; simp [go_sem]
  have z0 : W.heap.size < W0.heap.size := by rw [← hW]; simp; omega
  have z1 : W.heap.size + 1 < W0.heap.size := by rw [← hW]; simp
  have HW := Lib.hid hW
  clear hW
  go_region_held3 (fun w' => (∀ b o, b < W0.heap.size → w'.cell? ⟨b, o, none⟩ = W0.cell? ⟨b, o, none⟩) ∧ W0.heap.size ≤ w'.heap.size)
    (first | ((try dsimp only); exact ⟨fun b o h => (by (repeat (first | with_reducible exact rfl | (with_reducible refine (cell_drew_at _ _).trans ?_) | (with_reducible refine (cell_set_at _ _ (by first | omega | (simp; done) | (simp; omega))).trans ?_) | (with_reducible refine (cell_alloc_at _ _ (by first | omega | (simp; done) | (simp; omega))).trans ?_)))), (by first | omega | (simp; done) | (simp; omega))⟩) | fail)
    (first
      | (go_at_call 122; (with_reducible refine (C1.out _).mono ?_); rintro e wA ⟨rfl, rfl⟩)
      | (go_at_call 122; (with_reducible refine (C2.out _).mono ?_); rintro e wB ⟨rfl, rfl⟩)
      | (go_at_call 145; (with_reducible refine (C3.out _ _ ?_ ?_).mono ?_); (with_reducible exact pair_0 _ rfl); (with_reducible exact pair_1 _ rfl); rintro e wC ⟨rfl, rfl⟩))
  all_goals go_wp2
  all_goals go_ret
  all_goals exact ⟨rfl, 1, _, by rw [← HW.out, alloc_eq_grow, alloc_eq_grow, alloc_eq_grow, grow_grow, grow_grow]; rfl⟩
theorem cfP_lt (p q : Int × Int) : (ltOf cfP p q = true) ↔ (p.2 < q.2 ∨ (p.2 = q.2 ∧ p.1 < q.1)) := by
  unfold ltOf cfP orI cmpI
  rw [decide_eq_true_iff]
  repeat' split
  all_goals omega
theorem cfP_false (p q : Int × Int) : (ltOf cfP p q = false) ↔ ¬ (p.2 < q.2 ∨ (p.2 = q.2 ∧ p.1 < q.1)) := by
  rw [← cfP_lt]; simp
theorem swoP : SWO (ltOf cfP) where
  irrefl := fun x => (cfP_false _ _).2 (by omega)
  trans := fun x y z h1 h2 => (cfP_lt _ _).2 (by have := (cfP_lt _ _).1 h1; have := (cfP_lt _ _).1 h2; omega)
  ntrans := fun x y z h1 h2 => (cfP_false _ _).2 (by have := (cfP_false _ _).1 h1; have := (cfP_false _ _).1 h2; omega)
theorem hlen (n : Nat) (W : World) (h : n ≤ 12) : Calls Try.prog 138 #[.int .u64 n] W fun e w' => (∃ l : Int, e = .returned (.int .i64 l)) ∧ w' = W :=
  (Try.bits_Len n W (by omega) (by omega)).mono fun _ _ ⟨he, hw⟩ => ⟨⟨_, he⟩, hw⟩
end Go.Proofs.Ytjhboedaaeaomaa
