/- Walks: the equations for the slopes of a curve, the program's side: whole. -/
import Derived.Test.YtcjjmkkphbeoeaaNa
import Derived.Deep.MidRow
namespace Go.Proofs.Ytcjjmkkphbeoeaa
open Go.RowKit
set_option linter.unusedVariables false
section
variable {l : List APt} {cl ff fl : Bool} {fx fy lx ly : Int} {k : Nat}
theorem eqn_in (h : inB cl l.length k = true) : setF (setF (setF (z12 (way3 l ((k + l.length - 1) % l.length) ((k + 1) % l.length))) ((k + l.length - 1) % l.length) 1) k 4) ((k + 1) % l.length) 1 = eqnF l cl ff fl fx fy lx ly k := by
  unfold eqnF rowF; rw [if_pos h, side_in h]; rfl
theorem eqn_first_t (h : inB cl l.length 0 = false) : setF (z12 (fx, fy)) 0 1 = eqnF l cl true fl fx fy lx ly 0 := by
  unfold eqnF rowF; rw [side_first h, if_neg (by rw [h]; simp)]; rfl
theorem eqn_first_f (h : inB cl l.length 0 = false) : setF (setF (z12 (way3 l 0 1)) 0 2) 1 1 = eqnF l cl false fl fx fy lx ly 0 := by
  unfold eqnF rowF; rw [side_first h, if_neg (by rw [h]; simp)]; rfl
theorem eqn_last_t (h : inB cl l.length k = false) (hk : ¬ k = 0) : setF (z12 (lx, ly)) k 1 = eqnF l cl ff true fx fy lx ly k := by
  unfold eqnF rowF; rw [side_last h hk, if_neg (by rw [h]; simp), if_neg hk]; rfl
theorem eqn_last_f (h : inB cl l.length k = false) (hk : ¬ k = 0) : setF (setF (z12 (way3 l (k - 1) k)) k 2) (k - 1) 1 = eqnF l cl ff false fx fy lx ly k := by
  unfold eqnF rowF; rw [side_last h hk, if_neg (by rw [h]; simp), if_neg hk]; rfl
end
theorem scells_size (b : Nat) : ∀ (vs : List Value) (o : Nat) (w : World), (w.setCells b o vs).heap.size = w.heap.size
  | [], _, _ => rfl
  | v :: r, o, w => by rw [World.setCells, scells_size b r]; simp
theorem scells_below {B : Nat} {a : World} (b : Nat) (hb : B ≤ b) : ∀ (vs : List Value) (o : Nat) {w : World}, Below B a w → Below B a (w.setCells b o vs)
  | [], _, _, h => h
  | v :: r, o, _, h => scells_below b hb r (o + 1) (h.setCell (p := ⟨b, o, none⟩) hb v)
theorem scells_far {w : World} {g b i o : Nat} {vs : List Value} (h : ¬ b = g) : (w.setCells g o vs).cell? ⟨b, i, none⟩ = w.cell? ⟨b, i, none⟩ := World.cell?_setCells_out _ _ _ _ _ (fun e => absurd e h)
/-- Twelve integers stored into a block of twelve, read back. -/
theorem scells_at {w : World} {g : Nat} {t : TypeId} {f : Nat → Int} (h : Blk w g t (arr12 f)) (F : Nat → Int) {i : Nat} (hi : i < 12) : (w.setCells g 0 (arr12 F).toList).cell? ⟨g, i, none⟩ = some (.int .i64 (F i)) := by
  have h2 := World.rangeAt_setCells_same w g 0 (arr12 F).toList (fun j hj => ⟨by rw [Nat.zero_add, h.ints hj]; rfl, by rw [Nat.zero_add]; exact h.frozen j⟩) i (.int .i64 (F i)) (by rw [Array.getElem?_toList]; exact arr12_at F hi)
  rwa [Nat.zero_add] at h2
theorem scells_there {w : World} {g : Nat} {t : TypeId} {f : Nat → Int} (h : Blk w g t (arr12 f)) (F : Nat → Int) : w.there g 0 (arr12 F).toList.length := fun j hj => ⟨by rw [Nat.zero_add, h.ints hj]; rfl, by rw [Nat.zero_add]; exact h.frozen j⟩
theorem scells_one (F : Nat → Int) : ∀ (v : Value), v ∈ (arr12 F).toList → v.oneCell' = true := by
  intro v hv
  simp only [arr12, List.mem_cons, List.not_mem_nil, or_false] at hv
  rcases hv with rfl | rfl | rfl | rfl | rfl | rfl | rfl | rfl | rfl | rfl | rfl | rfl <;> rfl
theorem scells_info (F : Nat → Int) : Option.map (fun x => x.size) (Try.prog.info? 78) = some (arr12 F).toList.length := by kernel_rfl
set_option maxRecDepth 100000 in
set_option maxHeartbeats 6400000 in
theorem equation_in_true (l : List APt) (A : Option Addr) (c : Nat) (t : Int) (ff fl : Bool) (fx fy lx ly : Int) (k : Nat) (w : World) (hp : ptsUp l l.length = true) (h2 : 2 ≤ l.length) (h10 : l.length ≤ 10) (hk : k < l.length) (r : Rd cPt 2 w w.heap.size A l) (h3 : 3 ≤ l.length) :
    Calls Try.prog 73 #[.agg #[.slice A l.length c, .bool true, .int .i64 t, .bool ff, .bool fl, .int .i64 fx, .int .i64 fy, .int .i64 lx, .int .i64 ly], .int .i64 k] w fun e w' => e = .returned (.agg (arr12 (eqnF l true ff fl fx fy lx ly k))) ∧ Below w.heap.size w w' := by
  obtain ⟨p, hpp⟩ : ∃ p, p = (k + l.length - 1) % l.length := ⟨_, rfl⟩
  obtain ⟨q, hq⟩ : ∃ q, q = (k + 1) % l.length := ⟨_, rfl⟩
  have hE := eqn_in (l := l) (cl := true) (ff := ff) (fl := fl) (fx := fx) (fy := fy) (lx := lx) (ly := ly) (k := k) (rfl)
  rw [← hpp, ← hq] at hE
  have hpv : (p = k - 1 ∧ 1 ≤ k) ∨ (p = l.length - 1 ∧ k = 0) := by
    rcases Nat.eq_zero_or_pos k with h | h
    · right; refine ⟨?_, h⟩; rw [hpp, h]; rw [Nat.mod_eq_of_lt (by omega)]; omega
    · left; refine ⟨?_, h⟩; rw [hpp, show k + l.length - 1 = (k - 1) + l.length by omega, Nat.add_mod_right, Nat.mod_eq_of_lt (by omega)]
  have hqv : (q = k + 1 ∧ k + 1 < l.length) ∨ (q = 0 ∧ k + 1 = l.length) := by
    rcases Nat.lt_or_ge (k + 1) l.length with h | h
    · left; exact ⟨by rw [hq, Nat.mod_eq_of_lt h], h⟩
    · right; have h' : k + 1 = l.length := by omega
      exact ⟨by rw [hq, h', Nat.mod_self], h'⟩
  have CI := Lib.hid (fun w r => innerEquation_any l A c true t ff fl fx fy lx ly p k q w hp (by omega) hk (by omega) (by omega) (by omega) (by omega) h10 r)
  simp only [hE] at CI
  have CA := Lib.hid (fun w => after_any A l.length c true t ff fl fx fy lx ly k q w (by omega) (by omega) hk hq.symm)
  have e3 : ((k : Int) + (l.length : Int) - 1).tmod (l.length : Int) = (p : Int) := by rw [hpp, show ((k : Int) + (l.length : Int) - 1) = ((k + l.length - 1 : Nat) : Int) by omega]; exact (Int.ofNat_tmod _ _).symm
  obtain ⟨F, hF⟩ : ∃ F, F = eqnF l true ff fl fx fy lx ly k := ⟨_, rfl⟩
  rw [← hF] at CI ⊢
  simp only [arr12] at CI
  clear hE hF hp hpp hq hpv hqv
  generalize l.length = n at h2 h10 hk h3 e3 CI CA ⊢
  have e1 : IntKind.i64.wrap ((k : Int) + (n : Int)) = (k : Int) + (n : Int) := IntWalk.i64_in _ (by omega)
  have e2 : IntKind.i64.wrap ((k : Int) + (n : Int) - 1) = (k : Int) + (n : Int) - 1 := IntWalk.i64_in _ (by omega)
  have en0 : ((n : Int) == 0) = false := by simp; omega
  have en1 : ¬ (n : Int) = 0 := by omega
  have en2 : ¬ n = 0 := by omega
  go_enter Try.func73, Try.ntmps73
  go_wp2_with fail
  generalize hW : (w.alloc (.cells #[.slice A n c, .bool true, .int .i64 t, .bool ff, .bool fl, .int .i64 fx, .int .i64 fy, .int .i64 lx, .int .i64 ly] 37)).alloc (.cells #[.int .i64 0, .int .i64 0, .int .i64 0, .int .i64 0, .int .i64 0, .int .i64 0, .int .i64 0, .int .i64 0, .int .i64 0, .int .i64 0, .int .i64 0, .int .i64 0] 78) = W0
  have at0 : AtL w.heap.size [.slice A n c, .bool true, .int .i64 t, .bool ff, .bool fl, .int .i64 fx, .int .i64 fy, .int .i64 lx, .int .i64 ly] W0 := by rw [← hW]; exact (AtL.new w _ _).alloc _
  have bk0 : Blk W0 (w.heap.size + 1) 78 (arr12 (fun _ => 0)) := by rw [← hW]; exact Blk.newAt _ _ _ (by simp)
  have r0 : Rd cPt 2 W0 w.heap.size A l := by rw [← hW]; exact (r.alloc (Nat.le_refl _) _).alloc (by simp) _
  have b0 : Below w.heap.size w W0 := by rw [← hW]; repeat' (first | with_reducible assumption | with_reducible exact Below.refl _ _ | (with_reducible refine Below.setCell ?_ ?_ _) | (with_reducible refine Below.alloc ?_ ?_ _) | (with_reducible refine Below.drew ?_) | (with_reducible refine below_dr ?_ _) | (with_reducible refine Below.trans ?_ (Below.mono (by with_reducible assumption) ?_)) | omega | (simp; done) | (simp; omega))
  clear hW r
  have lk := bk0.lt
  have lw := at0.lt
  have zb := b0.size
  have k0 := at0.cell 0 rfl
  have k1 := at0.cell 1 rfl
  have k2 := at0.cell 2 rfl
  have k3 := at0.cell 3 rfl
  have k4 := at0.cell 4 rfl
  have k5 := at0.cell 5 rfl
  have k6 := at0.cell 6 rfl
  have k7 := at0.cell 7 rfl
  have k8 := at0.cell 8 rfl
  have j0 : W0.cell? ⟨w.heap.size + 1, 0, none⟩ = some (.int .i64 0) := bk0.ints (f := fun _ => 0) (by omega)
  have j1 : W0.cell? ⟨w.heap.size + 1, 1, none⟩ = some (.int .i64 0) := bk0.ints (f := fun _ => 0) (by omega)
  have j2 : W0.cell? ⟨w.heap.size + 1, 2, none⟩ = some (.int .i64 0) := bk0.ints (f := fun _ => 0) (by omega)
  have j3 : W0.cell? ⟨w.heap.size + 1, 3, none⟩ = some (.int .i64 0) := bk0.ints (f := fun _ => 0) (by omega)
  have j4 : W0.cell? ⟨w.heap.size + 1, 4, none⟩ = some (.int .i64 0) := bk0.ints (f := fun _ => 0) (by omega)
  have j5 : W0.cell? ⟨w.heap.size + 1, 5, none⟩ = some (.int .i64 0) := bk0.ints (f := fun _ => 0) (by omega)
  have j6 : W0.cell? ⟨w.heap.size + 1, 6, none⟩ = some (.int .i64 0) := bk0.ints (f := fun _ => 0) (by omega)
  have j7 : W0.cell? ⟨w.heap.size + 1, 7, none⟩ = some (.int .i64 0) := bk0.ints (f := fun _ => 0) (by omega)
  have j8 : W0.cell? ⟨w.heap.size + 1, 8, none⟩ = some (.int .i64 0) := bk0.ints (f := fun _ => 0) (by omega)
  have j9 : W0.cell? ⟨w.heap.size + 1, 9, none⟩ = some (.int .i64 0) := bk0.ints (f := fun _ => 0) (by omega)
  have j10 : W0.cell? ⟨w.heap.size + 1, 10, none⟩ = some (.int .i64 0) := bk0.ints (f := fun _ => 0) (by omega)
  have j11 : W0.cell? ⟨w.heap.size + 1, 11, none⟩ = some (.int .i64 0) := bk0.ints (f := fun _ => 0) (by omega)
  have u0 := bk0.frozen 0
  have u1 := bk0.frozen 1
  have u2 := bk0.frozen 2
  have u3 := bk0.frozen 3
  have u4 := bk0.frozen 4
  have u5 := bk0.frozen 5
  have u6 := bk0.frozen 6
  have u7 := bk0.frozen 7
  have u8 := bk0.frozen 8
  have u9 := bk0.frozen 9
  have u10 := bk0.frozen 10
  have u11 := bk0.frozen 11
  have h1c : ∀ (v : Value), v ∈ ([.int .i64 (F 0), .int .i64 (F 1), .int .i64 (F 2), .int .i64 (F 3), .int .i64 (F 4), .int .i64 (F 5), .int .i64 (F 6), .int .i64 (F 7), .int .i64 (F 8), .int .i64 (F 9), .int .i64 (F 10), .int .i64 (F 11)] : List Value) → v.oneCell' = true := scells_one F
  have hin : Option.map (fun x => x.size) (Try.prog.info? 78) = some ([.int .i64 (F 0), .int .i64 (F 1), .int .i64 (F 2), .int .i64 (F 3), .int .i64 (F 4), .int .i64 (F 5), .int .i64 (F 6), .int .i64 (F 7), .int .i64 (F 8), .int .i64 (F 9), .int .i64 (F 10), .int .i64 (F 11)] : List Value).length := scells_info F
  go_region_held3 (fun w' => (∀ b o, b < w.heap.size + 1 → w'.cell? ⟨b, o, none⟩ = W0.cell? ⟨b, o, none⟩) ∧ W0.heap.size ≤ w'.heap.size)
    (first | ((try dsimp only); exact ⟨fun b o h => (by (repeat (first | with_reducible exact rfl | (with_reducible refine (cell_drew_at _ _).trans ?_) | (with_reducible refine (cell_set_at _ _ (by first | omega | (simp; done) | (simp; omega))).trans ?_) | (with_reducible refine (cell_alloc_at _ _ (by first | omega | (simp; done) | (simp; omega))).trans ?_) | (with_reducible refine (hcwA b o (by first | omega | (simp; done) | (simp; omega))).trans ?_) | (with_reducible refine (hcwI b o (by first | omega | (simp; done) | (simp; omega))).trans ?_)))), (by first | omega | (simp; done) | (simp; omega))⟩) | ((try dsimp only); exact ⟨fun b o h => (by ((refine (scells_far (by omega)).trans ?_); (repeat (first | with_reducible exact rfl | (with_reducible refine (cell_drew_at _ _).trans ?_) | (with_reducible refine (hcwA b o (by first | omega | (simp; done) | (simp; omega))).trans ?_) | (with_reducible refine (hcwI b o (by first | omega | (simp; done) | (simp; omega))).trans ?_))))), (by (rw [scells_size]; omega))⟩) | fail)
    (first
      | (go_at_call 94; (with_reducible refine (CA.out _).mono ?_); rintro e wA ⟨rfl, hbwA⟩; obtain ⟨hcwA, hfwA⟩ := bcell hbwA; have hzwA := hbwA.size; (try simp only [World.size_drew] at hcwA hfwA hzwA); (try simp only [World.size_alloc] at hcwA hfwA hzwA); (try have qwA : w.heap.size + 1 < wA.heap.size := (by omega)))
      | (go_at_call 96; (with_reducible refine (CI.out _ ?_).mono ?_); (focus ((refine Rd.more (B := w.heap.size) ?_ (by first | omega | ((try simp only [World.size_setCell]); (try simp only [World.size_drew]); (try simp only [World.size_alloc]); omega) | (simp; done) | (simp; omega))); (repeat' (first | with_reducible assumption | (with_reducible refine Rd.drew ?_) | (with_reducible refine Rd.carry ?_ (by with_reducible assumption) ?_) | (with_reducible refine Rd.alloc ?_ ?_ _) | (with_reducible refine Rd.setCell ?_ ?_ _) | omega | (simp; done) | (simp; omega))))); rintro e wI ⟨rfl, hbwI⟩; obtain ⟨hcwI, hfwI⟩ := bcell hbwI; have hzwI := hbwI.size; (try simp only [World.size_drew] at hcwI hfwI hzwI); (try simp only [World.size_alloc] at hcwI hfwI hzwI); (try have qwI : w.heap.size + 1 < wI.heap.size := (by omega)); have bkX : Blk wI (w.heap.size + 1) 78 (arr12 (fun _ => 0)) := (by repeat' (first | with_reducible assumption | (with_reducible refine Blk.drew ?_) | (with_reducible refine Blk.carry ?_ (by with_reducible assumption)))); have hth : wI.there (w.heap.size + 1) 0 ([.int .i64 (F 0), .int .i64 (F 1), .int .i64 (F 2), .int .i64 (F 3), .int .i64 (F 4), .int .i64 (F 5), .int .i64 (F 6), .int .i64 (F 7), .int .i64 (F 8), .int .i64 (F 9), .int .i64 (F 10), .int .i64 (F 11)] : List Value).length := scells_there bkX F))
  all_goals
    clear hcwA hfwA hcwI hfwI
    generalize hW : wI.setCells (w.heap.size + 1) 0 [.int .i64 (F 0), .int .i64 (F 1), .int .i64 (F 2), .int .i64 (F 3), .int .i64 (F 4), .int .i64 (F 5), .int .i64 (F 6), .int .i64 (F 7), .int .i64 (F 8), .int .i64 (F 9), .int .i64 (F 10), .int .i64 (F 11)] = W9
    have y0 : W9.cell? ⟨w.heap.size + 1, 0, none⟩ = some (.int .i64 (F 0)) := by rw [← hW]; exact scells_at bkX F (by omega)
    have y1 : W9.cell? ⟨w.heap.size + 1, 1, none⟩ = some (.int .i64 (F 1)) := by rw [← hW]; exact scells_at bkX F (by omega)
    have y2 : W9.cell? ⟨w.heap.size + 1, 2, none⟩ = some (.int .i64 (F 2)) := by rw [← hW]; exact scells_at bkX F (by omega)
    have y3 : W9.cell? ⟨w.heap.size + 1, 3, none⟩ = some (.int .i64 (F 3)) := by rw [← hW]; exact scells_at bkX F (by omega)
    have y4 : W9.cell? ⟨w.heap.size + 1, 4, none⟩ = some (.int .i64 (F 4)) := by rw [← hW]; exact scells_at bkX F (by omega)
    have y5 : W9.cell? ⟨w.heap.size + 1, 5, none⟩ = some (.int .i64 (F 5)) := by rw [← hW]; exact scells_at bkX F (by omega)
    have y6 : W9.cell? ⟨w.heap.size + 1, 6, none⟩ = some (.int .i64 (F 6)) := by rw [← hW]; exact scells_at bkX F (by omega)
    have y7 : W9.cell? ⟨w.heap.size + 1, 7, none⟩ = some (.int .i64 (F 7)) := by rw [← hW]; exact scells_at bkX F (by omega)
    have y8 : W9.cell? ⟨w.heap.size + 1, 8, none⟩ = some (.int .i64 (F 8)) := by rw [← hW]; exact scells_at bkX F (by omega)
    have y9 : W9.cell? ⟨w.heap.size + 1, 9, none⟩ = some (.int .i64 (F 9)) := by rw [← hW]; exact scells_at bkX F (by omega)
    have y10 : W9.cell? ⟨w.heap.size + 1, 10, none⟩ = some (.int .i64 (F 10)) := by rw [← hW]; exact scells_at bkX F (by omega)
    have y11 : W9.cell? ⟨w.heap.size + 1, 11, none⟩ = some (.int .i64 (F 11)) := by rw [← hW]; exact scells_at bkX F (by omega)
    have b9 : Below w.heap.size w W9 := by rw [← hW]; exact scells_below _ (by omega) _ _ (by repeat' (first | with_reducible assumption | with_reducible exact Below.refl _ _ | (with_reducible refine Below.setCell ?_ ?_ _) | (with_reducible refine Below.alloc ?_ ?_ _) | (with_reducible refine Below.drew ?_) | (with_reducible refine below_dr ?_ _) | (with_reducible refine Below.trans ?_ (Below.mono (by with_reducible assumption) ?_)) | omega | (simp; done) | (simp; omega)))
    go_wp2_with fail
    refine bodyPost_ret (v := .agg (arr12 F)) (by simp [results, Try.results73, go_sem, arr12, *]) rfl ⟨rfl, b9⟩
set_option maxRecDepth 100000 in
set_option maxHeartbeats 6400000 in
theorem equation_in_false (l : List APt) (A : Option Addr) (c : Nat) (t : Int) (ff fl : Bool) (fx fy lx ly : Int) (k : Nat) (w : World) (hp : ptsUp l l.length = true) (h2 : 2 ≤ l.length) (h10 : l.length ≤ 10) (hk : k < l.length) (r : Rd cPt 2 w w.heap.size A l) (h1 : 1 ≤ k) (h3 : k + 2 ≤ l.length) :
    Calls Try.prog 73 #[.agg #[.slice A l.length c, .bool false, .int .i64 t, .bool ff, .bool fl, .int .i64 fx, .int .i64 fy, .int .i64 lx, .int .i64 ly], .int .i64 k] w fun e w' => e = .returned (.agg (arr12 (eqnF l false ff fl fx fy lx ly k))) ∧ Below w.heap.size w w' := by
  obtain ⟨p, hpp⟩ : ∃ p, p = (k + l.length - 1) % l.length := ⟨_, rfl⟩
  obtain ⟨q, hq⟩ : ∃ q, q = (k + 1) % l.length := ⟨_, rfl⟩
  have hE := eqn_in (l := l) (cl := false) (ff := ff) (fl := fl) (fx := fx) (fy := fy) (lx := lx) (ly := ly) (k := k) (by unfold inB; simp; omega)
  rw [← hpp, ← hq] at hE
  have hpv : (p = k - 1 ∧ 1 ≤ k) ∨ (p = l.length - 1 ∧ k = 0) := by
    rcases Nat.eq_zero_or_pos k with h | h
    · right; refine ⟨?_, h⟩; rw [hpp, h]; rw [Nat.mod_eq_of_lt (by omega)]; omega
    · left; refine ⟨?_, h⟩; rw [hpp, show k + l.length - 1 = (k - 1) + l.length by omega, Nat.add_mod_right, Nat.mod_eq_of_lt (by omega)]
  have hqv : (q = k + 1 ∧ k + 1 < l.length) ∨ (q = 0 ∧ k + 1 = l.length) := by
    rcases Nat.lt_or_ge (k + 1) l.length with h | h
    · left; exact ⟨by rw [hq, Nat.mod_eq_of_lt h], h⟩
    · right; have h' : k + 1 = l.length := by omega
      exact ⟨by rw [hq, h', Nat.mod_self], h'⟩
  have CI := Lib.hid (fun w r => innerEquation_any l A c false t ff fl fx fy lx ly p k q w hp (by omega) hk (by omega) (by omega) (by omega) (by omega) h10 r)
  simp only [hE] at CI
  have CA := Lib.hid (fun w => after_any A l.length c false t ff fl fx fy lx ly k q w (by omega) (by omega) hk hq.symm)
  have e3 : ((k : Int) + (l.length : Int) - 1).tmod (l.length : Int) = (p : Int) := by rw [hpp, show ((k : Int) + (l.length : Int) - 1) = ((k + l.length - 1 : Nat) : Int) by omega]; exact (Int.ofNat_tmod _ _).symm
  obtain ⟨F, hF⟩ : ∃ F, F = eqnF l false ff fl fx fy lx ly k := ⟨_, rfl⟩
  rw [← hF] at CI ⊢
  simp only [arr12] at CI
  clear hE hF hp hpp hq hpv hqv
  generalize l.length = n at h2 h10 hk h3 e3 CI CA ⊢
  have e1 : IntKind.i64.wrap ((k : Int) + (n : Int)) = (k : Int) + (n : Int) := IntWalk.i64_in _ (by omega)
  have e2 : IntKind.i64.wrap ((k : Int) + (n : Int) - 1) = (k : Int) + (n : Int) - 1 := IntWalk.i64_in _ (by omega)
  have en0 : ((n : Int) == 0) = false := by simp; omega
  have en1 : ¬ (n : Int) = 0 := by omega
  have en2 : ¬ n = 0 := by omega
  have e4 : IntKind.i64.wrap ((n : Int) - 1) = (n : Int) - 1 := IntWalk.i64_in _ (by omega)
  have e5 : decide ((k : Int) < (n : Int) - 1) = true := decide_eq_true (by omega)
  have e6 : decide ((0 : Int) < (k : Int)) = true := decide_eq_true (by omega)
  go_enter Try.func73, Try.ntmps73
  go_wp2_with fail
  generalize hW : (w.alloc (.cells #[.slice A n c, .bool false, .int .i64 t, .bool ff, .bool fl, .int .i64 fx, .int .i64 fy, .int .i64 lx, .int .i64 ly] 37)).alloc (.cells #[.int .i64 0, .int .i64 0, .int .i64 0, .int .i64 0, .int .i64 0, .int .i64 0, .int .i64 0, .int .i64 0, .int .i64 0, .int .i64 0, .int .i64 0, .int .i64 0] 78) = W0
  have at0 : AtL w.heap.size [.slice A n c, .bool false, .int .i64 t, .bool ff, .bool fl, .int .i64 fx, .int .i64 fy, .int .i64 lx, .int .i64 ly] W0 := by rw [← hW]; exact (AtL.new w _ _).alloc _
  have bk0 : Blk W0 (w.heap.size + 1) 78 (arr12 (fun _ => 0)) := by rw [← hW]; exact Blk.newAt _ _ _ (by simp)
  have r0 : Rd cPt 2 W0 w.heap.size A l := by rw [← hW]; exact (r.alloc (Nat.le_refl _) _).alloc (by simp) _
  have b0 : Below w.heap.size w W0 := by rw [← hW]; repeat' (first | with_reducible assumption | with_reducible exact Below.refl _ _ | (with_reducible refine Below.setCell ?_ ?_ _) | (with_reducible refine Below.alloc ?_ ?_ _) | (with_reducible refine Below.drew ?_) | (with_reducible refine below_dr ?_ _) | (with_reducible refine Below.trans ?_ (Below.mono (by with_reducible assumption) ?_)) | omega | (simp; done) | (simp; omega))
  clear hW r
  have lk := bk0.lt
  have lw := at0.lt
  have zb := b0.size
  have k0 := at0.cell 0 rfl
  have k1 := at0.cell 1 rfl
  have k2 := at0.cell 2 rfl
  have k3 := at0.cell 3 rfl
  have k4 := at0.cell 4 rfl
  have k5 := at0.cell 5 rfl
  have k6 := at0.cell 6 rfl
  have k7 := at0.cell 7 rfl
  have k8 := at0.cell 8 rfl
  have j0 : W0.cell? ⟨w.heap.size + 1, 0, none⟩ = some (.int .i64 0) := bk0.ints (f := fun _ => 0) (by omega)
  have j1 : W0.cell? ⟨w.heap.size + 1, 1, none⟩ = some (.int .i64 0) := bk0.ints (f := fun _ => 0) (by omega)
  have j2 : W0.cell? ⟨w.heap.size + 1, 2, none⟩ = some (.int .i64 0) := bk0.ints (f := fun _ => 0) (by omega)
  have j3 : W0.cell? ⟨w.heap.size + 1, 3, none⟩ = some (.int .i64 0) := bk0.ints (f := fun _ => 0) (by omega)
  have j4 : W0.cell? ⟨w.heap.size + 1, 4, none⟩ = some (.int .i64 0) := bk0.ints (f := fun _ => 0) (by omega)
  have j5 : W0.cell? ⟨w.heap.size + 1, 5, none⟩ = some (.int .i64 0) := bk0.ints (f := fun _ => 0) (by omega)
  have j6 : W0.cell? ⟨w.heap.size + 1, 6, none⟩ = some (.int .i64 0) := bk0.ints (f := fun _ => 0) (by omega)
  have j7 : W0.cell? ⟨w.heap.size + 1, 7, none⟩ = some (.int .i64 0) := bk0.ints (f := fun _ => 0) (by omega)
  have j8 : W0.cell? ⟨w.heap.size + 1, 8, none⟩ = some (.int .i64 0) := bk0.ints (f := fun _ => 0) (by omega)
  have j9 : W0.cell? ⟨w.heap.size + 1, 9, none⟩ = some (.int .i64 0) := bk0.ints (f := fun _ => 0) (by omega)
  have j10 : W0.cell? ⟨w.heap.size + 1, 10, none⟩ = some (.int .i64 0) := bk0.ints (f := fun _ => 0) (by omega)
  have j11 : W0.cell? ⟨w.heap.size + 1, 11, none⟩ = some (.int .i64 0) := bk0.ints (f := fun _ => 0) (by omega)
  have u0 := bk0.frozen 0
  have u1 := bk0.frozen 1
  have u2 := bk0.frozen 2
  have u3 := bk0.frozen 3
  have u4 := bk0.frozen 4
  have u5 := bk0.frozen 5
  have u6 := bk0.frozen 6
  have u7 := bk0.frozen 7
  have u8 := bk0.frozen 8
  have u9 := bk0.frozen 9
  have u10 := bk0.frozen 10
  have u11 := bk0.frozen 11
  have h1c : ∀ (v : Value), v ∈ ([.int .i64 (F 0), .int .i64 (F 1), .int .i64 (F 2), .int .i64 (F 3), .int .i64 (F 4), .int .i64 (F 5), .int .i64 (F 6), .int .i64 (F 7), .int .i64 (F 8), .int .i64 (F 9), .int .i64 (F 10), .int .i64 (F 11)] : List Value) → v.oneCell' = true := scells_one F
  have hin : Option.map (fun x => x.size) (Try.prog.info? 78) = some ([.int .i64 (F 0), .int .i64 (F 1), .int .i64 (F 2), .int .i64 (F 3), .int .i64 (F 4), .int .i64 (F 5), .int .i64 (F 6), .int .i64 (F 7), .int .i64 (F 8), .int .i64 (F 9), .int .i64 (F 10), .int .i64 (F 11)] : List Value).length := scells_info F
  go_region_held3 (fun w' => (∀ b o, b < w.heap.size + 1 → w'.cell? ⟨b, o, none⟩ = W0.cell? ⟨b, o, none⟩) ∧ W0.heap.size ≤ w'.heap.size)
    (first | ((try dsimp only); exact ⟨fun b o h => (by (repeat (first | with_reducible exact rfl | (with_reducible refine (cell_drew_at _ _).trans ?_) | (with_reducible refine (cell_set_at _ _ (by first | omega | (simp; done) | (simp; omega))).trans ?_) | (with_reducible refine (cell_alloc_at _ _ (by first | omega | (simp; done) | (simp; omega))).trans ?_) | (with_reducible refine (hcwA b o (by first | omega | (simp; done) | (simp; omega))).trans ?_) | (with_reducible refine (hcwI b o (by first | omega | (simp; done) | (simp; omega))).trans ?_)))), (by first | omega | (simp; done) | (simp; omega))⟩) | ((try dsimp only); exact ⟨fun b o h => (by ((refine (scells_far (by omega)).trans ?_); (repeat (first | with_reducible exact rfl | (with_reducible refine (cell_drew_at _ _).trans ?_) | (with_reducible refine (hcwA b o (by first | omega | (simp; done) | (simp; omega))).trans ?_) | (with_reducible refine (hcwI b o (by first | omega | (simp; done) | (simp; omega))).trans ?_))))), (by (rw [scells_size]; omega))⟩) | fail)
    (first
      | (go_at_call 94; (with_reducible refine (CA.out _).mono ?_); rintro e wA ⟨rfl, hbwA⟩; obtain ⟨hcwA, hfwA⟩ := bcell hbwA; have hzwA := hbwA.size; (try simp only [World.size_drew] at hcwA hfwA hzwA); (try simp only [World.size_alloc] at hcwA hfwA hzwA); (try have qwA : w.heap.size + 1 < wA.heap.size := (by omega)))
      | (go_at_call 96; (with_reducible refine (CI.out _ ?_).mono ?_); (focus ((refine Rd.more (B := w.heap.size) ?_ (by first | omega | ((try simp only [World.size_setCell]); (try simp only [World.size_drew]); (try simp only [World.size_alloc]); omega) | (simp; done) | (simp; omega))); (repeat' (first | with_reducible assumption | (with_reducible refine Rd.drew ?_) | (with_reducible refine Rd.carry ?_ (by with_reducible assumption) ?_) | (with_reducible refine Rd.alloc ?_ ?_ _) | (with_reducible refine Rd.setCell ?_ ?_ _) | omega | (simp; done) | (simp; omega))))); rintro e wI ⟨rfl, hbwI⟩; obtain ⟨hcwI, hfwI⟩ := bcell hbwI; have hzwI := hbwI.size; (try simp only [World.size_drew] at hcwI hfwI hzwI); (try simp only [World.size_alloc] at hcwI hfwI hzwI); (try have qwI : w.heap.size + 1 < wI.heap.size := (by omega)); have bkX : Blk wI (w.heap.size + 1) 78 (arr12 (fun _ => 0)) := (by repeat' (first | with_reducible assumption | (with_reducible refine Blk.drew ?_) | (with_reducible refine Blk.carry ?_ (by with_reducible assumption)))); have hth : wI.there (w.heap.size + 1) 0 ([.int .i64 (F 0), .int .i64 (F 1), .int .i64 (F 2), .int .i64 (F 3), .int .i64 (F 4), .int .i64 (F 5), .int .i64 (F 6), .int .i64 (F 7), .int .i64 (F 8), .int .i64 (F 9), .int .i64 (F 10), .int .i64 (F 11)] : List Value).length := scells_there bkX F))
  all_goals
    clear hcwA hfwA hcwI hfwI
    generalize hW : wI.setCells (w.heap.size + 1) 0 [.int .i64 (F 0), .int .i64 (F 1), .int .i64 (F 2), .int .i64 (F 3), .int .i64 (F 4), .int .i64 (F 5), .int .i64 (F 6), .int .i64 (F 7), .int .i64 (F 8), .int .i64 (F 9), .int .i64 (F 10), .int .i64 (F 11)] = W9
    have y0 : W9.cell? ⟨w.heap.size + 1, 0, none⟩ = some (.int .i64 (F 0)) := by rw [← hW]; exact scells_at bkX F (by omega)
    have y1 : W9.cell? ⟨w.heap.size + 1, 1, none⟩ = some (.int .i64 (F 1)) := by rw [← hW]; exact scells_at bkX F (by omega)
    have y2 : W9.cell? ⟨w.heap.size + 1, 2, none⟩ = some (.int .i64 (F 2)) := by rw [← hW]; exact scells_at bkX F (by omega)
    have y3 : W9.cell? ⟨w.heap.size + 1, 3, none⟩ = some (.int .i64 (F 3)) := by rw [← hW]; exact scells_at bkX F (by omega)
    have y4 : W9.cell? ⟨w.heap.size + 1, 4, none⟩ = some (.int .i64 (F 4)) := by rw [← hW]; exact scells_at bkX F (by omega)
    have y5 : W9.cell? ⟨w.heap.size + 1, 5, none⟩ = some (.int .i64 (F 5)) := by rw [← hW]; exact scells_at bkX F (by omega)
    have y6 : W9.cell? ⟨w.heap.size + 1, 6, none⟩ = some (.int .i64 (F 6)) := by rw [← hW]; exact scells_at bkX F (by omega)
    have y7 : W9.cell? ⟨w.heap.size + 1, 7, none⟩ = some (.int .i64 (F 7)) := by rw [← hW]; exact scells_at bkX F (by omega)
    have y8 : W9.cell? ⟨w.heap.size + 1, 8, none⟩ = some (.int .i64 (F 8)) := by rw [← hW]; exact scells_at bkX F (by omega)
    have y9 : W9.cell? ⟨w.heap.size + 1, 9, none⟩ = some (.int .i64 (F 9)) := by rw [← hW]; exact scells_at bkX F (by omega)
    have y10 : W9.cell? ⟨w.heap.size + 1, 10, none⟩ = some (.int .i64 (F 10)) := by rw [← hW]; exact scells_at bkX F (by omega)
    have y11 : W9.cell? ⟨w.heap.size + 1, 11, none⟩ = some (.int .i64 (F 11)) := by rw [← hW]; exact scells_at bkX F (by omega)
    have b9 : Below w.heap.size w W9 := by rw [← hW]; exact scells_below _ (by omega) _ _ (by repeat' (first | with_reducible assumption | with_reducible exact Below.refl _ _ | (with_reducible refine Below.setCell ?_ ?_ _) | (with_reducible refine Below.alloc ?_ ?_ _) | (with_reducible refine Below.drew ?_) | (with_reducible refine below_dr ?_ _) | (with_reducible refine Below.trans ?_ (Below.mono (by with_reducible assumption) ?_)) | omega | (simp; done) | (simp; omega)))
    go_wp2_with fail
    refine bodyPost_ret (v := .agg (arr12 F)) (by simp [results, Try.results73, go_sem, arr12, *]) rfl ⟨rfl, b9⟩
set_option maxRecDepth 100000 in
set_option maxHeartbeats 6400000 in
theorem equation_first_true (l : List APt) (A : Option Addr) (c : Nat) (t : Int) (fl : Bool) (fx fy lx ly : Int) (w : World) (hp : ptsUp l l.length = true) (h2 : 2 ≤ l.length) (h10 : l.length ≤ 10) (r : Rd cPt 2 w w.heap.size A l) :
    Calls Try.prog 73 #[.agg #[.slice A l.length c, .bool false, .int .i64 t, .bool true, .bool fl, .int .i64 fx, .int .i64 fy, .int .i64 lx, .int .i64 ly], .int .i64 0] w fun e w' => e = .returned (.agg (arr12 (eqnF l false true fl fx fy lx ly 0))) ∧ Below w.heap.size w w' := by
  have hE := eqn_first_t (l := l) (cl := false) (fl := fl) (fx := fx) (fy := fy) (lx := lx) (ly := ly) (by unfold inB; simp)
  obtain ⟨⟨s0, s1⟩, hs⟩ : ∃ s, s = way3 l 0 1 := ⟨_, rfl⟩
  have CT0 := fun w r => threeTimes_any l A c false t true fl fx fy lx ly 0 1 w hp (by omega) (by omega) h10 r
  simp only [← hs] at CT0
  obtain ⟨F, hF⟩ : ∃ F, F = eqnF l false true fl fx fy lx ly 0 := ⟨_, rfl⟩
  have CE0 := fun w => endEquation_true fx fy s0 s1 0 1 w (by omega) (by omega) (by omega)
  simp only [hE, ← hF] at CE0
  simp only [arr12] at CE0
  rw [← hF]
  have CT := Lib.hid (show ∀ (w : World), Rd cPt 2 w w.heap.size A l → Calls Try.prog 98 #[.agg #[.slice A l.length c, .bool false, .int .i64 t, .bool true, .bool fl, .int .i64 fx, .int .i64 fy, .int .i64 lx, .int .i64 ly], .int .i64 0, .int .i64 1] w (fun e w' => e = .returned (.agg #[.int .i64 s0, .int .i64 s1]) ∧ Below w.heap.size w w') from CT0)
  have CE := Lib.hid (show ∀ (w : World), Calls Try.prog 97 #[.agg #[.bool true, .int .i64 fx, .int .i64 fy], .int .i64 0, .int .i64 1, .agg #[.int .i64 s0, .int .i64 s1]] w (fun e w' => e = .returned (.agg #[.int .i64 (F 0), .int .i64 (F 1), .int .i64 (F 2), .int .i64 (F 3), .int .i64 (F 4), .int .i64 (F 5), .int .i64 (F 6), .int .i64 (F 7), .int .i64 (F 8), .int .i64 (F 9), .int .i64 (F 10), .int .i64 (F 11)]) ∧ Below w.heap.size w w') from CE0)
  clear hE hF hs hp CT0 CE0
  generalize l.length = n at h2 h10 CT ⊢
  clear h2 h10
  go_enter Try.func73, Try.ntmps73
  go_wp2_with fail
  generalize hW : (w.alloc (.cells #[.slice A n c, .bool false, .int .i64 t, .bool true, .bool fl, .int .i64 fx, .int .i64 fy, .int .i64 lx, .int .i64 ly] 37)).alloc (.cells #[.int .i64 0, .int .i64 0, .int .i64 0, .int .i64 0, .int .i64 0, .int .i64 0, .int .i64 0, .int .i64 0, .int .i64 0, .int .i64 0, .int .i64 0, .int .i64 0] 78) = W0
  have at0 : AtL w.heap.size [.slice A n c, .bool false, .int .i64 t, .bool true, .bool fl, .int .i64 fx, .int .i64 fy, .int .i64 lx, .int .i64 ly] W0 := by rw [← hW]; exact (AtL.new w _ _).alloc _
  have bk0 : Blk W0 (w.heap.size + 1) 78 (arr12 (fun _ => 0)) := by rw [← hW]; exact Blk.newAt _ _ _ (by simp)
  have r0 : Rd cPt 2 W0 w.heap.size A l := by rw [← hW]; exact (r.alloc (Nat.le_refl _) _).alloc (by simp) _
  have b0 : Below w.heap.size w W0 := by rw [← hW]; repeat' (first | with_reducible assumption | with_reducible exact Below.refl _ _ | (with_reducible refine Below.setCell ?_ ?_ _) | (with_reducible refine Below.alloc ?_ ?_ _) | (with_reducible refine Below.drew ?_) | (with_reducible refine below_dr ?_ _) | (with_reducible refine Below.trans ?_ (Below.mono (by with_reducible assumption) ?_)) | omega | (simp; done) | (simp; omega))
  clear hW r
  have lk := bk0.lt
  have lw := at0.lt
  have zb := b0.size
  have k0 := at0.cell 0 rfl
  have k1 := at0.cell 1 rfl
  have k2 := at0.cell 2 rfl
  have k3 := at0.cell 3 rfl
  have k4 := at0.cell 4 rfl
  have k5 := at0.cell 5 rfl
  have k6 := at0.cell 6 rfl
  have k7 := at0.cell 7 rfl
  have k8 := at0.cell 8 rfl
  have j0 : W0.cell? ⟨w.heap.size + 1, 0, none⟩ = some (.int .i64 0) := bk0.ints (f := fun _ => 0) (by omega)
  have j1 : W0.cell? ⟨w.heap.size + 1, 1, none⟩ = some (.int .i64 0) := bk0.ints (f := fun _ => 0) (by omega)
  have j2 : W0.cell? ⟨w.heap.size + 1, 2, none⟩ = some (.int .i64 0) := bk0.ints (f := fun _ => 0) (by omega)
  have j3 : W0.cell? ⟨w.heap.size + 1, 3, none⟩ = some (.int .i64 0) := bk0.ints (f := fun _ => 0) (by omega)
  have j4 : W0.cell? ⟨w.heap.size + 1, 4, none⟩ = some (.int .i64 0) := bk0.ints (f := fun _ => 0) (by omega)
  have j5 : W0.cell? ⟨w.heap.size + 1, 5, none⟩ = some (.int .i64 0) := bk0.ints (f := fun _ => 0) (by omega)
  have j6 : W0.cell? ⟨w.heap.size + 1, 6, none⟩ = some (.int .i64 0) := bk0.ints (f := fun _ => 0) (by omega)
  have j7 : W0.cell? ⟨w.heap.size + 1, 7, none⟩ = some (.int .i64 0) := bk0.ints (f := fun _ => 0) (by omega)
  have j8 : W0.cell? ⟨w.heap.size + 1, 8, none⟩ = some (.int .i64 0) := bk0.ints (f := fun _ => 0) (by omega)
  have j9 : W0.cell? ⟨w.heap.size + 1, 9, none⟩ = some (.int .i64 0) := bk0.ints (f := fun _ => 0) (by omega)
  have j10 : W0.cell? ⟨w.heap.size + 1, 10, none⟩ = some (.int .i64 0) := bk0.ints (f := fun _ => 0) (by omega)
  have j11 : W0.cell? ⟨w.heap.size + 1, 11, none⟩ = some (.int .i64 0) := bk0.ints (f := fun _ => 0) (by omega)
  have u0 := bk0.frozen 0
  have u1 := bk0.frozen 1
  have u2 := bk0.frozen 2
  have u3 := bk0.frozen 3
  have u4 := bk0.frozen 4
  have u5 := bk0.frozen 5
  have u6 := bk0.frozen 6
  have u7 := bk0.frozen 7
  have u8 := bk0.frozen 8
  have u9 := bk0.frozen 9
  have u10 := bk0.frozen 10
  have u11 := bk0.frozen 11
  have h1c : ∀ (v : Value), v ∈ ([.int .i64 (F 0), .int .i64 (F 1), .int .i64 (F 2), .int .i64 (F 3), .int .i64 (F 4), .int .i64 (F 5), .int .i64 (F 6), .int .i64 (F 7), .int .i64 (F 8), .int .i64 (F 9), .int .i64 (F 10), .int .i64 (F 11)] : List Value) → v.oneCell' = true := scells_one F
  have hin : Option.map (fun x => x.size) (Try.prog.info? 78) = some ([.int .i64 (F 0), .int .i64 (F 1), .int .i64 (F 2), .int .i64 (F 3), .int .i64 (F 4), .int .i64 (F 5), .int .i64 (F 6), .int .i64 (F 7), .int .i64 (F 8), .int .i64 (F 9), .int .i64 (F 10), .int .i64 (F 11)] : List Value).length := scells_info F
  go_region_held3 (fun w' => (∀ b o, b < w.heap.size + 1 → w'.cell? ⟨b, o, none⟩ = W0.cell? ⟨b, o, none⟩) ∧ W0.heap.size ≤ w'.heap.size)
    (first | ((try dsimp only); exact ⟨fun b o h => (by (repeat (first | with_reducible exact rfl | (with_reducible refine (cell_drew_at _ _).trans ?_) | (with_reducible refine (cell_set_at _ _ (by first | omega | (simp; done) | (simp; omega))).trans ?_) | (with_reducible refine (cell_alloc_at _ _ (by first | omega | (simp; done) | (simp; omega))).trans ?_) | (with_reducible refine (hcwA b o (by first | omega | (simp; done) | (simp; omega))).trans ?_) | (with_reducible refine (hcwT b o (by first | omega | (simp; done) | (simp; omega))).trans ?_) | (with_reducible refine (hcwE b o (by first | omega | (simp; done) | (simp; omega))).trans ?_)))), (by first | omega | (simp; done) | (simp; omega))⟩) | ((try dsimp only); exact ⟨fun b o h => (by ((refine (scells_far (by omega)).trans ?_); (repeat (first | with_reducible exact rfl | (with_reducible refine (cell_drew_at _ _).trans ?_) | (with_reducible refine (hcwA b o (by first | omega | (simp; done) | (simp; omega))).trans ?_) | (with_reducible refine (hcwT b o (by first | omega | (simp; done) | (simp; omega))).trans ?_) | (with_reducible refine (hcwE b o (by first | omega | (simp; done) | (simp; omega))).trans ?_))))), (by (rw [scells_size]; omega))⟩) | fail)
    (first
      | (go_at_call 90; (with_reducible refine (first_any _ _ _ _ _ _ _ _ _ _ _ _).mono ?_); rintro e wA ⟨rfl, hbwA⟩; obtain ⟨hcwA, hfwA⟩ := bcell hbwA; have hzwA := hbwA.size; (try simp only [World.size_drew] at hcwA hfwA hzwA); (try simp only [World.size_alloc] at hcwA hfwA hzwA); (try have qwA : w.heap.size + 1 < wA.heap.size := (by omega)))
      | (go_at_call 98; (with_reducible refine (CT.out _ ?_).mono ?_); (focus ((refine Rd.more (B := w.heap.size) ?_ (by first | omega | ((try simp only [World.size_setCell]); (try simp only [World.size_drew]); (try simp only [World.size_alloc]); omega) | (simp; done) | (simp; omega))); (repeat' (first | with_reducible assumption | (with_reducible refine Rd.drew ?_) | (with_reducible refine Rd.carry ?_ (by with_reducible assumption) ?_) | (with_reducible refine Rd.alloc ?_ ?_ _) | (with_reducible refine Rd.setCell ?_ ?_ _) | omega | (simp; done) | (simp; omega))))); rintro e wT ⟨rfl, hbwT⟩; obtain ⟨hcwT, hfwT⟩ := bcell hbwT; have hzwT := hbwT.size; (try simp only [World.size_drew] at hcwT hfwT hzwT); (try simp only [World.size_alloc] at hcwT hfwT hzwT); (try have qwT : w.heap.size + 1 < wT.heap.size := (by omega)))
      | (go_at_call 97; (with_reducible refine (CE.out _).mono ?_); rintro e wE ⟨rfl, hbwE⟩; obtain ⟨hcwE, hfwE⟩ := bcell hbwE; have hzwE := hbwE.size; (try simp only [World.size_drew] at hcwE hfwE hzwE); (try simp only [World.size_alloc] at hcwE hfwE hzwE); (try have qwE : w.heap.size + 1 < wE.heap.size := (by omega)); have bkX : Blk wE (w.heap.size + 1) 78 (arr12 (fun _ => 0)) := (by repeat' (first | with_reducible assumption | (with_reducible refine Blk.drew ?_) | (with_reducible refine Blk.carry ?_ (by with_reducible assumption)))); have hth : wE.there (w.heap.size + 1) 0 ([.int .i64 (F 0), .int .i64 (F 1), .int .i64 (F 2), .int .i64 (F 3), .int .i64 (F 4), .int .i64 (F 5), .int .i64 (F 6), .int .i64 (F 7), .int .i64 (F 8), .int .i64 (F 9), .int .i64 (F 10), .int .i64 (F 11)] : List Value).length := scells_there bkX F))
  all_goals
    clear hcwA hfwA hcwT hfwT hcwE hfwE
    generalize hW : wE.setCells (w.heap.size + 1) 0 [.int .i64 (F 0), .int .i64 (F 1), .int .i64 (F 2), .int .i64 (F 3), .int .i64 (F 4), .int .i64 (F 5), .int .i64 (F 6), .int .i64 (F 7), .int .i64 (F 8), .int .i64 (F 9), .int .i64 (F 10), .int .i64 (F 11)] = W9
    have y0 : W9.cell? ⟨w.heap.size + 1, 0, none⟩ = some (.int .i64 (F 0)) := by rw [← hW]; exact scells_at bkX F (by omega)
    have y1 : W9.cell? ⟨w.heap.size + 1, 1, none⟩ = some (.int .i64 (F 1)) := by rw [← hW]; exact scells_at bkX F (by omega)
    have y2 : W9.cell? ⟨w.heap.size + 1, 2, none⟩ = some (.int .i64 (F 2)) := by rw [← hW]; exact scells_at bkX F (by omega)
    have y3 : W9.cell? ⟨w.heap.size + 1, 3, none⟩ = some (.int .i64 (F 3)) := by rw [← hW]; exact scells_at bkX F (by omega)
    have y4 : W9.cell? ⟨w.heap.size + 1, 4, none⟩ = some (.int .i64 (F 4)) := by rw [← hW]; exact scells_at bkX F (by omega)
    have y5 : W9.cell? ⟨w.heap.size + 1, 5, none⟩ = some (.int .i64 (F 5)) := by rw [← hW]; exact scells_at bkX F (by omega)
    have y6 : W9.cell? ⟨w.heap.size + 1, 6, none⟩ = some (.int .i64 (F 6)) := by rw [← hW]; exact scells_at bkX F (by omega)
    have y7 : W9.cell? ⟨w.heap.size + 1, 7, none⟩ = some (.int .i64 (F 7)) := by rw [← hW]; exact scells_at bkX F (by omega)
    have y8 : W9.cell? ⟨w.heap.size + 1, 8, none⟩ = some (.int .i64 (F 8)) := by rw [← hW]; exact scells_at bkX F (by omega)
    have y9 : W9.cell? ⟨w.heap.size + 1, 9, none⟩ = some (.int .i64 (F 9)) := by rw [← hW]; exact scells_at bkX F (by omega)
    have y10 : W9.cell? ⟨w.heap.size + 1, 10, none⟩ = some (.int .i64 (F 10)) := by rw [← hW]; exact scells_at bkX F (by omega)
    have y11 : W9.cell? ⟨w.heap.size + 1, 11, none⟩ = some (.int .i64 (F 11)) := by rw [← hW]; exact scells_at bkX F (by omega)
    have b9 : Below w.heap.size w W9 := by rw [← hW]; exact scells_below _ (by omega) _ _ (by repeat' (first | with_reducible assumption | with_reducible exact Below.refl _ _ | (with_reducible refine Below.setCell ?_ ?_ _) | (with_reducible refine Below.alloc ?_ ?_ _) | (with_reducible refine Below.drew ?_) | (with_reducible refine below_dr ?_ _) | (with_reducible refine Below.trans ?_ (Below.mono (by with_reducible assumption) ?_)) | omega | (simp; done) | (simp; omega)))
    go_wp2_with fail
    refine bodyPost_ret (v := .agg (arr12 F)) (by simp [results, Try.results73, go_sem, arr12, *]) rfl ⟨rfl, b9⟩
set_option maxRecDepth 100000 in
set_option maxHeartbeats 6400000 in
theorem equation_first_false (l : List APt) (A : Option Addr) (c : Nat) (t : Int) (fl : Bool) (fx fy lx ly : Int) (w : World) (hp : ptsUp l l.length = true) (h2 : 2 ≤ l.length) (h10 : l.length ≤ 10) (r : Rd cPt 2 w w.heap.size A l) :
    Calls Try.prog 73 #[.agg #[.slice A l.length c, .bool false, .int .i64 t, .bool false, .bool fl, .int .i64 fx, .int .i64 fy, .int .i64 lx, .int .i64 ly], .int .i64 0] w fun e w' => e = .returned (.agg (arr12 (eqnF l false false fl fx fy lx ly 0))) ∧ Below w.heap.size w w' := by
  have hE := eqn_first_f (l := l) (cl := false) (fl := fl) (fx := fx) (fy := fy) (lx := lx) (ly := ly) (by unfold inB; simp)
  obtain ⟨⟨s0, s1⟩, hs⟩ : ∃ s, s = way3 l 0 1 := ⟨_, rfl⟩
  have CT0 := fun w r => threeTimes_any l A c false t false fl fx fy lx ly 0 1 w hp (by omega) (by omega) h10 r
  simp only [← hs] at CT0
  rw [← hs] at hE
  obtain ⟨F, hF⟩ : ∃ F, F = eqnF l false false fl fx fy lx ly 0 := ⟨_, rfl⟩
  have CE0 := fun w => endEquation_false fx fy s0 s1 0 1 w (by omega) (by omega) (by omega)
  simp only [hE, ← hF] at CE0
  simp only [arr12] at CE0
  rw [← hF]
  have CT := Lib.hid (show ∀ (w : World), Rd cPt 2 w w.heap.size A l → Calls Try.prog 98 #[.agg #[.slice A l.length c, .bool false, .int .i64 t, .bool false, .bool fl, .int .i64 fx, .int .i64 fy, .int .i64 lx, .int .i64 ly], .int .i64 0, .int .i64 1] w (fun e w' => e = .returned (.agg #[.int .i64 s0, .int .i64 s1]) ∧ Below w.heap.size w w') from CT0)
  have CE := Lib.hid (show ∀ (w : World), Calls Try.prog 97 #[.agg #[.bool false, .int .i64 fx, .int .i64 fy], .int .i64 0, .int .i64 1, .agg #[.int .i64 s0, .int .i64 s1]] w (fun e w' => e = .returned (.agg #[.int .i64 (F 0), .int .i64 (F 1), .int .i64 (F 2), .int .i64 (F 3), .int .i64 (F 4), .int .i64 (F 5), .int .i64 (F 6), .int .i64 (F 7), .int .i64 (F 8), .int .i64 (F 9), .int .i64 (F 10), .int .i64 (F 11)]) ∧ Below w.heap.size w w') from CE0)
  clear hE hF hs hp CT0 CE0
  generalize l.length = n at h2 h10 CT ⊢
  clear h2 h10
  go_enter Try.func73, Try.ntmps73
  go_wp2_with fail
  generalize hW : (w.alloc (.cells #[.slice A n c, .bool false, .int .i64 t, .bool false, .bool fl, .int .i64 fx, .int .i64 fy, .int .i64 lx, .int .i64 ly] 37)).alloc (.cells #[.int .i64 0, .int .i64 0, .int .i64 0, .int .i64 0, .int .i64 0, .int .i64 0, .int .i64 0, .int .i64 0, .int .i64 0, .int .i64 0, .int .i64 0, .int .i64 0] 78) = W0
  have at0 : AtL w.heap.size [.slice A n c, .bool false, .int .i64 t, .bool false, .bool fl, .int .i64 fx, .int .i64 fy, .int .i64 lx, .int .i64 ly] W0 := by rw [← hW]; exact (AtL.new w _ _).alloc _
  have bk0 : Blk W0 (w.heap.size + 1) 78 (arr12 (fun _ => 0)) := by rw [← hW]; exact Blk.newAt _ _ _ (by simp)
  have r0 : Rd cPt 2 W0 w.heap.size A l := by rw [← hW]; exact (r.alloc (Nat.le_refl _) _).alloc (by simp) _
  have b0 : Below w.heap.size w W0 := by rw [← hW]; repeat' (first | with_reducible assumption | with_reducible exact Below.refl _ _ | (with_reducible refine Below.setCell ?_ ?_ _) | (with_reducible refine Below.alloc ?_ ?_ _) | (with_reducible refine Below.drew ?_) | (with_reducible refine below_dr ?_ _) | (with_reducible refine Below.trans ?_ (Below.mono (by with_reducible assumption) ?_)) | omega | (simp; done) | (simp; omega))
  clear hW r
  have lk := bk0.lt
  have lw := at0.lt
  have zb := b0.size
  have k0 := at0.cell 0 rfl
  have k1 := at0.cell 1 rfl
  have k2 := at0.cell 2 rfl
  have k3 := at0.cell 3 rfl
  have k4 := at0.cell 4 rfl
  have k5 := at0.cell 5 rfl
  have k6 := at0.cell 6 rfl
  have k7 := at0.cell 7 rfl
  have k8 := at0.cell 8 rfl
  have j0 : W0.cell? ⟨w.heap.size + 1, 0, none⟩ = some (.int .i64 0) := bk0.ints (f := fun _ => 0) (by omega)
  have j1 : W0.cell? ⟨w.heap.size + 1, 1, none⟩ = some (.int .i64 0) := bk0.ints (f := fun _ => 0) (by omega)
  have j2 : W0.cell? ⟨w.heap.size + 1, 2, none⟩ = some (.int .i64 0) := bk0.ints (f := fun _ => 0) (by omega)
  have j3 : W0.cell? ⟨w.heap.size + 1, 3, none⟩ = some (.int .i64 0) := bk0.ints (f := fun _ => 0) (by omega)
  have j4 : W0.cell? ⟨w.heap.size + 1, 4, none⟩ = some (.int .i64 0) := bk0.ints (f := fun _ => 0) (by omega)
  have j5 : W0.cell? ⟨w.heap.size + 1, 5, none⟩ = some (.int .i64 0) := bk0.ints (f := fun _ => 0) (by omega)
  have j6 : W0.cell? ⟨w.heap.size + 1, 6, none⟩ = some (.int .i64 0) := bk0.ints (f := fun _ => 0) (by omega)
  have j7 : W0.cell? ⟨w.heap.size + 1, 7, none⟩ = some (.int .i64 0) := bk0.ints (f := fun _ => 0) (by omega)
  have j8 : W0.cell? ⟨w.heap.size + 1, 8, none⟩ = some (.int .i64 0) := bk0.ints (f := fun _ => 0) (by omega)
  have j9 : W0.cell? ⟨w.heap.size + 1, 9, none⟩ = some (.int .i64 0) := bk0.ints (f := fun _ => 0) (by omega)
  have j10 : W0.cell? ⟨w.heap.size + 1, 10, none⟩ = some (.int .i64 0) := bk0.ints (f := fun _ => 0) (by omega)
  have j11 : W0.cell? ⟨w.heap.size + 1, 11, none⟩ = some (.int .i64 0) := bk0.ints (f := fun _ => 0) (by omega)
  have u0 := bk0.frozen 0
  have u1 := bk0.frozen 1
  have u2 := bk0.frozen 2
  have u3 := bk0.frozen 3
  have u4 := bk0.frozen 4
  have u5 := bk0.frozen 5
  have u6 := bk0.frozen 6
  have u7 := bk0.frozen 7
  have u8 := bk0.frozen 8
  have u9 := bk0.frozen 9
  have u10 := bk0.frozen 10
  have u11 := bk0.frozen 11
  have h1c : ∀ (v : Value), v ∈ ([.int .i64 (F 0), .int .i64 (F 1), .int .i64 (F 2), .int .i64 (F 3), .int .i64 (F 4), .int .i64 (F 5), .int .i64 (F 6), .int .i64 (F 7), .int .i64 (F 8), .int .i64 (F 9), .int .i64 (F 10), .int .i64 (F 11)] : List Value) → v.oneCell' = true := scells_one F
  have hin : Option.map (fun x => x.size) (Try.prog.info? 78) = some ([.int .i64 (F 0), .int .i64 (F 1), .int .i64 (F 2), .int .i64 (F 3), .int .i64 (F 4), .int .i64 (F 5), .int .i64 (F 6), .int .i64 (F 7), .int .i64 (F 8), .int .i64 (F 9), .int .i64 (F 10), .int .i64 (F 11)] : List Value).length := scells_info F
  go_region_held3 (fun w' => (∀ b o, b < w.heap.size + 1 → w'.cell? ⟨b, o, none⟩ = W0.cell? ⟨b, o, none⟩) ∧ W0.heap.size ≤ w'.heap.size)
    (first | ((try dsimp only); exact ⟨fun b o h => (by (repeat (first | with_reducible exact rfl | (with_reducible refine (cell_drew_at _ _).trans ?_) | (with_reducible refine (cell_set_at _ _ (by first | omega | (simp; done) | (simp; omega))).trans ?_) | (with_reducible refine (cell_alloc_at _ _ (by first | omega | (simp; done) | (simp; omega))).trans ?_) | (with_reducible refine (hcwA b o (by first | omega | (simp; done) | (simp; omega))).trans ?_) | (with_reducible refine (hcwT b o (by first | omega | (simp; done) | (simp; omega))).trans ?_) | (with_reducible refine (hcwE b o (by first | omega | (simp; done) | (simp; omega))).trans ?_)))), (by first | omega | (simp; done) | (simp; omega))⟩) | ((try dsimp only); exact ⟨fun b o h => (by ((refine (scells_far (by omega)).trans ?_); (repeat (first | with_reducible exact rfl | (with_reducible refine (cell_drew_at _ _).trans ?_) | (with_reducible refine (hcwA b o (by first | omega | (simp; done) | (simp; omega))).trans ?_) | (with_reducible refine (hcwT b o (by first | omega | (simp; done) | (simp; omega))).trans ?_) | (with_reducible refine (hcwE b o (by first | omega | (simp; done) | (simp; omega))).trans ?_))))), (by (rw [scells_size]; omega))⟩) | fail)
    (first
      | (go_at_call 90; (with_reducible refine (first_any _ _ _ _ _ _ _ _ _ _ _ _).mono ?_); rintro e wA ⟨rfl, hbwA⟩; obtain ⟨hcwA, hfwA⟩ := bcell hbwA; have hzwA := hbwA.size; (try simp only [World.size_drew] at hcwA hfwA hzwA); (try simp only [World.size_alloc] at hcwA hfwA hzwA); (try have qwA : w.heap.size + 1 < wA.heap.size := (by omega)))
      | (go_at_call 98; (with_reducible refine (CT.out _ ?_).mono ?_); (focus ((refine Rd.more (B := w.heap.size) ?_ (by first | omega | ((try simp only [World.size_setCell]); (try simp only [World.size_drew]); (try simp only [World.size_alloc]); omega) | (simp; done) | (simp; omega))); (repeat' (first | with_reducible assumption | (with_reducible refine Rd.drew ?_) | (with_reducible refine Rd.carry ?_ (by with_reducible assumption) ?_) | (with_reducible refine Rd.alloc ?_ ?_ _) | (with_reducible refine Rd.setCell ?_ ?_ _) | omega | (simp; done) | (simp; omega))))); rintro e wT ⟨rfl, hbwT⟩; obtain ⟨hcwT, hfwT⟩ := bcell hbwT; have hzwT := hbwT.size; (try simp only [World.size_drew] at hcwT hfwT hzwT); (try simp only [World.size_alloc] at hcwT hfwT hzwT); (try have qwT : w.heap.size + 1 < wT.heap.size := (by omega)))
      | (go_at_call 97; (with_reducible refine (CE.out _).mono ?_); rintro e wE ⟨rfl, hbwE⟩; obtain ⟨hcwE, hfwE⟩ := bcell hbwE; have hzwE := hbwE.size; (try simp only [World.size_drew] at hcwE hfwE hzwE); (try simp only [World.size_alloc] at hcwE hfwE hzwE); (try have qwE : w.heap.size + 1 < wE.heap.size := (by omega)); have bkX : Blk wE (w.heap.size + 1) 78 (arr12 (fun _ => 0)) := (by repeat' (first | with_reducible assumption | (with_reducible refine Blk.drew ?_) | (with_reducible refine Blk.carry ?_ (by with_reducible assumption)))); have hth : wE.there (w.heap.size + 1) 0 ([.int .i64 (F 0), .int .i64 (F 1), .int .i64 (F 2), .int .i64 (F 3), .int .i64 (F 4), .int .i64 (F 5), .int .i64 (F 6), .int .i64 (F 7), .int .i64 (F 8), .int .i64 (F 9), .int .i64 (F 10), .int .i64 (F 11)] : List Value).length := scells_there bkX F))
  all_goals
    clear hcwA hfwA hcwT hfwT hcwE hfwE
    generalize hW : wE.setCells (w.heap.size + 1) 0 [.int .i64 (F 0), .int .i64 (F 1), .int .i64 (F 2), .int .i64 (F 3), .int .i64 (F 4), .int .i64 (F 5), .int .i64 (F 6), .int .i64 (F 7), .int .i64 (F 8), .int .i64 (F 9), .int .i64 (F 10), .int .i64 (F 11)] = W9
    have y0 : W9.cell? ⟨w.heap.size + 1, 0, none⟩ = some (.int .i64 (F 0)) := by rw [← hW]; exact scells_at bkX F (by omega)
    have y1 : W9.cell? ⟨w.heap.size + 1, 1, none⟩ = some (.int .i64 (F 1)) := by rw [← hW]; exact scells_at bkX F (by omega)
    have y2 : W9.cell? ⟨w.heap.size + 1, 2, none⟩ = some (.int .i64 (F 2)) := by rw [← hW]; exact scells_at bkX F (by omega)
    have y3 : W9.cell? ⟨w.heap.size + 1, 3, none⟩ = some (.int .i64 (F 3)) := by rw [← hW]; exact scells_at bkX F (by omega)
    have y4 : W9.cell? ⟨w.heap.size + 1, 4, none⟩ = some (.int .i64 (F 4)) := by rw [← hW]; exact scells_at bkX F (by omega)
    have y5 : W9.cell? ⟨w.heap.size + 1, 5, none⟩ = some (.int .i64 (F 5)) := by rw [← hW]; exact scells_at bkX F (by omega)
    have y6 : W9.cell? ⟨w.heap.size + 1, 6, none⟩ = some (.int .i64 (F 6)) := by rw [← hW]; exact scells_at bkX F (by omega)
    have y7 : W9.cell? ⟨w.heap.size + 1, 7, none⟩ = some (.int .i64 (F 7)) := by rw [← hW]; exact scells_at bkX F (by omega)
    have y8 : W9.cell? ⟨w.heap.size + 1, 8, none⟩ = some (.int .i64 (F 8)) := by rw [← hW]; exact scells_at bkX F (by omega)
    have y9 : W9.cell? ⟨w.heap.size + 1, 9, none⟩ = some (.int .i64 (F 9)) := by rw [← hW]; exact scells_at bkX F (by omega)
    have y10 : W9.cell? ⟨w.heap.size + 1, 10, none⟩ = some (.int .i64 (F 10)) := by rw [← hW]; exact scells_at bkX F (by omega)
    have y11 : W9.cell? ⟨w.heap.size + 1, 11, none⟩ = some (.int .i64 (F 11)) := by rw [← hW]; exact scells_at bkX F (by omega)
    have b9 : Below w.heap.size w W9 := by rw [← hW]; exact scells_below _ (by omega) _ _ (by repeat' (first | with_reducible assumption | with_reducible exact Below.refl _ _ | (with_reducible refine Below.setCell ?_ ?_ _) | (with_reducible refine Below.alloc ?_ ?_ _) | (with_reducible refine Below.drew ?_) | (with_reducible refine below_dr ?_ _) | (with_reducible refine Below.trans ?_ (Below.mono (by with_reducible assumption) ?_)) | omega | (simp; done) | (simp; omega)))
    go_wp2_with fail
    refine bodyPost_ret (v := .agg (arr12 F)) (by simp [results, Try.results73, go_sem, arr12, *]) rfl ⟨rfl, b9⟩
set_option maxRecDepth 100000 in
set_option maxHeartbeats 6400000 in
theorem equation_last_true (l : List APt) (A : Option Addr) (c : Nat) (t : Int) (ff : Bool) (fx fy lx ly : Int) (k : Nat) (w : World) (hp : ptsUp l l.length = true) (h2 : 2 ≤ l.length) (h10 : l.length ≤ 10) (hk : k < l.length) (r : Rd cPt 2 w w.heap.size A l) (h1 : 1 ≤ k) (h3 : k + 1 = l.length) :
    Calls Try.prog 73 #[.agg #[.slice A l.length c, .bool false, .int .i64 t, .bool ff, .bool true, .int .i64 fx, .int .i64 fy, .int .i64 lx, .int .i64 ly], .int .i64 k] w fun e w' => e = .returned (.agg (arr12 (eqnF l false ff true fx fy lx ly k))) ∧ Below w.heap.size w w' := by
  have hE := eqn_last_t (l := l) (cl := false) (ff := ff) (fx := fx) (fy := fy) (lx := lx) (ly := ly) (k := k) (by unfold inB; simp; omega) (by omega)
  obtain ⟨⟨s0, s1⟩, hs⟩ : ∃ s, s = way3 l (k - 1) k := ⟨_, rfl⟩
  have CT0 := fun w r => threeTimes_any l A c false t ff true fx fy lx ly (k - 1) k w hp (by omega) (by omega) h10 r
  simp only [← hs] at CT0
  obtain ⟨F, hF⟩ : ∃ F, F = eqnF l false ff true fx fy lx ly k := ⟨_, rfl⟩
  have CE0 := fun w => endEquation_true lx ly s0 s1 k (k - 1) w (by omega) (by omega) (by omega)
  simp only [hE, ← hF] at CE0
  simp only [arr12] at CE0
  rw [← hF]
  have CT := Lib.hid (show ∀ (w : World), Rd cPt 2 w w.heap.size A l → Calls Try.prog 98 #[.agg #[.slice A l.length c, .bool false, .int .i64 t, .bool ff, .bool true, .int .i64 fx, .int .i64 fy, .int .i64 lx, .int .i64 ly], .int .i64 ((k - 1 : Nat) : Int), .int .i64 (k : Int)] w (fun e w' => e = .returned (.agg #[.int .i64 s0, .int .i64 s1]) ∧ Below w.heap.size w w') from CT0)
  have CE := Lib.hid (show ∀ (w : World), Calls Try.prog 97 #[.agg #[.bool true, .int .i64 lx, .int .i64 ly], .int .i64 (k : Int), .int .i64 ((k - 1 : Nat) : Int), .agg #[.int .i64 s0, .int .i64 s1]] w (fun e w' => e = .returned (.agg #[.int .i64 (F 0), .int .i64 (F 1), .int .i64 (F 2), .int .i64 (F 3), .int .i64 (F 4), .int .i64 (F 5), .int .i64 (F 6), .int .i64 (F 7), .int .i64 (F 8), .int .i64 (F 9), .int .i64 (F 10), .int .i64 (F 11)]) ∧ Below w.heap.size w w') from CE0)
  clear hE hF hs hp CT0 CE0
  obtain ⟨j, hj⟩ : ∃ j, j = k - 1 := ⟨_, rfl⟩
  rw [← hj] at CT CE
  generalize l.length = n at h2 h10 hk h3 CT ⊢
  have e1 : IntKind.i64.wrap ((n : Int) - 1) = (k : Int) := (IntWalk.i64_in _ (by omega)).trans (by omega)
  have e2 : IntKind.i64.wrap ((n : Int) - 2) = (j : Int) := (IntWalk.i64_in _ (by omega)).trans (by omega)
  have e5 : decide ((k : Int) < (k : Int)) = false := decide_eq_false (by omega)
  have e6 : decide ((0 : Int) < (k : Int)) = true := decide_eq_true (by omega)
  have e7 : ((k : Int) == 0) = false := by simp; omega
  have e8 : 0 < k := by omega
  clear hj h2 h10 hk h3 h1
  go_enter Try.func73, Try.ntmps73
  go_wp2_with fail
  generalize hW : (w.alloc (.cells #[.slice A n c, .bool false, .int .i64 t, .bool ff, .bool true, .int .i64 fx, .int .i64 fy, .int .i64 lx, .int .i64 ly] 37)).alloc (.cells #[.int .i64 0, .int .i64 0, .int .i64 0, .int .i64 0, .int .i64 0, .int .i64 0, .int .i64 0, .int .i64 0, .int .i64 0, .int .i64 0, .int .i64 0, .int .i64 0] 78) = W0
  have at0 : AtL w.heap.size [.slice A n c, .bool false, .int .i64 t, .bool ff, .bool true, .int .i64 fx, .int .i64 fy, .int .i64 lx, .int .i64 ly] W0 := by rw [← hW]; exact (AtL.new w _ _).alloc _
  have bk0 : Blk W0 (w.heap.size + 1) 78 (arr12 (fun _ => 0)) := by rw [← hW]; exact Blk.newAt _ _ _ (by simp)
  have r0 : Rd cPt 2 W0 w.heap.size A l := by rw [← hW]; exact (r.alloc (Nat.le_refl _) _).alloc (by simp) _
  have b0 : Below w.heap.size w W0 := by rw [← hW]; repeat' (first | with_reducible assumption | with_reducible exact Below.refl _ _ | (with_reducible refine Below.setCell ?_ ?_ _) | (with_reducible refine Below.alloc ?_ ?_ _) | (with_reducible refine Below.drew ?_) | (with_reducible refine below_dr ?_ _) | (with_reducible refine Below.trans ?_ (Below.mono (by with_reducible assumption) ?_)) | omega | (simp; done) | (simp; omega))
  clear hW r
  have lk := bk0.lt
  have lw := at0.lt
  have zb := b0.size
  have k0 := at0.cell 0 rfl
  have k1 := at0.cell 1 rfl
  have k2 := at0.cell 2 rfl
  have k3 := at0.cell 3 rfl
  have k4 := at0.cell 4 rfl
  have k5 := at0.cell 5 rfl
  have k6 := at0.cell 6 rfl
  have k7 := at0.cell 7 rfl
  have k8 := at0.cell 8 rfl
  have j0 : W0.cell? ⟨w.heap.size + 1, 0, none⟩ = some (.int .i64 0) := bk0.ints (f := fun _ => 0) (by omega)
  have j1 : W0.cell? ⟨w.heap.size + 1, 1, none⟩ = some (.int .i64 0) := bk0.ints (f := fun _ => 0) (by omega)
  have j2 : W0.cell? ⟨w.heap.size + 1, 2, none⟩ = some (.int .i64 0) := bk0.ints (f := fun _ => 0) (by omega)
  have j3 : W0.cell? ⟨w.heap.size + 1, 3, none⟩ = some (.int .i64 0) := bk0.ints (f := fun _ => 0) (by omega)
  have j4 : W0.cell? ⟨w.heap.size + 1, 4, none⟩ = some (.int .i64 0) := bk0.ints (f := fun _ => 0) (by omega)
  have j5 : W0.cell? ⟨w.heap.size + 1, 5, none⟩ = some (.int .i64 0) := bk0.ints (f := fun _ => 0) (by omega)
  have j6 : W0.cell? ⟨w.heap.size + 1, 6, none⟩ = some (.int .i64 0) := bk0.ints (f := fun _ => 0) (by omega)
  have j7 : W0.cell? ⟨w.heap.size + 1, 7, none⟩ = some (.int .i64 0) := bk0.ints (f := fun _ => 0) (by omega)
  have j8 : W0.cell? ⟨w.heap.size + 1, 8, none⟩ = some (.int .i64 0) := bk0.ints (f := fun _ => 0) (by omega)
  have j9 : W0.cell? ⟨w.heap.size + 1, 9, none⟩ = some (.int .i64 0) := bk0.ints (f := fun _ => 0) (by omega)
  have j10 : W0.cell? ⟨w.heap.size + 1, 10, none⟩ = some (.int .i64 0) := bk0.ints (f := fun _ => 0) (by omega)
  have j11 : W0.cell? ⟨w.heap.size + 1, 11, none⟩ = some (.int .i64 0) := bk0.ints (f := fun _ => 0) (by omega)
  have u0 := bk0.frozen 0
  have u1 := bk0.frozen 1
  have u2 := bk0.frozen 2
  have u3 := bk0.frozen 3
  have u4 := bk0.frozen 4
  have u5 := bk0.frozen 5
  have u6 := bk0.frozen 6
  have u7 := bk0.frozen 7
  have u8 := bk0.frozen 8
  have u9 := bk0.frozen 9
  have u10 := bk0.frozen 10
  have u11 := bk0.frozen 11
  have h1c : ∀ (v : Value), v ∈ ([.int .i64 (F 0), .int .i64 (F 1), .int .i64 (F 2), .int .i64 (F 3), .int .i64 (F 4), .int .i64 (F 5), .int .i64 (F 6), .int .i64 (F 7), .int .i64 (F 8), .int .i64 (F 9), .int .i64 (F 10), .int .i64 (F 11)] : List Value) → v.oneCell' = true := scells_one F
  have hin : Option.map (fun x => x.size) (Try.prog.info? 78) = some ([.int .i64 (F 0), .int .i64 (F 1), .int .i64 (F 2), .int .i64 (F 3), .int .i64 (F 4), .int .i64 (F 5), .int .i64 (F 6), .int .i64 (F 7), .int .i64 (F 8), .int .i64 (F 9), .int .i64 (F 10), .int .i64 (F 11)] : List Value).length := scells_info F
  go_region_held3 (fun w' => (∀ b o, b < w.heap.size + 1 → w'.cell? ⟨b, o, none⟩ = W0.cell? ⟨b, o, none⟩) ∧ W0.heap.size ≤ w'.heap.size)
    (first | ((try dsimp only); exact ⟨fun b o h => (by (repeat (first | with_reducible exact rfl | (with_reducible refine (cell_drew_at _ _).trans ?_) | (with_reducible refine (cell_set_at _ _ (by first | omega | (simp; done) | (simp; omega))).trans ?_) | (with_reducible refine (cell_alloc_at _ _ (by first | omega | (simp; done) | (simp; omega))).trans ?_) | (with_reducible refine (hcwA b o (by first | omega | (simp; done) | (simp; omega))).trans ?_) | (with_reducible refine (hcwT b o (by first | omega | (simp; done) | (simp; omega))).trans ?_) | (with_reducible refine (hcwE b o (by first | omega | (simp; done) | (simp; omega))).trans ?_)))), (by first | omega | (simp; done) | (simp; omega))⟩) | ((try dsimp only); exact ⟨fun b o h => (by ((refine (scells_far (by omega)).trans ?_); (repeat (first | with_reducible exact rfl | (with_reducible refine (cell_drew_at _ _).trans ?_) | (with_reducible refine (hcwA b o (by first | omega | (simp; done) | (simp; omega))).trans ?_) | (with_reducible refine (hcwT b o (by first | omega | (simp; done) | (simp; omega))).trans ?_) | (with_reducible refine (hcwE b o (by first | omega | (simp; done) | (simp; omega))).trans ?_))))), (by (rw [scells_size]; omega))⟩) | fail)
    (first
      | (go_at_call 92; (with_reducible refine (last_any _ _ _ _ _ _ _ _ _ _ _ _).mono ?_); rintro e wA ⟨rfl, hbwA⟩; obtain ⟨hcwA, hfwA⟩ := bcell hbwA; have hzwA := hbwA.size; (try simp only [World.size_drew] at hcwA hfwA hzwA); (try simp only [World.size_alloc] at hcwA hfwA hzwA); (try have qwA : w.heap.size + 1 < wA.heap.size := (by omega)))
      | (go_at_call 98; (with_reducible refine (CT.out _ ?_).mono ?_); (focus ((refine Rd.more (B := w.heap.size) ?_ (by first | omega | ((try simp only [World.size_setCell]); (try simp only [World.size_drew]); (try simp only [World.size_alloc]); omega) | (simp; done) | (simp; omega))); (repeat' (first | with_reducible assumption | (with_reducible refine Rd.drew ?_) | (with_reducible refine Rd.carry ?_ (by with_reducible assumption) ?_) | (with_reducible refine Rd.alloc ?_ ?_ _) | (with_reducible refine Rd.setCell ?_ ?_ _) | omega | (simp; done) | (simp; omega))))); rintro e wT ⟨rfl, hbwT⟩; obtain ⟨hcwT, hfwT⟩ := bcell hbwT; have hzwT := hbwT.size; (try simp only [World.size_drew] at hcwT hfwT hzwT); (try simp only [World.size_alloc] at hcwT hfwT hzwT); (try have qwT : w.heap.size + 1 < wT.heap.size := (by omega)))
      | (go_at_call 97; (with_reducible refine (CE.out _).mono ?_); rintro e wE ⟨rfl, hbwE⟩; obtain ⟨hcwE, hfwE⟩ := bcell hbwE; have hzwE := hbwE.size; (try simp only [World.size_drew] at hcwE hfwE hzwE); (try simp only [World.size_alloc] at hcwE hfwE hzwE); (try have qwE : w.heap.size + 1 < wE.heap.size := (by omega)); have bkX : Blk wE (w.heap.size + 1) 78 (arr12 (fun _ => 0)) := (by repeat' (first | with_reducible assumption | (with_reducible refine Blk.drew ?_) | (with_reducible refine Blk.carry ?_ (by with_reducible assumption)))); have hth : wE.there (w.heap.size + 1) 0 ([.int .i64 (F 0), .int .i64 (F 1), .int .i64 (F 2), .int .i64 (F 3), .int .i64 (F 4), .int .i64 (F 5), .int .i64 (F 6), .int .i64 (F 7), .int .i64 (F 8), .int .i64 (F 9), .int .i64 (F 10), .int .i64 (F 11)] : List Value).length := scells_there bkX F))
  all_goals
    clear hcwA hfwA hcwT hfwT hcwE hfwE
    generalize hW : wE.setCells (w.heap.size + 1) 0 [.int .i64 (F 0), .int .i64 (F 1), .int .i64 (F 2), .int .i64 (F 3), .int .i64 (F 4), .int .i64 (F 5), .int .i64 (F 6), .int .i64 (F 7), .int .i64 (F 8), .int .i64 (F 9), .int .i64 (F 10), .int .i64 (F 11)] = W9
    have y0 : W9.cell? ⟨w.heap.size + 1, 0, none⟩ = some (.int .i64 (F 0)) := by rw [← hW]; exact scells_at bkX F (by omega)
    have y1 : W9.cell? ⟨w.heap.size + 1, 1, none⟩ = some (.int .i64 (F 1)) := by rw [← hW]; exact scells_at bkX F (by omega)
    have y2 : W9.cell? ⟨w.heap.size + 1, 2, none⟩ = some (.int .i64 (F 2)) := by rw [← hW]; exact scells_at bkX F (by omega)
    have y3 : W9.cell? ⟨w.heap.size + 1, 3, none⟩ = some (.int .i64 (F 3)) := by rw [← hW]; exact scells_at bkX F (by omega)
    have y4 : W9.cell? ⟨w.heap.size + 1, 4, none⟩ = some (.int .i64 (F 4)) := by rw [← hW]; exact scells_at bkX F (by omega)
    have y5 : W9.cell? ⟨w.heap.size + 1, 5, none⟩ = some (.int .i64 (F 5)) := by rw [← hW]; exact scells_at bkX F (by omega)
    have y6 : W9.cell? ⟨w.heap.size + 1, 6, none⟩ = some (.int .i64 (F 6)) := by rw [← hW]; exact scells_at bkX F (by omega)
    have y7 : W9.cell? ⟨w.heap.size + 1, 7, none⟩ = some (.int .i64 (F 7)) := by rw [← hW]; exact scells_at bkX F (by omega)
    have y8 : W9.cell? ⟨w.heap.size + 1, 8, none⟩ = some (.int .i64 (F 8)) := by rw [← hW]; exact scells_at bkX F (by omega)
    have y9 : W9.cell? ⟨w.heap.size + 1, 9, none⟩ = some (.int .i64 (F 9)) := by rw [← hW]; exact scells_at bkX F (by omega)
    have y10 : W9.cell? ⟨w.heap.size + 1, 10, none⟩ = some (.int .i64 (F 10)) := by rw [← hW]; exact scells_at bkX F (by omega)
    have y11 : W9.cell? ⟨w.heap.size + 1, 11, none⟩ = some (.int .i64 (F 11)) := by rw [← hW]; exact scells_at bkX F (by omega)
    have b9 : Below w.heap.size w W9 := by rw [← hW]; exact scells_below _ (by omega) _ _ (by repeat' (first | with_reducible assumption | with_reducible exact Below.refl _ _ | (with_reducible refine Below.setCell ?_ ?_ _) | (with_reducible refine Below.alloc ?_ ?_ _) | (with_reducible refine Below.drew ?_) | (with_reducible refine below_dr ?_ _) | (with_reducible refine Below.trans ?_ (Below.mono (by with_reducible assumption) ?_)) | omega | (simp; done) | (simp; omega)))
    go_wp2_with fail
    refine bodyPost_ret (v := .agg (arr12 F)) (by simp [results, Try.results73, go_sem, arr12, *]) rfl ⟨rfl, b9⟩
set_option maxRecDepth 100000 in
set_option maxHeartbeats 6400000 in
theorem equation_last_false (l : List APt) (A : Option Addr) (c : Nat) (t : Int) (ff : Bool) (fx fy lx ly : Int) (k : Nat) (w : World) (hp : ptsUp l l.length = true) (h2 : 2 ≤ l.length) (h10 : l.length ≤ 10) (hk : k < l.length) (r : Rd cPt 2 w w.heap.size A l) (h1 : 1 ≤ k) (h3 : k + 1 = l.length) :
    Calls Try.prog 73 #[.agg #[.slice A l.length c, .bool false, .int .i64 t, .bool ff, .bool false, .int .i64 fx, .int .i64 fy, .int .i64 lx, .int .i64 ly], .int .i64 k] w fun e w' => e = .returned (.agg (arr12 (eqnF l false ff false fx fy lx ly k))) ∧ Below w.heap.size w w' := by
  have hE := eqn_last_f (l := l) (cl := false) (ff := ff) (fx := fx) (fy := fy) (lx := lx) (ly := ly) (k := k) (by unfold inB; simp; omega) (by omega)
  obtain ⟨⟨s0, s1⟩, hs⟩ : ∃ s, s = way3 l (k - 1) k := ⟨_, rfl⟩
  have CT0 := fun w r => threeTimes_any l A c false t ff false fx fy lx ly (k - 1) k w hp (by omega) (by omega) h10 r
  simp only [← hs] at CT0
  rw [← hs] at hE
  obtain ⟨F, hF⟩ : ∃ F, F = eqnF l false ff false fx fy lx ly k := ⟨_, rfl⟩
  have CE0 := fun w => endEquation_false lx ly s0 s1 k (k - 1) w (by omega) (by omega) (by omega)
  simp only [hE, ← hF] at CE0
  simp only [arr12] at CE0
  rw [← hF]
  have CT := Lib.hid (show ∀ (w : World), Rd cPt 2 w w.heap.size A l → Calls Try.prog 98 #[.agg #[.slice A l.length c, .bool false, .int .i64 t, .bool ff, .bool false, .int .i64 fx, .int .i64 fy, .int .i64 lx, .int .i64 ly], .int .i64 ((k - 1 : Nat) : Int), .int .i64 (k : Int)] w (fun e w' => e = .returned (.agg #[.int .i64 s0, .int .i64 s1]) ∧ Below w.heap.size w w') from CT0)
  have CE := Lib.hid (show ∀ (w : World), Calls Try.prog 97 #[.agg #[.bool false, .int .i64 lx, .int .i64 ly], .int .i64 (k : Int), .int .i64 ((k - 1 : Nat) : Int), .agg #[.int .i64 s0, .int .i64 s1]] w (fun e w' => e = .returned (.agg #[.int .i64 (F 0), .int .i64 (F 1), .int .i64 (F 2), .int .i64 (F 3), .int .i64 (F 4), .int .i64 (F 5), .int .i64 (F 6), .int .i64 (F 7), .int .i64 (F 8), .int .i64 (F 9), .int .i64 (F 10), .int .i64 (F 11)]) ∧ Below w.heap.size w w') from CE0)
  clear hE hF hs hp CT0 CE0
  obtain ⟨j, hj⟩ : ∃ j, j = k - 1 := ⟨_, rfl⟩
  rw [← hj] at CT CE
  generalize l.length = n at h2 h10 hk h3 CT ⊢
  have e1 : IntKind.i64.wrap ((n : Int) - 1) = (k : Int) := (IntWalk.i64_in _ (by omega)).trans (by omega)
  have e2 : IntKind.i64.wrap ((n : Int) - 2) = (j : Int) := (IntWalk.i64_in _ (by omega)).trans (by omega)
  have e5 : decide ((k : Int) < (k : Int)) = false := decide_eq_false (by omega)
  have e6 : decide ((0 : Int) < (k : Int)) = true := decide_eq_true (by omega)
  have e7 : ((k : Int) == 0) = false := by simp; omega
  have e8 : 0 < k := by omega
  clear hj h2 h10 hk h3 h1
  go_enter Try.func73, Try.ntmps73
  go_wp2_with fail
  generalize hW : (w.alloc (.cells #[.slice A n c, .bool false, .int .i64 t, .bool ff, .bool false, .int .i64 fx, .int .i64 fy, .int .i64 lx, .int .i64 ly] 37)).alloc (.cells #[.int .i64 0, .int .i64 0, .int .i64 0, .int .i64 0, .int .i64 0, .int .i64 0, .int .i64 0, .int .i64 0, .int .i64 0, .int .i64 0, .int .i64 0, .int .i64 0] 78) = W0
  have at0 : AtL w.heap.size [.slice A n c, .bool false, .int .i64 t, .bool ff, .bool false, .int .i64 fx, .int .i64 fy, .int .i64 lx, .int .i64 ly] W0 := by rw [← hW]; exact (AtL.new w _ _).alloc _
  have bk0 : Blk W0 (w.heap.size + 1) 78 (arr12 (fun _ => 0)) := by rw [← hW]; exact Blk.newAt _ _ _ (by simp)
  have r0 : Rd cPt 2 W0 w.heap.size A l := by rw [← hW]; exact (r.alloc (Nat.le_refl _) _).alloc (by simp) _
  have b0 : Below w.heap.size w W0 := by rw [← hW]; repeat' (first | with_reducible assumption | with_reducible exact Below.refl _ _ | (with_reducible refine Below.setCell ?_ ?_ _) | (with_reducible refine Below.alloc ?_ ?_ _) | (with_reducible refine Below.drew ?_) | (with_reducible refine below_dr ?_ _) | (with_reducible refine Below.trans ?_ (Below.mono (by with_reducible assumption) ?_)) | omega | (simp; done) | (simp; omega))
  clear hW r
  have lk := bk0.lt
  have lw := at0.lt
  have zb := b0.size
  have k0 := at0.cell 0 rfl
  have k1 := at0.cell 1 rfl
  have k2 := at0.cell 2 rfl
  have k3 := at0.cell 3 rfl
  have k4 := at0.cell 4 rfl
  have k5 := at0.cell 5 rfl
  have k6 := at0.cell 6 rfl
  have k7 := at0.cell 7 rfl
  have k8 := at0.cell 8 rfl
  have j0 : W0.cell? ⟨w.heap.size + 1, 0, none⟩ = some (.int .i64 0) := bk0.ints (f := fun _ => 0) (by omega)
  have j1 : W0.cell? ⟨w.heap.size + 1, 1, none⟩ = some (.int .i64 0) := bk0.ints (f := fun _ => 0) (by omega)
  have j2 : W0.cell? ⟨w.heap.size + 1, 2, none⟩ = some (.int .i64 0) := bk0.ints (f := fun _ => 0) (by omega)
  have j3 : W0.cell? ⟨w.heap.size + 1, 3, none⟩ = some (.int .i64 0) := bk0.ints (f := fun _ => 0) (by omega)
  have j4 : W0.cell? ⟨w.heap.size + 1, 4, none⟩ = some (.int .i64 0) := bk0.ints (f := fun _ => 0) (by omega)
  have j5 : W0.cell? ⟨w.heap.size + 1, 5, none⟩ = some (.int .i64 0) := bk0.ints (f := fun _ => 0) (by omega)
  have j6 : W0.cell? ⟨w.heap.size + 1, 6, none⟩ = some (.int .i64 0) := bk0.ints (f := fun _ => 0) (by omega)
  have j7 : W0.cell? ⟨w.heap.size + 1, 7, none⟩ = some (.int .i64 0) := bk0.ints (f := fun _ => 0) (by omega)
  have j8 : W0.cell? ⟨w.heap.size + 1, 8, none⟩ = some (.int .i64 0) := bk0.ints (f := fun _ => 0) (by omega)
  have j9 : W0.cell? ⟨w.heap.size + 1, 9, none⟩ = some (.int .i64 0) := bk0.ints (f := fun _ => 0) (by omega)
  have j10 : W0.cell? ⟨w.heap.size + 1, 10, none⟩ = some (.int .i64 0) := bk0.ints (f := fun _ => 0) (by omega)
  have j11 : W0.cell? ⟨w.heap.size + 1, 11, none⟩ = some (.int .i64 0) := bk0.ints (f := fun _ => 0) (by omega)
  have u0 := bk0.frozen 0
  have u1 := bk0.frozen 1
  have u2 := bk0.frozen 2
  have u3 := bk0.frozen 3
  have u4 := bk0.frozen 4
  have u5 := bk0.frozen 5
  have u6 := bk0.frozen 6
  have u7 := bk0.frozen 7
  have u8 := bk0.frozen 8
  have u9 := bk0.frozen 9
  have u10 := bk0.frozen 10
  have u11 := bk0.frozen 11
  have h1c : ∀ (v : Value), v ∈ ([.int .i64 (F 0), .int .i64 (F 1), .int .i64 (F 2), .int .i64 (F 3), .int .i64 (F 4), .int .i64 (F 5), .int .i64 (F 6), .int .i64 (F 7), .int .i64 (F 8), .int .i64 (F 9), .int .i64 (F 10), .int .i64 (F 11)] : List Value) → v.oneCell' = true := scells_one F
  have hin : Option.map (fun x => x.size) (Try.prog.info? 78) = some ([.int .i64 (F 0), .int .i64 (F 1), .int .i64 (F 2), .int .i64 (F 3), .int .i64 (F 4), .int .i64 (F 5), .int .i64 (F 6), .int .i64 (F 7), .int .i64 (F 8), .int .i64 (F 9), .int .i64 (F 10), .int .i64 (F 11)] : List Value).length := scells_info F
  go_region_held3 (fun w' => (∀ b o, b < w.heap.size + 1 → w'.cell? ⟨b, o, none⟩ = W0.cell? ⟨b, o, none⟩) ∧ W0.heap.size ≤ w'.heap.size)
    (first | ((try dsimp only); exact ⟨fun b o h => (by (repeat (first | with_reducible exact rfl | (with_reducible refine (cell_drew_at _ _).trans ?_) | (with_reducible refine (cell_set_at _ _ (by first | omega | (simp; done) | (simp; omega))).trans ?_) | (with_reducible refine (cell_alloc_at _ _ (by first | omega | (simp; done) | (simp; omega))).trans ?_) | (with_reducible refine (hcwA b o (by first | omega | (simp; done) | (simp; omega))).trans ?_) | (with_reducible refine (hcwT b o (by first | omega | (simp; done) | (simp; omega))).trans ?_) | (with_reducible refine (hcwE b o (by first | omega | (simp; done) | (simp; omega))).trans ?_)))), (by first | omega | (simp; done) | (simp; omega))⟩) | ((try dsimp only); exact ⟨fun b o h => (by ((refine (scells_far (by omega)).trans ?_); (repeat (first | with_reducible exact rfl | (with_reducible refine (cell_drew_at _ _).trans ?_) | (with_reducible refine (hcwA b o (by first | omega | (simp; done) | (simp; omega))).trans ?_) | (with_reducible refine (hcwT b o (by first | omega | (simp; done) | (simp; omega))).trans ?_) | (with_reducible refine (hcwE b o (by first | omega | (simp; done) | (simp; omega))).trans ?_))))), (by (rw [scells_size]; omega))⟩) | fail)
    (first
      | (go_at_call 92; (with_reducible refine (last_any _ _ _ _ _ _ _ _ _ _ _ _).mono ?_); rintro e wA ⟨rfl, hbwA⟩; obtain ⟨hcwA, hfwA⟩ := bcell hbwA; have hzwA := hbwA.size; (try simp only [World.size_drew] at hcwA hfwA hzwA); (try simp only [World.size_alloc] at hcwA hfwA hzwA); (try have qwA : w.heap.size + 1 < wA.heap.size := (by omega)))
      | (go_at_call 98; (with_reducible refine (CT.out _ ?_).mono ?_); (focus ((refine Rd.more (B := w.heap.size) ?_ (by first | omega | ((try simp only [World.size_setCell]); (try simp only [World.size_drew]); (try simp only [World.size_alloc]); omega) | (simp; done) | (simp; omega))); (repeat' (first | with_reducible assumption | (with_reducible refine Rd.drew ?_) | (with_reducible refine Rd.carry ?_ (by with_reducible assumption) ?_) | (with_reducible refine Rd.alloc ?_ ?_ _) | (with_reducible refine Rd.setCell ?_ ?_ _) | omega | (simp; done) | (simp; omega))))); rintro e wT ⟨rfl, hbwT⟩; obtain ⟨hcwT, hfwT⟩ := bcell hbwT; have hzwT := hbwT.size; (try simp only [World.size_drew] at hcwT hfwT hzwT); (try simp only [World.size_alloc] at hcwT hfwT hzwT); (try have qwT : w.heap.size + 1 < wT.heap.size := (by omega)))
      | (go_at_call 97; (with_reducible refine (CE.out _).mono ?_); rintro e wE ⟨rfl, hbwE⟩; obtain ⟨hcwE, hfwE⟩ := bcell hbwE; have hzwE := hbwE.size; (try simp only [World.size_drew] at hcwE hfwE hzwE); (try simp only [World.size_alloc] at hcwE hfwE hzwE); (try have qwE : w.heap.size + 1 < wE.heap.size := (by omega)); have bkX : Blk wE (w.heap.size + 1) 78 (arr12 (fun _ => 0)) := (by repeat' (first | with_reducible assumption | (with_reducible refine Blk.drew ?_) | (with_reducible refine Blk.carry ?_ (by with_reducible assumption)))); have hth : wE.there (w.heap.size + 1) 0 ([.int .i64 (F 0), .int .i64 (F 1), .int .i64 (F 2), .int .i64 (F 3), .int .i64 (F 4), .int .i64 (F 5), .int .i64 (F 6), .int .i64 (F 7), .int .i64 (F 8), .int .i64 (F 9), .int .i64 (F 10), .int .i64 (F 11)] : List Value).length := scells_there bkX F))
  all_goals
    clear hcwA hfwA hcwT hfwT hcwE hfwE
    generalize hW : wE.setCells (w.heap.size + 1) 0 [.int .i64 (F 0), .int .i64 (F 1), .int .i64 (F 2), .int .i64 (F 3), .int .i64 (F 4), .int .i64 (F 5), .int .i64 (F 6), .int .i64 (F 7), .int .i64 (F 8), .int .i64 (F 9), .int .i64 (F 10), .int .i64 (F 11)] = W9
    have y0 : W9.cell? ⟨w.heap.size + 1, 0, none⟩ = some (.int .i64 (F 0)) := by rw [← hW]; exact scells_at bkX F (by omega)
    have y1 : W9.cell? ⟨w.heap.size + 1, 1, none⟩ = some (.int .i64 (F 1)) := by rw [← hW]; exact scells_at bkX F (by omega)
    have y2 : W9.cell? ⟨w.heap.size + 1, 2, none⟩ = some (.int .i64 (F 2)) := by rw [← hW]; exact scells_at bkX F (by omega)
    have y3 : W9.cell? ⟨w.heap.size + 1, 3, none⟩ = some (.int .i64 (F 3)) := by rw [← hW]; exact scells_at bkX F (by omega)
    have y4 : W9.cell? ⟨w.heap.size + 1, 4, none⟩ = some (.int .i64 (F 4)) := by rw [← hW]; exact scells_at bkX F (by omega)
    have y5 : W9.cell? ⟨w.heap.size + 1, 5, none⟩ = some (.int .i64 (F 5)) := by rw [← hW]; exact scells_at bkX F (by omega)
    have y6 : W9.cell? ⟨w.heap.size + 1, 6, none⟩ = some (.int .i64 (F 6)) := by rw [← hW]; exact scells_at bkX F (by omega)
    have y7 : W9.cell? ⟨w.heap.size + 1, 7, none⟩ = some (.int .i64 (F 7)) := by rw [← hW]; exact scells_at bkX F (by omega)
    have y8 : W9.cell? ⟨w.heap.size + 1, 8, none⟩ = some (.int .i64 (F 8)) := by rw [← hW]; exact scells_at bkX F (by omega)
    have y9 : W9.cell? ⟨w.heap.size + 1, 9, none⟩ = some (.int .i64 (F 9)) := by rw [← hW]; exact scells_at bkX F (by omega)
    have y10 : W9.cell? ⟨w.heap.size + 1, 10, none⟩ = some (.int .i64 (F 10)) := by rw [← hW]; exact scells_at bkX F (by omega)
    have y11 : W9.cell? ⟨w.heap.size + 1, 11, none⟩ = some (.int .i64 (F 11)) := by rw [← hW]; exact scells_at bkX F (by omega)
    have b9 : Below w.heap.size w W9 := by rw [← hW]; exact scells_below _ (by omega) _ _ (by repeat' (first | with_reducible assumption | with_reducible exact Below.refl _ _ | (with_reducible refine Below.setCell ?_ ?_ _) | (with_reducible refine Below.alloc ?_ ?_ _) | (with_reducible refine Below.drew ?_) | (with_reducible refine below_dr ?_ _) | (with_reducible refine Below.trans ?_ (Below.mono (by with_reducible assumption) ?_)) | omega | (simp; done) | (simp; omega)))
    go_wp2_with fail
    refine bodyPost_ret (v := .agg (arr12 F)) (by simp [results, Try.results73, go_sem, arr12, *]) rfl ⟨rfl, b9⟩
end Go.Proofs.Ytcjjmkkphbeoeaa
