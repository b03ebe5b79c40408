/- Walks: the right-hand side of an equation of a curve, the program's side. -/
import Derived.Test.YtcjjmkkphbeoeaaNb
namespace Go.Proofs.Ytcjjmkkphbeoeaa
open Go.RowKit
set_option linter.unusedVariables false
theorem equation_any (l : List APt) (A : Option Addr) (c : Nat) (cl : Bool) (t : Int) (ff fl : Bool) (fx fy lx ly : Int) (k : Nat) (w : World) (hp : ptsUp l l.length = true) (h2 : 2 ≤ l.length) (h10 : l.length ≤ 10) (hk : k < l.length) (r : Rd cPt 2 w w.heap.size A l) (h3 : cl = true → 3 ≤ l.length) :
    Calls Try.prog 73 #[.agg #[.slice A l.length c, .bool cl, .int .i64 t, .bool ff, .bool fl, .int .i64 fx, .int .i64 fy, .int .i64 lx, .int .i64 ly], .int .i64 k] w fun e w' => e = .returned (.agg (arr12 (eqnF l cl ff fl fx fy lx ly k))) ∧ Below w.heap.size w w' := by
  rcases cl with _ | _
  · by_cases hk0 : k = 0
    · subst hk0
      rcases ff with _ | _
      · exact equation_first_false l A c t fl fx fy lx ly w hp h2 h10 r
      · exact equation_first_true l A c t fl fx fy lx ly w hp h2 h10 r
    · by_cases hkn : k + 1 = l.length
      · rcases fl with _ | _
        · exact equation_last_false l A c t ff fx fy lx ly k w hp h2 h10 hk r (by omega) hkn
        · exact equation_last_true l A c t ff fx fy lx ly k w hp h2 h10 hk r (by omega) hkn
      · exact equation_in_false l A c t ff fl fx fy lx ly k w hp h2 h10 hk r (by omega) (by omega)
  · exact equation_in_true l A c t ff fl fx fy lx ly k w hp h2 h10 hk r (h3 rfl)
set_option maxRecDepth 100000 in
set_option maxHeartbeats 6400000 in
theorem checked_f (l : List APt) (A : Option Addr) (c : Nat) (cl : Bool) (t : Int) (ff fl : Bool) (fx fy lx ly : Int) (k : Int) (w : World) (hv : vCur l cl t ff fl fx fy lx ly = false) (hl : l.length ≤ 1048576) (r : Rd cPt 2 w w.heap.size A l) :
    Calls Try.prog 44 #[.agg #[.slice A l.length c, .bool cl, .int .i64 t, .bool ff, .bool fl, .int .i64 fx, .int .i64 fy, .int .i64 lx, .int .i64 ly], .int .i64 k] w fun e w' => e = .returned (.tuple #[.agg (arr12 (fun _ => 0)), .int .i64 1]) ∧ Below w.heap.size w w' := by
  have CV := Lib.hid (fun w r => implValidCurve_any l A c cl t ff fl fx fy lx ly w hl r)
  simp only [hv] at CV
  clear hv hl
  generalize l.length = n at CV ⊢
  go_enter Try.func44, Try.ntmps44
  go_wp2_with fail
  generalize hW : (w.alloc (.cells #[.slice A n c, .bool cl, .int .i64 t, .bool ff, .bool fl, .int .i64 fx, .int .i64 fy, .int .i64 lx, .int .i64 ly] 37)).alloc (.cells #[.int .i64 0, .int .i64 0, .int .i64 0, .int .i64 0, .int .i64 0, .int .i64 0, .int .i64 0, .int .i64 0, .int .i64 0, .int .i64 0, .int .i64 0, .int .i64 0] 78) = W0
  have at0 : AtL w.heap.size [.slice A n c, .bool cl, .int .i64 t, .bool ff, .bool fl, .int .i64 fx, .int .i64 fy, .int .i64 lx, .int .i64 ly] W0 := by rw [← hW]; exact (AtL.new w _ _).alloc _
  have bk0 : Blk W0 (w.heap.size + 1) 78 (arr12 (fun _ => 0)) := by rw [← hW]; exact Blk.newAt _ _ _ (by simp)
  have r0 : Rd cPt 2 W0 w.heap.size A l := by rw [← hW]; exact (r.alloc (Nat.le_refl _) _).alloc (by simp) _
  have b0 : Below w.heap.size w W0 := by rw [← hW]; repeat' (first | with_reducible assumption | with_reducible exact Below.refl _ _ | (with_reducible refine Below.setCell ?_ ?_ _) | (with_reducible refine Below.alloc ?_ ?_ _) | (with_reducible refine Below.drew ?_) | (with_reducible refine below_dr ?_ _) | (with_reducible refine Below.trans ?_ (Below.mono (by with_reducible assumption) ?_)) | omega | (simp; done) | (simp; omega))
  clear hW r
  have zb := b0.size
  have k0 := at0.cell 0 rfl
  have k1 := at0.cell 1 rfl
  have k2 := at0.cell 2 rfl
  have k3 := at0.cell 3 rfl
  have k4 := at0.cell 4 rfl
  have k5 := at0.cell 5 rfl
  have k6 := at0.cell 6 rfl
  have k7 := at0.cell 7 rfl
  have k8 := at0.cell 8 rfl
  have lw := at0.lt
  refine (CV.out _ ?_).mono ?_
  · (refine Rd.more (B := w.heap.size) ?_ (by first | omega | ((try simp only [World.size_setCell]); (try simp only [World.size_drew]); (try simp only [World.size_alloc]); omega) | (simp; done) | (simp; omega))); (repeat' (first | with_reducible assumption | (with_reducible refine Rd.drew ?_) | (with_reducible refine Rd.carry ?_ (by with_reducible assumption) ?_) | (with_reducible refine Rd.alloc ?_ ?_ _) | (with_reducible refine Rd.setCell ?_ ?_ _) | omega | (simp; done) | (simp; omega)))
  rintro e w1 ⟨rfl, hb1⟩
  clear lw k0 k1 k2 k3 k4 k5 k6 k7 k8
  replace at0 := at0.below hb1
  replace bk0 := bk0.carry hb1
  replace r0 := r0.carry hb1 (by omega)
  replace b0 : Below w.heap.size w w1 := by repeat' (first | with_reducible assumption | with_reducible exact Below.refl _ _ | (with_reducible refine Below.setCell ?_ ?_ _) | (with_reducible refine Below.alloc ?_ ?_ _) | (with_reducible refine Below.drew ?_) | (with_reducible refine below_dr ?_ _) | (with_reducible refine Below.trans ?_ (Below.mono (by with_reducible assumption) ?_)) | omega | (simp; done) | (simp; omega))
  have z1 := hb1.size
  have lk := bk0.lt
  have lw := at0.lt
  clear hb1
  have k0 := at0.cell 0 rfl
  have k1 := at0.cell 1 rfl
  have k2 := at0.cell 2 rfl
  have k3 := at0.cell 3 rfl
  have k4 := at0.cell 4 rfl
  have k5 := at0.cell 5 rfl
  have k6 := at0.cell 6 rfl
  have k7 := at0.cell 7 rfl
  have k8 := at0.cell 8 rfl
  have j0 : w1.cell? ⟨w.heap.size + 1, 0, none⟩ = some (.int .i64 0) := bk0.ints (f := fun _ => 0) (by omega)
  have j1 : w1.cell? ⟨w.heap.size + 1, 1, none⟩ = some (.int .i64 0) := bk0.ints (f := fun _ => 0) (by omega)
  have j2 : w1.cell? ⟨w.heap.size + 1, 2, none⟩ = some (.int .i64 0) := bk0.ints (f := fun _ => 0) (by omega)
  have j3 : w1.cell? ⟨w.heap.size + 1, 3, none⟩ = some (.int .i64 0) := bk0.ints (f := fun _ => 0) (by omega)
  have j4 : w1.cell? ⟨w.heap.size + 1, 4, none⟩ = some (.int .i64 0) := bk0.ints (f := fun _ => 0) (by omega)
  have j5 : w1.cell? ⟨w.heap.size + 1, 5, none⟩ = some (.int .i64 0) := bk0.ints (f := fun _ => 0) (by omega)
  have j6 : w1.cell? ⟨w.heap.size + 1, 6, none⟩ = some (.int .i64 0) := bk0.ints (f := fun _ => 0) (by omega)
  have j7 : w1.cell? ⟨w.heap.size + 1, 7, none⟩ = some (.int .i64 0) := bk0.ints (f := fun _ => 0) (by omega)
  have j8 : w1.cell? ⟨w.heap.size + 1, 8, none⟩ = some (.int .i64 0) := bk0.ints (f := fun _ => 0) (by omega)
  have j9 : w1.cell? ⟨w.heap.size + 1, 9, none⟩ = some (.int .i64 0) := bk0.ints (f := fun _ => 0) (by omega)
  have j10 : w1.cell? ⟨w.heap.size + 1, 10, none⟩ = some (.int .i64 0) := bk0.ints (f := fun _ => 0) (by omega)
  have j11 : w1.cell? ⟨w.heap.size + 1, 11, none⟩ = some (.int .i64 0) := bk0.ints (f := fun _ => 0) (by omega)
  have u0 := bk0.frozen 0
  have u1 := bk0.frozen 1
  have u2 := bk0.frozen 2
  have u3 := bk0.frozen 3
  have u4 := bk0.frozen 4
  have u5 := bk0.frozen 5
  have u6 := bk0.frozen 6
  have u7 := bk0.frozen 7
  have u8 := bk0.frozen 8
  have u9 := bk0.frozen 9
  have u10 := bk0.frozen 10
  have u11 := bk0.frozen 11
  go_wp2_with fail
  refine bodyPost_ret (v := .tuple #[.agg (arr12 (fun _ => 0)), .int .i64 1]) (by simp [results, Try.results44, go_sem, arr12, *]) rfl ⟨rfl, ?_⟩
  repeat' (first | with_reducible assumption | with_reducible exact Below.refl _ _ | (with_reducible refine Below.setCell ?_ ?_ _) | (with_reducible refine Below.alloc ?_ ?_ _) | (with_reducible refine Below.drew ?_) | (with_reducible refine below_dr ?_ _) | (with_reducible refine Below.trans ?_ (Below.mono (by with_reducible assumption) ?_)) | omega | (simp; done) | (simp; omega))
set_option maxRecDepth 100000 in
set_option maxHeartbeats 6400000 in
theorem checked_r (l : List APt) (A : Option Addr) (c : Nat) (cl : Bool) (t : Int) (ff fl : Bool) (fx fy lx ly : Int) (k : Int) (w : World) (hv : vCur l cl t ff fl fx fy lx ly = true) (hk : ¬ (0 ≤ k ∧ k < (l.length : Int))) (hl : l.length ≤ 1048576) (r : Rd cPt 2 w w.heap.size A l) :
    Calls Try.prog 44 #[.agg #[.slice A l.length c, .bool cl, .int .i64 t, .bool ff, .bool fl, .int .i64 fx, .int .i64 fy, .int .i64 lx, .int .i64 ly], .int .i64 k] w fun e w' => e = .returned (.tuple #[.agg (arr12 (fun _ => 0)), .int .i64 2]) ∧ Below w.heap.size w w' := by
  have CV := Lib.hid (fun w r => implValidCurve_any l A c cl t ff fl fx fy lx ly w hl r)
  simp only [hv] at CV
  clear hv hl
  generalize l.length = n at CV hk ⊢
  rcases Int.lt_or_le k 0 with hk0 | hk0
  case inl =>
    have e1 : decide (k < 0) = true := decide_eq_true hk0
    go_enter Try.func44, Try.ntmps44
    go_wp2_with fail
    generalize hW : (w.alloc (.cells #[.slice A n c, .bool cl, .int .i64 t, .bool ff, .bool fl, .int .i64 fx, .int .i64 fy, .int .i64 lx, .int .i64 ly] 37)).alloc (.cells #[.int .i64 0, .int .i64 0, .int .i64 0, .int .i64 0, .int .i64 0, .int .i64 0, .int .i64 0, .int .i64 0, .int .i64 0, .int .i64 0, .int .i64 0, .int .i64 0] 78) = W0
    have at0 : AtL w.heap.size [.slice A n c, .bool cl, .int .i64 t, .bool ff, .bool fl, .int .i64 fx, .int .i64 fy, .int .i64 lx, .int .i64 ly] W0 := by rw [← hW]; exact (AtL.new w _ _).alloc _
    have bk0 : Blk W0 (w.heap.size + 1) 78 (arr12 (fun _ => 0)) := by rw [← hW]; exact Blk.newAt _ _ _ (by simp)
    have r0 : Rd cPt 2 W0 w.heap.size A l := by rw [← hW]; exact (r.alloc (Nat.le_refl _) _).alloc (by simp) _
    have b0 : Below w.heap.size w W0 := by rw [← hW]; repeat' (first | with_reducible assumption | with_reducible exact Below.refl _ _ | (with_reducible refine Below.setCell ?_ ?_ _) | (with_reducible refine Below.alloc ?_ ?_ _) | (with_reducible refine Below.drew ?_) | (with_reducible refine below_dr ?_ _) | (with_reducible refine Below.trans ?_ (Below.mono (by with_reducible assumption) ?_)) | omega | (simp; done) | (simp; omega))
    clear hW r
    have zb := b0.size
    have k0 := at0.cell 0 rfl
    have k1 := at0.cell 1 rfl
    have k2 := at0.cell 2 rfl
    have k3 := at0.cell 3 rfl
    have k4 := at0.cell 4 rfl
    have k5 := at0.cell 5 rfl
    have k6 := at0.cell 6 rfl
    have k7 := at0.cell 7 rfl
    have k8 := at0.cell 8 rfl
    have lw := at0.lt
    refine (CV.out _ ?_).mono ?_
    · (refine Rd.more (B := w.heap.size) ?_ (by first | omega | ((try simp only [World.size_setCell]); (try simp only [World.size_drew]); (try simp only [World.size_alloc]); omega) | (simp; done) | (simp; omega))); (repeat' (first | with_reducible assumption | (with_reducible refine Rd.drew ?_) | (with_reducible refine Rd.carry ?_ (by with_reducible assumption) ?_) | (with_reducible refine Rd.alloc ?_ ?_ _) | (with_reducible refine Rd.setCell ?_ ?_ _) | omega | (simp; done) | (simp; omega)))
    rintro e w1 ⟨rfl, hb1⟩
    clear lw k0 k1 k2 k3 k4 k5 k6 k7 k8
    replace at0 := at0.below hb1
    replace bk0 := bk0.carry hb1
    replace r0 := r0.carry hb1 (by omega)
    replace b0 : Below w.heap.size w w1 := by repeat' (first | with_reducible assumption | with_reducible exact Below.refl _ _ | (with_reducible refine Below.setCell ?_ ?_ _) | (with_reducible refine Below.alloc ?_ ?_ _) | (with_reducible refine Below.drew ?_) | (with_reducible refine below_dr ?_ _) | (with_reducible refine Below.trans ?_ (Below.mono (by with_reducible assumption) ?_)) | omega | (simp; done) | (simp; omega))
    have z1 := hb1.size
    have lk := bk0.lt
    have lw := at0.lt
    clear hb1
    have k0 := at0.cell 0 rfl
    have k1 := at0.cell 1 rfl
    have k2 := at0.cell 2 rfl
    have k3 := at0.cell 3 rfl
    have k4 := at0.cell 4 rfl
    have k5 := at0.cell 5 rfl
    have k6 := at0.cell 6 rfl
    have k7 := at0.cell 7 rfl
    have k8 := at0.cell 8 rfl
    have j0 : w1.cell? ⟨w.heap.size + 1, 0, none⟩ = some (.int .i64 0) := bk0.ints (f := fun _ => 0) (by omega)
    have j1 : w1.cell? ⟨w.heap.size + 1, 1, none⟩ = some (.int .i64 0) := bk0.ints (f := fun _ => 0) (by omega)
    have j2 : w1.cell? ⟨w.heap.size + 1, 2, none⟩ = some (.int .i64 0) := bk0.ints (f := fun _ => 0) (by omega)
    have j3 : w1.cell? ⟨w.heap.size + 1, 3, none⟩ = some (.int .i64 0) := bk0.ints (f := fun _ => 0) (by omega)
    have j4 : w1.cell? ⟨w.heap.size + 1, 4, none⟩ = some (.int .i64 0) := bk0.ints (f := fun _ => 0) (by omega)
    have j5 : w1.cell? ⟨w.heap.size + 1, 5, none⟩ = some (.int .i64 0) := bk0.ints (f := fun _ => 0) (by omega)
    have j6 : w1.cell? ⟨w.heap.size + 1, 6, none⟩ = some (.int .i64 0) := bk0.ints (f := fun _ => 0) (by omega)
    have j7 : w1.cell? ⟨w.heap.size + 1, 7, none⟩ = some (.int .i64 0) := bk0.ints (f := fun _ => 0) (by omega)
    have j8 : w1.cell? ⟨w.heap.size + 1, 8, none⟩ = some (.int .i64 0) := bk0.ints (f := fun _ => 0) (by omega)
    have j9 : w1.cell? ⟨w.heap.size + 1, 9, none⟩ = some (.int .i64 0) := bk0.ints (f := fun _ => 0) (by omega)
    have j10 : w1.cell? ⟨w.heap.size + 1, 10, none⟩ = some (.int .i64 0) := bk0.ints (f := fun _ => 0) (by omega)
    have j11 : w1.cell? ⟨w.heap.size + 1, 11, none⟩ = some (.int .i64 0) := bk0.ints (f := fun _ => 0) (by omega)
    have u0 := bk0.frozen 0
    have u1 := bk0.frozen 1
    have u2 := bk0.frozen 2
    have u3 := bk0.frozen 3
    have u4 := bk0.frozen 4
    have u5 := bk0.frozen 5
    have u6 := bk0.frozen 6
    have u7 := bk0.frozen 7
    have u8 := bk0.frozen 8
    have u9 := bk0.frozen 9
    have u10 := bk0.frozen 10
    have u11 := bk0.frozen 11
    go_wp2_with fail
    refine bodyPost_ret (v := .tuple #[.agg (arr12 (fun _ => 0)), .int .i64 2]) (by simp [results, Try.results44, go_sem, arr12, *]) rfl ⟨rfl, ?_⟩
    repeat' (first | with_reducible assumption | with_reducible exact Below.refl _ _ | (with_reducible refine Below.setCell ?_ ?_ _) | (with_reducible refine Below.alloc ?_ ?_ _) | (with_reducible refine Below.drew ?_) | (with_reducible refine below_dr ?_ _) | (with_reducible refine Below.trans ?_ (Below.mono (by with_reducible assumption) ?_)) | omega | (simp; done) | (simp; omega))
  case inr =>
    have e1 : decide (k < 0) = false := decide_eq_false (by omega)
    have e2 : decide ((n : Int) ≤ k) = true := decide_eq_true (by omega)
    have e3 : ¬ k < 0 := by omega
    have e4 : (n : Int) ≤ k := by omega
    go_enter Try.func44, Try.ntmps44
    go_wp2_with fail
    generalize hW : (w.alloc (.cells #[.slice A n c, .bool cl, .int .i64 t, .bool ff, .bool fl, .int .i64 fx, .int .i64 fy, .int .i64 lx, .int .i64 ly] 37)).alloc (.cells #[.int .i64 0, .int .i64 0, .int .i64 0, .int .i64 0, .int .i64 0, .int .i64 0, .int .i64 0, .int .i64 0, .int .i64 0, .int .i64 0, .int .i64 0, .int .i64 0] 78) = W0
    have at0 : AtL w.heap.size [.slice A n c, .bool cl, .int .i64 t, .bool ff, .bool fl, .int .i64 fx, .int .i64 fy, .int .i64 lx, .int .i64 ly] W0 := by rw [← hW]; exact (AtL.new w _ _).alloc _
    have bk0 : Blk W0 (w.heap.size + 1) 78 (arr12 (fun _ => 0)) := by rw [← hW]; exact Blk.newAt _ _ _ (by simp)
    have r0 : Rd cPt 2 W0 w.heap.size A l := by rw [← hW]; exact (r.alloc (Nat.le_refl _) _).alloc (by simp) _
    have b0 : Below w.heap.size w W0 := by rw [← hW]; repeat' (first | with_reducible assumption | with_reducible exact Below.refl _ _ | (with_reducible refine Below.setCell ?_ ?_ _) | (with_reducible refine Below.alloc ?_ ?_ _) | (with_reducible refine Below.drew ?_) | (with_reducible refine below_dr ?_ _) | (with_reducible refine Below.trans ?_ (Below.mono (by with_reducible assumption) ?_)) | omega | (simp; done) | (simp; omega))
    clear hW r
    have zb := b0.size
    have k0 := at0.cell 0 rfl
    have k1 := at0.cell 1 rfl
    have k2 := at0.cell 2 rfl
    have k3 := at0.cell 3 rfl
    have k4 := at0.cell 4 rfl
    have k5 := at0.cell 5 rfl
    have k6 := at0.cell 6 rfl
    have k7 := at0.cell 7 rfl
    have k8 := at0.cell 8 rfl
    have lw := at0.lt
    refine (CV.out _ ?_).mono ?_
    · (refine Rd.more (B := w.heap.size) ?_ (by first | omega | ((try simp only [World.size_setCell]); (try simp only [World.size_drew]); (try simp only [World.size_alloc]); omega) | (simp; done) | (simp; omega))); (repeat' (first | with_reducible assumption | (with_reducible refine Rd.drew ?_) | (with_reducible refine Rd.carry ?_ (by with_reducible assumption) ?_) | (with_reducible refine Rd.alloc ?_ ?_ _) | (with_reducible refine Rd.setCell ?_ ?_ _) | omega | (simp; done) | (simp; omega)))
    rintro e w1 ⟨rfl, hb1⟩
    clear lw k0 k1 k2 k3 k4 k5 k6 k7 k8
    replace at0 := at0.below hb1
    replace bk0 := bk0.carry hb1
    replace r0 := r0.carry hb1 (by omega)
    replace b0 : Below w.heap.size w w1 := by repeat' (first | with_reducible assumption | with_reducible exact Below.refl _ _ | (with_reducible refine Below.setCell ?_ ?_ _) | (with_reducible refine Below.alloc ?_ ?_ _) | (with_reducible refine Below.drew ?_) | (with_reducible refine below_dr ?_ _) | (with_reducible refine Below.trans ?_ (Below.mono (by with_reducible assumption) ?_)) | omega | (simp; done) | (simp; omega))
    have z1 := hb1.size
    have lk := bk0.lt
    have lw := at0.lt
    clear hb1
    have k0 := at0.cell 0 rfl
    have k1 := at0.cell 1 rfl
    have k2 := at0.cell 2 rfl
    have k3 := at0.cell 3 rfl
    have k4 := at0.cell 4 rfl
    have k5 := at0.cell 5 rfl
    have k6 := at0.cell 6 rfl
    have k7 := at0.cell 7 rfl
    have k8 := at0.cell 8 rfl
    have j0 : w1.cell? ⟨w.heap.size + 1, 0, none⟩ = some (.int .i64 0) := bk0.ints (f := fun _ => 0) (by omega)
    have j1 : w1.cell? ⟨w.heap.size + 1, 1, none⟩ = some (.int .i64 0) := bk0.ints (f := fun _ => 0) (by omega)
    have j2 : w1.cell? ⟨w.heap.size + 1, 2, none⟩ = some (.int .i64 0) := bk0.ints (f := fun _ => 0) (by omega)
    have j3 : w1.cell? ⟨w.heap.size + 1, 3, none⟩ = some (.int .i64 0) := bk0.ints (f := fun _ => 0) (by omega)
    have j4 : w1.cell? ⟨w.heap.size + 1, 4, none⟩ = some (.int .i64 0) := bk0.ints (f := fun _ => 0) (by omega)
    have j5 : w1.cell? ⟨w.heap.size + 1, 5, none⟩ = some (.int .i64 0) := bk0.ints (f := fun _ => 0) (by omega)
    have j6 : w1.cell? ⟨w.heap.size + 1, 6, none⟩ = some (.int .i64 0) := bk0.ints (f := fun _ => 0) (by omega)
    have j7 : w1.cell? ⟨w.heap.size + 1, 7, none⟩ = some (.int .i64 0) := bk0.ints (f := fun _ => 0) (by omega)
    have j8 : w1.cell? ⟨w.heap.size + 1, 8, none⟩ = some (.int .i64 0) := bk0.ints (f := fun _ => 0) (by omega)
    have j9 : w1.cell? ⟨w.heap.size + 1, 9, none⟩ = some (.int .i64 0) := bk0.ints (f := fun _ => 0) (by omega)
    have j10 : w1.cell? ⟨w.heap.size + 1, 10, none⟩ = some (.int .i64 0) := bk0.ints (f := fun _ => 0) (by omega)
    have j11 : w1.cell? ⟨w.heap.size + 1, 11, none⟩ = some (.int .i64 0) := bk0.ints (f := fun _ => 0) (by omega)
    have u0 := bk0.frozen 0
    have u1 := bk0.frozen 1
    have u2 := bk0.frozen 2
    have u3 := bk0.frozen 3
    have u4 := bk0.frozen 4
    have u5 := bk0.frozen 5
    have u6 := bk0.frozen 6
    have u7 := bk0.frozen 7
    have u8 := bk0.frozen 8
    have u9 := bk0.frozen 9
    have u10 := bk0.frozen 10
    have u11 := bk0.frozen 11
    go_wp2_with fail
    refine bodyPost_ret (v := .tuple #[.agg (arr12 (fun _ => 0)), .int .i64 2]) (by simp [results, Try.results44, go_sem, arr12, *]) rfl ⟨rfl, ?_⟩
    repeat' (first | with_reducible assumption | with_reducible exact Below.refl _ _ | (with_reducible refine Below.setCell ?_ ?_ _) | (with_reducible refine Below.alloc ?_ ?_ _) | (with_reducible refine Below.drew ?_) | (with_reducible refine below_dr ?_ _) | (with_reducible refine Below.trans ?_ (Below.mono (by with_reducible assumption) ?_)) | omega | (simp; done) | (simp; omega))
set_option maxRecDepth 100000 in
set_option maxHeartbeats 6400000 in
theorem checked_t (l : List APt) (A : Option Addr) (c : Nat) (cl : Bool) (t : Int) (ff fl : Bool) (fx fy lx ly : Int) (k : Nat) (w : World) (hv : vCur l cl t ff fl fx fy lx ly = true) (hk : k < l.length) (hl : l.length ≤ 1048576) (r : Rd cPt 2 w w.heap.size A l) :
    Calls Try.prog 44 #[.agg #[.slice A l.length c, .bool cl, .int .i64 t, .bool ff, .bool fl, .int .i64 fx, .int .i64 fy, .int .i64 lx, .int .i64 ly], .int .i64 k] w fun e w' => e = .returned (.tuple #[.agg (arr12 (eqnF l cl ff fl fx fy lx ly k)), .int .i64 0]) ∧ Below w.heap.size w w' := by
  obtain ⟨hq1, hq2, _⟩ := vC_parts hv
  have hlen := len_yes hq1
  have CV := Lib.hid (fun w r => implValidCurve_any l A c cl t ff fl fx fy lx ly w hl r)
  simp only [hv] at CV
  have CE0 := fun w r => equation_any l A c cl t ff fl fx fy lx ly k w hq2 (by omega) (by omega) hk r (fun e => len_cl (by rw [e] at hq1; exact hq1))
  obtain ⟨F, hF⟩ : ∃ F, F = eqnF l cl ff fl fx fy lx ly k := ⟨_, rfl⟩
  rw [← hF]
  simp only [← hF] at CE0
  simp only [arr12] at CE0
  have CE := Lib.hid CE0
  clear CE0 hF hv hl hq1 hq2 hlen
  generalize l.length = n at CV CE hk ⊢
  have e1 : decide ((k : Int) < 0) = false := decide_eq_false (by omega)
  have e2 : decide ((n : Int) ≤ (k : Int)) = false := decide_eq_false (by omega)
  have e3 : ¬ (k : Int) < 0 := by omega
  have e4 : ¬ n ≤ k := by omega
  go_enter Try.func44, Try.ntmps44
  go_wp2_with fail
  generalize hW : (w.alloc (.cells #[.slice A n c, .bool cl, .int .i64 t, .bool ff, .bool fl, .int .i64 fx, .int .i64 fy, .int .i64 lx, .int .i64 ly] 37)).alloc (.cells #[.int .i64 0, .int .i64 0, .int .i64 0, .int .i64 0, .int .i64 0, .int .i64 0, .int .i64 0, .int .i64 0, .int .i64 0, .int .i64 0, .int .i64 0, .int .i64 0] 78) = W0
  have at0 : AtL w.heap.size [.slice A n c, .bool cl, .int .i64 t, .bool ff, .bool fl, .int .i64 fx, .int .i64 fy, .int .i64 lx, .int .i64 ly] W0 := by rw [← hW]; exact (AtL.new w _ _).alloc _
  have bk0 : Blk W0 (w.heap.size + 1) 78 (arr12 (fun _ => 0)) := by rw [← hW]; exact Blk.newAt _ _ _ (by simp)
  have r0 : Rd cPt 2 W0 w.heap.size A l := by rw [← hW]; exact (r.alloc (Nat.le_refl _) _).alloc (by simp) _
  have b0 : Below w.heap.size w W0 := by rw [← hW]; repeat' (first | with_reducible assumption | with_reducible exact Below.refl _ _ | (with_reducible refine Below.setCell ?_ ?_ _) | (with_reducible refine Below.alloc ?_ ?_ _) | (with_reducible refine Below.drew ?_) | (with_reducible refine below_dr ?_ _) | (with_reducible refine Below.trans ?_ (Below.mono (by with_reducible assumption) ?_)) | omega | (simp; done) | (simp; omega))
  clear hW r
  have zb := b0.size
  have k0 := at0.cell 0 rfl
  have k1 := at0.cell 1 rfl
  have k2 := at0.cell 2 rfl
  have k3 := at0.cell 3 rfl
  have k4 := at0.cell 4 rfl
  have k5 := at0.cell 5 rfl
  have k6 := at0.cell 6 rfl
  have k7 := at0.cell 7 rfl
  have k8 := at0.cell 8 rfl
  have lw := at0.lt
  refine (CV.out _ ?_).mono ?_
  · (refine Rd.more (B := w.heap.size) ?_ (by first | omega | ((try simp only [World.size_setCell]); (try simp only [World.size_drew]); (try simp only [World.size_alloc]); omega) | (simp; done) | (simp; omega))); (repeat' (first | with_reducible assumption | (with_reducible refine Rd.drew ?_) | (with_reducible refine Rd.carry ?_ (by with_reducible assumption) ?_) | (with_reducible refine Rd.alloc ?_ ?_ _) | (with_reducible refine Rd.setCell ?_ ?_ _) | omega | (simp; done) | (simp; omega)))
  rintro e w1 ⟨rfl, hb1⟩
  clear lw k0 k1 k2 k3 k4 k5 k6 k7 k8
  replace at0 := at0.below hb1
  replace bk0 := bk0.carry hb1
  replace r0 := r0.carry hb1 (by omega)
  replace b0 : Below w.heap.size w w1 := by repeat' (first | with_reducible assumption | with_reducible exact Below.refl _ _ | (with_reducible refine Below.setCell ?_ ?_ _) | (with_reducible refine Below.alloc ?_ ?_ _) | (with_reducible refine Below.drew ?_) | (with_reducible refine below_dr ?_ _) | (with_reducible refine Below.trans ?_ (Below.mono (by with_reducible assumption) ?_)) | omega | (simp; done) | (simp; omega))
  have z1 := hb1.size
  have lk := bk0.lt
  have lw := at0.lt
  clear hb1
  have k0 := at0.cell 0 rfl
  have k1 := at0.cell 1 rfl
  have k2 := at0.cell 2 rfl
  have k3 := at0.cell 3 rfl
  have k4 := at0.cell 4 rfl
  have k5 := at0.cell 5 rfl
  have k6 := at0.cell 6 rfl
  have k7 := at0.cell 7 rfl
  have k8 := at0.cell 8 rfl
  go_wp2_with fail
  refine (CE.out _ ?_).mono ?_
  · (refine Rd.more (B := w.heap.size) ?_ (by first | omega | ((try simp only [World.size_setCell]); (try simp only [World.size_drew]); (try simp only [World.size_alloc]); omega) | (simp; done) | (simp; omega))); (repeat' (first | with_reducible assumption | (with_reducible refine Rd.drew ?_) | (with_reducible refine Rd.carry ?_ (by with_reducible assumption) ?_) | (with_reducible refine Rd.alloc ?_ ?_ _) | (with_reducible refine Rd.setCell ?_ ?_ _) | omega | (simp; done) | (simp; omega)))
  rintro e w2 ⟨rfl, hb2⟩
  replace bk0 := bk0.carry hb2
  replace b0 : Below w.heap.size w w2 := by repeat' (first | with_reducible assumption | with_reducible exact Below.refl _ _ | (with_reducible refine Below.setCell ?_ ?_ _) | (with_reducible refine Below.alloc ?_ ?_ _) | (with_reducible refine Below.drew ?_) | (with_reducible refine below_dr ?_ _) | (with_reducible refine Below.trans ?_ (Below.mono (by with_reducible assumption) ?_)) | omega | (simp; done) | (simp; omega))
  have z2 := hb2.size
  have lk2 := bk0.lt
  have j0 : w2.cell? ⟨w.heap.size + 1, 0, none⟩ = some (.int .i64 0) := bk0.ints (f := fun _ => 0) (by omega)
  have j1 : w2.cell? ⟨w.heap.size + 1, 1, none⟩ = some (.int .i64 0) := bk0.ints (f := fun _ => 0) (by omega)
  have j2 : w2.cell? ⟨w.heap.size + 1, 2, none⟩ = some (.int .i64 0) := bk0.ints (f := fun _ => 0) (by omega)
  have j3 : w2.cell? ⟨w.heap.size + 1, 3, none⟩ = some (.int .i64 0) := bk0.ints (f := fun _ => 0) (by omega)
  have j4 : w2.cell? ⟨w.heap.size + 1, 4, none⟩ = some (.int .i64 0) := bk0.ints (f := fun _ => 0) (by omega)
  have j5 : w2.cell? ⟨w.heap.size + 1, 5, none⟩ = some (.int .i64 0) := bk0.ints (f := fun _ => 0) (by omega)
  have j6 : w2.cell? ⟨w.heap.size + 1, 6, none⟩ = some (.int .i64 0) := bk0.ints (f := fun _ => 0) (by omega)
  have j7 : w2.cell? ⟨w.heap.size + 1, 7, none⟩ = some (.int .i64 0) := bk0.ints (f := fun _ => 0) (by omega)
  have j8 : w2.cell? ⟨w.heap.size + 1, 8, none⟩ = some (.int .i64 0) := bk0.ints (f := fun _ => 0) (by omega)
  have j9 : w2.cell? ⟨w.heap.size + 1, 9, none⟩ = some (.int .i64 0) := bk0.ints (f := fun _ => 0) (by omega)
  have j10 : w2.cell? ⟨w.heap.size + 1, 10, none⟩ = some (.int .i64 0) := bk0.ints (f := fun _ => 0) (by omega)
  have j11 : w2.cell? ⟨w.heap.size + 1, 11, none⟩ = some (.int .i64 0) := bk0.ints (f := fun _ => 0) (by omega)
  have u0 := bk0.frozen 0
  have u1 := bk0.frozen 1
  have u2 := bk0.frozen 2
  have u3 := bk0.frozen 3
  have u4 := bk0.frozen 4
  have u5 := bk0.frozen 5
  have u6 := bk0.frozen 6
  have u7 := bk0.frozen 7
  have u8 := bk0.frozen 8
  have u9 := bk0.frozen 9
  have u10 := bk0.frozen 10
  have u11 := bk0.frozen 11
  go_wp2_with fail
  refine bodyPost_ret (v := .tuple #[.agg (arr12 (F)), .int .i64 0]) (by simp [results, Try.results44, go_sem, arr12, *]) rfl ⟨rfl, ?_⟩
  repeat' (first | with_reducible assumption | with_reducible exact Below.refl _ _ | (with_reducible refine Below.setCell ?_ ?_ _) | (with_reducible refine Below.alloc ?_ ?_ _) | (with_reducible refine Below.drew ?_) | (with_reducible refine below_dr ?_ _) | (with_reducible refine Below.trans ?_ (Below.mono (by with_reducible assumption) ?_)) | omega | (simp; done) | (simp; omega))
end Go.Proofs.Ytcjjmkkphbeoeaa
