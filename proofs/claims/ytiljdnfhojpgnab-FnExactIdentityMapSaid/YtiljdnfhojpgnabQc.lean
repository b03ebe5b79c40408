/- The walks of the laws on IdentityMap and QuarterMap: they return true. -/
import Derived.Test.YtiljdnfhojpgnabQa
import Derived.Test.YtiljdnfhojpgnabQb
import Derived.Test.YtiljdnfhojpgnabAu
namespace Go.Proofs.Ytiljdnfhojpgnab
open Go.RowKit
set_option maxHeartbeats 3200000 in
theorem walk_IdentityMap (w : World) :
    Calls Try.prog 4 #[] w fun e w' => e = .returned (.bool true) ∧ Below w.heap.size w w' := by
  have C1 := Lib.hid (fun w => specId_any w)
  have C2 := Lib.hid (fun w => implId_any w)
  go_enter Try.func4, Try.ntmps4
  go_wp2_with fail
  refine (C1.out _).mono ?_
  rintro e w1 ⟨rfl, hbw1⟩
  have z1 := hbw1.size
  go_wp2_with fail
  refine (C2.out _).mono ?_
  rintro e w2 ⟨rfl, hbw2⟩
  have z2 := hbw2.size
  simp only [World.size_alloc] at z2
  have gg : Below w1.heap.size w1 w2 := (by repeat' (first | with_reducible assumption | with_reducible exact Below.refl _ _ | (with_reducible refine Below.setCell ?_ ?_ _) | (with_reducible refine Below.alloc ?_ ?_ _) | (with_reducible refine Below.drew ?_) | (with_reducible refine below_dr ?_ _) | (with_reducible refine Below.trans ?_ (Below.mono (by with_reducible assumption) ?_)) | omega | (simp; done) | (simp; omega)))
  obtain ⟨hcw2, hfw2⟩ := bcell hbw2
  have hzw2 := hbw2.size
  (try simp only [World.size_alloc] at hcw2 hfw2 hzw2)
  have s1 : w2.cell? ⟨w1.heap.size, 0, none⟩ = some (.int .i64 1) := (hcw2 _ _ (by omega)).trans (by first | assumption | simp [go_sem])
  have s2 : w2.cell? ⟨w1.heap.size, 1, none⟩ = some (.int .i64 1) := (hcw2 _ _ (by omega)).trans (by first | assumption | simp [go_sem])
  have s3 : w2.cell? ⟨w1.heap.size, 2, none⟩ = some (.int .i64 0) := (hcw2 _ _ (by omega)).trans (by first | assumption | simp [go_sem])
  have s4 : w2.cell? ⟨w1.heap.size, 3, none⟩ = some (.int .i64 1) := (hcw2 _ _ (by omega)).trans (by first | assumption | simp [go_sem])
  have s5 : w2.cell? ⟨w1.heap.size, 4, none⟩ = some (.int .i64 0) := (hcw2 _ _ (by omega)).trans (by first | assumption | simp [go_sem])
  have s6 : w2.cell? ⟨w1.heap.size, 5, none⟩ = some (.int .i64 1) := (hcw2 _ _ (by omega)).trans (by first | assumption | simp [go_sem])
  have s7 : w2.cell? ⟨w1.heap.size, 6, none⟩ = some (.int .i64 1) := (hcw2 _ _ (by omega)).trans (by first | assumption | simp [go_sem])
  have s8 : w2.cell? ⟨w1.heap.size, 7, none⟩ = some (.int .i64 1) := (hcw2 _ _ (by omega)).trans (by first | assumption | simp [go_sem])
  have s9 : w2.cell? ⟨w1.heap.size, 8, none⟩ = some (.int .i64 0) := (hcw2 _ _ (by omega)).trans (by first | assumption | simp [go_sem])
  have s10 : w2.cell? ⟨w1.heap.size, 9, none⟩ = some (.int .i64 1) := (hcw2 _ _ (by omega)).trans (by first | assumption | simp [go_sem])
  have s11 : w2.cell? ⟨w1.heap.size, 10, none⟩ = some (.int .i64 0) := (hcw2 _ _ (by omega)).trans (by first | assumption | simp [go_sem])
  have s12 : w2.cell? ⟨w1.heap.size, 11, none⟩ = some (.int .i64 1) := (hcw2 _ _ (by omega)).trans (by first | assumption | simp [go_sem])
  have sz : w1.heap.size < w2.heap.size := (by omega)
  clear hcw2 hfw2 hzw2
  go_wp2_with fail
  refine (eqAffine_same _ _ _ _ _ _ _ _ _ _ _ _ _).mono ?_
  rintro e w3 ⟨rfl, hbw3⟩
  go_wp2
  go_ret
  exact ⟨rfl, by repeat' (first | with_reducible assumption | with_reducible exact Below.refl _ _ | (with_reducible refine Below.setCell ?_ ?_ _) | (with_reducible refine Below.alloc ?_ ?_ _) | (with_reducible refine Below.drew ?_) | (with_reducible refine below_dr ?_ _) | (with_reducible refine Below.trans ?_ (Below.mono (by with_reducible assumption) ?_)) | omega | (simp; done) | (simp; omega))⟩
set_option maxHeartbeats 3200000 in
theorem walk_QuarterMap (k : Int) (_wk : (Lit.int .i64 k).wf = true) (w : World) :
    Calls Try.prog 8 #[.int .i64 k] w fun e w' => e = .returned (.bool true) ∧ Below w.heap.size w w' := by
  have C1 := Lib.hid (fun w => specQuarter_any k w)
  have C2 := Lib.hid (fun w => implQuarter_any k w)
  unfold QuarterRet at C1 C2
  generalize -(sinI k) = n at C1 C2
  generalize sinI k = s at C1 C2
  generalize cosI k = c at C1 C2
  go_enter Try.func8, Try.ntmps8
  go_wp2_with fail
  refine (C1.out _).mono ?_
  rintro e w1 ⟨rfl, hbw1⟩
  have z1 := hbw1.size
  go_wp2_with fail
  refine (C2.out _).mono ?_
  rintro e w2 ⟨rfl, hbw2⟩
  have z2 := hbw2.size
  simp only [World.size_alloc] at z2
  have gg : Below w1.heap.size w1 w2 := (by repeat' (first | with_reducible assumption | with_reducible exact Below.refl _ _ | (with_reducible refine Below.setCell ?_ ?_ _) | (with_reducible refine Below.alloc ?_ ?_ _) | (with_reducible refine Below.drew ?_) | (with_reducible refine below_dr ?_ _) | (with_reducible refine Below.trans ?_ (Below.mono (by with_reducible assumption) ?_)) | omega | (simp; done) | (simp; omega)))
  obtain ⟨hcw2, hfw2⟩ := bcell hbw2
  have hzw2 := hbw2.size
  (try simp only [World.size_alloc] at hcw2 hfw2 hzw2)
  have s1 : w2.cell? ⟨w1.heap.size, 0, none⟩ = some (.int .i64 c) := (hcw2 _ _ (by omega)).trans (by first | assumption | simp [go_sem])
  have s2 : w2.cell? ⟨w1.heap.size, 1, none⟩ = some (.int .i64 1) := (hcw2 _ _ (by omega)).trans (by first | assumption | simp [go_sem])
  have s3 : w2.cell? ⟨w1.heap.size, 2, none⟩ = some (.int .i64 n) := (hcw2 _ _ (by omega)).trans (by first | assumption | simp [go_sem])
  have s4 : w2.cell? ⟨w1.heap.size, 3, none⟩ = some (.int .i64 1) := (hcw2 _ _ (by omega)).trans (by first | assumption | simp [go_sem])
  have s5 : w2.cell? ⟨w1.heap.size, 4, none⟩ = some (.int .i64 s) := (hcw2 _ _ (by omega)).trans (by first | assumption | simp [go_sem])
  have s6 : w2.cell? ⟨w1.heap.size, 5, none⟩ = some (.int .i64 1) := (hcw2 _ _ (by omega)).trans (by first | assumption | simp [go_sem])
  have s7 : w2.cell? ⟨w1.heap.size, 6, none⟩ = some (.int .i64 c) := (hcw2 _ _ (by omega)).trans (by first | assumption | simp [go_sem])
  have s8 : w2.cell? ⟨w1.heap.size, 7, none⟩ = some (.int .i64 1) := (hcw2 _ _ (by omega)).trans (by first | assumption | simp [go_sem])
  have s9 : w2.cell? ⟨w1.heap.size, 8, none⟩ = some (.int .i64 0) := (hcw2 _ _ (by omega)).trans (by first | assumption | simp [go_sem])
  have s10 : w2.cell? ⟨w1.heap.size, 9, none⟩ = some (.int .i64 1) := (hcw2 _ _ (by omega)).trans (by first | assumption | simp [go_sem])
  have s11 : w2.cell? ⟨w1.heap.size, 10, none⟩ = some (.int .i64 0) := (hcw2 _ _ (by omega)).trans (by first | assumption | simp [go_sem])
  have s12 : w2.cell? ⟨w1.heap.size, 11, none⟩ = some (.int .i64 1) := (hcw2 _ _ (by omega)).trans (by first | assumption | simp [go_sem])
  have sz : w1.heap.size < w2.heap.size := (by omega)
  clear hcw2 hfw2 hzw2
  go_wp2_with fail
  refine (eqAffine_same _ _ _ _ _ _ _ _ _ _ _ _ _).mono ?_
  rintro e w3 ⟨rfl, hbw3⟩
  go_wp2
  go_ret
  exact ⟨rfl, by repeat' (first | with_reducible assumption | with_reducible exact Below.refl _ _ | (with_reducible refine Below.setCell ?_ ?_ _) | (with_reducible refine Below.alloc ?_ ?_ _) | (with_reducible refine Below.drew ?_) | (with_reducible refine below_dr ?_ _) | (with_reducible refine Below.trans ?_ (Below.mono (by with_reducible assumption) ?_)) | omega | (simp; done) | (simp; omega))⟩
end Go.Proofs.Ytiljdnfhojpgnab
