/- Walks: rounding by a state, each state; RoundTo, both sides; the law. -/
import Derived.Test.YtdikenapnncmfaaDoorTsc
namespace Go.Proofs.YtdikenapnncmfaaDoor
open Go.RowKit
set_option linter.unusedVariables false
/-- A number of parts that is rounded. -/
def ptI (v : Int) : Prop := -1099511627776 ≤ v ∧ v ≤ 1099511627776
instance {v : Int} : Decidable (ptI v) := by unfold ptI; infer_instance
def rdI (v s : Int) : Int := if s = 1 then dnI (v + 32) 64 else if s = 2 then dnI v 64 + 32 else if s = 3 then dnI (v + 16) 32 else if s = 4 then dnI v 64 else if s = 5 then dnI (v + 63) 64 else v
def rtI (v s : Int) : Int := if ptI v then rdI v s else v
theorem dn64_in {v : Int} : v - 63 ≤ dnI v 64 ∧ dnI v 64 ≤ v := by unfold dnI; omega
theorem dn32_in {v : Int} : v - 31 ≤ dnI v 32 ∧ dnI v 32 ≤ v := by unfold dnI; omega
theorem up_neg {v : Int} : -dnI (-v) 64 = dnI (v + 63) 64 := by unfold dnI; omega
theorem rd_in {v s : Int} (h : ptI v) : -1099511627900 ≤ rdI v s ∧ rdI v s ≤ 1099511627900 := by
  unfold ptI at h
  unfold rdI
  have a1 := dn64_in (v := v + 32); have a2 := dn64_in (v := v); have a3 := dn32_in (v := v + 16); have a4 := dn64_in (v := v + 63)
  repeat' split
  all_goals omega
set_option maxHeartbeats 800000 in
theorem downTo_64 (v : Int) (w : World) (hv : -2199023255552 ≤ v ∧ v ≤ 2199023255552) :
    Calls Tryd.prog 67 #[.int .i64 v, .int .i64 64] w fun e w' => e = .returned (.int .i64 (dnI v 64)) ∧ Below w.heap.size w w' := by
  have hb := andNot63 (v := v) (by omega)
  go_enter Tryd.func67, Tryd.ntmps67
  go_wp2
  go_ret
  exact ⟨rfl, by repeat' (first | assumption | exact Below.refl _ _ | (refine Below.setCell ?_ ?_ _) | (refine Below.alloc ?_ ?_ _) | (refine below_dr ?_ _) | exact Nat.le_refl _ | (simp; done) | (simp; omega))⟩
set_option maxHeartbeats 800000 in
theorem downTo_32 (v : Int) (w : World) (hv : -2199023255552 ≤ v ∧ v ≤ 2199023255552) :
    Calls Tryd.prog 67 #[.int .i64 v, .int .i64 32] w fun e w' => e = .returned (.int .i64 (dnI v 32)) ∧ Below w.heap.size w w' := by
  have hb := andNot31 (v := v) (by omega)
  go_enter Tryd.func67, Tryd.ntmps67
  go_wp2
  go_ret
  exact ⟨rfl, by repeat' (first | assumption | exact Below.refl _ _ | (refine Below.setCell ?_ ?_ _) | (refine Below.alloc ?_ ?_ _) | (refine below_dr ?_ _) | exact Nat.le_refl _ | (simp; done) | (simp; omega))⟩
set_option maxHeartbeats 800000 in
theorem unrounded_any (v : Int) (w : World) (hv : -1099511627776 - 63 ≤ v ∧ v ≤ 1099511627776 + 63) :
    Calls Tryd.prog 45 #[.int .i64 v] w fun e w' => e = .returned (.int .i64 (v)) ∧ Below w.heap.size w w' := by
  go_enter Tryd.func45, Tryd.ntmps45
  go_wp2
  go_ret
  exact ⟨rfl, by repeat' (first | assumption | exact Below.refl _ _ | (refine Below.setCell ?_ ?_ _) | (refine Below.alloc ?_ ?_ _) | (refine below_dr ?_ _) | exact Nat.le_refl _ | (simp; done) | (simp; omega))⟩
set_option maxHeartbeats 800000 in
theorem toDown_any (v : Int) (w : World) (hv : -2199023255552 ≤ v ∧ v ≤ 2199023255552) :
    Calls Tryd.prog 49 #[.int .i64 v] w fun e w' => e = .returned (.int .i64 (dnI v 64)) ∧ Below w.heap.size w w' := by
  have C := Lib.hid (fun w => downTo_64 (v) w (by omega))
  have a1 := dn64_in (v := v); have a2 := dn32_in (v := v)
  generalize dnI v 64 = r at *
  go_enter Tryd.func49, Tryd.ntmps49
  go_wp2_with (go_at_call 67; (with_reducible refine (C.out _).mono ?_); rintro e w1 ⟨rfl, hb1⟩)
  go_ret
  exact ⟨rfl, by repeat' (first | with_reducible assumption | with_reducible exact Below.refl _ _ | (with_reducible refine Below.setCell ?_ ?_ _) | (with_reducible refine Below.alloc ?_ ?_ _) | (with_reducible refine Below.drew ?_) | (with_reducible refine below_dr ?_ _) | (with_reducible refine Below.trans ?_ (Below.mono (by with_reducible assumption) ?_)) | omega | (simp; done) | (simp; omega))⟩
set_option maxHeartbeats 800000 in
theorem toGrid_any (v : Int) (w : World) (hv : -1099511627776 - 63 ≤ v ∧ v ≤ 1099511627776 + 63) :
    Calls Tryd.prog 46 #[.int .i64 v] w fun e w' => e = .returned (.int .i64 (dnI (v + 32) 64)) ∧ Below w.heap.size w w' := by
  have C := Lib.hid (fun w => toDown_any (v + 32) w (by omega))
  have a1 := dn64_in (v := v + 32); have a2 := dn32_in (v := v + 32)
  have hw := i64m (n := v + 32) (by omega)
  generalize dnI (v + 32) 64 = r at *
  go_enter Tryd.func46, Tryd.ntmps46
  go_wp2_with (go_at_call 49; (with_reducible refine (C.out _).mono ?_); rintro e w1 ⟨rfl, hb1⟩)
  go_ret
  exact ⟨rfl, by repeat' (first | with_reducible assumption | with_reducible exact Below.refl _ _ | (with_reducible refine Below.setCell ?_ ?_ _) | (with_reducible refine Below.alloc ?_ ?_ _) | (with_reducible refine Below.drew ?_) | (with_reducible refine below_dr ?_ _) | (with_reducible refine Below.trans ?_ (Below.mono (by with_reducible assumption) ?_)) | omega | (simp; done) | (simp; omega))⟩
set_option maxHeartbeats 800000 in
theorem toHalf_any (v : Int) (w : World) (hv : -1099511627776 - 63 ≤ v ∧ v ≤ 1099511627776 + 63) :
    Calls Tryd.prog 47 #[.int .i64 v] w fun e w' => e = .returned (.int .i64 (dnI v 64 + 32)) ∧ Below w.heap.size w w' := by
  have C := Lib.hid (fun w => toDown_any (v) w (by omega))
  have a1 := dn64_in (v := v); have a2 := dn32_in (v := v)
  have hw := i64m (n := dnI v 64 + 32) (by omega)
  generalize dnI v 64 = r at *
  go_enter Tryd.func47, Tryd.ntmps47
  go_wp2_with (go_at_call 49; (with_reducible refine (C.out _).mono ?_); rintro e w1 ⟨rfl, hb1⟩)
  go_ret
  exact ⟨rfl, by repeat' (first | with_reducible assumption | with_reducible exact Below.refl _ _ | (with_reducible refine Below.setCell ?_ ?_ _) | (with_reducible refine Below.alloc ?_ ?_ _) | (with_reducible refine Below.drew ?_) | (with_reducible refine below_dr ?_ _) | (with_reducible refine Below.trans ?_ (Below.mono (by with_reducible assumption) ?_)) | omega | (simp; done) | (simp; omega))⟩
set_option maxHeartbeats 800000 in
theorem toDouble_any (v : Int) (w : World) (hv : -1099511627776 - 63 ≤ v ∧ v ≤ 1099511627776 + 63) :
    Calls Tryd.prog 48 #[.int .i64 v] w fun e w' => e = .returned (.int .i64 (dnI (v + 16) 32)) ∧ Below w.heap.size w w' := by
  have C := Lib.hid (fun w => downTo_32 (v + 16) w (by omega))
  have a1 := dn64_in (v := v + 16); have a2 := dn32_in (v := v + 16)
  have hw := i64m (n := v + 16) (by omega)
  generalize dnI (v + 16) 32 = r at *
  go_enter Tryd.func48, Tryd.ntmps48
  go_wp2_with (go_at_call 67; (with_reducible refine (C.out _).mono ?_); rintro e w1 ⟨rfl, hb1⟩)
  go_ret
  exact ⟨rfl, by repeat' (first | with_reducible assumption | with_reducible exact Below.refl _ _ | (with_reducible refine Below.setCell ?_ ?_ _) | (with_reducible refine Below.alloc ?_ ?_ _) | (with_reducible refine Below.drew ?_) | (with_reducible refine below_dr ?_ _) | (with_reducible refine Below.trans ?_ (Below.mono (by with_reducible assumption) ?_)) | omega | (simp; done) | (simp; omega))⟩
set_option maxHeartbeats 800000 in
theorem toUp_any (v : Int) (w : World) (hv : -1099511627776 - 63 ≤ v ∧ v ≤ 1099511627776 + 63) :
    Calls Tryd.prog 50 #[.int .i64 v] w fun e w' => e = .returned (.int .i64 (dnI (v + 63) 64)) ∧ Below w.heap.size w w' := by
  have C := Lib.hid (fun w => toDown_any (-v) w (by omega))
  have a1 := dn64_in (v := -v); have a2 := dn32_in (v := -v)
  rw [← up_neg]
  have hw := i64m (n := -v) (by omega)
  have hw2 := i64m (n := -dnI (-v) 64) (by omega)
  generalize dnI (-v) 64 = r at *
  go_enter Tryd.func50, Tryd.ntmps50
  go_wp2_with (go_at_call 49; (with_reducible refine (C.out _).mono ?_); rintro e w1 ⟨rfl, hb1⟩)
  go_ret
  exact ⟨rfl, by repeat' (first | with_reducible assumption | with_reducible exact Below.refl _ _ | (with_reducible refine Below.setCell ?_ ?_ _) | (with_reducible refine Below.alloc ?_ ?_ _) | (with_reducible refine Below.drew ?_) | (with_reducible refine below_dr ?_ _) | (with_reducible refine Below.trans ?_ (Below.mono (by with_reducible assumption) ?_)) | omega | (simp; done) | (simp; omega))⟩
end Go.Proofs.YtdikenapnncmfaaDoor
