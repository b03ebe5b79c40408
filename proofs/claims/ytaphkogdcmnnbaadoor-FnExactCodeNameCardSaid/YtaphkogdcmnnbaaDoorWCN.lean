/- Walks: CodeName on both sides, and its law. -/
import Derived.Test.YtaphkogdcmnnbaaDoorProg
import Derived.WalkKit
import Derived.WalkSpells
import Derived.WalkLawsBesides
import Derived.Below
import Derived.Lib.Hide
namespace Go.Proofs.YtaphkogdcmnnbaaDoor
open Go.RowKit


set_option maxHeartbeats 800000 in
theorem specName_out (n : Int) (w : World) (h : n < 0 ∨ 11 < n) :
    Calls Tryd.prog 6 #[.int .i64 n] w fun e w' => e = .returned (.string ⟨#[]⟩) ∧ Below w.heap.size w w' := by
  by_cases c : n < 0
  · clear h
    have c2 : decide (0 ≤ n) = false := by simp; omega
    go_enter Tryd.func6, Tryd.ntmps6
    go_wp2
    go_ret
    exact ⟨rfl, by repeat' (first | exact Below.refl _ _ | (refine Below.setCell ?_ ?_ _) | (refine Below.alloc ?_ ?_ _) | exact Nat.le_refl _ | (simp; done) | (simp; omega))⟩
  · have c1 : 11 < n := by omega
    have c2 : 0 ≤ n := by omega
    have c3 : decide (n ≤ 11) = false := by simp; omega
    clear h c
    go_enter Tryd.func6, Tryd.ntmps6
    go_wp2
    go_ret
    exact ⟨rfl, by repeat' (first | exact Below.refl _ _ | (refine Below.setCell ?_ ?_ _) | (refine Below.alloc ?_ ?_ _) | exact Nat.le_refl _ | (simp; done) | (simp; omega))⟩
set_option maxHeartbeats 800000 in
theorem implName_out (n : Int) (w : World) (h : n < 0 ∨ 11 < n) :
    Calls Tryd.prog 7 #[.int .i64 n] w fun e w' => e = .returned (.string ⟨#[]⟩) ∧ Below w.heap.size w w' := by
  by_cases c : n < 0
  · clear h
    go_enter Tryd.func7, Tryd.ntmps7
    go_wp2
    go_ret
    exact ⟨rfl, Below.refl _ _⟩
  · have c1 : 12 ≤ n := by omega
    have c2 : 0 ≤ n := by omega
    clear h c
    go_enter Tryd.func7, Tryd.ntmps7
    go_wp2
    go_ret
    exact ⟨rfl, Below.refl _ _⟩


set_option maxHeartbeats 800000 in
theorem specName_0 (w : World) :
    Calls Tryd.prog 6 #[.int .i64 0] w fun e w' => e = .returned (.string ⟨#[111, 107]⟩) ∧ Below w.heap.size w w' := by
  go_enter Tryd.func6, Tryd.ntmps6
  go_wp2
  go_ret
  exact ⟨rfl, by repeat' (first | exact Below.refl _ _ | (refine Below.setCell ?_ ?_ _) | (refine Below.alloc ?_ ?_ _) | exact Nat.le_refl _ | (simp; done) | (simp; omega))⟩
set_option maxHeartbeats 800000 in
theorem implName_0 (w : World) (hc : w.cell? ⟨0, 0, none⟩ = some (.string ⟨#[111, 107]⟩)) :
    Calls Tryd.prog 7 #[.int .i64 0] w fun e w' => e = .returned (.string ⟨#[111, 107]⟩) ∧ Below w.heap.size w w' := by
  go_enter Tryd.func7, Tryd.ntmps7
  go_wp2
  go_ret
  exact ⟨rfl, Below.refl _ _⟩


set_option maxHeartbeats 800000 in
theorem specName_1 (w : World) :
    Calls Tryd.prog 6 #[.int .i64 1] w fun e w' => e = .returned (.string ⟨#[105, 110, 118, 97, 108, 105, 100]⟩) ∧ Below w.heap.size w w' := by
  go_enter Tryd.func6, Tryd.ntmps6
  go_wp2
  go_ret
  exact ⟨rfl, by repeat' (first | exact Below.refl _ _ | (refine Below.setCell ?_ ?_ _) | (refine Below.alloc ?_ ?_ _) | exact Nat.le_refl _ | (simp; done) | (simp; omega))⟩
set_option maxHeartbeats 800000 in
theorem implName_1 (w : World) (hc : w.cell? ⟨0, 1, none⟩ = some (.string ⟨#[105, 110, 118, 97, 108, 105, 100]⟩)) :
    Calls Tryd.prog 7 #[.int .i64 1] w fun e w' => e = .returned (.string ⟨#[105, 110, 118, 97, 108, 105, 100]⟩) ∧ Below w.heap.size w w' := by
  go_enter Tryd.func7, Tryd.ntmps7
  go_wp2
  go_ret
  exact ⟨rfl, Below.refl _ _⟩


set_option maxHeartbeats 800000 in
theorem specName_2 (w : World) :
    Calls Tryd.prog 6 #[.int .i64 2] w fun e w' => e = .returned (.string ⟨#[114, 97, 110, 103, 101]⟩) ∧ Below w.heap.size w w' := by
  go_enter Tryd.func6, Tryd.ntmps6
  go_wp2
  go_ret
  exact ⟨rfl, by repeat' (first | exact Below.refl _ _ | (refine Below.setCell ?_ ?_ _) | (refine Below.alloc ?_ ?_ _) | exact Nat.le_refl _ | (simp; done) | (simp; omega))⟩
set_option maxHeartbeats 800000 in
theorem implName_2 (w : World) (hc : w.cell? ⟨0, 2, none⟩ = some (.string ⟨#[114, 97, 110, 103, 101]⟩)) :
    Calls Tryd.prog 7 #[.int .i64 2] w fun e w' => e = .returned (.string ⟨#[114, 97, 110, 103, 101]⟩) ∧ Below w.heap.size w w' := by
  go_enter Tryd.func7, Tryd.ntmps7
  go_wp2
  go_ret
  exact ⟨rfl, Below.refl _ _⟩


set_option maxHeartbeats 800000 in
theorem specName_3 (w : World) :
    Calls Tryd.prog 6 #[.int .i64 3] w fun e w' => e = .returned (.string ⟨#[110, 111, 116, 45, 102, 111, 117, 110, 100]⟩) ∧ Below w.heap.size w w' := by
  go_enter Tryd.func6, Tryd.ntmps6
  go_wp2
  go_ret
  exact ⟨rfl, by repeat' (first | exact Below.refl _ _ | (refine Below.setCell ?_ ?_ _) | (refine Below.alloc ?_ ?_ _) | exact Nat.le_refl _ | (simp; done) | (simp; omega))⟩
set_option maxHeartbeats 800000 in
theorem implName_3 (w : World) (hc : w.cell? ⟨0, 3, none⟩ = some (.string ⟨#[110, 111, 116, 45, 102, 111, 117, 110, 100]⟩)) :
    Calls Tryd.prog 7 #[.int .i64 3] w fun e w' => e = .returned (.string ⟨#[110, 111, 116, 45, 102, 111, 117, 110, 100]⟩) ∧ Below w.heap.size w w' := by
  go_enter Tryd.func7, Tryd.ntmps7
  go_wp2
  go_ret
  exact ⟨rfl, Below.refl _ _⟩


set_option maxHeartbeats 800000 in
theorem specName_4 (w : World) :
    Calls Tryd.prog 6 #[.int .i64 4] w fun e w' => e = .returned (.string ⟨#[101, 120, 105, 115, 116, 115]⟩) ∧ Below w.heap.size w w' := by
  go_enter Tryd.func6, Tryd.ntmps6
  go_wp2
  go_ret
  exact ⟨rfl, by repeat' (first | exact Below.refl _ _ | (refine Below.setCell ?_ ?_ _) | (refine Below.alloc ?_ ?_ _) | exact Nat.le_refl _ | (simp; done) | (simp; omega))⟩
set_option maxHeartbeats 800000 in
theorem implName_4 (w : World) (hc : w.cell? ⟨0, 4, none⟩ = some (.string ⟨#[101, 120, 105, 115, 116, 115]⟩)) :
    Calls Tryd.prog 7 #[.int .i64 4] w fun e w' => e = .returned (.string ⟨#[101, 120, 105, 115, 116, 115]⟩) ∧ Below w.heap.size w w' := by
  go_enter Tryd.func7, Tryd.ntmps7
  go_wp2
  go_ret
  exact ⟨rfl, Below.refl _ _⟩


set_option maxHeartbeats 800000 in
theorem specName_5 (w : World) :
    Calls Tryd.prog 6 #[.int .i64 5] w fun e w' => e = .returned (.string ⟨#[102, 117, 108, 108]⟩) ∧ Below w.heap.size w w' := by
  go_enter Tryd.func6, Tryd.ntmps6
  go_wp2
  go_ret
  exact ⟨rfl, by repeat' (first | exact Below.refl _ _ | (refine Below.setCell ?_ ?_ _) | (refine Below.alloc ?_ ?_ _) | exact Nat.le_refl _ | (simp; done) | (simp; omega))⟩
set_option maxHeartbeats 800000 in
theorem implName_5 (w : World) (hc : w.cell? ⟨0, 5, none⟩ = some (.string ⟨#[102, 117, 108, 108]⟩)) :
    Calls Tryd.prog 7 #[.int .i64 5] w fun e w' => e = .returned (.string ⟨#[102, 117, 108, 108]⟩) ∧ Below w.heap.size w w' := by
  go_enter Tryd.func7, Tryd.ntmps7
  go_wp2
  go_ret
  exact ⟨rfl, Below.refl _ _⟩


set_option maxHeartbeats 800000 in
theorem specName_6 (w : World) :
    Calls Tryd.prog 6 #[.int .i64 6] w fun e w' => e = .returned (.string ⟨#[115, 116, 97, 116, 101]⟩) ∧ Below w.heap.size w w' := by
  go_enter Tryd.func6, Tryd.ntmps6
  go_wp2
  go_ret
  exact ⟨rfl, by repeat' (first | exact Below.refl _ _ | (refine Below.setCell ?_ ?_ _) | (refine Below.alloc ?_ ?_ _) | exact Nat.le_refl _ | (simp; done) | (simp; omega))⟩
set_option maxHeartbeats 800000 in
theorem implName_6 (w : World) (hc : w.cell? ⟨0, 6, none⟩ = some (.string ⟨#[115, 116, 97, 116, 101]⟩)) :
    Calls Tryd.prog 7 #[.int .i64 6] w fun e w' => e = .returned (.string ⟨#[115, 116, 97, 116, 101]⟩) ∧ Below w.heap.size w w' := by
  go_enter Tryd.func7, Tryd.ntmps7
  go_wp2
  go_ret
  exact ⟨rfl, Below.refl _ _⟩


set_option maxHeartbeats 800000 in
theorem specName_7 (w : World) :
    Calls Tryd.prog 6 #[.int .i64 7] w fun e w' => e = .returned (.string ⟨#[115, 121, 110, 116, 97, 120]⟩) ∧ Below w.heap.size w w' := by
  go_enter Tryd.func6, Tryd.ntmps6
  go_wp2
  go_ret
  exact ⟨rfl, by repeat' (first | exact Below.refl _ _ | (refine Below.setCell ?_ ?_ _) | (refine Below.alloc ?_ ?_ _) | exact Nat.le_refl _ | (simp; done) | (simp; omega))⟩
set_option maxHeartbeats 800000 in
theorem implName_7 (w : World) (hc : w.cell? ⟨0, 7, none⟩ = some (.string ⟨#[115, 121, 110, 116, 97, 120]⟩)) :
    Calls Tryd.prog 7 #[.int .i64 7] w fun e w' => e = .returned (.string ⟨#[115, 121, 110, 116, 97, 120]⟩) ∧ Below w.heap.size w w' := by
  go_enter Tryd.func7, Tryd.ntmps7
  go_wp2
  go_ret
  exact ⟨rfl, Below.refl _ _⟩


set_option maxHeartbeats 800000 in
theorem specName_8 (w : World) :
    Calls Tryd.prog 6 #[.int .i64 8] w fun e w' => e = .returned (.string ⟨#[108, 111, 111, 112]⟩) ∧ Below w.heap.size w w' := by
  go_enter Tryd.func6, Tryd.ntmps6
  go_wp2
  go_ret
  exact ⟨rfl, by repeat' (first | exact Below.refl _ _ | (refine Below.setCell ?_ ?_ _) | (refine Below.alloc ?_ ?_ _) | exact Nat.le_refl _ | (simp; done) | (simp; omega))⟩
set_option maxHeartbeats 800000 in
theorem implName_8 (w : World) (hc : w.cell? ⟨0, 8, none⟩ = some (.string ⟨#[108, 111, 111, 112]⟩)) :
    Calls Tryd.prog 7 #[.int .i64 8] w fun e w' => e = .returned (.string ⟨#[108, 111, 111, 112]⟩) ∧ Below w.heap.size w w' := by
  go_enter Tryd.func7, Tryd.ntmps7
  go_wp2
  go_ret
  exact ⟨rfl, Below.refl _ _⟩


set_option maxHeartbeats 800000 in
theorem specName_9 (w : World) :
    Calls Tryd.prog 6 #[.int .i64 9] w fun e w' => e = .returned (.string ⟨#[102, 111, 114, 109, 97, 116]⟩) ∧ Below w.heap.size w w' := by
  go_enter Tryd.func6, Tryd.ntmps6
  go_wp2
  go_ret
  exact ⟨rfl, by repeat' (first | exact Below.refl _ _ | (refine Below.setCell ?_ ?_ _) | (refine Below.alloc ?_ ?_ _) | exact Nat.le_refl _ | (simp; done) | (simp; omega))⟩
set_option maxHeartbeats 800000 in
theorem implName_9 (w : World) (hc : w.cell? ⟨0, 9, none⟩ = some (.string ⟨#[102, 111, 114, 109, 97, 116]⟩)) :
    Calls Tryd.prog 7 #[.int .i64 9] w fun e w' => e = .returned (.string ⟨#[102, 111, 114, 109, 97, 116]⟩) ∧ Below w.heap.size w w' := by
  go_enter Tryd.func7, Tryd.ntmps7
  go_wp2
  go_ret
  exact ⟨rfl, Below.refl _ _⟩


set_option maxHeartbeats 800000 in
theorem specName_10 (w : World) :
    Calls Tryd.prog 6 #[.int .i64 10] w fun e w' => e = .returned (.string ⟨#[99, 104, 101, 99, 107, 115, 117, 109]⟩) ∧ Below w.heap.size w w' := by
  go_enter Tryd.func6, Tryd.ntmps6
  go_wp2
  go_ret
  exact ⟨rfl, by repeat' (first | exact Below.refl _ _ | (refine Below.setCell ?_ ?_ _) | (refine Below.alloc ?_ ?_ _) | exact Nat.le_refl _ | (simp; done) | (simp; omega))⟩
set_option maxHeartbeats 800000 in
theorem implName_10 (w : World) (hc : w.cell? ⟨0, 10, none⟩ = some (.string ⟨#[99, 104, 101, 99, 107, 115, 117, 109]⟩)) :
    Calls Tryd.prog 7 #[.int .i64 10] w fun e w' => e = .returned (.string ⟨#[99, 104, 101, 99, 107, 115, 117, 109]⟩) ∧ Below w.heap.size w w' := by
  go_enter Tryd.func7, Tryd.ntmps7
  go_wp2
  go_ret
  exact ⟨rfl, Below.refl _ _⟩


set_option maxHeartbeats 800000 in
theorem specName_11 (w : World) :
    Calls Tryd.prog 6 #[.int .i64 11] w fun e w' => e = .returned (.string ⟨#[116, 114, 117, 110, 99, 97, 116, 101, 100]⟩) ∧ Below w.heap.size w w' := by
  go_enter Tryd.func6, Tryd.ntmps6
  go_wp2
  go_ret
  exact ⟨rfl, by repeat' (first | exact Below.refl _ _ | (refine Below.setCell ?_ ?_ _) | (refine Below.alloc ?_ ?_ _) | exact Nat.le_refl _ | (simp; done) | (simp; omega))⟩
set_option maxHeartbeats 800000 in
theorem implName_11 (w : World) (hc : w.cell? ⟨0, 11, none⟩ = some (.string ⟨#[116, 114, 117, 110, 99, 97, 116, 101, 100]⟩)) :
    Calls Tryd.prog 7 #[.int .i64 11] w fun e w' => e = .returned (.string ⟨#[116, 114, 117, 110, 99, 97, 116, 101, 100]⟩) ∧ Below w.heap.size w w' := by
  go_enter Tryd.func7, Tryd.ntmps7
  go_wp2
  go_ret
  exact ⟨rfl, Below.refl _ _⟩


set_option maxHeartbeats 800000 in
theorem law_name (n : Int) (v : ByteArray) (w : World) (c1 : Calls Tryd.prog 6 #[.int .i64 n] w fun e w' => e = .returned (.string v) ∧ Below w.heap.size w w')
    (c2 : ∀ w1, Below w.heap.size w w1 → Calls Tryd.prog 7 #[.int .i64 n] w1 fun e w' => e = .returned (.string v) ∧ Below w1.heap.size w1 w') :
    Calls Tryd.prog 3 #[.int .i64 n] w fun e w' => e = .returned (.bool true) ∧ Below w.heap.size w w' := by
  have C1 := Lib.hid c1
  have C2 := Lib.hid c2
  clear c1 c2
  have e1 : (v.toList == v.toList) = true := by simp
  go_enter Tryd.func3, Tryd.ntmps3
  go_wp2_with fail
  refine C1.out.mono ?_
  rintro e w1 ⟨rfl, hb1⟩
  go_wp2_with fail
  refine (C2.out _ hb1).mono ?_
  rintro e w2 ⟨rfl, hb2⟩
  go_wp2
  go_ret
  exact ⟨rfl, hb1.trans (hb2.mono hb1.size)⟩

end Go.Proofs.YtaphkogdcmnnbaaDoor
