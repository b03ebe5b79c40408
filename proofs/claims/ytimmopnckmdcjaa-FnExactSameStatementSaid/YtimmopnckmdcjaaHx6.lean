/- Walks: the law on SameStatement, over contracts of both sides. -/
import Derived.Test.YtimmopnckmdcjaaHx5
import Derived.Test.YtimmopnckmdcjaaHxe
namespace Go.Proofs.Ytimmopnckmdcjaa
open Go.RowKit
set_option linter.unusedVariables false
set_option maxRecDepth 100000 in
set_option maxHeartbeats 12800000 in
theorem walk_SameStatement (a : AStatement) (b : AStatement) (w : World) (k_a : okStatement w w.heap.size a) (k_b : okStatement w w.heap.size b) :
    Calls Try.prog 3 #[.agg #[.int .i64 a.1, .string a.2.1, .string a.2.2.1, .int .i64 a.2.2.2.1, .int .i64 a.2.2.2.2.1, .slice a.2.2.2.2.2.1.1 a.2.2.2.2.2.1.2.2.length a.2.2.2.2.2.1.2.1, .int .i64 a.2.2.2.2.2.2.1, .int .i64 a.2.2.2.2.2.2.2.1, .slice a.2.2.2.2.2.2.2.2.1.1 a.2.2.2.2.2.2.2.2.1.2.2.length a.2.2.2.2.2.2.2.2.1.2.1, .slice a.2.2.2.2.2.2.2.2.2.1.1 a.2.2.2.2.2.2.2.2.2.1.2.2.length a.2.2.2.2.2.2.2.2.2.1.2.1, .slice a.2.2.2.2.2.2.2.2.2.2.1.1 a.2.2.2.2.2.2.2.2.2.2.1.2.2.length a.2.2.2.2.2.2.2.2.2.2.1.2.1, .bool a.2.2.2.2.2.2.2.2.2.2.2.1, .bool a.2.2.2.2.2.2.2.2.2.2.2.2], .agg #[.int .i64 b.1, .string b.2.1, .string b.2.2.1, .int .i64 b.2.2.2.1, .int .i64 b.2.2.2.2.1, .slice b.2.2.2.2.2.1.1 b.2.2.2.2.2.1.2.2.length b.2.2.2.2.2.1.2.1, .int .i64 b.2.2.2.2.2.2.1, .int .i64 b.2.2.2.2.2.2.2.1, .slice b.2.2.2.2.2.2.2.2.1.1 b.2.2.2.2.2.2.2.2.1.2.2.length b.2.2.2.2.2.2.2.2.1.2.1, .slice b.2.2.2.2.2.2.2.2.2.1.1 b.2.2.2.2.2.2.2.2.2.1.2.2.length b.2.2.2.2.2.2.2.2.2.1.2.1, .slice b.2.2.2.2.2.2.2.2.2.2.1.1 b.2.2.2.2.2.2.2.2.2.2.1.2.2.length b.2.2.2.2.2.2.2.2.2.2.1.2.1, .bool b.2.2.2.2.2.2.2.2.2.2.2.1, .bool b.2.2.2.2.2.2.2.2.2.2.2.2]] w fun e w' => e = .returned (.bool true) ∧ Below w.heap.size w w' := by
  obtain ⟨a0, a1, a2, a3, a4, ⟨a5A, a5c, a5q⟩, a6, a7, ⟨a8A, a8c, a8q⟩, ⟨a9A, a9c, a9q⟩, ⟨a10A, a10c, a10q⟩, a11, a12⟩ := a
  obtain ⟨w_a0, w_a1, w_a2, w_a3, w_a4, nc_a5, cm_a5, rd_a5, ok_a5, w_a6, w_a7, nc_a8, cm_a8, rd_a8, ok_a8, nc_a9, cm_a9, rd_a9, ok_a9, nc_a10, cm_a10, rd_a10, ok_a10⟩ := k_a
  simp only at w_a0 w_a1 w_a2 w_a3 w_a4 nc_a5 cm_a5 rd_a5 ok_a5 w_a6 w_a7 nc_a8 cm_a8 rd_a8 ok_a8 nc_a9 cm_a9 rd_a9 ok_a9 nc_a10 cm_a10 rd_a10 ok_a10 ⊢
  have row_a5 : Row RvTerm 3 w w.heap.size a5A (a5q.map dTerm) := Row.of rd_a5 (fun i b hb => rv_Term b (ok_a5 i b hb))
  have sz_a5 : szRow SzTerm (a5q.map dTerm) := ⟨Nat.le_trans (Nat.le_of_eq (List.length_map _)) (Nat.le_trans nc_a5 cm_a5), fun i b hb => sz_map sz_Term ok_a5 i b hb⟩
  have hn_a5 : a5q.length = (a5q.map dTerm).length := (List.length_map _).symm
  rw [hn_a5]
  generalize a5q.map dTerm = a5l at row_a5 sz_a5 ⊢
  have HZ_a5 := Lib.hid sz_a5
  clear nc_a5 cm_a5 rd_a5 ok_a5 hn_a5 sz_a5
  have row_a8 : Row RvTerm 3 w w.heap.size a8A (a8q.map dTerm) := Row.of rd_a8 (fun i b hb => rv_Term b (ok_a8 i b hb))
  have sz_a8 : szRow SzTerm (a8q.map dTerm) := ⟨Nat.le_trans (Nat.le_of_eq (List.length_map _)) (Nat.le_trans nc_a8 cm_a8), fun i b hb => sz_map sz_Term ok_a8 i b hb⟩
  have hn_a8 : a8q.length = (a8q.map dTerm).length := (List.length_map _).symm
  rw [hn_a8]
  generalize a8q.map dTerm = a8l at row_a8 sz_a8 ⊢
  have HZ_a8 := Lib.hid sz_a8
  clear nc_a8 cm_a8 rd_a8 ok_a8 hn_a8 sz_a8
  have row_a9 : Row RvString 1 w w.heap.size a9A (a9q.map dString) := Row.of rd_a9 (fun i b hb => rv_String b (ok_a9 i b hb))
  have sz_a9 : szRow SzString (a9q.map dString) := ⟨Nat.le_trans (Nat.le_of_eq (List.length_map _)) (Nat.le_trans nc_a9 cm_a9), fun i b hb => sz_map sz_String ok_a9 i b hb⟩
  have hn_a9 : a9q.length = (a9q.map dString).length := (List.length_map _).symm
  rw [hn_a9]
  generalize a9q.map dString = a9l at row_a9 sz_a9 ⊢
  have HZ_a9 := Lib.hid sz_a9
  clear nc_a9 cm_a9 rd_a9 ok_a9 hn_a9 sz_a9
  have row_a10 : Row RvInt64 1 w w.heap.size a10A (a10q.map dInt64) := Row.of rd_a10 (fun i b hb => rv_Int64 b (ok_a10 i b hb))
  have sz_a10 : szRow SzInt64 (a10q.map dInt64) := ⟨Nat.le_trans (Nat.le_of_eq (List.length_map _)) (Nat.le_trans nc_a10 cm_a10), fun i b hb => sz_map sz_Int64 ok_a10 i b hb⟩
  have hn_a10 : a10q.length = (a10q.map dInt64).length := (List.length_map _).symm
  rw [hn_a10]
  generalize a10q.map dInt64 = a10l at row_a10 sz_a10 ⊢
  have HZ_a10 := Lib.hid sz_a10
  clear nc_a10 cm_a10 rd_a10 ok_a10 hn_a10 sz_a10
  have HZP_a := Lib.hid (show SzStatement (a0, a1, a2, a3, a4, a5l, a6, a7, a8l, a9l, a10l, a11, a12) from ⟨w_a1, w_a2, HZ_a5.out, HZ_a8.out, HZ_a9.out, HZ_a10.out⟩)
  obtain ⟨b0, b1, b2, b3, b4, ⟨b5A, b5c, b5q⟩, b6, b7, ⟨b8A, b8c, b8q⟩, ⟨b9A, b9c, b9q⟩, ⟨b10A, b10c, b10q⟩, b11, b12⟩ := b
  obtain ⟨w_b0, w_b1, w_b2, w_b3, w_b4, nc_b5, cm_b5, rd_b5, ok_b5, w_b6, w_b7, nc_b8, cm_b8, rd_b8, ok_b8, nc_b9, cm_b9, rd_b9, ok_b9, nc_b10, cm_b10, rd_b10, ok_b10⟩ := k_b
  simp only at w_b0 w_b1 w_b2 w_b3 w_b4 nc_b5 cm_b5 rd_b5 ok_b5 w_b6 w_b7 nc_b8 cm_b8 rd_b8 ok_b8 nc_b9 cm_b9 rd_b9 ok_b9 nc_b10 cm_b10 rd_b10 ok_b10 ⊢
  have row_b5 : Row RvTerm 3 w w.heap.size b5A (b5q.map dTerm) := Row.of rd_b5 (fun i b hb => rv_Term b (ok_b5 i b hb))
  have sz_b5 : szRow SzTerm (b5q.map dTerm) := ⟨Nat.le_trans (Nat.le_of_eq (List.length_map _)) (Nat.le_trans nc_b5 cm_b5), fun i b hb => sz_map sz_Term ok_b5 i b hb⟩
  have hn_b5 : b5q.length = (b5q.map dTerm).length := (List.length_map _).symm
  rw [hn_b5]
  generalize b5q.map dTerm = b5l at row_b5 sz_b5 ⊢
  have HZ_b5 := Lib.hid sz_b5
  clear nc_b5 cm_b5 rd_b5 ok_b5 hn_b5 sz_b5
  have row_b8 : Row RvTerm 3 w w.heap.size b8A (b8q.map dTerm) := Row.of rd_b8 (fun i b hb => rv_Term b (ok_b8 i b hb))
  have sz_b8 : szRow SzTerm (b8q.map dTerm) := ⟨Nat.le_trans (Nat.le_of_eq (List.length_map _)) (Nat.le_trans nc_b8 cm_b8), fun i b hb => sz_map sz_Term ok_b8 i b hb⟩
  have hn_b8 : b8q.length = (b8q.map dTerm).length := (List.length_map _).symm
  rw [hn_b8]
  generalize b8q.map dTerm = b8l at row_b8 sz_b8 ⊢
  have HZ_b8 := Lib.hid sz_b8
  clear nc_b8 cm_b8 rd_b8 ok_b8 hn_b8 sz_b8
  have row_b9 : Row RvString 1 w w.heap.size b9A (b9q.map dString) := Row.of rd_b9 (fun i b hb => rv_String b (ok_b9 i b hb))
  have sz_b9 : szRow SzString (b9q.map dString) := ⟨Nat.le_trans (Nat.le_of_eq (List.length_map _)) (Nat.le_trans nc_b9 cm_b9), fun i b hb => sz_map sz_String ok_b9 i b hb⟩
  have hn_b9 : b9q.length = (b9q.map dString).length := (List.length_map _).symm
  rw [hn_b9]
  generalize b9q.map dString = b9l at row_b9 sz_b9 ⊢
  have HZ_b9 := Lib.hid sz_b9
  clear nc_b9 cm_b9 rd_b9 ok_b9 hn_b9 sz_b9
  have row_b10 : Row RvInt64 1 w w.heap.size b10A (b10q.map dInt64) := Row.of rd_b10 (fun i b hb => rv_Int64 b (ok_b10 i b hb))
  have sz_b10 : szRow SzInt64 (b10q.map dInt64) := ⟨Nat.le_trans (Nat.le_of_eq (List.length_map _)) (Nat.le_trans nc_b10 cm_b10), fun i b hb => sz_map sz_Int64 ok_b10 i b hb⟩
  have hn_b10 : b10q.length = (b10q.map dInt64).length := (List.length_map _).symm
  rw [hn_b10]
  generalize b10q.map dInt64 = b10l at row_b10 sz_b10 ⊢
  have HZ_b10 := Lib.hid sz_b10
  clear nc_b10 cm_b10 rd_b10 ok_b10 hn_b10 sz_b10
  have HZP_b := Lib.hid (show SzStatement (b0, b1, b2, b3, b4, b5l, b6, b7, b8l, b9l, b10l, b11, b12) from ⟨w_b1, w_b2, HZ_b5.out, HZ_b8.out, HZ_b9.out, HZ_b10.out⟩)
  have C1 := Lib.hid (fun (ha : totStatement (a0, a1, a2, a3, a4, a5l, a6, a7, a8l, a9l, a10l, a11, a12) ≤ 1048576) (hb : totStatement (b0, b1, b2, b3, b4, b5l, b6, b7, b8l, b9l, b10l, b11, b12) ≤ 1048576) a5A' a5c' a8A' a8c' a9A' a9c' a10A' a10c' b5A' b5c' b8A' b8c' b9A' b9c' b10A' b10c' w q_a5 q_a8 q_a9 q_a10 q_b5 q_b8 q_b9 q_b10 => specSame_any a0 a1 a2 a3 a4 a5A' a5c' a5l a6 a7 a8A' a8c' a8l a9A' a9c' a9l a10A' a10c' a10l a11 a12 b0 b1 b2 b3 b4 b5A' b5c' b5l b6 b7 b8A' b8c' b8l b9A' b9c' b9l b10A' b10c' b10l b11 b12 w ha hb q_a5 q_a8 q_a9 q_a10 q_b5 q_b8 q_b9 q_b10)
  have C2 := Lib.hid (fun (ha : totStatement (a0, a1, a2, a3, a4, a5l, a6, a7, a8l, a9l, a10l, a11, a12) ≤ 1048576) (hb : totStatement (b0, b1, b2, b3, b4, b5l, b6, b7, b8l, b9l, b10l, b11, b12) ≤ 1048576) a5A' a5c' a8A' a8c' a9A' a9c' a10A' a10c' b5A' b5c' b8A' b8c' b9A' b9c' b10A' b10c' w q_a5 q_a8 q_a9 q_a10 q_b5 q_b8 q_b9 q_b10 => implSame_any a0 a1 a2 a3 a4 a5A' a5c' a5l a6 a7 a8A' a8c' a8l a9A' a9c' a9l a10A' a10c' a10l a11 a12 b0 b1 b2 b3 b4 b5A' b5c' b5l b6 b7 b8A' b8c' b8l b9A' b9c' b9l b10A' b10c' b10l b11 b12 w ha hb q_a5 q_a8 q_a9 q_a10 q_b5 q_b8 q_b9 q_b10)
  generalize smV (a0, a1, a2, a3, a4, a5l, a6, a7, a8l, a9l, a10l, a11, a12) (b0, b1, b2, b3, b4, b5l, b6, b7, b8l, b9l, b10l, b11, b12) = v at C1 C2
  have e_v : (v != v) = false := by simp
  go_enter Try.func3, Try.ntmps3
  go_wp2_with fail
  generalize hW : ((w.alloc (.cells #[.int .i64 a0, .string a1, .string a2, .int .i64 a3, .int .i64 a4, .slice a5A a5l.length a5c, .int .i64 a6, .int .i64 a7, .slice a8A a8l.length a8c, .slice a9A a9l.length a9c, .slice a10A a10l.length a10c, .bool a11, .bool a12] 30)).alloc (.cells #[.int .i64 b0, .string b1, .string b2, .int .i64 b3, .int .i64 b4, .slice b5A b5l.length b5c, .int .i64 b6, .int .i64 b7, .slice b8A b8l.length b8c, .slice b9A b9l.length b9c, .slice b10A b10l.length b10c, .bool b11, .bool b12] 30)) = W0
  have row_a5w : Row RvTerm 3 w (w.heap.size) a5A a5l := row_a5
  have row_a8w : Row RvTerm 3 w (w.heap.size) a8A a8l := row_a8
  have row_a9w : Row RvString 1 w (w.heap.size) a9A a9l := row_a9
  have row_a10w : Row RvInt64 1 w (w.heap.size) a10A a10l := row_a10
  have row_b5w : Row RvTerm 3 w (w.heap.size) b5A b5l := row_b5
  have row_b8w : Row RvTerm 3 w (w.heap.size) b8A b8l := row_b8
  have row_b9w : Row RvString 1 w (w.heap.size) b9A b9l := row_b9
  have row_b10w : Row RvInt64 1 w (w.heap.size) b10A b10l := row_b10
  have bx_aW0 : AtL (w.heap.size) [.int .i64 a0, .string a1, .string a2, .int .i64 a3, .int .i64 a4, .slice a5A a5l.length a5c, .int .i64 a6, .int .i64 a7, .slice a8A a8l.length a8c, .slice a9A a9l.length a9c, .slice a10A a10l.length a10c, .bool a11, .bool a12] W0 := by rw [← hW]; repeat' (first | with_reducible assumption | with_reducible exact AtL.new _ _ _ | ((with_reducible refine AtL.newAt ?_); (first | rfl | (simp; done))) | (with_reducible refine AtL.drew ?_) | (with_reducible refine AtL.below ?_ (by with_reducible assumption)) | (with_reducible refine AtL.alloc ?_ _) | (with_reducible refine AtL.far ?_ ?_ _ _) | omega | (simp; done) | (simp; omega))
  have row_a5W0 : Row RvTerm 3 W0 (w.heap.size) a5A a5l := by rw [← hW]; repeat' (first | with_reducible assumption | (with_reducible refine Row.drew ?_) | (with_reducible refine Row.carry ?_ (by with_reducible assumption) ?_) | (with_reducible refine Row.alloc ?_ ?_ _) | (with_reducible refine Row.setCell ?_ ?_ _) | omega | (simp; done) | (simp; omega))
  have row_a8W0 : Row RvTerm 3 W0 (w.heap.size) a8A a8l := by rw [← hW]; repeat' (first | with_reducible assumption | (with_reducible refine Row.drew ?_) | (with_reducible refine Row.carry ?_ (by with_reducible assumption) ?_) | (with_reducible refine Row.alloc ?_ ?_ _) | (with_reducible refine Row.setCell ?_ ?_ _) | omega | (simp; done) | (simp; omega))
  have row_a9W0 : Row RvString 1 W0 (w.heap.size) a9A a9l := by rw [← hW]; repeat' (first | with_reducible assumption | (with_reducible refine Row.drew ?_) | (with_reducible refine Row.carry ?_ (by with_reducible assumption) ?_) | (with_reducible refine Row.alloc ?_ ?_ _) | (with_reducible refine Row.setCell ?_ ?_ _) | omega | (simp; done) | (simp; omega))
  have row_a10W0 : Row RvInt64 1 W0 (w.heap.size) a10A a10l := by rw [← hW]; repeat' (first | with_reducible assumption | (with_reducible refine Row.drew ?_) | (with_reducible refine Row.carry ?_ (by with_reducible assumption) ?_) | (with_reducible refine Row.alloc ?_ ?_ _) | (with_reducible refine Row.setCell ?_ ?_ _) | omega | (simp; done) | (simp; omega))
  have bx_bW0 : AtL (w.heap.size + 1) [.int .i64 b0, .string b1, .string b2, .int .i64 b3, .int .i64 b4, .slice b5A b5l.length b5c, .int .i64 b6, .int .i64 b7, .slice b8A b8l.length b8c, .slice b9A b9l.length b9c, .slice b10A b10l.length b10c, .bool b11, .bool b12] W0 := by rw [← hW]; repeat' (first | with_reducible assumption | with_reducible exact AtL.new _ _ _ | ((with_reducible refine AtL.newAt ?_); (first | rfl | (simp; done))) | (with_reducible refine AtL.drew ?_) | (with_reducible refine AtL.below ?_ (by with_reducible assumption)) | (with_reducible refine AtL.alloc ?_ _) | (with_reducible refine AtL.far ?_ ?_ _ _) | omega | (simp; done) | (simp; omega))
  have row_b5W0 : Row RvTerm 3 W0 (w.heap.size) b5A b5l := by rw [← hW]; repeat' (first | with_reducible assumption | (with_reducible refine Row.drew ?_) | (with_reducible refine Row.carry ?_ (by with_reducible assumption) ?_) | (with_reducible refine Row.alloc ?_ ?_ _) | (with_reducible refine Row.setCell ?_ ?_ _) | omega | (simp; done) | (simp; omega))
  have row_b8W0 : Row RvTerm 3 W0 (w.heap.size) b8A b8l := by rw [← hW]; repeat' (first | with_reducible assumption | (with_reducible refine Row.drew ?_) | (with_reducible refine Row.carry ?_ (by with_reducible assumption) ?_) | (with_reducible refine Row.alloc ?_ ?_ _) | (with_reducible refine Row.setCell ?_ ?_ _) | omega | (simp; done) | (simp; omega))
  have row_b9W0 : Row RvString 1 W0 (w.heap.size) b9A b9l := by rw [← hW]; repeat' (first | with_reducible assumption | (with_reducible refine Row.drew ?_) | (with_reducible refine Row.carry ?_ (by with_reducible assumption) ?_) | (with_reducible refine Row.alloc ?_ ?_ _) | (with_reducible refine Row.setCell ?_ ?_ _) | omega | (simp; done) | (simp; omega))
  have row_b10W0 : Row RvInt64 1 W0 (w.heap.size) b10A b10l := by rw [← hW]; repeat' (first | with_reducible assumption | (with_reducible refine Row.drew ?_) | (with_reducible refine Row.carry ?_ (by with_reducible assumption) ?_) | (with_reducible refine Row.alloc ?_ ?_ _) | (with_reducible refine Row.setCell ?_ ?_ _) | omega | (simp; done) | (simp; omega))
  have qW0 : w.heap.size ≤ W0.heap.size := by rw [← hW]; first | (simp; done) | (simp; omega)
  have bn : Below w.heap.size w W0 := by rw [← hW]; repeat' (first | with_reducible assumption | with_reducible exact Below.refl _ _ | (with_reducible refine Below.setCell ?_ ?_ _) | (with_reducible refine Below.alloc ?_ ?_ _) | (with_reducible refine Below.drew ?_) | (with_reducible refine below_dr ?_ _) | (with_reducible refine Below.trans ?_ (Below.mono (by with_reducible assumption) ?_)) | omega | (simp; done) | (simp; omega))
  have bW0 := Lib.hid bn
  clear hW bn
  clear row_a5w row_a5 row_a8w row_a8 row_a9w row_a9 row_a10w row_a10 row_b5w row_b5 row_b8w row_b8 row_b9w row_b9 row_b10w row_b10
  have kbx_a0 := bx_aW0.cell 0 rfl
  have kbx_a1 := bx_aW0.cell 1 rfl
  have kbx_a2 := bx_aW0.cell 2 rfl
  have kbx_a3 := bx_aW0.cell 3 rfl
  have kbx_a4 := bx_aW0.cell 4 rfl
  have kbx_a5 := bx_aW0.cell 5 rfl
  have kbx_a6 := bx_aW0.cell 6 rfl
  have kbx_a7 := bx_aW0.cell 7 rfl
  have kbx_a8 := bx_aW0.cell 8 rfl
  have kbx_a9 := bx_aW0.cell 9 rfl
  have kbx_a10 := bx_aW0.cell 10 rfl
  have kbx_a11 := bx_aW0.cell 11 rfl
  have kbx_a12 := bx_aW0.cell 12 rfl
  have lbx_a := bx_aW0.lt
  have kbx_b0 := bx_bW0.cell 0 rfl
  have kbx_b1 := bx_bW0.cell 1 rfl
  have kbx_b2 := bx_bW0.cell 2 rfl
  have kbx_b3 := bx_bW0.cell 3 rfl
  have kbx_b4 := bx_bW0.cell 4 rfl
  have kbx_b5 := bx_bW0.cell 5 rfl
  have kbx_b6 := bx_bW0.cell 6 rfl
  have kbx_b7 := bx_bW0.cell 7 rfl
  have kbx_b8 := bx_bW0.cell 8 rfl
  have kbx_b9 := bx_bW0.cell 9 rfl
  have kbx_b10 := bx_bW0.cell 10 rfl
  have kbx_b11 := bx_bW0.cell 11 rfl
  have kbx_b12 := bx_bW0.cell 12 rfl
  have lbx_b := bx_bW0.lt
  go_wp2_with fail
  clear kbx_a0 kbx_a1 kbx_a2 kbx_a3 kbx_a4 kbx_a5 kbx_a6 kbx_a7 kbx_a8 kbx_a9 kbx_a10 kbx_a11 kbx_a12 lbx_a
  clear kbx_b0 kbx_b1 kbx_b2 kbx_b3 kbx_b4 kbx_b5 kbx_b6 kbx_b7 kbx_b8 kbx_b9 kbx_b10 kbx_b11 kbx_b12 lbx_b
  obtain ⟨T0, hT0⟩ : ∃ T, T = totStatement (a0, a1, a2, a3, a4, a5l, a6, a7, a8l, a9l, a10l, a11, a12) := ⟨_, rfl⟩
  have HTT0 := Lib.hid hT0
  refine (szStatement_any a0 a1 a2 a3 a4 a5A a5c a5l a6 a7 a8A a8c a8l a9A a9c a9l a10A a10c a10l a11 a12 1048576 _ (by omega) (by omega) HZP_a.out ?_ ?_ ?_ ?_).mono ?_
  · (refine Row.more (B := w.heap.size) ?_ (by first | omega | ((try simp only [World.size_setCell]); (try simp only [World.size_drew]); (try simp only [World.size_alloc]); omega))); repeat' (first | with_reducible assumption | (with_reducible refine Row.drew ?_) | (with_reducible refine Row.carry ?_ (by with_reducible assumption) ?_) | (with_reducible refine Row.alloc ?_ ?_ _) | (with_reducible refine Row.setCell ?_ ?_ _) | omega | (simp; done) | (simp; omega))
  · (refine Row.more (B := w.heap.size) ?_ (by first | omega | ((try simp only [World.size_setCell]); (try simp only [World.size_drew]); (try simp only [World.size_alloc]); omega))); repeat' (first | with_reducible assumption | (with_reducible refine Row.drew ?_) | (with_reducible refine Row.carry ?_ (by with_reducible assumption) ?_) | (with_reducible refine Row.alloc ?_ ?_ _) | (with_reducible refine Row.setCell ?_ ?_ _) | omega | (simp; done) | (simp; omega))
  · (refine Row.more (B := w.heap.size) ?_ (by first | omega | ((try simp only [World.size_setCell]); (try simp only [World.size_drew]); (try simp only [World.size_alloc]); omega))); repeat' (first | with_reducible assumption | (with_reducible refine Row.drew ?_) | (with_reducible refine Row.carry ?_ (by with_reducible assumption) ?_) | (with_reducible refine Row.alloc ?_ ?_ _) | (with_reducible refine Row.setCell ?_ ?_ _) | omega | (simp; done) | (simp; omega))
  · (refine Row.more (B := w.heap.size) ?_ (by first | omega | ((try simp only [World.size_setCell]); (try simp only [World.size_drew]); (try simp only [World.size_alloc]); omega))); repeat' (first | with_reducible assumption | (with_reducible refine Row.drew ?_) | (with_reducible refine Row.carry ?_ (by with_reducible assumption) ?_) | (with_reducible refine Row.alloc ?_ ?_ _) | (with_reducible refine Row.setCell ?_ ?_ _) | omega | (simp; done) | (simp; omega))
  rw [← hT0]
  clear hT0
  by_cases hfit : (T0 : Int) ≤ 1048576
  case neg =>
    rw [szV_no hfit]
    rintro e wN ⟨rfl, hb⟩
    go_wp2_with fail
    go_ret
    have bp := bW0.out
    exact ⟨rfl, by repeat' (first | with_reducible assumption | with_reducible exact Below.refl _ _ | (with_reducible refine Below.setCell ?_ ?_ _) | (with_reducible refine Below.alloc ?_ ?_ _) | (with_reducible refine Below.drew ?_) | (with_reducible refine below_dr ?_ _) | (with_reducible refine Below.trans ?_ (Below.mono (by with_reducible assumption) ?_)) | omega | (simp; done) | (simp; omega))⟩
  case pos =>
    rw [szV_yes hfit]
    have HT_a := Lib.hid (show totStatement (a0, a1, a2, a3, a4, a5l, a6, a7, a8l, a9l, a10l, a11, a12) ≤ 1048576 by rw [← HTT0.out]; omega)
    obtain ⟨V0, hV⟩ : ∃ V : Int, V = 1048576 - T0 := ⟨_, rfl⟩
    have hVV : 0 ≤ V0 ∧ V0 ≤ 1048576 := by omega
    rw [← hV]
    rintro e wS0 ⟨rfl, hbwS0⟩
    clear hV hfit
    obtain ⟨hV0_0, hV1_0⟩ := hVV
    have zwS0 := hbwS0.size
    (try simp only [World.size_setCell] at zwS0)
    (try simp only [World.size_drew] at zwS0)
    (try simp only [World.size_alloc] at zwS0)
    have qwS0 : w.heap.size ≤ wS0.heap.size := by omega
    have bx_awS0 : AtL (w.heap.size) [.int .i64 a0, .string a1, .string a2, .int .i64 a3, .int .i64 a4, .slice a5A a5l.length a5c, .int .i64 a6, .int .i64 a7, .slice a8A a8l.length a8c, .slice a9A a9l.length a9c, .slice a10A a10l.length a10c, .bool a11, .bool a12] wS0 := by repeat' (first | with_reducible assumption | with_reducible exact AtL.new _ _ _ | ((with_reducible refine AtL.newAt ?_); (first | rfl | (simp; done))) | (with_reducible refine AtL.drew ?_) | (with_reducible refine AtL.below ?_ (by with_reducible assumption)) | (with_reducible refine AtL.alloc ?_ _) | (with_reducible refine AtL.far ?_ ?_ _ _) | omega | (simp; done) | (simp; omega))
    have row_a5wS0 : Row RvTerm 3 wS0 (w.heap.size) a5A a5l := by repeat' (first | with_reducible assumption | (with_reducible refine Row.drew ?_) | (with_reducible refine Row.carry ?_ (by with_reducible assumption) ?_) | (with_reducible refine Row.alloc ?_ ?_ _) | (with_reducible refine Row.setCell ?_ ?_ _) | omega | (simp; done) | (simp; omega))
    have row_a8wS0 : Row RvTerm 3 wS0 (w.heap.size) a8A a8l := by repeat' (first | with_reducible assumption | (with_reducible refine Row.drew ?_) | (with_reducible refine Row.carry ?_ (by with_reducible assumption) ?_) | (with_reducible refine Row.alloc ?_ ?_ _) | (with_reducible refine Row.setCell ?_ ?_ _) | omega | (simp; done) | (simp; omega))
    have row_a9wS0 : Row RvString 1 wS0 (w.heap.size) a9A a9l := by repeat' (first | with_reducible assumption | (with_reducible refine Row.drew ?_) | (with_reducible refine Row.carry ?_ (by with_reducible assumption) ?_) | (with_reducible refine Row.alloc ?_ ?_ _) | (with_reducible refine Row.setCell ?_ ?_ _) | omega | (simp; done) | (simp; omega))
    have row_a10wS0 : Row RvInt64 1 wS0 (w.heap.size) a10A a10l := by repeat' (first | with_reducible assumption | (with_reducible refine Row.drew ?_) | (with_reducible refine Row.carry ?_ (by with_reducible assumption) ?_) | (with_reducible refine Row.alloc ?_ ?_ _) | (with_reducible refine Row.setCell ?_ ?_ _) | omega | (simp; done) | (simp; omega))
    have bx_bwS0 : AtL (w.heap.size + 1) [.int .i64 b0, .string b1, .string b2, .int .i64 b3, .int .i64 b4, .slice b5A b5l.length b5c, .int .i64 b6, .int .i64 b7, .slice b8A b8l.length b8c, .slice b9A b9l.length b9c, .slice b10A b10l.length b10c, .bool b11, .bool b12] wS0 := by repeat' (first | with_reducible assumption | with_reducible exact AtL.new _ _ _ | ((with_reducible refine AtL.newAt ?_); (first | rfl | (simp; done))) | (with_reducible refine AtL.drew ?_) | (with_reducible refine AtL.below ?_ (by with_reducible assumption)) | (with_reducible refine AtL.alloc ?_ _) | (with_reducible refine AtL.far ?_ ?_ _ _) | omega | (simp; done) | (simp; omega))
    have row_b5wS0 : Row RvTerm 3 wS0 (w.heap.size) b5A b5l := by repeat' (first | with_reducible assumption | (with_reducible refine Row.drew ?_) | (with_reducible refine Row.carry ?_ (by with_reducible assumption) ?_) | (with_reducible refine Row.alloc ?_ ?_ _) | (with_reducible refine Row.setCell ?_ ?_ _) | omega | (simp; done) | (simp; omega))
    have row_b8wS0 : Row RvTerm 3 wS0 (w.heap.size) b8A b8l := by repeat' (first | with_reducible assumption | (with_reducible refine Row.drew ?_) | (with_reducible refine Row.carry ?_ (by with_reducible assumption) ?_) | (with_reducible refine Row.alloc ?_ ?_ _) | (with_reducible refine Row.setCell ?_ ?_ _) | omega | (simp; done) | (simp; omega))
    have row_b9wS0 : Row RvString 1 wS0 (w.heap.size) b9A b9l := by repeat' (first | with_reducible assumption | (with_reducible refine Row.drew ?_) | (with_reducible refine Row.carry ?_ (by with_reducible assumption) ?_) | (with_reducible refine Row.alloc ?_ ?_ _) | (with_reducible refine Row.setCell ?_ ?_ _) | omega | (simp; done) | (simp; omega))
    have row_b10wS0 : Row RvInt64 1 wS0 (w.heap.size) b10A b10l := by repeat' (first | with_reducible assumption | (with_reducible refine Row.drew ?_) | (with_reducible refine Row.carry ?_ (by with_reducible assumption) ?_) | (with_reducible refine Row.alloc ?_ ?_ _) | (with_reducible refine Row.setCell ?_ ?_ _) | omega | (simp; done) | (simp; omega))
    have bp := bW0.out
    have bn : Below w.heap.size w wS0 := by repeat' (first | with_reducible assumption | with_reducible exact Below.refl _ _ | (with_reducible refine Below.setCell ?_ ?_ _) | (with_reducible refine Below.alloc ?_ ?_ _) | (with_reducible refine Below.drew ?_) | (with_reducible refine below_dr ?_ _) | (with_reducible refine Below.trans ?_ (Below.mono (by with_reducible assumption) ?_)) | omega | (simp; done) | (simp; omega))
    have bwS0 := Lib.hid bn
    clear bn
    clear bp bW0
    clear hbwS0
    clear bx_aW0
    clear row_a5W0
    clear row_a8W0
    clear row_a9W0
    clear row_a10W0
    clear bx_bW0
    clear row_b5W0
    clear row_b8W0
    clear row_b9W0
    clear row_b10W0
    have kbx_a0 := bx_awS0.cell 0 rfl
    have kbx_a1 := bx_awS0.cell 1 rfl
    have kbx_a2 := bx_awS0.cell 2 rfl
    have kbx_a3 := bx_awS0.cell 3 rfl
    have kbx_a4 := bx_awS0.cell 4 rfl
    have kbx_a5 := bx_awS0.cell 5 rfl
    have kbx_a6 := bx_awS0.cell 6 rfl
    have kbx_a7 := bx_awS0.cell 7 rfl
    have kbx_a8 := bx_awS0.cell 8 rfl
    have kbx_a9 := bx_awS0.cell 9 rfl
    have kbx_a10 := bx_awS0.cell 10 rfl
    have kbx_a11 := bx_awS0.cell 11 rfl
    have kbx_a12 := bx_awS0.cell 12 rfl
    have lbx_a := bx_awS0.lt
    have kbx_b0 := bx_bwS0.cell 0 rfl
    have kbx_b1 := bx_bwS0.cell 1 rfl
    have kbx_b2 := bx_bwS0.cell 2 rfl
    have kbx_b3 := bx_bwS0.cell 3 rfl
    have kbx_b4 := bx_bwS0.cell 4 rfl
    have kbx_b5 := bx_bwS0.cell 5 rfl
    have kbx_b6 := bx_bwS0.cell 6 rfl
    have kbx_b7 := bx_bwS0.cell 7 rfl
    have kbx_b8 := bx_bwS0.cell 8 rfl
    have kbx_b9 := bx_bwS0.cell 9 rfl
    have kbx_b10 := bx_bwS0.cell 10 rfl
    have kbx_b11 := bx_bwS0.cell 11 rfl
    have kbx_b12 := bx_bwS0.cell 12 rfl
    have lbx_b := bx_bwS0.lt
    go_wp2_with fail
    clear kbx_a0 kbx_a1 kbx_a2 kbx_a3 kbx_a4 kbx_a5 kbx_a6 kbx_a7 kbx_a8 kbx_a9 kbx_a10 kbx_a11 kbx_a12 lbx_a
    clear kbx_b0 kbx_b1 kbx_b2 kbx_b3 kbx_b4 kbx_b5 kbx_b6 kbx_b7 kbx_b8 kbx_b9 kbx_b10 kbx_b11 kbx_b12 lbx_b
    obtain ⟨T1, hT1⟩ : ∃ T, T = totStatement (b0, b1, b2, b3, b4, b5l, b6, b7, b8l, b9l, b10l, b11, b12) := ⟨_, rfl⟩
    have HTT1 := Lib.hid hT1
    refine (szStatement_any b0 b1 b2 b3 b4 b5A b5c b5l b6 b7 b8A b8c b8l b9A b9c b9l b10A b10c b10l b11 b12 V0 _ (by omega) (by omega) HZP_b.out ?_ ?_ ?_ ?_).mono ?_
    · (refine Row.more (B := w.heap.size) ?_ (by first | omega | ((try simp only [World.size_setCell]); (try simp only [World.size_drew]); (try simp only [World.size_alloc]); omega))); repeat' (first | with_reducible assumption | (with_reducible refine Row.drew ?_) | (with_reducible refine Row.carry ?_ (by with_reducible assumption) ?_) | (with_reducible refine Row.alloc ?_ ?_ _) | (with_reducible refine Row.setCell ?_ ?_ _) | omega | (simp; done) | (simp; omega))
    · (refine Row.more (B := w.heap.size) ?_ (by first | omega | ((try simp only [World.size_setCell]); (try simp only [World.size_drew]); (try simp only [World.size_alloc]); omega))); repeat' (first | with_reducible assumption | (with_reducible refine Row.drew ?_) | (with_reducible refine Row.carry ?_ (by with_reducible assumption) ?_) | (with_reducible refine Row.alloc ?_ ?_ _) | (with_reducible refine Row.setCell ?_ ?_ _) | omega | (simp; done) | (simp; omega))
    · (refine Row.more (B := w.heap.size) ?_ (by first | omega | ((try simp only [World.size_setCell]); (try simp only [World.size_drew]); (try simp only [World.size_alloc]); omega))); repeat' (first | with_reducible assumption | (with_reducible refine Row.drew ?_) | (with_reducible refine Row.carry ?_ (by with_reducible assumption) ?_) | (with_reducible refine Row.alloc ?_ ?_ _) | (with_reducible refine Row.setCell ?_ ?_ _) | omega | (simp; done) | (simp; omega))
    · (refine Row.more (B := w.heap.size) ?_ (by first | omega | ((try simp only [World.size_setCell]); (try simp only [World.size_drew]); (try simp only [World.size_alloc]); omega))); repeat' (first | with_reducible assumption | (with_reducible refine Row.drew ?_) | (with_reducible refine Row.carry ?_ (by with_reducible assumption) ?_) | (with_reducible refine Row.alloc ?_ ?_ _) | (with_reducible refine Row.setCell ?_ ?_ _) | omega | (simp; done) | (simp; omega))
    rw [← hT1]
    clear hT1
    by_cases hfit : (T1 : Int) ≤ V0
    case neg =>
      rw [szV_no hfit]
      rintro e wN ⟨rfl, hb⟩
      go_wp2_with fail
      go_ret
      have bp := bwS0.out
      exact ⟨rfl, by repeat' (first | with_reducible assumption | with_reducible exact Below.refl _ _ | (with_reducible refine Below.setCell ?_ ?_ _) | (with_reducible refine Below.alloc ?_ ?_ _) | (with_reducible refine Below.drew ?_) | (with_reducible refine below_dr ?_ _) | (with_reducible refine Below.trans ?_ (Below.mono (by with_reducible assumption) ?_)) | omega | (simp; done) | (simp; omega))⟩
    case pos =>
      rw [szV_yes hfit]
      have HT_b := Lib.hid (show totStatement (b0, b1, b2, b3, b4, b5l, b6, b7, b8l, b9l, b10l, b11, b12) ≤ 1048576 by rw [← HTT1.out]; omega)
      obtain ⟨V1, hV⟩ : ∃ V : Int, V = V0 - T1 := ⟨_, rfl⟩
      have hVV : 0 ≤ V1 ∧ V1 ≤ 1048576 := by omega
      rw [← hV]
      rintro e wS1 ⟨rfl, hbwS1⟩
      clear hV hfit
      obtain ⟨hV0_1, hV1_1⟩ := hVV
      have zwS1 := hbwS1.size
      (try simp only [World.size_setCell] at zwS1)
      (try simp only [World.size_drew] at zwS1)
      (try simp only [World.size_alloc] at zwS1)
      have qwS1 : w.heap.size ≤ wS1.heap.size := by omega
      have bx_awS1 : AtL (w.heap.size) [.int .i64 a0, .string a1, .string a2, .int .i64 a3, .int .i64 a4, .slice a5A a5l.length a5c, .int .i64 a6, .int .i64 a7, .slice a8A a8l.length a8c, .slice a9A a9l.length a9c, .slice a10A a10l.length a10c, .bool a11, .bool a12] wS1 := by repeat' (first | with_reducible assumption | with_reducible exact AtL.new _ _ _ | ((with_reducible refine AtL.newAt ?_); (first | rfl | (simp; done))) | (with_reducible refine AtL.drew ?_) | (with_reducible refine AtL.below ?_ (by with_reducible assumption)) | (with_reducible refine AtL.alloc ?_ _) | (with_reducible refine AtL.far ?_ ?_ _ _) | omega | (simp; done) | (simp; omega))
      have row_a5wS1 : Row RvTerm 3 wS1 (w.heap.size) a5A a5l := by repeat' (first | with_reducible assumption | (with_reducible refine Row.drew ?_) | (with_reducible refine Row.carry ?_ (by with_reducible assumption) ?_) | (with_reducible refine Row.alloc ?_ ?_ _) | (with_reducible refine Row.setCell ?_ ?_ _) | omega | (simp; done) | (simp; omega))
      have row_a8wS1 : Row RvTerm 3 wS1 (w.heap.size) a8A a8l := by repeat' (first | with_reducible assumption | (with_reducible refine Row.drew ?_) | (with_reducible refine Row.carry ?_ (by with_reducible assumption) ?_) | (with_reducible refine Row.alloc ?_ ?_ _) | (with_reducible refine Row.setCell ?_ ?_ _) | omega | (simp; done) | (simp; omega))
      have row_a9wS1 : Row RvString 1 wS1 (w.heap.size) a9A a9l := by repeat' (first | with_reducible assumption | (with_reducible refine Row.drew ?_) | (with_reducible refine Row.carry ?_ (by with_reducible assumption) ?_) | (with_reducible refine Row.alloc ?_ ?_ _) | (with_reducible refine Row.setCell ?_ ?_ _) | omega | (simp; done) | (simp; omega))
      have row_a10wS1 : Row RvInt64 1 wS1 (w.heap.size) a10A a10l := by repeat' (first | with_reducible assumption | (with_reducible refine Row.drew ?_) | (with_reducible refine Row.carry ?_ (by with_reducible assumption) ?_) | (with_reducible refine Row.alloc ?_ ?_ _) | (with_reducible refine Row.setCell ?_ ?_ _) | omega | (simp; done) | (simp; omega))
      have bx_bwS1 : AtL (w.heap.size + 1) [.int .i64 b0, .string b1, .string b2, .int .i64 b3, .int .i64 b4, .slice b5A b5l.length b5c, .int .i64 b6, .int .i64 b7, .slice b8A b8l.length b8c, .slice b9A b9l.length b9c, .slice b10A b10l.length b10c, .bool b11, .bool b12] wS1 := by repeat' (first | with_reducible assumption | with_reducible exact AtL.new _ _ _ | ((with_reducible refine AtL.newAt ?_); (first | rfl | (simp; done))) | (with_reducible refine AtL.drew ?_) | (with_reducible refine AtL.below ?_ (by with_reducible assumption)) | (with_reducible refine AtL.alloc ?_ _) | (with_reducible refine AtL.far ?_ ?_ _ _) | omega | (simp; done) | (simp; omega))
      have row_b5wS1 : Row RvTerm 3 wS1 (w.heap.size) b5A b5l := by repeat' (first | with_reducible assumption | (with_reducible refine Row.drew ?_) | (with_reducible refine Row.carry ?_ (by with_reducible assumption) ?_) | (with_reducible refine Row.alloc ?_ ?_ _) | (with_reducible refine Row.setCell ?_ ?_ _) | omega | (simp; done) | (simp; omega))
      have row_b8wS1 : Row RvTerm 3 wS1 (w.heap.size) b8A b8l := by repeat' (first | with_reducible assumption | (with_reducible refine Row.drew ?_) | (with_reducible refine Row.carry ?_ (by with_reducible assumption) ?_) | (with_reducible refine Row.alloc ?_ ?_ _) | (with_reducible refine Row.setCell ?_ ?_ _) | omega | (simp; done) | (simp; omega))
      have row_b9wS1 : Row RvString 1 wS1 (w.heap.size) b9A b9l := by repeat' (first | with_reducible assumption | (with_reducible refine Row.drew ?_) | (with_reducible refine Row.carry ?_ (by with_reducible assumption) ?_) | (with_reducible refine Row.alloc ?_ ?_ _) | (with_reducible refine Row.setCell ?_ ?_ _) | omega | (simp; done) | (simp; omega))
      have row_b10wS1 : Row RvInt64 1 wS1 (w.heap.size) b10A b10l := by repeat' (first | with_reducible assumption | (with_reducible refine Row.drew ?_) | (with_reducible refine Row.carry ?_ (by with_reducible assumption) ?_) | (with_reducible refine Row.alloc ?_ ?_ _) | (with_reducible refine Row.setCell ?_ ?_ _) | omega | (simp; done) | (simp; omega))
      have bp := bwS0.out
      have bn : Below w.heap.size w wS1 := by repeat' (first | with_reducible assumption | with_reducible exact Below.refl _ _ | (with_reducible refine Below.setCell ?_ ?_ _) | (with_reducible refine Below.alloc ?_ ?_ _) | (with_reducible refine Below.drew ?_) | (with_reducible refine below_dr ?_ _) | (with_reducible refine Below.trans ?_ (Below.mono (by with_reducible assumption) ?_)) | omega | (simp; done) | (simp; omega))
      have bwS1 := Lib.hid bn
      clear bn
      clear bp bwS0
      clear hbwS1
      clear bx_awS0
      clear row_a5wS0
      clear row_a8wS0
      clear row_a9wS0
      clear row_a10wS0
      clear bx_bwS0
      clear row_b5wS0
      clear row_b8wS0
      clear row_b9wS0
      clear row_b10wS0
      have kbx_a0 := bx_awS1.cell 0 rfl
      have kbx_a1 := bx_awS1.cell 1 rfl
      have kbx_a2 := bx_awS1.cell 2 rfl
      have kbx_a3 := bx_awS1.cell 3 rfl
      have kbx_a4 := bx_awS1.cell 4 rfl
      have kbx_a5 := bx_awS1.cell 5 rfl
      have kbx_a6 := bx_awS1.cell 6 rfl
      have kbx_a7 := bx_awS1.cell 7 rfl
      have kbx_a8 := bx_awS1.cell 8 rfl
      have kbx_a9 := bx_awS1.cell 9 rfl
      have kbx_a10 := bx_awS1.cell 10 rfl
      have kbx_a11 := bx_awS1.cell 11 rfl
      have kbx_a12 := bx_awS1.cell 12 rfl
      have lbx_a := bx_awS1.lt
      have kbx_b0 := bx_bwS1.cell 0 rfl
      have kbx_b1 := bx_bwS1.cell 1 rfl
      have kbx_b2 := bx_bwS1.cell 2 rfl
      have kbx_b3 := bx_bwS1.cell 3 rfl
      have kbx_b4 := bx_bwS1.cell 4 rfl
      have kbx_b5 := bx_bwS1.cell 5 rfl
      have kbx_b6 := bx_bwS1.cell 6 rfl
      have kbx_b7 := bx_bwS1.cell 7 rfl
      have kbx_b8 := bx_bwS1.cell 8 rfl
      have kbx_b9 := bx_bwS1.cell 9 rfl
      have kbx_b10 := bx_bwS1.cell 10 rfl
      have kbx_b11 := bx_bwS1.cell 11 rfl
      have kbx_b12 := bx_bwS1.cell 12 rfl
      have lbx_b := bx_bwS1.lt
      go_wp2_with fail
      go_region_held3 (fun w' => (∀ b o, b < wS1.heap.size → w'.cell? ⟨b, o, none⟩ = wS1.cell? ⟨b, o, none⟩) ∧ wS1.heap.size ≤ w'.heap.size)
        (first | ((try dsimp only); exact ⟨fun b o h => (by (repeat (first | with_reducible exact rfl | (with_reducible refine (cell_drew_at _ _).trans ?_) | (with_reducible refine (cell_set_at _ _ (by first | omega | (simp; done) | (simp; omega))).trans ?_) | (with_reducible refine (cell_alloc_at _ _ (by first | omega | (simp; done) | (simp; omega))).trans ?_) | (with_reducible refine (hcwA0 b o (by first | omega | (simp; done) | (simp; omega))).trans ?_) | (with_reducible refine (hcwA1 b o (by first | omega | (simp; done) | (simp; omega))).trans ?_) | (with_reducible refine (hcwB b o (by first | omega | (simp; done) | (simp; omega))).trans ?_)))), (by first | omega | (simp; done) | (simp; omega))⟩) | fail)
        (first
          | (go_at_call 8; (with_reducible refine (toStatement_any a0 a1 a2 a3 a4 a5A a5c a5l a6 a7 a8A a8c a8l a9A a9c a9l a10A a10c a10l a11 a12 _ (HT_a.out) ?_ ?_ ?_ ?_).mono ?_); (focus ((refine Row.more (B := w.heap.size) ?_ (by first | omega | ((try simp only [World.size_setCell]); (try simp only [World.size_drew]); (try simp only [World.size_alloc]); omega))); repeat' (first | with_reducible assumption | (with_reducible refine Row.drew ?_) | (with_reducible refine Row.carry ?_ (by with_reducible assumption) ?_) | (with_reducible refine Row.alloc ?_ ?_ _) | (with_reducible refine Row.setCell ?_ ?_ _) | omega | (simp; done) | (simp; omega)))); (focus ((refine Row.more (B := w.heap.size) ?_ (by first | omega | ((try simp only [World.size_setCell]); (try simp only [World.size_drew]); (try simp only [World.size_alloc]); omega))); repeat' (first | with_reducible assumption | (with_reducible refine Row.drew ?_) | (with_reducible refine Row.carry ?_ (by with_reducible assumption) ?_) | (with_reducible refine Row.alloc ?_ ?_ _) | (with_reducible refine Row.setCell ?_ ?_ _) | omega | (simp; done) | (simp; omega)))); (focus ((refine Row.more (B := w.heap.size) ?_ (by first | omega | ((try simp only [World.size_setCell]); (try simp only [World.size_drew]); (try simp only [World.size_alloc]); omega))); repeat' (first | with_reducible assumption | (with_reducible refine Row.drew ?_) | (with_reducible refine Row.carry ?_ (by with_reducible assumption) ?_) | (with_reducible refine Row.alloc ?_ ?_ _) | (with_reducible refine Row.setCell ?_ ?_ _) | omega | (simp; done) | (simp; omega)))); (focus ((refine Row.more (B := w.heap.size) ?_ (by first | omega | ((try simp only [World.size_setCell]); (try simp only [World.size_drew]); (try simp only [World.size_alloc]); omega))); repeat' (first | with_reducible assumption | (with_reducible refine Row.drew ?_) | (with_reducible refine Row.carry ?_ (by with_reducible assumption) ?_) | (with_reducible refine Row.alloc ?_ ?_ _) | (with_reducible refine Row.setCell ?_ ?_ _) | omega | (simp; done) | (simp; omega)))); intro e wA0 hq; obtain ⟨owA0_a5A, owA0_a5c, owA0_a8A, owA0_a8c, owA0_a9A, owA0_a9c, owA0_a10A, owA0_a10c, rfl, owA0_a5, owA0_a8, owA0_a9, owA0_a10, hbwA0⟩ := hq; obtain ⟨hcwA0, hfwA0⟩ := bcell hbwA0; have hzwA0 := hbwA0.size; (try simp only [World.size_drew] at hcwA0 hfwA0 hzwA0); (try simp only [World.size_alloc] at hcwA0 hfwA0 hzwA0))
          | (go_at_call 8; (with_reducible refine (toStatement_any b0 b1 b2 b3 b4 b5A b5c b5l b6 b7 b8A b8c b8l b9A b9c b9l b10A b10c b10l b11 b12 _ (HT_b.out) ?_ ?_ ?_ ?_).mono ?_); (focus ((refine Row.more (B := w.heap.size) ?_ (by first | omega | ((try simp only [World.size_setCell]); (try simp only [World.size_drew]); (try simp only [World.size_alloc]); omega))); repeat' (first | with_reducible assumption | (with_reducible refine Row.drew ?_) | (with_reducible refine Row.carry ?_ (by with_reducible assumption) ?_) | (with_reducible refine Row.alloc ?_ ?_ _) | (with_reducible refine Row.setCell ?_ ?_ _) | omega | (simp; done) | (simp; omega)))); (focus ((refine Row.more (B := w.heap.size) ?_ (by first | omega | ((try simp only [World.size_setCell]); (try simp only [World.size_drew]); (try simp only [World.size_alloc]); omega))); repeat' (first | with_reducible assumption | (with_reducible refine Row.drew ?_) | (with_reducible refine Row.carry ?_ (by with_reducible assumption) ?_) | (with_reducible refine Row.alloc ?_ ?_ _) | (with_reducible refine Row.setCell ?_ ?_ _) | omega | (simp; done) | (simp; omega)))); (focus ((refine Row.more (B := w.heap.size) ?_ (by first | omega | ((try simp only [World.size_setCell]); (try simp only [World.size_drew]); (try simp only [World.size_alloc]); omega))); repeat' (first | with_reducible assumption | (with_reducible refine Row.drew ?_) | (with_reducible refine Row.carry ?_ (by with_reducible assumption) ?_) | (with_reducible refine Row.alloc ?_ ?_ _) | (with_reducible refine Row.setCell ?_ ?_ _) | omega | (simp; done) | (simp; omega)))); (focus ((refine Row.more (B := w.heap.size) ?_ (by first | omega | ((try simp only [World.size_setCell]); (try simp only [World.size_drew]); (try simp only [World.size_alloc]); omega))); repeat' (first | with_reducible assumption | (with_reducible refine Row.drew ?_) | (with_reducible refine Row.carry ?_ (by with_reducible assumption) ?_) | (with_reducible refine Row.alloc ?_ ?_ _) | (with_reducible refine Row.setCell ?_ ?_ _) | omega | (simp; done) | (simp; omega)))); intro e wA1 hq; obtain ⟨owA1_b5A, owA1_b5c, owA1_b8A, owA1_b8c, owA1_b9A, owA1_b9c, owA1_b10A, owA1_b10c, rfl, owA1_b5, owA1_b8, owA1_b9, owA1_b10, hbwA1⟩ := hq; obtain ⟨hcwA1, hfwA1⟩ := bcell hbwA1; have hzwA1 := hbwA1.size; (try simp only [World.size_drew] at hcwA1 hfwA1 hzwA1); (try simp only [World.size_alloc] at hcwA1 hfwA1 hzwA1))
          | (go_at_call 7; (with_reducible refine (C1.out HT_a.out HT_b.out owA0_a5A owA0_a5c owA0_a8A owA0_a8c owA0_a9A owA0_a9c owA0_a10A owA0_a10c owA1_b5A owA1_b5c owA1_b8A owA1_b8c owA1_b9A owA1_b9c owA1_b10A owA1_b10c _ ?_ ?_ ?_ ?_ ?_ ?_ ?_ ?_).mono ?_); (focus (refine Row.more (B := wA0.heap.size) ?_ (by first | exact Nat.le_refl _ | omega | ((try simp only [World.size_drew]); omega)))); (focus (first | exact owA0_a5.here | (have h9 := owA0_a5.here; repeat' (first | with_reducible assumption | (with_reducible refine Row.drew ?_) | (with_reducible refine Row.carry ?_ (by with_reducible assumption) ?_) | (with_reducible refine Row.alloc ?_ ?_ _) | (with_reducible refine Row.setCell ?_ ?_ _) | omega | (simp; done) | (simp; omega))))); (focus (refine Row.more (B := wA0.heap.size) ?_ (by first | exact Nat.le_refl _ | omega | ((try simp only [World.size_drew]); omega)))); (focus (first | exact owA0_a8.here | (have h9 := owA0_a8.here; repeat' (first | with_reducible assumption | (with_reducible refine Row.drew ?_) | (with_reducible refine Row.carry ?_ (by with_reducible assumption) ?_) | (with_reducible refine Row.alloc ?_ ?_ _) | (with_reducible refine Row.setCell ?_ ?_ _) | omega | (simp; done) | (simp; omega))))); (focus (refine Row.more (B := wA0.heap.size) ?_ (by first | exact Nat.le_refl _ | omega | ((try simp only [World.size_drew]); omega)))); (focus (first | exact owA0_a9.here | (have h9 := owA0_a9.here; repeat' (first | with_reducible assumption | (with_reducible refine Row.drew ?_) | (with_reducible refine Row.carry ?_ (by with_reducible assumption) ?_) | (with_reducible refine Row.alloc ?_ ?_ _) | (with_reducible refine Row.setCell ?_ ?_ _) | omega | (simp; done) | (simp; omega))))); (focus (refine Row.more (B := wA0.heap.size) ?_ (by first | exact Nat.le_refl _ | omega | ((try simp only [World.size_drew]); omega)))); (focus (first | exact owA0_a10.here | (have h9 := owA0_a10.here; repeat' (first | with_reducible assumption | (with_reducible refine Row.drew ?_) | (with_reducible refine Row.carry ?_ (by with_reducible assumption) ?_) | (with_reducible refine Row.alloc ?_ ?_ _) | (with_reducible refine Row.setCell ?_ ?_ _) | omega | (simp; done) | (simp; omega))))); (focus (refine Row.more (B := wA1.heap.size) ?_ (by first | exact Nat.le_refl _ | omega | ((try simp only [World.size_drew]); omega)))); (focus (first | exact owA1_b5.here | (have h9 := owA1_b5.here; repeat' (first | with_reducible assumption | (with_reducible refine Row.drew ?_) | (with_reducible refine Row.carry ?_ (by with_reducible assumption) ?_) | (with_reducible refine Row.alloc ?_ ?_ _) | (with_reducible refine Row.setCell ?_ ?_ _) | omega | (simp; done) | (simp; omega))))); (focus (refine Row.more (B := wA1.heap.size) ?_ (by first | exact Nat.le_refl _ | omega | ((try simp only [World.size_drew]); omega)))); (focus (first | exact owA1_b8.here | (have h9 := owA1_b8.here; repeat' (first | with_reducible assumption | (with_reducible refine Row.drew ?_) | (with_reducible refine Row.carry ?_ (by with_reducible assumption) ?_) | (with_reducible refine Row.alloc ?_ ?_ _) | (with_reducible refine Row.setCell ?_ ?_ _) | omega | (simp; done) | (simp; omega))))); (focus (refine Row.more (B := wA1.heap.size) ?_ (by first | exact Nat.le_refl _ | omega | ((try simp only [World.size_drew]); omega)))); (focus (first | exact owA1_b9.here | (have h9 := owA1_b9.here; repeat' (first | with_reducible assumption | (with_reducible refine Row.drew ?_) | (with_reducible refine Row.carry ?_ (by with_reducible assumption) ?_) | (with_reducible refine Row.alloc ?_ ?_ _) | (with_reducible refine Row.setCell ?_ ?_ _) | omega | (simp; done) | (simp; omega))))); (focus (refine Row.more (B := wA1.heap.size) ?_ (by first | exact Nat.le_refl _ | omega | ((try simp only [World.size_drew]); omega)))); (focus (first | exact owA1_b10.here | (have h9 := owA1_b10.here; repeat' (first | with_reducible assumption | (with_reducible refine Row.drew ?_) | (with_reducible refine Row.carry ?_ (by with_reducible assumption) ?_) | (with_reducible refine Row.alloc ?_ ?_ _) | (with_reducible refine Row.setCell ?_ ?_ _) | omega | (simp; done) | (simp; omega))))); rintro e wB ⟨rfl, hbwB⟩; obtain ⟨hcwB, hfwB⟩ := bcell hbwB; have hzwB := hbwB.size; (try simp only [World.size_drew] at hcwB hfwB hzwB); (try simp only [World.size_alloc] at hcwB hfwB hzwB)))
      clear kbx_a0 kbx_a1 kbx_a2 kbx_a3 kbx_a4 kbx_a5 kbx_a6 kbx_a7 kbx_a8 kbx_a9 kbx_a10 kbx_a11 kbx_a12 lbx_a
      clear kbx_b0 kbx_b1 kbx_b2 kbx_b3 kbx_b4 kbx_b5 kbx_b6 kbx_b7 kbx_b8 kbx_b9 kbx_b10 kbx_b11 kbx_b12 lbx_b
      all_goals
        have zwB := hbwB.size
        (try simp only [World.size_setCell] at zwB)
        (try simp only [World.size_drew] at zwB)
        (try simp only [World.size_alloc] at zwB)
        have qwB : w.heap.size ≤ wB.heap.size := by omega
        have bx_awB : AtL (w.heap.size) [.int .i64 a0, .string a1, .string a2, .int .i64 a3, .int .i64 a4, .slice a5A a5l.length a5c, .int .i64 a6, .int .i64 a7, .slice a8A a8l.length a8c, .slice a9A a9l.length a9c, .slice a10A a10l.length a10c, .bool a11, .bool a12] wB := by repeat' (first | with_reducible assumption | with_reducible exact AtL.new _ _ _ | ((with_reducible refine AtL.newAt ?_); (first | rfl | (simp; done))) | (with_reducible refine AtL.drew ?_) | (with_reducible refine AtL.below ?_ (by with_reducible assumption)) | (with_reducible refine AtL.alloc ?_ _) | (with_reducible refine AtL.far ?_ ?_ _ _) | omega | (simp; done) | (simp; omega))
        have row_a5wB : Row RvTerm 3 wB (w.heap.size) a5A a5l := by repeat' (first | with_reducible assumption | (with_reducible refine Row.drew ?_) | (with_reducible refine Row.carry ?_ (by with_reducible assumption) ?_) | (with_reducible refine Row.alloc ?_ ?_ _) | (with_reducible refine Row.setCell ?_ ?_ _) | omega | (simp; done) | (simp; omega))
        have row_a8wB : Row RvTerm 3 wB (w.heap.size) a8A a8l := by repeat' (first | with_reducible assumption | (with_reducible refine Row.drew ?_) | (with_reducible refine Row.carry ?_ (by with_reducible assumption) ?_) | (with_reducible refine Row.alloc ?_ ?_ _) | (with_reducible refine Row.setCell ?_ ?_ _) | omega | (simp; done) | (simp; omega))
        have row_a9wB : Row RvString 1 wB (w.heap.size) a9A a9l := by repeat' (first | with_reducible assumption | (with_reducible refine Row.drew ?_) | (with_reducible refine Row.carry ?_ (by with_reducible assumption) ?_) | (with_reducible refine Row.alloc ?_ ?_ _) | (with_reducible refine Row.setCell ?_ ?_ _) | omega | (simp; done) | (simp; omega))
        have row_a10wB : Row RvInt64 1 wB (w.heap.size) a10A a10l := by repeat' (first | with_reducible assumption | (with_reducible refine Row.drew ?_) | (with_reducible refine Row.carry ?_ (by with_reducible assumption) ?_) | (with_reducible refine Row.alloc ?_ ?_ _) | (with_reducible refine Row.setCell ?_ ?_ _) | omega | (simp; done) | (simp; omega))
        have bx_bwB : AtL (w.heap.size + 1) [.int .i64 b0, .string b1, .string b2, .int .i64 b3, .int .i64 b4, .slice b5A b5l.length b5c, .int .i64 b6, .int .i64 b7, .slice b8A b8l.length b8c, .slice b9A b9l.length b9c, .slice b10A b10l.length b10c, .bool b11, .bool b12] wB := by repeat' (first | with_reducible assumption | with_reducible exact AtL.new _ _ _ | ((with_reducible refine AtL.newAt ?_); (first | rfl | (simp; done))) | (with_reducible refine AtL.drew ?_) | (with_reducible refine AtL.below ?_ (by with_reducible assumption)) | (with_reducible refine AtL.alloc ?_ _) | (with_reducible refine AtL.far ?_ ?_ _ _) | omega | (simp; done) | (simp; omega))
        have row_b5wB : Row RvTerm 3 wB (w.heap.size) b5A b5l := by repeat' (first | with_reducible assumption | (with_reducible refine Row.drew ?_) | (with_reducible refine Row.carry ?_ (by with_reducible assumption) ?_) | (with_reducible refine Row.alloc ?_ ?_ _) | (with_reducible refine Row.setCell ?_ ?_ _) | omega | (simp; done) | (simp; omega))
        have row_b8wB : Row RvTerm 3 wB (w.heap.size) b8A b8l := by repeat' (first | with_reducible assumption | (with_reducible refine Row.drew ?_) | (with_reducible refine Row.carry ?_ (by with_reducible assumption) ?_) | (with_reducible refine Row.alloc ?_ ?_ _) | (with_reducible refine Row.setCell ?_ ?_ _) | omega | (simp; done) | (simp; omega))
        have row_b9wB : Row RvString 1 wB (w.heap.size) b9A b9l := by repeat' (first | with_reducible assumption | (with_reducible refine Row.drew ?_) | (with_reducible refine Row.carry ?_ (by with_reducible assumption) ?_) | (with_reducible refine Row.alloc ?_ ?_ _) | (with_reducible refine Row.setCell ?_ ?_ _) | omega | (simp; done) | (simp; omega))
        have row_b10wB : Row RvInt64 1 wB (w.heap.size) b10A b10l := by repeat' (first | with_reducible assumption | (with_reducible refine Row.drew ?_) | (with_reducible refine Row.carry ?_ (by with_reducible assumption) ?_) | (with_reducible refine Row.alloc ?_ ?_ _) | (with_reducible refine Row.setCell ?_ ?_ _) | omega | (simp; done) | (simp; omega))
        have bp := bwS1.out
        have bn : Below w.heap.size w wB := by repeat' (first | with_reducible assumption | with_reducible exact Below.refl _ _ | (with_reducible refine Below.setCell ?_ ?_ _) | (with_reducible refine Below.alloc ?_ ?_ _) | (with_reducible refine Below.drew ?_) | (with_reducible refine below_dr ?_ _) | (with_reducible refine Below.trans ?_ (Below.mono (by with_reducible assumption) ?_)) | omega | (simp; done) | (simp; omega))
        have bwB := Lib.hid bn
        clear bn
        clear bp bwS1
        clear hbwB
        clear bx_awS1
        clear row_a5wS1
        clear row_a8wS1
        clear row_a9wS1
        clear row_a10wS1
        clear bx_bwS1
        clear row_b5wS1
        clear row_b8wS1
        clear row_b9wS1
        clear row_b10wS1
        clear hbwA0 hcwA0 hfwA0 hbwA1 hcwA1 hfwA1 hcwB hfwB
        have kbx_a0 := bx_awB.cell 0 rfl
        have kbx_a1 := bx_awB.cell 1 rfl
        have kbx_a2 := bx_awB.cell 2 rfl
        have kbx_a3 := bx_awB.cell 3 rfl
        have kbx_a4 := bx_awB.cell 4 rfl
        have kbx_a5 := bx_awB.cell 5 rfl
        have kbx_a6 := bx_awB.cell 6 rfl
        have kbx_a7 := bx_awB.cell 7 rfl
        have kbx_a8 := bx_awB.cell 8 rfl
        have kbx_a9 := bx_awB.cell 9 rfl
        have kbx_a10 := bx_awB.cell 10 rfl
        have kbx_a11 := bx_awB.cell 11 rfl
        have kbx_a12 := bx_awB.cell 12 rfl
        have lbx_a := bx_awB.lt
        go_wp2_with fail
        clear kbx_a0 kbx_a1 kbx_a2 kbx_a3 kbx_a4 kbx_a5 kbx_a6 kbx_a7 kbx_a8 kbx_a9 kbx_a10 kbx_a11 kbx_a12 lbx_a
        refine (toStatement_any a0 a1 a2 a3 a4 a5A a5c a5l a6 a7 a8A a8c a8l a9A a9c a9l a10A a10c a10l a11 a12 _ (HT_a.out) ?_ ?_ ?_ ?_).mono ?_
        · (refine Row.more (B := w.heap.size) ?_ (by first | omega | ((try simp only [World.size_setCell]); (try simp only [World.size_drew]); (try simp only [World.size_alloc]); omega))); repeat' (first | with_reducible assumption | (with_reducible refine Row.drew ?_) | (with_reducible refine Row.carry ?_ (by with_reducible assumption) ?_) | (with_reducible refine Row.alloc ?_ ?_ _) | (with_reducible refine Row.setCell ?_ ?_ _) | omega | (simp; done) | (simp; omega))
        · (refine Row.more (B := w.heap.size) ?_ (by first | omega | ((try simp only [World.size_setCell]); (try simp only [World.size_drew]); (try simp only [World.size_alloc]); omega))); repeat' (first | with_reducible assumption | (with_reducible refine Row.drew ?_) | (with_reducible refine Row.carry ?_ (by with_reducible assumption) ?_) | (with_reducible refine Row.alloc ?_ ?_ _) | (with_reducible refine Row.setCell ?_ ?_ _) | omega | (simp; done) | (simp; omega))
        · (refine Row.more (B := w.heap.size) ?_ (by first | omega | ((try simp only [World.size_setCell]); (try simp only [World.size_drew]); (try simp only [World.size_alloc]); omega))); repeat' (first | with_reducible assumption | (with_reducible refine Row.drew ?_) | (with_reducible refine Row.carry ?_ (by with_reducible assumption) ?_) | (with_reducible refine Row.alloc ?_ ?_ _) | (with_reducible refine Row.setCell ?_ ?_ _) | omega | (simp; done) | (simp; omega))
        · (refine Row.more (B := w.heap.size) ?_ (by first | omega | ((try simp only [World.size_setCell]); (try simp only [World.size_drew]); (try simp only [World.size_alloc]); omega))); repeat' (first | with_reducible assumption | (with_reducible refine Row.drew ?_) | (with_reducible refine Row.carry ?_ (by with_reducible assumption) ?_) | (with_reducible refine Row.alloc ?_ ?_ _) | (with_reducible refine Row.setCell ?_ ?_ _) | omega | (simp; done) | (simp; omega))
        intro e wX0 hq
        obtain ⟨gX0_a5A, gX0_a5c, gX0_a8A, gX0_a8c, gX0_a9A, gX0_a9c, gX0_a10A, gX0_a10c, rfl, owX_a5, owX_a8, owX_a9, owX_a10, hbwX0⟩ := hq
        have zwX0 := hbwX0.size
        (try simp only [World.size_setCell] at zwX0)
        (try simp only [World.size_drew] at zwX0)
        (try simp only [World.size_alloc] at zwX0)
        have qwX0 : w.heap.size ≤ wX0.heap.size := by omega
        have bx_awX0 : AtL (w.heap.size) [.int .i64 a0, .string a1, .string a2, .int .i64 a3, .int .i64 a4, .slice a5A a5l.length a5c, .int .i64 a6, .int .i64 a7, .slice a8A a8l.length a8c, .slice a9A a9l.length a9c, .slice a10A a10l.length a10c, .bool a11, .bool a12] wX0 := by repeat' (first | with_reducible assumption | with_reducible exact AtL.new _ _ _ | ((with_reducible refine AtL.newAt ?_); (first | rfl | (simp; done))) | (with_reducible refine AtL.drew ?_) | (with_reducible refine AtL.below ?_ (by with_reducible assumption)) | (with_reducible refine AtL.alloc ?_ _) | (with_reducible refine AtL.far ?_ ?_ _ _) | omega | (simp; done) | (simp; omega))
        have row_a5wX0 : Row RvTerm 3 wX0 (w.heap.size) a5A a5l := by repeat' (first | with_reducible assumption | (with_reducible refine Row.drew ?_) | (with_reducible refine Row.carry ?_ (by with_reducible assumption) ?_) | (with_reducible refine Row.alloc ?_ ?_ _) | (with_reducible refine Row.setCell ?_ ?_ _) | omega | (simp; done) | (simp; omega))
        have row_a8wX0 : Row RvTerm 3 wX0 (w.heap.size) a8A a8l := by repeat' (first | with_reducible assumption | (with_reducible refine Row.drew ?_) | (with_reducible refine Row.carry ?_ (by with_reducible assumption) ?_) | (with_reducible refine Row.alloc ?_ ?_ _) | (with_reducible refine Row.setCell ?_ ?_ _) | omega | (simp; done) | (simp; omega))
        have row_a9wX0 : Row RvString 1 wX0 (w.heap.size) a9A a9l := by repeat' (first | with_reducible assumption | (with_reducible refine Row.drew ?_) | (with_reducible refine Row.carry ?_ (by with_reducible assumption) ?_) | (with_reducible refine Row.alloc ?_ ?_ _) | (with_reducible refine Row.setCell ?_ ?_ _) | omega | (simp; done) | (simp; omega))
        have row_a10wX0 : Row RvInt64 1 wX0 (w.heap.size) a10A a10l := by repeat' (first | with_reducible assumption | (with_reducible refine Row.drew ?_) | (with_reducible refine Row.carry ?_ (by with_reducible assumption) ?_) | (with_reducible refine Row.alloc ?_ ?_ _) | (with_reducible refine Row.setCell ?_ ?_ _) | omega | (simp; done) | (simp; omega))
        have bx_bwX0 : AtL (w.heap.size + 1) [.int .i64 b0, .string b1, .string b2, .int .i64 b3, .int .i64 b4, .slice b5A b5l.length b5c, .int .i64 b6, .int .i64 b7, .slice b8A b8l.length b8c, .slice b9A b9l.length b9c, .slice b10A b10l.length b10c, .bool b11, .bool b12] wX0 := by repeat' (first | with_reducible assumption | with_reducible exact AtL.new _ _ _ | ((with_reducible refine AtL.newAt ?_); (first | rfl | (simp; done))) | (with_reducible refine AtL.drew ?_) | (with_reducible refine AtL.below ?_ (by with_reducible assumption)) | (with_reducible refine AtL.alloc ?_ _) | (with_reducible refine AtL.far ?_ ?_ _ _) | omega | (simp; done) | (simp; omega))
        have row_b5wX0 : Row RvTerm 3 wX0 (w.heap.size) b5A b5l := by repeat' (first | with_reducible assumption | (with_reducible refine Row.drew ?_) | (with_reducible refine Row.carry ?_ (by with_reducible assumption) ?_) | (with_reducible refine Row.alloc ?_ ?_ _) | (with_reducible refine Row.setCell ?_ ?_ _) | omega | (simp; done) | (simp; omega))
        have row_b8wX0 : Row RvTerm 3 wX0 (w.heap.size) b8A b8l := by repeat' (first | with_reducible assumption | (with_reducible refine Row.drew ?_) | (with_reducible refine Row.carry ?_ (by with_reducible assumption) ?_) | (with_reducible refine Row.alloc ?_ ?_ _) | (with_reducible refine Row.setCell ?_ ?_ _) | omega | (simp; done) | (simp; omega))
        have row_b9wX0 : Row RvString 1 wX0 (w.heap.size) b9A b9l := by repeat' (first | with_reducible assumption | (with_reducible refine Row.drew ?_) | (with_reducible refine Row.carry ?_ (by with_reducible assumption) ?_) | (with_reducible refine Row.alloc ?_ ?_ _) | (with_reducible refine Row.setCell ?_ ?_ _) | omega | (simp; done) | (simp; omega))
        have row_b10wX0 : Row RvInt64 1 wX0 (w.heap.size) b10A b10l := by repeat' (first | with_reducible assumption | (with_reducible refine Row.drew ?_) | (with_reducible refine Row.carry ?_ (by with_reducible assumption) ?_) | (with_reducible refine Row.alloc ?_ ?_ _) | (with_reducible refine Row.setCell ?_ ?_ _) | omega | (simp; done) | (simp; omega))
        have bp := bwB.out
        have bn : Below w.heap.size w wX0 := by repeat' (first | with_reducible assumption | with_reducible exact Below.refl _ _ | (with_reducible refine Below.setCell ?_ ?_ _) | (with_reducible refine Below.alloc ?_ ?_ _) | (with_reducible refine Below.drew ?_) | (with_reducible refine below_dr ?_ _) | (with_reducible refine Below.trans ?_ (Below.mono (by with_reducible assumption) ?_)) | omega | (simp; done) | (simp; omega))
        have bwX0 := Lib.hid bn
        clear bn
        clear bp bwB
        clear hbwX0
        clear bx_awB
        clear row_a5wB
        clear row_a8wB
        clear row_a9wB
        clear row_a10wB
        clear bx_bwB
        clear row_b5wB
        clear row_b8wB
        clear row_b9wB
        clear row_b10wB
        have rx_a5wX0 : Row RvTerm 3 wX0 (wX0.heap.size) gX0_a5A a5l := owX_a5.here
        clear owX_a5
        have rx_a8wX0 : Row RvTerm 3 wX0 (wX0.heap.size) gX0_a8A a8l := owX_a8.here
        clear owX_a8
        have rx_a9wX0 : Row RvString 1 wX0 (wX0.heap.size) gX0_a9A a9l := owX_a9.here
        clear owX_a9
        have rx_a10wX0 : Row RvInt64 1 wX0 (wX0.heap.size) gX0_a10A a10l := owX_a10.here
        clear owX_a10
        have kbx_b0 := bx_bwX0.cell 0 rfl
        have kbx_b1 := bx_bwX0.cell 1 rfl
        have kbx_b2 := bx_bwX0.cell 2 rfl
        have kbx_b3 := bx_bwX0.cell 3 rfl
        have kbx_b4 := bx_bwX0.cell 4 rfl
        have kbx_b5 := bx_bwX0.cell 5 rfl
        have kbx_b6 := bx_bwX0.cell 6 rfl
        have kbx_b7 := bx_bwX0.cell 7 rfl
        have kbx_b8 := bx_bwX0.cell 8 rfl
        have kbx_b9 := bx_bwX0.cell 9 rfl
        have kbx_b10 := bx_bwX0.cell 10 rfl
        have kbx_b11 := bx_bwX0.cell 11 rfl
        have kbx_b12 := bx_bwX0.cell 12 rfl
        have lbx_b := bx_bwX0.lt
        go_wp2_with fail
        clear kbx_b0 kbx_b1 kbx_b2 kbx_b3 kbx_b4 kbx_b5 kbx_b6 kbx_b7 kbx_b8 kbx_b9 kbx_b10 kbx_b11 kbx_b12 lbx_b
        generalize hWB : wX0.alloc (.cells #[.int .i64 a0, .string a1, .string a2, .int .i64 a3, .int .i64 a4, .slice gX0_a5A a5l.length gX0_a5c, .int .i64 a6, .int .i64 a7, .slice gX0_a8A a8l.length gX0_a8c, .slice gX0_a9A a9l.length gX0_a9c, .slice gX0_a10A a10l.length gX0_a10c, .bool a11, .bool a12] 38) = WB0
        have hbWB0 : Below wX0.heap.size wX0 WB0 := by rw [← hWB]; repeat' (first | with_reducible assumption | with_reducible exact Below.refl _ _ | (with_reducible refine Below.setCell ?_ ?_ _) | (with_reducible refine Below.alloc ?_ ?_ _) | (with_reducible refine Below.drew ?_) | (with_reducible refine below_dr ?_ _) | (with_reducible refine Below.trans ?_ (Below.mono (by with_reducible assumption) ?_)) | omega | (simp; done) | (simp; omega))
        have at_aWB0 : AtL (wX0.heap.size) [.int .i64 a0, .string a1, .string a2, .int .i64 a3, .int .i64 a4, .slice gX0_a5A a5l.length gX0_a5c, .int .i64 a6, .int .i64 a7, .slice gX0_a8A a8l.length gX0_a8c, .slice gX0_a9A a9l.length gX0_a9c, .slice gX0_a10A a10l.length gX0_a10c, .bool a11, .bool a12] WB0 := by rw [← hWB]; exact AtL.new _ _ _
        clear hWB
        have zWB0 := hbWB0.size
        (try simp only [World.size_setCell] at zWB0)
        (try simp only [World.size_drew] at zWB0)
        (try simp only [World.size_alloc] at zWB0)
        have qWB0 : w.heap.size ≤ WB0.heap.size := by omega
        have bx_aWB0 : AtL (w.heap.size) [.int .i64 a0, .string a1, .string a2, .int .i64 a3, .int .i64 a4, .slice a5A a5l.length a5c, .int .i64 a6, .int .i64 a7, .slice a8A a8l.length a8c, .slice a9A a9l.length a9c, .slice a10A a10l.length a10c, .bool a11, .bool a12] WB0 := by repeat' (first | with_reducible assumption | with_reducible exact AtL.new _ _ _ | ((with_reducible refine AtL.newAt ?_); (first | rfl | (simp; done))) | (with_reducible refine AtL.drew ?_) | (with_reducible refine AtL.below ?_ (by with_reducible assumption)) | (with_reducible refine AtL.alloc ?_ _) | (with_reducible refine AtL.far ?_ ?_ _ _) | omega | (simp; done) | (simp; omega))
        have row_a5WB0 : Row RvTerm 3 WB0 (w.heap.size) a5A a5l := by repeat' (first | with_reducible assumption | (with_reducible refine Row.drew ?_) | (with_reducible refine Row.carry ?_ (by with_reducible assumption) ?_) | (with_reducible refine Row.alloc ?_ ?_ _) | (with_reducible refine Row.setCell ?_ ?_ _) | omega | (simp; done) | (simp; omega))
        have row_a8WB0 : Row RvTerm 3 WB0 (w.heap.size) a8A a8l := by repeat' (first | with_reducible assumption | (with_reducible refine Row.drew ?_) | (with_reducible refine Row.carry ?_ (by with_reducible assumption) ?_) | (with_reducible refine Row.alloc ?_ ?_ _) | (with_reducible refine Row.setCell ?_ ?_ _) | omega | (simp; done) | (simp; omega))
        have row_a9WB0 : Row RvString 1 WB0 (w.heap.size) a9A a9l := by repeat' (first | with_reducible assumption | (with_reducible refine Row.drew ?_) | (with_reducible refine Row.carry ?_ (by with_reducible assumption) ?_) | (with_reducible refine Row.alloc ?_ ?_ _) | (with_reducible refine Row.setCell ?_ ?_ _) | omega | (simp; done) | (simp; omega))
        have row_a10WB0 : Row RvInt64 1 WB0 (w.heap.size) a10A a10l := by repeat' (first | with_reducible assumption | (with_reducible refine Row.drew ?_) | (with_reducible refine Row.carry ?_ (by with_reducible assumption) ?_) | (with_reducible refine Row.alloc ?_ ?_ _) | (with_reducible refine Row.setCell ?_ ?_ _) | omega | (simp; done) | (simp; omega))
        have bx_bWB0 : AtL (w.heap.size + 1) [.int .i64 b0, .string b1, .string b2, .int .i64 b3, .int .i64 b4, .slice b5A b5l.length b5c, .int .i64 b6, .int .i64 b7, .slice b8A b8l.length b8c, .slice b9A b9l.length b9c, .slice b10A b10l.length b10c, .bool b11, .bool b12] WB0 := by repeat' (first | with_reducible assumption | with_reducible exact AtL.new _ _ _ | ((with_reducible refine AtL.newAt ?_); (first | rfl | (simp; done))) | (with_reducible refine AtL.drew ?_) | (with_reducible refine AtL.below ?_ (by with_reducible assumption)) | (with_reducible refine AtL.alloc ?_ _) | (with_reducible refine AtL.far ?_ ?_ _ _) | omega | (simp; done) | (simp; omega))
        have row_b5WB0 : Row RvTerm 3 WB0 (w.heap.size) b5A b5l := by repeat' (first | with_reducible assumption | (with_reducible refine Row.drew ?_) | (with_reducible refine Row.carry ?_ (by with_reducible assumption) ?_) | (with_reducible refine Row.alloc ?_ ?_ _) | (with_reducible refine Row.setCell ?_ ?_ _) | omega | (simp; done) | (simp; omega))
        have row_b8WB0 : Row RvTerm 3 WB0 (w.heap.size) b8A b8l := by repeat' (first | with_reducible assumption | (with_reducible refine Row.drew ?_) | (with_reducible refine Row.carry ?_ (by with_reducible assumption) ?_) | (with_reducible refine Row.alloc ?_ ?_ _) | (with_reducible refine Row.setCell ?_ ?_ _) | omega | (simp; done) | (simp; omega))
        have row_b9WB0 : Row RvString 1 WB0 (w.heap.size) b9A b9l := by repeat' (first | with_reducible assumption | (with_reducible refine Row.drew ?_) | (with_reducible refine Row.carry ?_ (by with_reducible assumption) ?_) | (with_reducible refine Row.alloc ?_ ?_ _) | (with_reducible refine Row.setCell ?_ ?_ _) | omega | (simp; done) | (simp; omega))
        have row_b10WB0 : Row RvInt64 1 WB0 (w.heap.size) b10A b10l := by repeat' (first | with_reducible assumption | (with_reducible refine Row.drew ?_) | (with_reducible refine Row.carry ?_ (by with_reducible assumption) ?_) | (with_reducible refine Row.alloc ?_ ?_ _) | (with_reducible refine Row.setCell ?_ ?_ _) | omega | (simp; done) | (simp; omega))
        have rx_a5WB0 : Row RvTerm 3 WB0 (wX0.heap.size) gX0_a5A a5l := by repeat' (first | with_reducible assumption | (with_reducible refine Row.drew ?_) | (with_reducible refine Row.carry ?_ (by with_reducible assumption) ?_) | (with_reducible refine Row.alloc ?_ ?_ _) | (with_reducible refine Row.setCell ?_ ?_ _) | omega | (simp; done) | (simp; omega))
        have rx_a8WB0 : Row RvTerm 3 WB0 (wX0.heap.size) gX0_a8A a8l := by repeat' (first | with_reducible assumption | (with_reducible refine Row.drew ?_) | (with_reducible refine Row.carry ?_ (by with_reducible assumption) ?_) | (with_reducible refine Row.alloc ?_ ?_ _) | (with_reducible refine Row.setCell ?_ ?_ _) | omega | (simp; done) | (simp; omega))
        have rx_a9WB0 : Row RvString 1 WB0 (wX0.heap.size) gX0_a9A a9l := by repeat' (first | with_reducible assumption | (with_reducible refine Row.drew ?_) | (with_reducible refine Row.carry ?_ (by with_reducible assumption) ?_) | (with_reducible refine Row.alloc ?_ ?_ _) | (with_reducible refine Row.setCell ?_ ?_ _) | omega | (simp; done) | (simp; omega))
        have rx_a10WB0 : Row RvInt64 1 WB0 (wX0.heap.size) gX0_a10A a10l := by repeat' (first | with_reducible assumption | (with_reducible refine Row.drew ?_) | (with_reducible refine Row.carry ?_ (by with_reducible assumption) ?_) | (with_reducible refine Row.alloc ?_ ?_ _) | (with_reducible refine Row.setCell ?_ ?_ _) | omega | (simp; done) | (simp; omega))
        have bp := bwX0.out
        have bn : Below w.heap.size w WB0 := by repeat' (first | with_reducible assumption | with_reducible exact Below.refl _ _ | (with_reducible refine Below.setCell ?_ ?_ _) | (with_reducible refine Below.alloc ?_ ?_ _) | (with_reducible refine Below.drew ?_) | (with_reducible refine below_dr ?_ _) | (with_reducible refine Below.trans ?_ (Below.mono (by with_reducible assumption) ?_)) | omega | (simp; done) | (simp; omega))
        have bWB0 := Lib.hid bn
        clear bn
        clear bp bwX0
        clear hbWB0
        clear bx_awX0
        clear row_a5wX0
        clear row_a8wX0
        clear row_a9wX0
        clear row_a10wX0
        clear bx_bwX0
        clear row_b5wX0
        clear row_b8wX0
        clear row_b9wX0
        clear row_b10wX0
        clear rx_a5wX0
        clear rx_a8wX0
        clear rx_a9wX0
        clear rx_a10wX0
        refine (toStatement_any b0 b1 b2 b3 b4 b5A b5c b5l b6 b7 b8A b8c b8l b9A b9c b9l b10A b10c b10l b11 b12 _ (HT_b.out) ?_ ?_ ?_ ?_).mono ?_
        · (refine Row.more (B := w.heap.size) ?_ (by first | omega | ((try simp only [World.size_setCell]); (try simp only [World.size_drew]); (try simp only [World.size_alloc]); omega))); repeat' (first | with_reducible assumption | (with_reducible refine Row.drew ?_) | (with_reducible refine Row.carry ?_ (by with_reducible assumption) ?_) | (with_reducible refine Row.alloc ?_ ?_ _) | (with_reducible refine Row.setCell ?_ ?_ _) | omega | (simp; done) | (simp; omega))
        · (refine Row.more (B := w.heap.size) ?_ (by first | omega | ((try simp only [World.size_setCell]); (try simp only [World.size_drew]); (try simp only [World.size_alloc]); omega))); repeat' (first | with_reducible assumption | (with_reducible refine Row.drew ?_) | (with_reducible refine Row.carry ?_ (by with_reducible assumption) ?_) | (with_reducible refine Row.alloc ?_ ?_ _) | (with_reducible refine Row.setCell ?_ ?_ _) | omega | (simp; done) | (simp; omega))
        · (refine Row.more (B := w.heap.size) ?_ (by first | omega | ((try simp only [World.size_setCell]); (try simp only [World.size_drew]); (try simp only [World.size_alloc]); omega))); repeat' (first | with_reducible assumption | (with_reducible refine Row.drew ?_) | (with_reducible refine Row.carry ?_ (by with_reducible assumption) ?_) | (with_reducible refine Row.alloc ?_ ?_ _) | (with_reducible refine Row.setCell ?_ ?_ _) | omega | (simp; done) | (simp; omega))
        · (refine Row.more (B := w.heap.size) ?_ (by first | omega | ((try simp only [World.size_setCell]); (try simp only [World.size_drew]); (try simp only [World.size_alloc]); omega))); repeat' (first | with_reducible assumption | (with_reducible refine Row.drew ?_) | (with_reducible refine Row.carry ?_ (by with_reducible assumption) ?_) | (with_reducible refine Row.alloc ?_ ?_ _) | (with_reducible refine Row.setCell ?_ ?_ _) | omega | (simp; done) | (simp; omega))
        intro e wX1 hq
        obtain ⟨gX1_b5A, gX1_b5c, gX1_b8A, gX1_b8c, gX1_b9A, gX1_b9c, gX1_b10A, gX1_b10c, rfl, owX_b5, owX_b8, owX_b9, owX_b10, hbwX1⟩ := hq
        have zwX1 := hbwX1.size
        (try simp only [World.size_setCell] at zwX1)
        (try simp only [World.size_drew] at zwX1)
        (try simp only [World.size_alloc] at zwX1)
        have qwX1 : w.heap.size ≤ wX1.heap.size := by omega
        have bx_awX1 : AtL (w.heap.size) [.int .i64 a0, .string a1, .string a2, .int .i64 a3, .int .i64 a4, .slice a5A a5l.length a5c, .int .i64 a6, .int .i64 a7, .slice a8A a8l.length a8c, .slice a9A a9l.length a9c, .slice a10A a10l.length a10c, .bool a11, .bool a12] wX1 := by repeat' (first | with_reducible assumption | with_reducible exact AtL.new _ _ _ | ((with_reducible refine AtL.newAt ?_); (first | rfl | (simp; done))) | (with_reducible refine AtL.drew ?_) | (with_reducible refine AtL.below ?_ (by with_reducible assumption)) | (with_reducible refine AtL.alloc ?_ _) | (with_reducible refine AtL.far ?_ ?_ _ _) | omega | (simp; done) | (simp; omega))
        have row_a5wX1 : Row RvTerm 3 wX1 (w.heap.size) a5A a5l := by repeat' (first | with_reducible assumption | (with_reducible refine Row.drew ?_) | (with_reducible refine Row.carry ?_ (by with_reducible assumption) ?_) | (with_reducible refine Row.alloc ?_ ?_ _) | (with_reducible refine Row.setCell ?_ ?_ _) | omega | (simp; done) | (simp; omega))
        have row_a8wX1 : Row RvTerm 3 wX1 (w.heap.size) a8A a8l := by repeat' (first | with_reducible assumption | (with_reducible refine Row.drew ?_) | (with_reducible refine Row.carry ?_ (by with_reducible assumption) ?_) | (with_reducible refine Row.alloc ?_ ?_ _) | (with_reducible refine Row.setCell ?_ ?_ _) | omega | (simp; done) | (simp; omega))
        have row_a9wX1 : Row RvString 1 wX1 (w.heap.size) a9A a9l := by repeat' (first | with_reducible assumption | (with_reducible refine Row.drew ?_) | (with_reducible refine Row.carry ?_ (by with_reducible assumption) ?_) | (with_reducible refine Row.alloc ?_ ?_ _) | (with_reducible refine Row.setCell ?_ ?_ _) | omega | (simp; done) | (simp; omega))
        have row_a10wX1 : Row RvInt64 1 wX1 (w.heap.size) a10A a10l := by repeat' (first | with_reducible assumption | (with_reducible refine Row.drew ?_) | (with_reducible refine Row.carry ?_ (by with_reducible assumption) ?_) | (with_reducible refine Row.alloc ?_ ?_ _) | (with_reducible refine Row.setCell ?_ ?_ _) | omega | (simp; done) | (simp; omega))
        have bx_bwX1 : AtL (w.heap.size + 1) [.int .i64 b0, .string b1, .string b2, .int .i64 b3, .int .i64 b4, .slice b5A b5l.length b5c, .int .i64 b6, .int .i64 b7, .slice b8A b8l.length b8c, .slice b9A b9l.length b9c, .slice b10A b10l.length b10c, .bool b11, .bool b12] wX1 := by repeat' (first | with_reducible assumption | with_reducible exact AtL.new _ _ _ | ((with_reducible refine AtL.newAt ?_); (first | rfl | (simp; done))) | (with_reducible refine AtL.drew ?_) | (with_reducible refine AtL.below ?_ (by with_reducible assumption)) | (with_reducible refine AtL.alloc ?_ _) | (with_reducible refine AtL.far ?_ ?_ _ _) | omega | (simp; done) | (simp; omega))
        have row_b5wX1 : Row RvTerm 3 wX1 (w.heap.size) b5A b5l := by repeat' (first | with_reducible assumption | (with_reducible refine Row.drew ?_) | (with_reducible refine Row.carry ?_ (by with_reducible assumption) ?_) | (with_reducible refine Row.alloc ?_ ?_ _) | (with_reducible refine Row.setCell ?_ ?_ _) | omega | (simp; done) | (simp; omega))
        have row_b8wX1 : Row RvTerm 3 wX1 (w.heap.size) b8A b8l := by repeat' (first | with_reducible assumption | (with_reducible refine Row.drew ?_) | (with_reducible refine Row.carry ?_ (by with_reducible assumption) ?_) | (with_reducible refine Row.alloc ?_ ?_ _) | (with_reducible refine Row.setCell ?_ ?_ _) | omega | (simp; done) | (simp; omega))
        have row_b9wX1 : Row RvString 1 wX1 (w.heap.size) b9A b9l := by repeat' (first | with_reducible assumption | (with_reducible refine Row.drew ?_) | (with_reducible refine Row.carry ?_ (by with_reducible assumption) ?_) | (with_reducible refine Row.alloc ?_ ?_ _) | (with_reducible refine Row.setCell ?_ ?_ _) | omega | (simp; done) | (simp; omega))
        have row_b10wX1 : Row RvInt64 1 wX1 (w.heap.size) b10A b10l := by repeat' (first | with_reducible assumption | (with_reducible refine Row.drew ?_) | (with_reducible refine Row.carry ?_ (by with_reducible assumption) ?_) | (with_reducible refine Row.alloc ?_ ?_ _) | (with_reducible refine Row.setCell ?_ ?_ _) | omega | (simp; done) | (simp; omega))
        have rx_a5wX1 : Row RvTerm 3 wX1 (wX0.heap.size) gX0_a5A a5l := by repeat' (first | with_reducible assumption | (with_reducible refine Row.drew ?_) | (with_reducible refine Row.carry ?_ (by with_reducible assumption) ?_) | (with_reducible refine Row.alloc ?_ ?_ _) | (with_reducible refine Row.setCell ?_ ?_ _) | omega | (simp; done) | (simp; omega))
        have rx_a8wX1 : Row RvTerm 3 wX1 (wX0.heap.size) gX0_a8A a8l := by repeat' (first | with_reducible assumption | (with_reducible refine Row.drew ?_) | (with_reducible refine Row.carry ?_ (by with_reducible assumption) ?_) | (with_reducible refine Row.alloc ?_ ?_ _) | (with_reducible refine Row.setCell ?_ ?_ _) | omega | (simp; done) | (simp; omega))
        have rx_a9wX1 : Row RvString 1 wX1 (wX0.heap.size) gX0_a9A a9l := by repeat' (first | with_reducible assumption | (with_reducible refine Row.drew ?_) | (with_reducible refine Row.carry ?_ (by with_reducible assumption) ?_) | (with_reducible refine Row.alloc ?_ ?_ _) | (with_reducible refine Row.setCell ?_ ?_ _) | omega | (simp; done) | (simp; omega))
        have rx_a10wX1 : Row RvInt64 1 wX1 (wX0.heap.size) gX0_a10A a10l := by repeat' (first | with_reducible assumption | (with_reducible refine Row.drew ?_) | (with_reducible refine Row.carry ?_ (by with_reducible assumption) ?_) | (with_reducible refine Row.alloc ?_ ?_ _) | (with_reducible refine Row.setCell ?_ ?_ _) | omega | (simp; done) | (simp; omega))
        have at_awX1 : AtL (wX0.heap.size) [.int .i64 a0, .string a1, .string a2, .int .i64 a3, .int .i64 a4, .slice gX0_a5A a5l.length gX0_a5c, .int .i64 a6, .int .i64 a7, .slice gX0_a8A a8l.length gX0_a8c, .slice gX0_a9A a9l.length gX0_a9c, .slice gX0_a10A a10l.length gX0_a10c, .bool a11, .bool a12] wX1 := by repeat' (first | with_reducible assumption | with_reducible exact AtL.new _ _ _ | ((with_reducible refine AtL.newAt ?_); (first | rfl | (simp; done))) | (with_reducible refine AtL.drew ?_) | (with_reducible refine AtL.below ?_ (by with_reducible assumption)) | (with_reducible refine AtL.alloc ?_ _) | (with_reducible refine AtL.far ?_ ?_ _ _) | omega | (simp; done) | (simp; omega))
        have bp := bWB0.out
        have bn : Below w.heap.size w wX1 := by repeat' (first | with_reducible assumption | with_reducible exact Below.refl _ _ | (with_reducible refine Below.setCell ?_ ?_ _) | (with_reducible refine Below.alloc ?_ ?_ _) | (with_reducible refine Below.drew ?_) | (with_reducible refine below_dr ?_ _) | (with_reducible refine Below.trans ?_ (Below.mono (by with_reducible assumption) ?_)) | omega | (simp; done) | (simp; omega))
        have bwX1 := Lib.hid bn
        clear bn
        clear bp bWB0
        clear hbwX1
        clear bx_aWB0
        clear row_a5WB0
        clear row_a8WB0
        clear row_a9WB0
        clear row_a10WB0
        clear bx_bWB0
        clear row_b5WB0
        clear row_b8WB0
        clear row_b9WB0
        clear row_b10WB0
        clear rx_a5WB0
        clear rx_a8WB0
        clear rx_a9WB0
        clear rx_a10WB0
        clear at_aWB0
        have rx_b5wX1 : Row RvTerm 3 wX1 (wX1.heap.size) gX1_b5A b5l := owX_b5.here
        clear owX_b5
        have rx_b8wX1 : Row RvTerm 3 wX1 (wX1.heap.size) gX1_b8A b8l := owX_b8.here
        clear owX_b8
        have rx_b9wX1 : Row RvString 1 wX1 (wX1.heap.size) gX1_b9A b9l := owX_b9.here
        clear owX_b9
        have rx_b10wX1 : Row RvInt64 1 wX1 (wX1.heap.size) gX1_b10A b10l := owX_b10.here
        clear owX_b10
        have kat_a0 := at_awX1.cell 0 rfl
        have kat_a1 := at_awX1.cell 1 rfl
        have kat_a2 := at_awX1.cell 2 rfl
        have kat_a3 := at_awX1.cell 3 rfl
        have kat_a4 := at_awX1.cell 4 rfl
        have kat_a5 := at_awX1.cell 5 rfl
        have kat_a6 := at_awX1.cell 6 rfl
        have kat_a7 := at_awX1.cell 7 rfl
        have kat_a8 := at_awX1.cell 8 rfl
        have kat_a9 := at_awX1.cell 9 rfl
        have kat_a10 := at_awX1.cell 10 rfl
        have kat_a11 := at_awX1.cell 11 rfl
        have kat_a12 := at_awX1.cell 12 rfl
        have lat_a := at_awX1.lt
        go_wp2_with fail
        clear kat_a0 kat_a1 kat_a2 kat_a3 kat_a4 kat_a5 kat_a6 kat_a7 kat_a8 kat_a9 kat_a10 kat_a11 kat_a12 lat_a
        generalize hWB : wX1.alloc (.cells #[.int .i64 b0, .string b1, .string b2, .int .i64 b3, .int .i64 b4, .slice gX1_b5A b5l.length gX1_b5c, .int .i64 b6, .int .i64 b7, .slice gX1_b8A b8l.length gX1_b8c, .slice gX1_b9A b9l.length gX1_b9c, .slice gX1_b10A b10l.length gX1_b10c, .bool b11, .bool b12] 38) = WB1
        have hbWB1 : Below wX1.heap.size wX1 WB1 := by rw [← hWB]; repeat' (first | with_reducible assumption | with_reducible exact Below.refl _ _ | (with_reducible refine Below.setCell ?_ ?_ _) | (with_reducible refine Below.alloc ?_ ?_ _) | (with_reducible refine Below.drew ?_) | (with_reducible refine below_dr ?_ _) | (with_reducible refine Below.trans ?_ (Below.mono (by with_reducible assumption) ?_)) | omega | (simp; done) | (simp; omega))
        have at_bWB1 : AtL (wX1.heap.size) [.int .i64 b0, .string b1, .string b2, .int .i64 b3, .int .i64 b4, .slice gX1_b5A b5l.length gX1_b5c, .int .i64 b6, .int .i64 b7, .slice gX1_b8A b8l.length gX1_b8c, .slice gX1_b9A b9l.length gX1_b9c, .slice gX1_b10A b10l.length gX1_b10c, .bool b11, .bool b12] WB1 := by rw [← hWB]; exact AtL.new _ _ _
        clear hWB
        have zWB1 := hbWB1.size
        (try simp only [World.size_setCell] at zWB1)
        (try simp only [World.size_drew] at zWB1)
        (try simp only [World.size_alloc] at zWB1)
        have qWB1 : w.heap.size ≤ WB1.heap.size := by omega
        have bx_aWB1 : AtL (w.heap.size) [.int .i64 a0, .string a1, .string a2, .int .i64 a3, .int .i64 a4, .slice a5A a5l.length a5c, .int .i64 a6, .int .i64 a7, .slice a8A a8l.length a8c, .slice a9A a9l.length a9c, .slice a10A a10l.length a10c, .bool a11, .bool a12] WB1 := by repeat' (first | with_reducible assumption | with_reducible exact AtL.new _ _ _ | ((with_reducible refine AtL.newAt ?_); (first | rfl | (simp; done))) | (with_reducible refine AtL.drew ?_) | (with_reducible refine AtL.below ?_ (by with_reducible assumption)) | (with_reducible refine AtL.alloc ?_ _) | (with_reducible refine AtL.far ?_ ?_ _ _) | omega | (simp; done) | (simp; omega))
        have row_a5WB1 : Row RvTerm 3 WB1 (w.heap.size) a5A a5l := by repeat' (first | with_reducible assumption | (with_reducible refine Row.drew ?_) | (with_reducible refine Row.carry ?_ (by with_reducible assumption) ?_) | (with_reducible refine Row.alloc ?_ ?_ _) | (with_reducible refine Row.setCell ?_ ?_ _) | omega | (simp; done) | (simp; omega))
        have row_a8WB1 : Row RvTerm 3 WB1 (w.heap.size) a8A a8l := by repeat' (first | with_reducible assumption | (with_reducible refine Row.drew ?_) | (with_reducible refine Row.carry ?_ (by with_reducible assumption) ?_) | (with_reducible refine Row.alloc ?_ ?_ _) | (with_reducible refine Row.setCell ?_ ?_ _) | omega | (simp; done) | (simp; omega))
        have row_a9WB1 : Row RvString 1 WB1 (w.heap.size) a9A a9l := by repeat' (first | with_reducible assumption | (with_reducible refine Row.drew ?_) | (with_reducible refine Row.carry ?_ (by with_reducible assumption) ?_) | (with_reducible refine Row.alloc ?_ ?_ _) | (with_reducible refine Row.setCell ?_ ?_ _) | omega | (simp; done) | (simp; omega))
        have row_a10WB1 : Row RvInt64 1 WB1 (w.heap.size) a10A a10l := by repeat' (first | with_reducible assumption | (with_reducible refine Row.drew ?_) | (with_reducible refine Row.carry ?_ (by with_reducible assumption) ?_) | (with_reducible refine Row.alloc ?_ ?_ _) | (with_reducible refine Row.setCell ?_ ?_ _) | omega | (simp; done) | (simp; omega))
        have bx_bWB1 : AtL (w.heap.size + 1) [.int .i64 b0, .string b1, .string b2, .int .i64 b3, .int .i64 b4, .slice b5A b5l.length b5c, .int .i64 b6, .int .i64 b7, .slice b8A b8l.length b8c, .slice b9A b9l.length b9c, .slice b10A b10l.length b10c, .bool b11, .bool b12] WB1 := by repeat' (first | with_reducible assumption | with_reducible exact AtL.new _ _ _ | ((with_reducible refine AtL.newAt ?_); (first | rfl | (simp; done))) | (with_reducible refine AtL.drew ?_) | (with_reducible refine AtL.below ?_ (by with_reducible assumption)) | (with_reducible refine AtL.alloc ?_ _) | (with_reducible refine AtL.far ?_ ?_ _ _) | omega | (simp; done) | (simp; omega))
        have row_b5WB1 : Row RvTerm 3 WB1 (w.heap.size) b5A b5l := by repeat' (first | with_reducible assumption | (with_reducible refine Row.drew ?_) | (with_reducible refine Row.carry ?_ (by with_reducible assumption) ?_) | (with_reducible refine Row.alloc ?_ ?_ _) | (with_reducible refine Row.setCell ?_ ?_ _) | omega | (simp; done) | (simp; omega))
        have row_b8WB1 : Row RvTerm 3 WB1 (w.heap.size) b8A b8l := by repeat' (first | with_reducible assumption | (with_reducible refine Row.drew ?_) | (with_reducible refine Row.carry ?_ (by with_reducible assumption) ?_) | (with_reducible refine Row.alloc ?_ ?_ _) | (with_reducible refine Row.setCell ?_ ?_ _) | omega | (simp; done) | (simp; omega))
        have row_b9WB1 : Row RvString 1 WB1 (w.heap.size) b9A b9l := by repeat' (first | with_reducible assumption | (with_reducible refine Row.drew ?_) | (with_reducible refine Row.carry ?_ (by with_reducible assumption) ?_) | (with_reducible refine Row.alloc ?_ ?_ _) | (with_reducible refine Row.setCell ?_ ?_ _) | omega | (simp; done) | (simp; omega))
        have row_b10WB1 : Row RvInt64 1 WB1 (w.heap.size) b10A b10l := by repeat' (first | with_reducible assumption | (with_reducible refine Row.drew ?_) | (with_reducible refine Row.carry ?_ (by with_reducible assumption) ?_) | (with_reducible refine Row.alloc ?_ ?_ _) | (with_reducible refine Row.setCell ?_ ?_ _) | omega | (simp; done) | (simp; omega))
        have rx_a5WB1 : Row RvTerm 3 WB1 (wX0.heap.size) gX0_a5A a5l := by repeat' (first | with_reducible assumption | (with_reducible refine Row.drew ?_) | (with_reducible refine Row.carry ?_ (by with_reducible assumption) ?_) | (with_reducible refine Row.alloc ?_ ?_ _) | (with_reducible refine Row.setCell ?_ ?_ _) | omega | (simp; done) | (simp; omega))
        have rx_a8WB1 : Row RvTerm 3 WB1 (wX0.heap.size) gX0_a8A a8l := by repeat' (first | with_reducible assumption | (with_reducible refine Row.drew ?_) | (with_reducible refine Row.carry ?_ (by with_reducible assumption) ?_) | (with_reducible refine Row.alloc ?_ ?_ _) | (with_reducible refine Row.setCell ?_ ?_ _) | omega | (simp; done) | (simp; omega))
        have rx_a9WB1 : Row RvString 1 WB1 (wX0.heap.size) gX0_a9A a9l := by repeat' (first | with_reducible assumption | (with_reducible refine Row.drew ?_) | (with_reducible refine Row.carry ?_ (by with_reducible assumption) ?_) | (with_reducible refine Row.alloc ?_ ?_ _) | (with_reducible refine Row.setCell ?_ ?_ _) | omega | (simp; done) | (simp; omega))
        have rx_a10WB1 : Row RvInt64 1 WB1 (wX0.heap.size) gX0_a10A a10l := by repeat' (first | with_reducible assumption | (with_reducible refine Row.drew ?_) | (with_reducible refine Row.carry ?_ (by with_reducible assumption) ?_) | (with_reducible refine Row.alloc ?_ ?_ _) | (with_reducible refine Row.setCell ?_ ?_ _) | omega | (simp; done) | (simp; omega))
        have at_aWB1 : AtL (wX0.heap.size) [.int .i64 a0, .string a1, .string a2, .int .i64 a3, .int .i64 a4, .slice gX0_a5A a5l.length gX0_a5c, .int .i64 a6, .int .i64 a7, .slice gX0_a8A a8l.length gX0_a8c, .slice gX0_a9A a9l.length gX0_a9c, .slice gX0_a10A a10l.length gX0_a10c, .bool a11, .bool a12] WB1 := by repeat' (first | with_reducible assumption | with_reducible exact AtL.new _ _ _ | ((with_reducible refine AtL.newAt ?_); (first | rfl | (simp; done))) | (with_reducible refine AtL.drew ?_) | (with_reducible refine AtL.below ?_ (by with_reducible assumption)) | (with_reducible refine AtL.alloc ?_ _) | (with_reducible refine AtL.far ?_ ?_ _ _) | omega | (simp; done) | (simp; omega))
        have rx_b5WB1 : Row RvTerm 3 WB1 (wX1.heap.size) gX1_b5A b5l := by repeat' (first | with_reducible assumption | (with_reducible refine Row.drew ?_) | (with_reducible refine Row.carry ?_ (by with_reducible assumption) ?_) | (with_reducible refine Row.alloc ?_ ?_ _) | (with_reducible refine Row.setCell ?_ ?_ _) | omega | (simp; done) | (simp; omega))
        have rx_b8WB1 : Row RvTerm 3 WB1 (wX1.heap.size) gX1_b8A b8l := by repeat' (first | with_reducible assumption | (with_reducible refine Row.drew ?_) | (with_reducible refine Row.carry ?_ (by with_reducible assumption) ?_) | (with_reducible refine Row.alloc ?_ ?_ _) | (with_reducible refine Row.setCell ?_ ?_ _) | omega | (simp; done) | (simp; omega))
        have rx_b9WB1 : Row RvString 1 WB1 (wX1.heap.size) gX1_b9A b9l := by repeat' (first | with_reducible assumption | (with_reducible refine Row.drew ?_) | (with_reducible refine Row.carry ?_ (by with_reducible assumption) ?_) | (with_reducible refine Row.alloc ?_ ?_ _) | (with_reducible refine Row.setCell ?_ ?_ _) | omega | (simp; done) | (simp; omega))
        have rx_b10WB1 : Row RvInt64 1 WB1 (wX1.heap.size) gX1_b10A b10l := by repeat' (first | with_reducible assumption | (with_reducible refine Row.drew ?_) | (with_reducible refine Row.carry ?_ (by with_reducible assumption) ?_) | (with_reducible refine Row.alloc ?_ ?_ _) | (with_reducible refine Row.setCell ?_ ?_ _) | omega | (simp; done) | (simp; omega))
        have bp := bwX1.out
        have bn : Below w.heap.size w WB1 := by repeat' (first | with_reducible assumption | with_reducible exact Below.refl _ _ | (with_reducible refine Below.setCell ?_ ?_ _) | (with_reducible refine Below.alloc ?_ ?_ _) | (with_reducible refine Below.drew ?_) | (with_reducible refine below_dr ?_ _) | (with_reducible refine Below.trans ?_ (Below.mono (by with_reducible assumption) ?_)) | omega | (simp; done) | (simp; omega))
        have bWB1 := Lib.hid bn
        clear bn
        clear bp bwX1
        clear hbWB1
        clear bx_awX1
        clear row_a5wX1
        clear row_a8wX1
        clear row_a9wX1
        clear row_a10wX1
        clear bx_bwX1
        clear row_b5wX1
        clear row_b8wX1
        clear row_b9wX1
        clear row_b10wX1
        clear rx_a5wX1
        clear rx_a8wX1
        clear rx_a9wX1
        clear rx_a10wX1
        clear at_awX1
        clear rx_b5wX1
        clear rx_b8wX1
        clear rx_b9wX1
        clear rx_b10wX1
        refine (C2.out HT_a.out HT_b.out gX0_a5A gX0_a5c gX0_a8A gX0_a8c gX0_a9A gX0_a9c gX0_a10A gX0_a10c gX1_b5A gX1_b5c gX1_b8A gX1_b8c gX1_b9A gX1_b9c gX1_b10A gX1_b10c _ ?_ ?_ ?_ ?_ ?_ ?_ ?_ ?_).mono ?_
        · (refine Row.more (B := wX0.heap.size) ?_ (by first | omega | ((try simp only [World.size_setCell]); (try simp only [World.size_drew]); (try simp only [World.size_alloc]); omega))); repeat' (first | with_reducible assumption | (with_reducible refine Row.drew ?_) | (with_reducible refine Row.carry ?_ (by with_reducible assumption) ?_) | (with_reducible refine Row.alloc ?_ ?_ _) | (with_reducible refine Row.setCell ?_ ?_ _) | omega | (simp; done) | (simp; omega))
        · (refine Row.more (B := wX0.heap.size) ?_ (by first | omega | ((try simp only [World.size_setCell]); (try simp only [World.size_drew]); (try simp only [World.size_alloc]); omega))); repeat' (first | with_reducible assumption | (with_reducible refine Row.drew ?_) | (with_reducible refine Row.carry ?_ (by with_reducible assumption) ?_) | (with_reducible refine Row.alloc ?_ ?_ _) | (with_reducible refine Row.setCell ?_ ?_ _) | omega | (simp; done) | (simp; omega))
        · (refine Row.more (B := wX0.heap.size) ?_ (by first | omega | ((try simp only [World.size_setCell]); (try simp only [World.size_drew]); (try simp only [World.size_alloc]); omega))); repeat' (first | with_reducible assumption | (with_reducible refine Row.drew ?_) | (with_reducible refine Row.carry ?_ (by with_reducible assumption) ?_) | (with_reducible refine Row.alloc ?_ ?_ _) | (with_reducible refine Row.setCell ?_ ?_ _) | omega | (simp; done) | (simp; omega))
        · (refine Row.more (B := wX0.heap.size) ?_ (by first | omega | ((try simp only [World.size_setCell]); (try simp only [World.size_drew]); (try simp only [World.size_alloc]); omega))); repeat' (first | with_reducible assumption | (with_reducible refine Row.drew ?_) | (with_reducible refine Row.carry ?_ (by with_reducible assumption) ?_) | (with_reducible refine Row.alloc ?_ ?_ _) | (with_reducible refine Row.setCell ?_ ?_ _) | omega | (simp; done) | (simp; omega))
        · (refine Row.more (B := wX1.heap.size) ?_ (by first | omega | ((try simp only [World.size_setCell]); (try simp only [World.size_drew]); (try simp only [World.size_alloc]); omega))); repeat' (first | with_reducible assumption | (with_reducible refine Row.drew ?_) | (with_reducible refine Row.carry ?_ (by with_reducible assumption) ?_) | (with_reducible refine Row.alloc ?_ ?_ _) | (with_reducible refine Row.setCell ?_ ?_ _) | omega | (simp; done) | (simp; omega))
        · (refine Row.more (B := wX1.heap.size) ?_ (by first | omega | ((try simp only [World.size_setCell]); (try simp only [World.size_drew]); (try simp only [World.size_alloc]); omega))); repeat' (first | with_reducible assumption | (with_reducible refine Row.drew ?_) | (with_reducible refine Row.carry ?_ (by with_reducible assumption) ?_) | (with_reducible refine Row.alloc ?_ ?_ _) | (with_reducible refine Row.setCell ?_ ?_ _) | omega | (simp; done) | (simp; omega))
        · (refine Row.more (B := wX1.heap.size) ?_ (by first | omega | ((try simp only [World.size_setCell]); (try simp only [World.size_drew]); (try simp only [World.size_alloc]); omega))); repeat' (first | with_reducible assumption | (with_reducible refine Row.drew ?_) | (with_reducible refine Row.carry ?_ (by with_reducible assumption) ?_) | (with_reducible refine Row.alloc ?_ ?_ _) | (with_reducible refine Row.setCell ?_ ?_ _) | omega | (simp; done) | (simp; omega))
        · (refine Row.more (B := wX1.heap.size) ?_ (by first | omega | ((try simp only [World.size_setCell]); (try simp only [World.size_drew]); (try simp only [World.size_alloc]); omega))); repeat' (first | with_reducible assumption | (with_reducible refine Row.drew ?_) | (with_reducible refine Row.carry ?_ (by with_reducible assumption) ?_) | (with_reducible refine Row.alloc ?_ ?_ _) | (with_reducible refine Row.setCell ?_ ?_ _) | omega | (simp; done) | (simp; omega))
        rintro e wI ⟨rfl, hbwI⟩
        have zwI := hbwI.size
        (try simp only [World.size_setCell] at zwI)
        (try simp only [World.size_drew] at zwI)
        (try simp only [World.size_alloc] at zwI)
        have qwI : w.heap.size ≤ wI.heap.size := by omega
        have bx_awI : AtL (w.heap.size) [.int .i64 a0, .string a1, .string a2, .int .i64 a3, .int .i64 a4, .slice a5A a5l.length a5c, .int .i64 a6, .int .i64 a7, .slice a8A a8l.length a8c, .slice a9A a9l.length a9c, .slice a10A a10l.length a10c, .bool a11, .bool a12] wI := by repeat' (first | with_reducible assumption | with_reducible exact AtL.new _ _ _ | ((with_reducible refine AtL.newAt ?_); (first | rfl | (simp; done))) | (with_reducible refine AtL.drew ?_) | (with_reducible refine AtL.below ?_ (by with_reducible assumption)) | (with_reducible refine AtL.alloc ?_ _) | (with_reducible refine AtL.far ?_ ?_ _ _) | omega | (simp; done) | (simp; omega))
        have row_a5wI : Row RvTerm 3 wI (w.heap.size) a5A a5l := by repeat' (first | with_reducible assumption | (with_reducible refine Row.drew ?_) | (with_reducible refine Row.carry ?_ (by with_reducible assumption) ?_) | (with_reducible refine Row.alloc ?_ ?_ _) | (with_reducible refine Row.setCell ?_ ?_ _) | omega | (simp; done) | (simp; omega))
        have row_a8wI : Row RvTerm 3 wI (w.heap.size) a8A a8l := by repeat' (first | with_reducible assumption | (with_reducible refine Row.drew ?_) | (with_reducible refine Row.carry ?_ (by with_reducible assumption) ?_) | (with_reducible refine Row.alloc ?_ ?_ _) | (with_reducible refine Row.setCell ?_ ?_ _) | omega | (simp; done) | (simp; omega))
        have row_a9wI : Row RvString 1 wI (w.heap.size) a9A a9l := by repeat' (first | with_reducible assumption | (with_reducible refine Row.drew ?_) | (with_reducible refine Row.carry ?_ (by with_reducible assumption) ?_) | (with_reducible refine Row.alloc ?_ ?_ _) | (with_reducible refine Row.setCell ?_ ?_ _) | omega | (simp; done) | (simp; omega))
        have row_a10wI : Row RvInt64 1 wI (w.heap.size) a10A a10l := by repeat' (first | with_reducible assumption | (with_reducible refine Row.drew ?_) | (with_reducible refine Row.carry ?_ (by with_reducible assumption) ?_) | (with_reducible refine Row.alloc ?_ ?_ _) | (with_reducible refine Row.setCell ?_ ?_ _) | omega | (simp; done) | (simp; omega))
        have bx_bwI : AtL (w.heap.size + 1) [.int .i64 b0, .string b1, .string b2, .int .i64 b3, .int .i64 b4, .slice b5A b5l.length b5c, .int .i64 b6, .int .i64 b7, .slice b8A b8l.length b8c, .slice b9A b9l.length b9c, .slice b10A b10l.length b10c, .bool b11, .bool b12] wI := by repeat' (first | with_reducible assumption | with_reducible exact AtL.new _ _ _ | ((with_reducible refine AtL.newAt ?_); (first | rfl | (simp; done))) | (with_reducible refine AtL.drew ?_) | (with_reducible refine AtL.below ?_ (by with_reducible assumption)) | (with_reducible refine AtL.alloc ?_ _) | (with_reducible refine AtL.far ?_ ?_ _ _) | omega | (simp; done) | (simp; omega))
        have row_b5wI : Row RvTerm 3 wI (w.heap.size) b5A b5l := by repeat' (first | with_reducible assumption | (with_reducible refine Row.drew ?_) | (with_reducible refine Row.carry ?_ (by with_reducible assumption) ?_) | (with_reducible refine Row.alloc ?_ ?_ _) | (with_reducible refine Row.setCell ?_ ?_ _) | omega | (simp; done) | (simp; omega))
        have row_b8wI : Row RvTerm 3 wI (w.heap.size) b8A b8l := by repeat' (first | with_reducible assumption | (with_reducible refine Row.drew ?_) | (with_reducible refine Row.carry ?_ (by with_reducible assumption) ?_) | (with_reducible refine Row.alloc ?_ ?_ _) | (with_reducible refine Row.setCell ?_ ?_ _) | omega | (simp; done) | (simp; omega))
        have row_b9wI : Row RvString 1 wI (w.heap.size) b9A b9l := by repeat' (first | with_reducible assumption | (with_reducible refine Row.drew ?_) | (with_reducible refine Row.carry ?_ (by with_reducible assumption) ?_) | (with_reducible refine Row.alloc ?_ ?_ _) | (with_reducible refine Row.setCell ?_ ?_ _) | omega | (simp; done) | (simp; omega))
        have row_b10wI : Row RvInt64 1 wI (w.heap.size) b10A b10l := by repeat' (first | with_reducible assumption | (with_reducible refine Row.drew ?_) | (with_reducible refine Row.carry ?_ (by with_reducible assumption) ?_) | (with_reducible refine Row.alloc ?_ ?_ _) | (with_reducible refine Row.setCell ?_ ?_ _) | omega | (simp; done) | (simp; omega))
        have rx_a5wI : Row RvTerm 3 wI (wX0.heap.size) gX0_a5A a5l := by repeat' (first | with_reducible assumption | (with_reducible refine Row.drew ?_) | (with_reducible refine Row.carry ?_ (by with_reducible assumption) ?_) | (with_reducible refine Row.alloc ?_ ?_ _) | (with_reducible refine Row.setCell ?_ ?_ _) | omega | (simp; done) | (simp; omega))
        have rx_a8wI : Row RvTerm 3 wI (wX0.heap.size) gX0_a8A a8l := by repeat' (first | with_reducible assumption | (with_reducible refine Row.drew ?_) | (with_reducible refine Row.carry ?_ (by with_reducible assumption) ?_) | (with_reducible refine Row.alloc ?_ ?_ _) | (with_reducible refine Row.setCell ?_ ?_ _) | omega | (simp; done) | (simp; omega))
        have rx_a9wI : Row RvString 1 wI (wX0.heap.size) gX0_a9A a9l := by repeat' (first | with_reducible assumption | (with_reducible refine Row.drew ?_) | (with_reducible refine Row.carry ?_ (by with_reducible assumption) ?_) | (with_reducible refine Row.alloc ?_ ?_ _) | (with_reducible refine Row.setCell ?_ ?_ _) | omega | (simp; done) | (simp; omega))
        have rx_a10wI : Row RvInt64 1 wI (wX0.heap.size) gX0_a10A a10l := by repeat' (first | with_reducible assumption | (with_reducible refine Row.drew ?_) | (with_reducible refine Row.carry ?_ (by with_reducible assumption) ?_) | (with_reducible refine Row.alloc ?_ ?_ _) | (with_reducible refine Row.setCell ?_ ?_ _) | omega | (simp; done) | (simp; omega))
        have at_awI : AtL (wX0.heap.size) [.int .i64 a0, .string a1, .string a2, .int .i64 a3, .int .i64 a4, .slice gX0_a5A a5l.length gX0_a5c, .int .i64 a6, .int .i64 a7, .slice gX0_a8A a8l.length gX0_a8c, .slice gX0_a9A a9l.length gX0_a9c, .slice gX0_a10A a10l.length gX0_a10c, .bool a11, .bool a12] wI := by repeat' (first | with_reducible assumption | with_reducible exact AtL.new _ _ _ | ((with_reducible refine AtL.newAt ?_); (first | rfl | (simp; done))) | (with_reducible refine AtL.drew ?_) | (with_reducible refine AtL.below ?_ (by with_reducible assumption)) | (with_reducible refine AtL.alloc ?_ _) | (with_reducible refine AtL.far ?_ ?_ _ _) | omega | (simp; done) | (simp; omega))
        have rx_b5wI : Row RvTerm 3 wI (wX1.heap.size) gX1_b5A b5l := by repeat' (first | with_reducible assumption | (with_reducible refine Row.drew ?_) | (with_reducible refine Row.carry ?_ (by with_reducible assumption) ?_) | (with_reducible refine Row.alloc ?_ ?_ _) | (with_reducible refine Row.setCell ?_ ?_ _) | omega | (simp; done) | (simp; omega))
        have rx_b8wI : Row RvTerm 3 wI (wX1.heap.size) gX1_b8A b8l := by repeat' (first | with_reducible assumption | (with_reducible refine Row.drew ?_) | (with_reducible refine Row.carry ?_ (by with_reducible assumption) ?_) | (with_reducible refine Row.alloc ?_ ?_ _) | (with_reducible refine Row.setCell ?_ ?_ _) | omega | (simp; done) | (simp; omega))
        have rx_b9wI : Row RvString 1 wI (wX1.heap.size) gX1_b9A b9l := by repeat' (first | with_reducible assumption | (with_reducible refine Row.drew ?_) | (with_reducible refine Row.carry ?_ (by with_reducible assumption) ?_) | (with_reducible refine Row.alloc ?_ ?_ _) | (with_reducible refine Row.setCell ?_ ?_ _) | omega | (simp; done) | (simp; omega))
        have rx_b10wI : Row RvInt64 1 wI (wX1.heap.size) gX1_b10A b10l := by repeat' (first | with_reducible assumption | (with_reducible refine Row.drew ?_) | (with_reducible refine Row.carry ?_ (by with_reducible assumption) ?_) | (with_reducible refine Row.alloc ?_ ?_ _) | (with_reducible refine Row.setCell ?_ ?_ _) | omega | (simp; done) | (simp; omega))
        have at_bwI : AtL (wX1.heap.size) [.int .i64 b0, .string b1, .string b2, .int .i64 b3, .int .i64 b4, .slice gX1_b5A b5l.length gX1_b5c, .int .i64 b6, .int .i64 b7, .slice gX1_b8A b8l.length gX1_b8c, .slice gX1_b9A b9l.length gX1_b9c, .slice gX1_b10A b10l.length gX1_b10c, .bool b11, .bool b12] wI := by repeat' (first | with_reducible assumption | with_reducible exact AtL.new _ _ _ | ((with_reducible refine AtL.newAt ?_); (first | rfl | (simp; done))) | (with_reducible refine AtL.drew ?_) | (with_reducible refine AtL.below ?_ (by with_reducible assumption)) | (with_reducible refine AtL.alloc ?_ _) | (with_reducible refine AtL.far ?_ ?_ _ _) | omega | (simp; done) | (simp; omega))
        have bp := bWB1.out
        have bn : Below w.heap.size w wI := by repeat' (first | with_reducible assumption | with_reducible exact Below.refl _ _ | (with_reducible refine Below.setCell ?_ ?_ _) | (with_reducible refine Below.alloc ?_ ?_ _) | (with_reducible refine Below.drew ?_) | (with_reducible refine below_dr ?_ _) | (with_reducible refine Below.trans ?_ (Below.mono (by with_reducible assumption) ?_)) | omega | (simp; done) | (simp; omega))
        have bwI := Lib.hid bn
        clear bn
        clear bp bWB1
        clear hbwI
        clear bx_aWB1
        clear row_a5WB1
        clear row_a8WB1
        clear row_a9WB1
        clear row_a10WB1
        clear bx_bWB1
        clear row_b5WB1
        clear row_b8WB1
        clear row_b9WB1
        clear row_b10WB1
        clear rx_a5WB1
        clear rx_a8WB1
        clear rx_a9WB1
        clear rx_a10WB1
        clear at_aWB1
        clear rx_b5WB1
        clear rx_b8WB1
        clear rx_b9WB1
        clear rx_b10WB1
        clear at_bWB1
        have kat_a0 := at_awI.cell 0 rfl
        have kat_a1 := at_awI.cell 1 rfl
        have kat_a2 := at_awI.cell 2 rfl
        have kat_a3 := at_awI.cell 3 rfl
        have kat_a4 := at_awI.cell 4 rfl
        have kat_a5 := at_awI.cell 5 rfl
        have kat_a6 := at_awI.cell 6 rfl
        have kat_a7 := at_awI.cell 7 rfl
        have kat_a8 := at_awI.cell 8 rfl
        have kat_a9 := at_awI.cell 9 rfl
        have kat_a10 := at_awI.cell 10 rfl
        have kat_a11 := at_awI.cell 11 rfl
        have kat_a12 := at_awI.cell 12 rfl
        have lat_a := at_awI.lt
        have kbx_a0 := bx_awI.cell 0 rfl
        have kbx_a1 := bx_awI.cell 1 rfl
        have kbx_a2 := bx_awI.cell 2 rfl
        have kbx_a3 := bx_awI.cell 3 rfl
        have kbx_a4 := bx_awI.cell 4 rfl
        have kbx_a5 := bx_awI.cell 5 rfl
        have kbx_a6 := bx_awI.cell 6 rfl
        have kbx_a7 := bx_awI.cell 7 rfl
        have kbx_a8 := bx_awI.cell 8 rfl
        have kbx_a9 := bx_awI.cell 9 rfl
        have kbx_a10 := bx_awI.cell 10 rfl
        have kbx_a11 := bx_awI.cell 11 rfl
        have kbx_a12 := bx_awI.cell 12 rfl
        have lbx_a := bx_awI.lt
        go_wp2_with fail
        go_region_held3 (fun w' => (∀ b o, b < wI.heap.size → w'.cell? ⟨b, o, none⟩ = wI.cell? ⟨b, o, none⟩) ∧ wI.heap.size ≤ w'.heap.size)
          (first | ((try dsimp only); exact ⟨fun b o h => (by (repeat (first | with_reducible exact rfl | (with_reducible refine (cell_drew_at _ _).trans ?_) | (with_reducible refine (cell_set_at _ _ (by first | omega | (simp; done) | (simp; omega))).trans ?_) | (with_reducible refine (cell_alloc_at _ _ (by first | omega | (simp; done) | (simp; omega))).trans ?_) | (with_reducible refine (hcwT0 b o (by first | omega | (simp; done) | (simp; omega))).trans ?_) | (with_reducible refine (hcwE0 b o (by first | omega | (simp; done) | (simp; omega))).trans ?_)))), (by first | omega | (simp; done) | (simp; omega))⟩) | fail)
          (first
            | (go_at_call 8; (with_reducible refine (toStatement_any a0 a1 a2 a3 a4 a5A a5c a5l a6 a7 a8A a8c a8l a9A a9c a9l a10A a10c a10l a11 a12 _ (HT_a.out) ?_ ?_ ?_ ?_).mono ?_); (focus ((refine Row.more (B := w.heap.size) ?_ (by first | omega | ((try simp only [World.size_setCell]); (try simp only [World.size_drew]); (try simp only [World.size_alloc]); omega))); repeat' (first | with_reducible assumption | (with_reducible refine Row.drew ?_) | (with_reducible refine Row.carry ?_ (by with_reducible assumption) ?_) | (with_reducible refine Row.alloc ?_ ?_ _) | (with_reducible refine Row.setCell ?_ ?_ _) | omega | (simp; done) | (simp; omega)))); (focus ((refine Row.more (B := w.heap.size) ?_ (by first | omega | ((try simp only [World.size_setCell]); (try simp only [World.size_drew]); (try simp only [World.size_alloc]); omega))); repeat' (first | with_reducible assumption | (with_reducible refine Row.drew ?_) | (with_reducible refine Row.carry ?_ (by with_reducible assumption) ?_) | (with_reducible refine Row.alloc ?_ ?_ _) | (with_reducible refine Row.setCell ?_ ?_ _) | omega | (simp; done) | (simp; omega)))); (focus ((refine Row.more (B := w.heap.size) ?_ (by first | omega | ((try simp only [World.size_setCell]); (try simp only [World.size_drew]); (try simp only [World.size_alloc]); omega))); repeat' (first | with_reducible assumption | (with_reducible refine Row.drew ?_) | (with_reducible refine Row.carry ?_ (by with_reducible assumption) ?_) | (with_reducible refine Row.alloc ?_ ?_ _) | (with_reducible refine Row.setCell ?_ ?_ _) | omega | (simp; done) | (simp; omega)))); (focus ((refine Row.more (B := w.heap.size) ?_ (by first | omega | ((try simp only [World.size_setCell]); (try simp only [World.size_drew]); (try simp only [World.size_alloc]); omega))); repeat' (first | with_reducible assumption | (with_reducible refine Row.drew ?_) | (with_reducible refine Row.carry ?_ (by with_reducible assumption) ?_) | (with_reducible refine Row.alloc ?_ ?_ _) | (with_reducible refine Row.setCell ?_ ?_ _) | omega | (simp; done) | (simp; omega)))); intro e wT0 hq; obtain ⟨owE_a5A, owE_a5c, owE_a8A, owE_a8c, owE_a9A, owE_a9c, owE_a10A, owE_a10c, rfl, owE_a5, owE_a8, owE_a9, owE_a10, hbwT0⟩ := hq; obtain ⟨hcwT0, hfwT0⟩ := bcell hbwT0; have hzwT0 := hbwT0.size; (try simp only [World.size_drew] at hcwT0 hfwT0 hzwT0); (try simp only [World.size_alloc] at hcwT0 hfwT0 hzwT0))
            | (go_at_call 10; (with_reducible refine (eqStatement_any a0 a1 a2 a3 a4 gX0_a5A gX0_a5c a5l a6 a7 gX0_a8A gX0_a8c a8l gX0_a9A gX0_a9c a9l gX0_a10A gX0_a10c a10l a11 a12 owE_a5A owE_a5c owE_a8A owE_a8c owE_a9A owE_a9c owE_a10A owE_a10c _ (Nat.le_trans HT_a.out (by omega)) ?_ ?_ ?_ ?_ ?_ ?_ ?_ ?_).mono ?_); (focus ((refine Row.more (B := wX0.heap.size) ?_ (by first | omega | ((try simp only [World.size_setCell]); (try simp only [World.size_drew]); (try simp only [World.size_alloc]); omega))); repeat' (first | with_reducible assumption | (with_reducible refine Row.drew ?_) | (with_reducible refine Row.carry ?_ (by with_reducible assumption) ?_) | (with_reducible refine Row.alloc ?_ ?_ _) | (with_reducible refine Row.setCell ?_ ?_ _) | omega | (simp; done) | (simp; omega)))); (focus ((refine Row.more (B := wX0.heap.size) ?_ (by first | omega | ((try simp only [World.size_setCell]); (try simp only [World.size_drew]); (try simp only [World.size_alloc]); omega))); repeat' (first | with_reducible assumption | (with_reducible refine Row.drew ?_) | (with_reducible refine Row.carry ?_ (by with_reducible assumption) ?_) | (with_reducible refine Row.alloc ?_ ?_ _) | (with_reducible refine Row.setCell ?_ ?_ _) | omega | (simp; done) | (simp; omega)))); (focus ((refine Row.more (B := wX0.heap.size) ?_ (by first | omega | ((try simp only [World.size_setCell]); (try simp only [World.size_drew]); (try simp only [World.size_alloc]); omega))); repeat' (first | with_reducible assumption | (with_reducible refine Row.drew ?_) | (with_reducible refine Row.carry ?_ (by with_reducible assumption) ?_) | (with_reducible refine Row.alloc ?_ ?_ _) | (with_reducible refine Row.setCell ?_ ?_ _) | omega | (simp; done) | (simp; omega)))); (focus ((refine Row.more (B := wX0.heap.size) ?_ (by first | omega | ((try simp only [World.size_setCell]); (try simp only [World.size_drew]); (try simp only [World.size_alloc]); omega))); repeat' (first | with_reducible assumption | (with_reducible refine Row.drew ?_) | (with_reducible refine Row.carry ?_ (by with_reducible assumption) ?_) | (with_reducible refine Row.alloc ?_ ?_ _) | (with_reducible refine Row.setCell ?_ ?_ _) | omega | (simp; done) | (simp; omega)))); (focus (first | exact owE_a5.here | exact (RowIn.here owE_a5).drew)); (focus (first | exact owE_a8.here | exact (RowIn.here owE_a8).drew)); (focus (first | exact owE_a9.here | exact (RowIn.here owE_a9).drew)); (focus (first | exact owE_a10.here | exact (RowIn.here owE_a10).drew)); rintro e wE0 ⟨rfl, hbwE0⟩; obtain ⟨hcwE0, hfwE0⟩ := bcell hbwE0; have hzwE0 := hbwE0.size; (try simp only [World.size_drew] at hcwE0 hfwE0 hzwE0); (try simp only [World.size_alloc] at hcwE0 hfwE0 hzwE0)))
        clear kat_a0 kat_a1 kat_a2 kat_a3 kat_a4 kat_a5 kat_a6 kat_a7 kat_a8 kat_a9 kat_a10 kat_a11 kat_a12 lat_a
        clear kbx_a0 kbx_a1 kbx_a2 kbx_a3 kbx_a4 kbx_a5 kbx_a6 kbx_a7 kbx_a8 kbx_a9 kbx_a10 kbx_a11 kbx_a12 lbx_a
        all_goals
          have zwE0 := hbwE0.size
          (try simp only [World.size_setCell] at zwE0)
          (try simp only [World.size_drew] at zwE0)
          (try simp only [World.size_alloc] at zwE0)
          have qwE0 : w.heap.size ≤ wE0.heap.size := by omega
          have bx_awE0 : AtL (w.heap.size) [.int .i64 a0, .string a1, .string a2, .int .i64 a3, .int .i64 a4, .slice a5A a5l.length a5c, .int .i64 a6, .int .i64 a7, .slice a8A a8l.length a8c, .slice a9A a9l.length a9c, .slice a10A a10l.length a10c, .bool a11, .bool a12] wE0 := by repeat' (first | with_reducible assumption | with_reducible exact AtL.new _ _ _ | ((with_reducible refine AtL.newAt ?_); (first | rfl | (simp; done))) | (with_reducible refine AtL.drew ?_) | (with_reducible refine AtL.below ?_ (by with_reducible assumption)) | (with_reducible refine AtL.alloc ?_ _) | (with_reducible refine AtL.far ?_ ?_ _ _) | omega | (simp; done) | (simp; omega))
          have row_a5wE0 : Row RvTerm 3 wE0 (w.heap.size) a5A a5l := by repeat' (first | with_reducible assumption | (with_reducible refine Row.drew ?_) | (with_reducible refine Row.carry ?_ (by with_reducible assumption) ?_) | (with_reducible refine Row.alloc ?_ ?_ _) | (with_reducible refine Row.setCell ?_ ?_ _) | omega | (simp; done) | (simp; omega))
          have row_a8wE0 : Row RvTerm 3 wE0 (w.heap.size) a8A a8l := by repeat' (first | with_reducible assumption | (with_reducible refine Row.drew ?_) | (with_reducible refine Row.carry ?_ (by with_reducible assumption) ?_) | (with_reducible refine Row.alloc ?_ ?_ _) | (with_reducible refine Row.setCell ?_ ?_ _) | omega | (simp; done) | (simp; omega))
          have row_a9wE0 : Row RvString 1 wE0 (w.heap.size) a9A a9l := by repeat' (first | with_reducible assumption | (with_reducible refine Row.drew ?_) | (with_reducible refine Row.carry ?_ (by with_reducible assumption) ?_) | (with_reducible refine Row.alloc ?_ ?_ _) | (with_reducible refine Row.setCell ?_ ?_ _) | omega | (simp; done) | (simp; omega))
          have row_a10wE0 : Row RvInt64 1 wE0 (w.heap.size) a10A a10l := by repeat' (first | with_reducible assumption | (with_reducible refine Row.drew ?_) | (with_reducible refine Row.carry ?_ (by with_reducible assumption) ?_) | (with_reducible refine Row.alloc ?_ ?_ _) | (with_reducible refine Row.setCell ?_ ?_ _) | omega | (simp; done) | (simp; omega))
          have bx_bwE0 : AtL (w.heap.size + 1) [.int .i64 b0, .string b1, .string b2, .int .i64 b3, .int .i64 b4, .slice b5A b5l.length b5c, .int .i64 b6, .int .i64 b7, .slice b8A b8l.length b8c, .slice b9A b9l.length b9c, .slice b10A b10l.length b10c, .bool b11, .bool b12] wE0 := by repeat' (first | with_reducible assumption | with_reducible exact AtL.new _ _ _ | ((with_reducible refine AtL.newAt ?_); (first | rfl | (simp; done))) | (with_reducible refine AtL.drew ?_) | (with_reducible refine AtL.below ?_ (by with_reducible assumption)) | (with_reducible refine AtL.alloc ?_ _) | (with_reducible refine AtL.far ?_ ?_ _ _) | omega | (simp; done) | (simp; omega))
          have row_b5wE0 : Row RvTerm 3 wE0 (w.heap.size) b5A b5l := by repeat' (first | with_reducible assumption | (with_reducible refine Row.drew ?_) | (with_reducible refine Row.carry ?_ (by with_reducible assumption) ?_) | (with_reducible refine Row.alloc ?_ ?_ _) | (with_reducible refine Row.setCell ?_ ?_ _) | omega | (simp; done) | (simp; omega))
          have row_b8wE0 : Row RvTerm 3 wE0 (w.heap.size) b8A b8l := by repeat' (first | with_reducible assumption | (with_reducible refine Row.drew ?_) | (with_reducible refine Row.carry ?_ (by with_reducible assumption) ?_) | (with_reducible refine Row.alloc ?_ ?_ _) | (with_reducible refine Row.setCell ?_ ?_ _) | omega | (simp; done) | (simp; omega))
          have row_b9wE0 : Row RvString 1 wE0 (w.heap.size) b9A b9l := by repeat' (first | with_reducible assumption | (with_reducible refine Row.drew ?_) | (with_reducible refine Row.carry ?_ (by with_reducible assumption) ?_) | (with_reducible refine Row.alloc ?_ ?_ _) | (with_reducible refine Row.setCell ?_ ?_ _) | omega | (simp; done) | (simp; omega))
          have row_b10wE0 : Row RvInt64 1 wE0 (w.heap.size) b10A b10l := by repeat' (first | with_reducible assumption | (with_reducible refine Row.drew ?_) | (with_reducible refine Row.carry ?_ (by with_reducible assumption) ?_) | (with_reducible refine Row.alloc ?_ ?_ _) | (with_reducible refine Row.setCell ?_ ?_ _) | omega | (simp; done) | (simp; omega))
          have rx_a5wE0 : Row RvTerm 3 wE0 (wX0.heap.size) gX0_a5A a5l := by repeat' (first | with_reducible assumption | (with_reducible refine Row.drew ?_) | (with_reducible refine Row.carry ?_ (by with_reducible assumption) ?_) | (with_reducible refine Row.alloc ?_ ?_ _) | (with_reducible refine Row.setCell ?_ ?_ _) | omega | (simp; done) | (simp; omega))
          have rx_a8wE0 : Row RvTerm 3 wE0 (wX0.heap.size) gX0_a8A a8l := by repeat' (first | with_reducible assumption | (with_reducible refine Row.drew ?_) | (with_reducible refine Row.carry ?_ (by with_reducible assumption) ?_) | (with_reducible refine Row.alloc ?_ ?_ _) | (with_reducible refine Row.setCell ?_ ?_ _) | omega | (simp; done) | (simp; omega))
          have rx_a9wE0 : Row RvString 1 wE0 (wX0.heap.size) gX0_a9A a9l := by repeat' (first | with_reducible assumption | (with_reducible refine Row.drew ?_) | (with_reducible refine Row.carry ?_ (by with_reducible assumption) ?_) | (with_reducible refine Row.alloc ?_ ?_ _) | (with_reducible refine Row.setCell ?_ ?_ _) | omega | (simp; done) | (simp; omega))
          have rx_a10wE0 : Row RvInt64 1 wE0 (wX0.heap.size) gX0_a10A a10l := by repeat' (first | with_reducible assumption | (with_reducible refine Row.drew ?_) | (with_reducible refine Row.carry ?_ (by with_reducible assumption) ?_) | (with_reducible refine Row.alloc ?_ ?_ _) | (with_reducible refine Row.setCell ?_ ?_ _) | omega | (simp; done) | (simp; omega))
          have at_awE0 : AtL (wX0.heap.size) [.int .i64 a0, .string a1, .string a2, .int .i64 a3, .int .i64 a4, .slice gX0_a5A a5l.length gX0_a5c, .int .i64 a6, .int .i64 a7, .slice gX0_a8A a8l.length gX0_a8c, .slice gX0_a9A a9l.length gX0_a9c, .slice gX0_a10A a10l.length gX0_a10c, .bool a11, .bool a12] wE0 := by repeat' (first | with_reducible assumption | with_reducible exact AtL.new _ _ _ | ((with_reducible refine AtL.newAt ?_); (first | rfl | (simp; done))) | (with_reducible refine AtL.drew ?_) | (with_reducible refine AtL.below ?_ (by with_reducible assumption)) | (with_reducible refine AtL.alloc ?_ _) | (with_reducible refine AtL.far ?_ ?_ _ _) | omega | (simp; done) | (simp; omega))
          have rx_b5wE0 : Row RvTerm 3 wE0 (wX1.heap.size) gX1_b5A b5l := by repeat' (first | with_reducible assumption | (with_reducible refine Row.drew ?_) | (with_reducible refine Row.carry ?_ (by with_reducible assumption) ?_) | (with_reducible refine Row.alloc ?_ ?_ _) | (with_reducible refine Row.setCell ?_ ?_ _) | omega | (simp; done) | (simp; omega))
          have rx_b8wE0 : Row RvTerm 3 wE0 (wX1.heap.size) gX1_b8A b8l := by repeat' (first | with_reducible assumption | (with_reducible refine Row.drew ?_) | (with_reducible refine Row.carry ?_ (by with_reducible assumption) ?_) | (with_reducible refine Row.alloc ?_ ?_ _) | (with_reducible refine Row.setCell ?_ ?_ _) | omega | (simp; done) | (simp; omega))
          have rx_b9wE0 : Row RvString 1 wE0 (wX1.heap.size) gX1_b9A b9l := by repeat' (first | with_reducible assumption | (with_reducible refine Row.drew ?_) | (with_reducible refine Row.carry ?_ (by with_reducible assumption) ?_) | (with_reducible refine Row.alloc ?_ ?_ _) | (with_reducible refine Row.setCell ?_ ?_ _) | omega | (simp; done) | (simp; omega))
          have rx_b10wE0 : Row RvInt64 1 wE0 (wX1.heap.size) gX1_b10A b10l := by repeat' (first | with_reducible assumption | (with_reducible refine Row.drew ?_) | (with_reducible refine Row.carry ?_ (by with_reducible assumption) ?_) | (with_reducible refine Row.alloc ?_ ?_ _) | (with_reducible refine Row.setCell ?_ ?_ _) | omega | (simp; done) | (simp; omega))
          have at_bwE0 : AtL (wX1.heap.size) [.int .i64 b0, .string b1, .string b2, .int .i64 b3, .int .i64 b4, .slice gX1_b5A b5l.length gX1_b5c, .int .i64 b6, .int .i64 b7, .slice gX1_b8A b8l.length gX1_b8c, .slice gX1_b9A b9l.length gX1_b9c, .slice gX1_b10A b10l.length gX1_b10c, .bool b11, .bool b12] wE0 := by repeat' (first | with_reducible assumption | with_reducible exact AtL.new _ _ _ | ((with_reducible refine AtL.newAt ?_); (first | rfl | (simp; done))) | (with_reducible refine AtL.drew ?_) | (with_reducible refine AtL.below ?_ (by with_reducible assumption)) | (with_reducible refine AtL.alloc ?_ _) | (with_reducible refine AtL.far ?_ ?_ _ _) | omega | (simp; done) | (simp; omega))
          have bp := bwI.out
          have bn : Below w.heap.size w wE0 := by repeat' (first | with_reducible assumption | with_reducible exact Below.refl _ _ | (with_reducible refine Below.setCell ?_ ?_ _) | (with_reducible refine Below.alloc ?_ ?_ _) | (with_reducible refine Below.drew ?_) | (with_reducible refine below_dr ?_ _) | (with_reducible refine Below.trans ?_ (Below.mono (by with_reducible assumption) ?_)) | omega | (simp; done) | (simp; omega))
          have bwE0 := Lib.hid bn
          clear bn
          clear bp bwI
          clear hbwE0
          clear bx_awI
          clear row_a5wI
          clear row_a8wI
          clear row_a9wI
          clear row_a10wI
          clear bx_bwI
          clear row_b5wI
          clear row_b8wI
          clear row_b9wI
          clear row_b10wI
          clear rx_a5wI
          clear rx_a8wI
          clear rx_a9wI
          clear rx_a10wI
          clear at_awI
          clear rx_b5wI
          clear rx_b8wI
          clear rx_b9wI
          clear rx_b10wI
          clear at_bwI
          have kat_b0 := at_bwE0.cell 0 rfl
          have kat_b1 := at_bwE0.cell 1 rfl
          have kat_b2 := at_bwE0.cell 2 rfl
          have kat_b3 := at_bwE0.cell 3 rfl
          have kat_b4 := at_bwE0.cell 4 rfl
          have kat_b5 := at_bwE0.cell 5 rfl
          have kat_b6 := at_bwE0.cell 6 rfl
          have kat_b7 := at_bwE0.cell 7 rfl
          have kat_b8 := at_bwE0.cell 8 rfl
          have kat_b9 := at_bwE0.cell 9 rfl
          have kat_b10 := at_bwE0.cell 10 rfl
          have kat_b11 := at_bwE0.cell 11 rfl
          have kat_b12 := at_bwE0.cell 12 rfl
          have lat_b := at_bwE0.lt
          have kbx_b0 := bx_bwE0.cell 0 rfl
          have kbx_b1 := bx_bwE0.cell 1 rfl
          have kbx_b2 := bx_bwE0.cell 2 rfl
          have kbx_b3 := bx_bwE0.cell 3 rfl
          have kbx_b4 := bx_bwE0.cell 4 rfl
          have kbx_b5 := bx_bwE0.cell 5 rfl
          have kbx_b6 := bx_bwE0.cell 6 rfl
          have kbx_b7 := bx_bwE0.cell 7 rfl
          have kbx_b8 := bx_bwE0.cell 8 rfl
          have kbx_b9 := bx_bwE0.cell 9 rfl
          have kbx_b10 := bx_bwE0.cell 10 rfl
          have kbx_b11 := bx_bwE0.cell 11 rfl
          have kbx_b12 := bx_bwE0.cell 12 rfl
          have lbx_b := bx_bwE0.lt
          go_wp2_with fail
          go_region_held3 (fun w' => (∀ b o, b < wE0.heap.size → w'.cell? ⟨b, o, none⟩ = wE0.cell? ⟨b, o, none⟩) ∧ wE0.heap.size ≤ w'.heap.size)
            (first | ((try dsimp only); exact ⟨fun b o h => (by (repeat (first | with_reducible exact rfl | (with_reducible refine (cell_drew_at _ _).trans ?_) | (with_reducible refine (cell_set_at _ _ (by first | omega | (simp; done) | (simp; omega))).trans ?_) | (with_reducible refine (cell_alloc_at _ _ (by first | omega | (simp; done) | (simp; omega))).trans ?_) | (with_reducible refine (hcwT1 b o (by first | omega | (simp; done) | (simp; omega))).trans ?_) | (with_reducible refine (hcwE1 b o (by first | omega | (simp; done) | (simp; omega))).trans ?_)))), (by first | omega | (simp; done) | (simp; omega))⟩) | fail)
            (first
              | (go_at_call 8; (with_reducible refine (toStatement_any b0 b1 b2 b3 b4 b5A b5c b5l b6 b7 b8A b8c b8l b9A b9c b9l b10A b10c b10l b11 b12 _ (HT_b.out) ?_ ?_ ?_ ?_).mono ?_); (focus ((refine Row.more (B := w.heap.size) ?_ (by first | omega | ((try simp only [World.size_setCell]); (try simp only [World.size_drew]); (try simp only [World.size_alloc]); omega))); repeat' (first | with_reducible assumption | (with_reducible refine Row.drew ?_) | (with_reducible refine Row.carry ?_ (by with_reducible assumption) ?_) | (with_reducible refine Row.alloc ?_ ?_ _) | (with_reducible refine Row.setCell ?_ ?_ _) | omega | (simp; done) | (simp; omega)))); (focus ((refine Row.more (B := w.heap.size) ?_ (by first | omega | ((try simp only [World.size_setCell]); (try simp only [World.size_drew]); (try simp only [World.size_alloc]); omega))); repeat' (first | with_reducible assumption | (with_reducible refine Row.drew ?_) | (with_reducible refine Row.carry ?_ (by with_reducible assumption) ?_) | (with_reducible refine Row.alloc ?_ ?_ _) | (with_reducible refine Row.setCell ?_ ?_ _) | omega | (simp; done) | (simp; omega)))); (focus ((refine Row.more (B := w.heap.size) ?_ (by first | omega | ((try simp only [World.size_setCell]); (try simp only [World.size_drew]); (try simp only [World.size_alloc]); omega))); repeat' (first | with_reducible assumption | (with_reducible refine Row.drew ?_) | (with_reducible refine Row.carry ?_ (by with_reducible assumption) ?_) | (with_reducible refine Row.alloc ?_ ?_ _) | (with_reducible refine Row.setCell ?_ ?_ _) | omega | (simp; done) | (simp; omega)))); (focus ((refine Row.more (B := w.heap.size) ?_ (by first | omega | ((try simp only [World.size_setCell]); (try simp only [World.size_drew]); (try simp only [World.size_alloc]); omega))); repeat' (first | with_reducible assumption | (with_reducible refine Row.drew ?_) | (with_reducible refine Row.carry ?_ (by with_reducible assumption) ?_) | (with_reducible refine Row.alloc ?_ ?_ _) | (with_reducible refine Row.setCell ?_ ?_ _) | omega | (simp; done) | (simp; omega)))); intro e wT1 hq; obtain ⟨owE_b5A, owE_b5c, owE_b8A, owE_b8c, owE_b9A, owE_b9c, owE_b10A, owE_b10c, rfl, owE_b5, owE_b8, owE_b9, owE_b10, hbwT1⟩ := hq; obtain ⟨hcwT1, hfwT1⟩ := bcell hbwT1; have hzwT1 := hbwT1.size; (try simp only [World.size_drew] at hcwT1 hfwT1 hzwT1); (try simp only [World.size_alloc] at hcwT1 hfwT1 hzwT1))
              | (go_at_call 10; (with_reducible refine (eqStatement_any b0 b1 b2 b3 b4 gX1_b5A gX1_b5c b5l b6 b7 gX1_b8A gX1_b8c b8l gX1_b9A gX1_b9c b9l gX1_b10A gX1_b10c b10l b11 b12 owE_b5A owE_b5c owE_b8A owE_b8c owE_b9A owE_b9c owE_b10A owE_b10c _ (Nat.le_trans HT_b.out (by omega)) ?_ ?_ ?_ ?_ ?_ ?_ ?_ ?_).mono ?_); (focus ((refine Row.more (B := wX1.heap.size) ?_ (by first | omega | ((try simp only [World.size_setCell]); (try simp only [World.size_drew]); (try simp only [World.size_alloc]); omega))); repeat' (first | with_reducible assumption | (with_reducible refine Row.drew ?_) | (with_reducible refine Row.carry ?_ (by with_reducible assumption) ?_) | (with_reducible refine Row.alloc ?_ ?_ _) | (with_reducible refine Row.setCell ?_ ?_ _) | omega | (simp; done) | (simp; omega)))); (focus ((refine Row.more (B := wX1.heap.size) ?_ (by first | omega | ((try simp only [World.size_setCell]); (try simp only [World.size_drew]); (try simp only [World.size_alloc]); omega))); repeat' (first | with_reducible assumption | (with_reducible refine Row.drew ?_) | (with_reducible refine Row.carry ?_ (by with_reducible assumption) ?_) | (with_reducible refine Row.alloc ?_ ?_ _) | (with_reducible refine Row.setCell ?_ ?_ _) | omega | (simp; done) | (simp; omega)))); (focus ((refine Row.more (B := wX1.heap.size) ?_ (by first | omega | ((try simp only [World.size_setCell]); (try simp only [World.size_drew]); (try simp only [World.size_alloc]); omega))); repeat' (first | with_reducible assumption | (with_reducible refine Row.drew ?_) | (with_reducible refine Row.carry ?_ (by with_reducible assumption) ?_) | (with_reducible refine Row.alloc ?_ ?_ _) | (with_reducible refine Row.setCell ?_ ?_ _) | omega | (simp; done) | (simp; omega)))); (focus ((refine Row.more (B := wX1.heap.size) ?_ (by first | omega | ((try simp only [World.size_setCell]); (try simp only [World.size_drew]); (try simp only [World.size_alloc]); omega))); repeat' (first | with_reducible assumption | (with_reducible refine Row.drew ?_) | (with_reducible refine Row.carry ?_ (by with_reducible assumption) ?_) | (with_reducible refine Row.alloc ?_ ?_ _) | (with_reducible refine Row.setCell ?_ ?_ _) | omega | (simp; done) | (simp; omega)))); (focus (first | exact owE_b5.here | exact (RowIn.here owE_b5).drew)); (focus (first | exact owE_b8.here | exact (RowIn.here owE_b8).drew)); (focus (first | exact owE_b9.here | exact (RowIn.here owE_b9).drew)); (focus (first | exact owE_b10.here | exact (RowIn.here owE_b10).drew)); rintro e wE1 ⟨rfl, hbwE1⟩; obtain ⟨hcwE1, hfwE1⟩ := bcell hbwE1; have hzwE1 := hbwE1.size; (try simp only [World.size_drew] at hcwE1 hfwE1 hzwE1); (try simp only [World.size_alloc] at hcwE1 hfwE1 hzwE1)))
          clear kat_b0 kat_b1 kat_b2 kat_b3 kat_b4 kat_b5 kat_b6 kat_b7 kat_b8 kat_b9 kat_b10 kat_b11 kat_b12 lat_b
          clear kbx_b0 kbx_b1 kbx_b2 kbx_b3 kbx_b4 kbx_b5 kbx_b6 kbx_b7 kbx_b8 kbx_b9 kbx_b10 kbx_b11 kbx_b12 lbx_b
          all_goals
            have zwE1 := hbwE1.size
            (try simp only [World.size_setCell] at zwE1)
            (try simp only [World.size_drew] at zwE1)
            (try simp only [World.size_alloc] at zwE1)
            have qwE1 : w.heap.size ≤ wE1.heap.size := by omega
            have bx_awE1 : AtL (w.heap.size) [.int .i64 a0, .string a1, .string a2, .int .i64 a3, .int .i64 a4, .slice a5A a5l.length a5c, .int .i64 a6, .int .i64 a7, .slice a8A a8l.length a8c, .slice a9A a9l.length a9c, .slice a10A a10l.length a10c, .bool a11, .bool a12] wE1 := by repeat' (first | with_reducible assumption | with_reducible exact AtL.new _ _ _ | ((with_reducible refine AtL.newAt ?_); (first | rfl | (simp; done))) | (with_reducible refine AtL.drew ?_) | (with_reducible refine AtL.below ?_ (by with_reducible assumption)) | (with_reducible refine AtL.alloc ?_ _) | (with_reducible refine AtL.far ?_ ?_ _ _) | omega | (simp; done) | (simp; omega))
            have row_a5wE1 : Row RvTerm 3 wE1 (w.heap.size) a5A a5l := by repeat' (first | with_reducible assumption | (with_reducible refine Row.drew ?_) | (with_reducible refine Row.carry ?_ (by with_reducible assumption) ?_) | (with_reducible refine Row.alloc ?_ ?_ _) | (with_reducible refine Row.setCell ?_ ?_ _) | omega | (simp; done) | (simp; omega))
            have row_a8wE1 : Row RvTerm 3 wE1 (w.heap.size) a8A a8l := by repeat' (first | with_reducible assumption | (with_reducible refine Row.drew ?_) | (with_reducible refine Row.carry ?_ (by with_reducible assumption) ?_) | (with_reducible refine Row.alloc ?_ ?_ _) | (with_reducible refine Row.setCell ?_ ?_ _) | omega | (simp; done) | (simp; omega))
            have row_a9wE1 : Row RvString 1 wE1 (w.heap.size) a9A a9l := by repeat' (first | with_reducible assumption | (with_reducible refine Row.drew ?_) | (with_reducible refine Row.carry ?_ (by with_reducible assumption) ?_) | (with_reducible refine Row.alloc ?_ ?_ _) | (with_reducible refine Row.setCell ?_ ?_ _) | omega | (simp; done) | (simp; omega))
            have row_a10wE1 : Row RvInt64 1 wE1 (w.heap.size) a10A a10l := by repeat' (first | with_reducible assumption | (with_reducible refine Row.drew ?_) | (with_reducible refine Row.carry ?_ (by with_reducible assumption) ?_) | (with_reducible refine Row.alloc ?_ ?_ _) | (with_reducible refine Row.setCell ?_ ?_ _) | omega | (simp; done) | (simp; omega))
            have bx_bwE1 : AtL (w.heap.size + 1) [.int .i64 b0, .string b1, .string b2, .int .i64 b3, .int .i64 b4, .slice b5A b5l.length b5c, .int .i64 b6, .int .i64 b7, .slice b8A b8l.length b8c, .slice b9A b9l.length b9c, .slice b10A b10l.length b10c, .bool b11, .bool b12] wE1 := by repeat' (first | with_reducible assumption | with_reducible exact AtL.new _ _ _ | ((with_reducible refine AtL.newAt ?_); (first | rfl | (simp; done))) | (with_reducible refine AtL.drew ?_) | (with_reducible refine AtL.below ?_ (by with_reducible assumption)) | (with_reducible refine AtL.alloc ?_ _) | (with_reducible refine AtL.far ?_ ?_ _ _) | omega | (simp; done) | (simp; omega))
            have row_b5wE1 : Row RvTerm 3 wE1 (w.heap.size) b5A b5l := by repeat' (first | with_reducible assumption | (with_reducible refine Row.drew ?_) | (with_reducible refine Row.carry ?_ (by with_reducible assumption) ?_) | (with_reducible refine Row.alloc ?_ ?_ _) | (with_reducible refine Row.setCell ?_ ?_ _) | omega | (simp; done) | (simp; omega))
            have row_b8wE1 : Row RvTerm 3 wE1 (w.heap.size) b8A b8l := by repeat' (first | with_reducible assumption | (with_reducible refine Row.drew ?_) | (with_reducible refine Row.carry ?_ (by with_reducible assumption) ?_) | (with_reducible refine Row.alloc ?_ ?_ _) | (with_reducible refine Row.setCell ?_ ?_ _) | omega | (simp; done) | (simp; omega))
            have row_b9wE1 : Row RvString 1 wE1 (w.heap.size) b9A b9l := by repeat' (first | with_reducible assumption | (with_reducible refine Row.drew ?_) | (with_reducible refine Row.carry ?_ (by with_reducible assumption) ?_) | (with_reducible refine Row.alloc ?_ ?_ _) | (with_reducible refine Row.setCell ?_ ?_ _) | omega | (simp; done) | (simp; omega))
            have row_b10wE1 : Row RvInt64 1 wE1 (w.heap.size) b10A b10l := by repeat' (first | with_reducible assumption | (with_reducible refine Row.drew ?_) | (with_reducible refine Row.carry ?_ (by with_reducible assumption) ?_) | (with_reducible refine Row.alloc ?_ ?_ _) | (with_reducible refine Row.setCell ?_ ?_ _) | omega | (simp; done) | (simp; omega))
            have rx_a5wE1 : Row RvTerm 3 wE1 (wX0.heap.size) gX0_a5A a5l := by repeat' (first | with_reducible assumption | (with_reducible refine Row.drew ?_) | (with_reducible refine Row.carry ?_ (by with_reducible assumption) ?_) | (with_reducible refine Row.alloc ?_ ?_ _) | (with_reducible refine Row.setCell ?_ ?_ _) | omega | (simp; done) | (simp; omega))
            have rx_a8wE1 : Row RvTerm 3 wE1 (wX0.heap.size) gX0_a8A a8l := by repeat' (first | with_reducible assumption | (with_reducible refine Row.drew ?_) | (with_reducible refine Row.carry ?_ (by with_reducible assumption) ?_) | (with_reducible refine Row.alloc ?_ ?_ _) | (with_reducible refine Row.setCell ?_ ?_ _) | omega | (simp; done) | (simp; omega))
            have rx_a9wE1 : Row RvString 1 wE1 (wX0.heap.size) gX0_a9A a9l := by repeat' (first | with_reducible assumption | (with_reducible refine Row.drew ?_) | (with_reducible refine Row.carry ?_ (by with_reducible assumption) ?_) | (with_reducible refine Row.alloc ?_ ?_ _) | (with_reducible refine Row.setCell ?_ ?_ _) | omega | (simp; done) | (simp; omega))
            have rx_a10wE1 : Row RvInt64 1 wE1 (wX0.heap.size) gX0_a10A a10l := by repeat' (first | with_reducible assumption | (with_reducible refine Row.drew ?_) | (with_reducible refine Row.carry ?_ (by with_reducible assumption) ?_) | (with_reducible refine Row.alloc ?_ ?_ _) | (with_reducible refine Row.setCell ?_ ?_ _) | omega | (simp; done) | (simp; omega))
            have at_awE1 : AtL (wX0.heap.size) [.int .i64 a0, .string a1, .string a2, .int .i64 a3, .int .i64 a4, .slice gX0_a5A a5l.length gX0_a5c, .int .i64 a6, .int .i64 a7, .slice gX0_a8A a8l.length gX0_a8c, .slice gX0_a9A a9l.length gX0_a9c, .slice gX0_a10A a10l.length gX0_a10c, .bool a11, .bool a12] wE1 := by repeat' (first | with_reducible assumption | with_reducible exact AtL.new _ _ _ | ((with_reducible refine AtL.newAt ?_); (first | rfl | (simp; done))) | (with_reducible refine AtL.drew ?_) | (with_reducible refine AtL.below ?_ (by with_reducible assumption)) | (with_reducible refine AtL.alloc ?_ _) | (with_reducible refine AtL.far ?_ ?_ _ _) | omega | (simp; done) | (simp; omega))
            have rx_b5wE1 : Row RvTerm 3 wE1 (wX1.heap.size) gX1_b5A b5l := by repeat' (first | with_reducible assumption | (with_reducible refine Row.drew ?_) | (with_reducible refine Row.carry ?_ (by with_reducible assumption) ?_) | (with_reducible refine Row.alloc ?_ ?_ _) | (with_reducible refine Row.setCell ?_ ?_ _) | omega | (simp; done) | (simp; omega))
            have rx_b8wE1 : Row RvTerm 3 wE1 (wX1.heap.size) gX1_b8A b8l := by repeat' (first | with_reducible assumption | (with_reducible refine Row.drew ?_) | (with_reducible refine Row.carry ?_ (by with_reducible assumption) ?_) | (with_reducible refine Row.alloc ?_ ?_ _) | (with_reducible refine Row.setCell ?_ ?_ _) | omega | (simp; done) | (simp; omega))
            have rx_b9wE1 : Row RvString 1 wE1 (wX1.heap.size) gX1_b9A b9l := by repeat' (first | with_reducible assumption | (with_reducible refine Row.drew ?_) | (with_reducible refine Row.carry ?_ (by with_reducible assumption) ?_) | (with_reducible refine Row.alloc ?_ ?_ _) | (with_reducible refine Row.setCell ?_ ?_ _) | omega | (simp; done) | (simp; omega))
            have rx_b10wE1 : Row RvInt64 1 wE1 (wX1.heap.size) gX1_b10A b10l := by repeat' (first | with_reducible assumption | (with_reducible refine Row.drew ?_) | (with_reducible refine Row.carry ?_ (by with_reducible assumption) ?_) | (with_reducible refine Row.alloc ?_ ?_ _) | (with_reducible refine Row.setCell ?_ ?_ _) | omega | (simp; done) | (simp; omega))
            have at_bwE1 : AtL (wX1.heap.size) [.int .i64 b0, .string b1, .string b2, .int .i64 b3, .int .i64 b4, .slice gX1_b5A b5l.length gX1_b5c, .int .i64 b6, .int .i64 b7, .slice gX1_b8A b8l.length gX1_b8c, .slice gX1_b9A b9l.length gX1_b9c, .slice gX1_b10A b10l.length gX1_b10c, .bool b11, .bool b12] wE1 := by repeat' (first | with_reducible assumption | with_reducible exact AtL.new _ _ _ | ((with_reducible refine AtL.newAt ?_); (first | rfl | (simp; done))) | (with_reducible refine AtL.drew ?_) | (with_reducible refine AtL.below ?_ (by with_reducible assumption)) | (with_reducible refine AtL.alloc ?_ _) | (with_reducible refine AtL.far ?_ ?_ _ _) | omega | (simp; done) | (simp; omega))
            have bp := bwE0.out
            have bn : Below w.heap.size w wE1 := by repeat' (first | with_reducible assumption | with_reducible exact Below.refl _ _ | (with_reducible refine Below.setCell ?_ ?_ _) | (with_reducible refine Below.alloc ?_ ?_ _) | (with_reducible refine Below.drew ?_) | (with_reducible refine below_dr ?_ _) | (with_reducible refine Below.trans ?_ (Below.mono (by with_reducible assumption) ?_)) | omega | (simp; done) | (simp; omega))
            have bwE1 := Lib.hid bn
            clear bn
            clear bp bwE0
            clear hbwE1
            clear bx_awE0
            clear row_a5wE0
            clear row_a8wE0
            clear row_a9wE0
            clear row_a10wE0
            clear bx_bwE0
            clear row_b5wE0
            clear row_b8wE0
            clear row_b9wE0
            clear row_b10wE0
            clear rx_a5wE0
            clear rx_a8wE0
            clear rx_a9wE0
            clear rx_a10wE0
            clear at_awE0
            clear rx_b5wE0
            clear rx_b8wE0
            clear rx_b9wE0
            clear rx_b10wE0
            clear at_bwE0
            go_wp2_with fail
            go_ret
            have bp := bwE1.out
            exact ⟨rfl, by repeat' (first | with_reducible assumption | with_reducible exact Below.refl _ _ | (with_reducible refine Below.setCell ?_ ?_ _) | (with_reducible refine Below.alloc ?_ ?_ _) | (with_reducible refine Below.drew ?_) | (with_reducible refine below_dr ?_ _) | (with_reducible refine Below.trans ?_ (Below.mono (by with_reducible assumption) ?_)) | omega | (simp; done) | (simp; omega))⟩
end Go.Proofs.Ytimmopnckmdcjaa
