/- Walks: the law on SameHinter, over contracts of both sides. -/
import Derived.Test.YtdikenapnncmfaaHz5
import Derived.Test.YtdikenapnncmfaaHzb2
namespace Go.Proofs.Ytdikenapnncmfaa
open Go.RowKit
set_option linter.unusedVariables false
set_option maxRecDepth 100000 in
set_option maxHeartbeats 12800000 in
theorem walk_SameHinter (a : AHinter) (b : AHinter) (w : World) (k_a : okHinter w w.heap.size a) (k_b : okHinter w w.heap.size b) :
    Calls Try.prog 11 #[.agg #[.int .i64 a.1, .slice a.2.1.1 a.2.1.2.2.length a.2.1.2.1, .slice a.2.2.1.1 a.2.2.1.2.2.length a.2.2.1.2.1, .slice a.2.2.2.1.1 a.2.2.2.1.2.2.length a.2.2.2.1.2.1, .slice a.2.2.2.2.1.1 a.2.2.2.2.1.2.2.length a.2.2.2.2.1.2.1, .slice a.2.2.2.2.2.1.1 a.2.2.2.2.2.1.2.2.length a.2.2.2.2.2.1.2.1, .slice a.2.2.2.2.2.2.1.1 a.2.2.2.2.2.2.1.2.2.length a.2.2.2.2.2.2.1.2.1, .slice a.2.2.2.2.2.2.2.1.1 a.2.2.2.2.2.2.2.1.2.2.length a.2.2.2.2.2.2.2.1.2.1, .bool a.2.2.2.2.2.2.2.2.1, .int .i64 a.2.2.2.2.2.2.2.2.2.1, .int .i64 a.2.2.2.2.2.2.2.2.2.2.1, .int .i64 a.2.2.2.2.2.2.2.2.2.2.2.1, .int .i64 a.2.2.2.2.2.2.2.2.2.2.2.2], .agg #[.int .i64 b.1, .slice b.2.1.1 b.2.1.2.2.length b.2.1.2.1, .slice b.2.2.1.1 b.2.2.1.2.2.length b.2.2.1.2.1, .slice b.2.2.2.1.1 b.2.2.2.1.2.2.length b.2.2.2.1.2.1, .slice b.2.2.2.2.1.1 b.2.2.2.2.1.2.2.length b.2.2.2.2.1.2.1, .slice b.2.2.2.2.2.1.1 b.2.2.2.2.2.1.2.2.length b.2.2.2.2.2.1.2.1, .slice b.2.2.2.2.2.2.1.1 b.2.2.2.2.2.2.1.2.2.length b.2.2.2.2.2.2.1.2.1, .slice b.2.2.2.2.2.2.2.1.1 b.2.2.2.2.2.2.2.1.2.2.length b.2.2.2.2.2.2.2.1.2.1, .bool b.2.2.2.2.2.2.2.2.1, .int .i64 b.2.2.2.2.2.2.2.2.2.1, .int .i64 b.2.2.2.2.2.2.2.2.2.2.1, .int .i64 b.2.2.2.2.2.2.2.2.2.2.2.1, .int .i64 b.2.2.2.2.2.2.2.2.2.2.2.2]] w fun e w' => e = .returned (.bool true) ∧ Below w.heap.size w w' := by
  obtain ⟨a0, ⟨a1A, a1c, a1q⟩, ⟨a2A, a2c, a2q⟩, ⟨a3A, a3c, a3q⟩, ⟨a4A, a4c, a4q⟩, ⟨a5A, a5c, a5q⟩, ⟨a6A, a6c, a6q⟩, ⟨a7A, a7c, a7q⟩, a8, a9, a10, a11, a12⟩ := a
  obtain ⟨w_a0, nc_a1, cm_a1, rd_a1, ok_a1, nc_a2, cm_a2, rd_a2, ok_a2, nc_a3, cm_a3, rd_a3, ok_a3, nc_a4, cm_a4, rd_a4, ok_a4, nc_a5, cm_a5, rd_a5, ok_a5, nc_a6, cm_a6, rd_a6, ok_a6, nc_a7, cm_a7, rd_a7, ok_a7, w_a9, w_a10, w_a11, w_a12⟩ := k_a
  simp only at w_a0 nc_a1 cm_a1 rd_a1 ok_a1 nc_a2 cm_a2 rd_a2 ok_a2 nc_a3 cm_a3 rd_a3 ok_a3 nc_a4 cm_a4 rd_a4 ok_a4 nc_a5 cm_a5 rd_a5 ok_a5 nc_a6 cm_a6 rd_a6 ok_a6 nc_a7 cm_a7 rd_a7 ok_a7 w_a9 w_a10 w_a11 w_a12 ⊢
  have row_a1 : Row RvPt 2 w w.heap.size a1A (a1q.map dPt) := Row.of rd_a1 (fun i b hb => rv_Pt b (ok_a1 i b hb))
  have sz_a1 : szRow SzPt (a1q.map dPt) := ⟨Nat.le_trans (Nat.le_of_eq (List.length_map _)) (Nat.le_trans nc_a1 cm_a1), fun i b hb => sz_map sz_Pt ok_a1 i b hb⟩
  have hn_a1 : a1q.length = (a1q.map dPt).length := (List.length_map _).symm
  rw [hn_a1]
  generalize a1q.map dPt = a1l at row_a1 sz_a1 ⊢
  have HZ_a1 := Lib.hid sz_a1
  clear nc_a1 cm_a1 rd_a1 ok_a1 hn_a1 sz_a1
  have row_a2 : Row RvPt 2 w w.heap.size a2A (a2q.map dPt) := Row.of rd_a2 (fun i b hb => rv_Pt b (ok_a2 i b hb))
  have sz_a2 : szRow SzPt (a2q.map dPt) := ⟨Nat.le_trans (Nat.le_of_eq (List.length_map _)) (Nat.le_trans nc_a2 cm_a2), fun i b hb => sz_map sz_Pt ok_a2 i b hb⟩
  have hn_a2 : a2q.length = (a2q.map dPt).length := (List.length_map _).symm
  rw [hn_a2]
  generalize a2q.map dPt = a2l at row_a2 sz_a2 ⊢
  have HZ_a2 := Lib.hid sz_a2
  clear nc_a2 cm_a2 rd_a2 ok_a2 hn_a2 sz_a2
  have row_a3 : Row RvBool 1 w w.heap.size a3A (a3q.map dBool) := Row.of rd_a3 (fun i b hb => rv_Bool b (ok_a3 i b hb))
  have sz_a3 : szRow SzBool (a3q.map dBool) := ⟨Nat.le_trans (Nat.le_of_eq (List.length_map _)) (Nat.le_trans nc_a3 cm_a3), fun i b hb => sz_map sz_Bool ok_a3 i b hb⟩
  have hn_a3 : a3q.length = (a3q.map dBool).length := (List.length_map _).symm
  rw [hn_a3]
  generalize a3q.map dBool = a3l at row_a3 sz_a3 ⊢
  have HZ_a3 := Lib.hid sz_a3
  clear nc_a3 cm_a3 rd_a3 ok_a3 hn_a3 sz_a3
  have row_a4 : Row RvBool 1 w w.heap.size a4A (a4q.map dBool) := Row.of rd_a4 (fun i b hb => rv_Bool b (ok_a4 i b hb))
  have sz_a4 : szRow SzBool (a4q.map dBool) := ⟨Nat.le_trans (Nat.le_of_eq (List.length_map _)) (Nat.le_trans nc_a4 cm_a4), fun i b hb => sz_map sz_Bool ok_a4 i b hb⟩
  have hn_a4 : a4q.length = (a4q.map dBool).length := (List.length_map _).symm
  rw [hn_a4]
  generalize a4q.map dBool = a4l at row_a4 sz_a4 ⊢
  have HZ_a4 := Lib.hid sz_a4
  clear nc_a4 cm_a4 rd_a4 ok_a4 hn_a4 sz_a4
  have row_a5 : Row RvInt64 1 w w.heap.size a5A (a5q.map dInt64) := Row.of rd_a5 (fun i b hb => rv_Int64 b (ok_a5 i b hb))
  have sz_a5 : szRow SzInt64 (a5q.map dInt64) := ⟨Nat.le_trans (Nat.le_of_eq (List.length_map _)) (Nat.le_trans nc_a5 cm_a5), fun i b hb => sz_map sz_Int64 ok_a5 i b hb⟩
  have hn_a5 : a5q.length = (a5q.map dInt64).length := (List.length_map _).symm
  rw [hn_a5]
  generalize a5q.map dInt64 = a5l at row_a5 sz_a5 ⊢
  have HZ_a5 := Lib.hid sz_a5
  clear nc_a5 cm_a5 rd_a5 ok_a5 hn_a5 sz_a5
  have row_a6 : Row RvInt64 1 w w.heap.size a6A (a6q.map dInt64) := Row.of rd_a6 (fun i b hb => rv_Int64 b (ok_a6 i b hb))
  have sz_a6 : szRow SzInt64 (a6q.map dInt64) := ⟨Nat.le_trans (Nat.le_of_eq (List.length_map _)) (Nat.le_trans nc_a6 cm_a6), fun i b hb => sz_map sz_Int64 ok_a6 i b hb⟩
  have hn_a6 : a6q.length = (a6q.map dInt64).length := (List.length_map _).symm
  rw [hn_a6]
  generalize a6q.map dInt64 = a6l at row_a6 sz_a6 ⊢
  have HZ_a6 := Lib.hid sz_a6
  clear nc_a6 cm_a6 rd_a6 ok_a6 hn_a6 sz_a6
  have row_a7 : Row RvInt64 1 w w.heap.size a7A (a7q.map dInt64) := Row.of rd_a7 (fun i b hb => rv_Int64 b (ok_a7 i b hb))
  have sz_a7 : szRow SzInt64 (a7q.map dInt64) := ⟨Nat.le_trans (Nat.le_of_eq (List.length_map _)) (Nat.le_trans nc_a7 cm_a7), fun i b hb => sz_map sz_Int64 ok_a7 i b hb⟩
  have hn_a7 : a7q.length = (a7q.map dInt64).length := (List.length_map _).symm
  rw [hn_a7]
  generalize a7q.map dInt64 = a7l at row_a7 sz_a7 ⊢
  have HZ_a7 := Lib.hid sz_a7
  clear nc_a7 cm_a7 rd_a7 ok_a7 hn_a7 sz_a7
  have HZP_a := Lib.hid (show SzHinter (a0, a1l, a2l, a3l, a4l, a5l, a6l, a7l, a8, a9, a10, a11, a12) from ⟨HZ_a1.out, HZ_a2.out, HZ_a3.out, HZ_a4.out, HZ_a5.out, HZ_a6.out, HZ_a7.out⟩)
  obtain ⟨b0, ⟨b1A, b1c, b1q⟩, ⟨b2A, b2c, b2q⟩, ⟨b3A, b3c, b3q⟩, ⟨b4A, b4c, b4q⟩, ⟨b5A, b5c, b5q⟩, ⟨b6A, b6c, b6q⟩, ⟨b7A, b7c, b7q⟩, b8, b9, b10, b11, b12⟩ := b
  obtain ⟨w_b0, nc_b1, cm_b1, rd_b1, ok_b1, nc_b2, cm_b2, rd_b2, ok_b2, nc_b3, cm_b3, rd_b3, ok_b3, nc_b4, cm_b4, rd_b4, ok_b4, nc_b5, cm_b5, rd_b5, ok_b5, nc_b6, cm_b6, rd_b6, ok_b6, nc_b7, cm_b7, rd_b7, ok_b7, w_b9, w_b10, w_b11, w_b12⟩ := k_b
  simp only at w_b0 nc_b1 cm_b1 rd_b1 ok_b1 nc_b2 cm_b2 rd_b2 ok_b2 nc_b3 cm_b3 rd_b3 ok_b3 nc_b4 cm_b4 rd_b4 ok_b4 nc_b5 cm_b5 rd_b5 ok_b5 nc_b6 cm_b6 rd_b6 ok_b6 nc_b7 cm_b7 rd_b7 ok_b7 w_b9 w_b10 w_b11 w_b12 ⊢
  have row_b1 : Row RvPt 2 w w.heap.size b1A (b1q.map dPt) := Row.of rd_b1 (fun i b hb => rv_Pt b (ok_b1 i b hb))
  have sz_b1 : szRow SzPt (b1q.map dPt) := ⟨Nat.le_trans (Nat.le_of_eq (List.length_map _)) (Nat.le_trans nc_b1 cm_b1), fun i b hb => sz_map sz_Pt ok_b1 i b hb⟩
  have hn_b1 : b1q.length = (b1q.map dPt).length := (List.length_map _).symm
  rw [hn_b1]
  generalize b1q.map dPt = b1l at row_b1 sz_b1 ⊢
  have HZ_b1 := Lib.hid sz_b1
  clear nc_b1 cm_b1 rd_b1 ok_b1 hn_b1 sz_b1
  have row_b2 : Row RvPt 2 w w.heap.size b2A (b2q.map dPt) := Row.of rd_b2 (fun i b hb => rv_Pt b (ok_b2 i b hb))
  have sz_b2 : szRow SzPt (b2q.map dPt) := ⟨Nat.le_trans (Nat.le_of_eq (List.length_map _)) (Nat.le_trans nc_b2 cm_b2), fun i b hb => sz_map sz_Pt ok_b2 i b hb⟩
  have hn_b2 : b2q.length = (b2q.map dPt).length := (List.length_map _).symm
  rw [hn_b2]
  generalize b2q.map dPt = b2l at row_b2 sz_b2 ⊢
  have HZ_b2 := Lib.hid sz_b2
  clear nc_b2 cm_b2 rd_b2 ok_b2 hn_b2 sz_b2
  have row_b3 : Row RvBool 1 w w.heap.size b3A (b3q.map dBool) := Row.of rd_b3 (fun i b hb => rv_Bool b (ok_b3 i b hb))
  have sz_b3 : szRow SzBool (b3q.map dBool) := ⟨Nat.le_trans (Nat.le_of_eq (List.length_map _)) (Nat.le_trans nc_b3 cm_b3), fun i b hb => sz_map sz_Bool ok_b3 i b hb⟩
  have hn_b3 : b3q.length = (b3q.map dBool).length := (List.length_map _).symm
  rw [hn_b3]
  generalize b3q.map dBool = b3l at row_b3 sz_b3 ⊢
  have HZ_b3 := Lib.hid sz_b3
  clear nc_b3 cm_b3 rd_b3 ok_b3 hn_b3 sz_b3
  have row_b4 : Row RvBool 1 w w.heap.size b4A (b4q.map dBool) := Row.of rd_b4 (fun i b hb => rv_Bool b (ok_b4 i b hb))
  have sz_b4 : szRow SzBool (b4q.map dBool) := ⟨Nat.le_trans (Nat.le_of_eq (List.length_map _)) (Nat.le_trans nc_b4 cm_b4), fun i b hb => sz_map sz_Bool ok_b4 i b hb⟩
  have hn_b4 : b4q.length = (b4q.map dBool).length := (List.length_map _).symm
  rw [hn_b4]
  generalize b4q.map dBool = b4l at row_b4 sz_b4 ⊢
  have HZ_b4 := Lib.hid sz_b4
  clear nc_b4 cm_b4 rd_b4 ok_b4 hn_b4 sz_b4
  have row_b5 : Row RvInt64 1 w w.heap.size b5A (b5q.map dInt64) := Row.of rd_b5 (fun i b hb => rv_Int64 b (ok_b5 i b hb))
  have sz_b5 : szRow SzInt64 (b5q.map dInt64) := ⟨Nat.le_trans (Nat.le_of_eq (List.length_map _)) (Nat.le_trans nc_b5 cm_b5), fun i b hb => sz_map sz_Int64 ok_b5 i b hb⟩
  have hn_b5 : b5q.length = (b5q.map dInt64).length := (List.length_map _).symm
  rw [hn_b5]
  generalize b5q.map dInt64 = b5l at row_b5 sz_b5 ⊢
  have HZ_b5 := Lib.hid sz_b5
  clear nc_b5 cm_b5 rd_b5 ok_b5 hn_b5 sz_b5
  have row_b6 : Row RvInt64 1 w w.heap.size b6A (b6q.map dInt64) := Row.of rd_b6 (fun i b hb => rv_Int64 b (ok_b6 i b hb))
  have sz_b6 : szRow SzInt64 (b6q.map dInt64) := ⟨Nat.le_trans (Nat.le_of_eq (List.length_map _)) (Nat.le_trans nc_b6 cm_b6), fun i b hb => sz_map sz_Int64 ok_b6 i b hb⟩
  have hn_b6 : b6q.length = (b6q.map dInt64).length := (List.length_map _).symm
  rw [hn_b6]
  generalize b6q.map dInt64 = b6l at row_b6 sz_b6 ⊢
  have HZ_b6 := Lib.hid sz_b6
  clear nc_b6 cm_b6 rd_b6 ok_b6 hn_b6 sz_b6
  have row_b7 : Row RvInt64 1 w w.heap.size b7A (b7q.map dInt64) := Row.of rd_b7 (fun i b hb => rv_Int64 b (ok_b7 i b hb))
  have sz_b7 : szRow SzInt64 (b7q.map dInt64) := ⟨Nat.le_trans (Nat.le_of_eq (List.length_map _)) (Nat.le_trans nc_b7 cm_b7), fun i b hb => sz_map sz_Int64 ok_b7 i b hb⟩
  have hn_b7 : b7q.length = (b7q.map dInt64).length := (List.length_map _).symm
  rw [hn_b7]
  generalize b7q.map dInt64 = b7l at row_b7 sz_b7 ⊢
  have HZ_b7 := Lib.hid sz_b7
  clear nc_b7 cm_b7 rd_b7 ok_b7 hn_b7 sz_b7
  have HZP_b := Lib.hid (show SzHinter (b0, b1l, b2l, b3l, b4l, b5l, b6l, b7l, b8, b9, b10, b11, b12) from ⟨HZ_b1.out, HZ_b2.out, HZ_b3.out, HZ_b4.out, HZ_b5.out, HZ_b6.out, HZ_b7.out⟩)
  have C1 := Lib.hid (fun (ha : totHinter (a0, a1l, a2l, a3l, a4l, a5l, a6l, a7l, a8, a9, a10, a11, a12) ≤ 1048576) (hb : totHinter (b0, b1l, b2l, b3l, b4l, b5l, b6l, b7l, b8, b9, b10, b11, b12) ≤ 1048576) a1A' a1c' a2A' a2c' a3A' a3c' a4A' a4c' a5A' a5c' a6A' a6c' a7A' a7c' b1A' b1c' b2A' b2c' b3A' b3c' b4A' b4c' b5A' b5c' b6A' b6c' b7A' b7c' w q_a1 q_a2 q_a3 q_a4 q_a5 q_a6 q_a7 q_b1 q_b2 q_b3 q_b4 q_b5 q_b6 q_b7 => specSameHinter_any a0 a1A' a1c' a1l a2A' a2c' a2l a3A' a3c' a3l a4A' a4c' a4l a5A' a5c' a5l a6A' a6c' a6l a7A' a7c' a7l a8 a9 a10 a11 a12 b0 b1A' b1c' b1l b2A' b2c' b2l b3A' b3c' b3l b4A' b4c' b4l b5A' b5c' b5l b6A' b6c' b6l b7A' b7c' b7l b8 b9 b10 b11 b12 w ha hb q_a1 q_a2 q_a3 q_a4 q_a5 q_a6 q_a7 q_b1 q_b2 q_b3 q_b4 q_b5 q_b6 q_b7)
  have C2 := Lib.hid (fun (ha : totHinter (a0, a1l, a2l, a3l, a4l, a5l, a6l, a7l, a8, a9, a10, a11, a12) ≤ 1048576) (hb : totHinter (b0, b1l, b2l, b3l, b4l, b5l, b6l, b7l, b8, b9, b10, b11, b12) ≤ 1048576) a1A' a1c' a2A' a2c' a3A' a3c' a4A' a4c' a5A' a5c' a6A' a6c' a7A' a7c' b1A' b1c' b2A' b2c' b3A' b3c' b4A' b4c' b5A' b5c' b6A' b6c' b7A' b7c' w q_a1 q_a2 q_a3 q_a4 q_a5 q_a6 q_a7 q_b1 q_b2 q_b3 q_b4 q_b5 q_b6 q_b7 => implSameHinter_any a0 a1A' a1c' a1l a2A' a2c' a2l a3A' a3c' a3l a4A' a4c' a4l a5A' a5c' a5l a6A' a6c' a6l a7A' a7c' a7l a8 a9 a10 a11 a12 b0 b1A' b1c' b1l b2A' b2c' b2l b3A' b3c' b3l b4A' b4c' b4l b5A' b5c' b5l b6A' b6c' b6l b7A' b7c' b7l b8 b9 b10 b11 b12 w ha hb q_a1 q_a2 q_a3 q_a4 q_a5 q_a6 q_a7 q_b1 q_b2 q_b3 q_b4 q_b5 q_b6 q_b7)
  generalize smH (a0, a1l, a2l, a3l, a4l, a5l, a6l, a7l, a8, a9, a10, a11, a12) (b0, b1l, b2l, b3l, b4l, b5l, b6l, b7l, b8, b9, b10, b11, b12) = v at C1 C2
  have e_v : (v != v) = false := by simp
  go_enter Try.func11, Try.ntmps11
  go_wp2_with fail
  generalize hW : ((w.alloc (.cells #[.int .i64 a0, .slice a1A a1l.length a1c, .slice a2A a2l.length a2c, .slice a3A a3l.length a3c, .slice a4A a4l.length a4c, .slice a5A a5l.length a5c, .slice a6A a6l.length a6c, .slice a7A a7l.length a7c, .bool a8, .int .i64 a9, .int .i64 a10, .int .i64 a11, .int .i64 a12] 76)).alloc (.cells #[.int .i64 b0, .slice b1A b1l.length b1c, .slice b2A b2l.length b2c, .slice b3A b3l.length b3c, .slice b4A b4l.length b4c, .slice b5A b5l.length b5c, .slice b6A b6l.length b6c, .slice b7A b7l.length b7c, .bool b8, .int .i64 b9, .int .i64 b10, .int .i64 b11, .int .i64 b12] 76)) = W0
  have row_a1w : Row RvPt 2 w (w.heap.size) a1A a1l := row_a1
  have row_a2w : Row RvPt 2 w (w.heap.size) a2A a2l := row_a2
  have row_a3w : Row RvBool 1 w (w.heap.size) a3A a3l := row_a3
  have row_a4w : Row RvBool 1 w (w.heap.size) a4A a4l := row_a4
  have row_a5w : Row RvInt64 1 w (w.heap.size) a5A a5l := row_a5
  have row_a6w : Row RvInt64 1 w (w.heap.size) a6A a6l := row_a6
  have row_a7w : Row RvInt64 1 w (w.heap.size) a7A a7l := row_a7
  have row_b1w : Row RvPt 2 w (w.heap.size) b1A b1l := row_b1
  have row_b2w : Row RvPt 2 w (w.heap.size) b2A b2l := row_b2
  have row_b3w : Row RvBool 1 w (w.heap.size) b3A b3l := row_b3
  have row_b4w : Row RvBool 1 w (w.heap.size) b4A b4l := row_b4
  have row_b5w : Row RvInt64 1 w (w.heap.size) b5A b5l := row_b5
  have row_b6w : Row RvInt64 1 w (w.heap.size) b6A b6l := row_b6
  have row_b7w : Row RvInt64 1 w (w.heap.size) b7A b7l := row_b7
  have bx_aW0 : AtL (w.heap.size) [.int .i64 a0, .slice a1A a1l.length a1c, .slice a2A a2l.length a2c, .slice a3A a3l.length a3c, .slice a4A a4l.length a4c, .slice a5A a5l.length a5c, .slice a6A a6l.length a6c, .slice a7A a7l.length a7c, .bool a8, .int .i64 a9, .int .i64 a10, .int .i64 a11, .int .i64 a12] W0 := by rw [← hW]; repeat' (first | with_reducible assumption | with_reducible exact AtL.new _ _ _ | ((with_reducible refine AtL.newAt ?_); (first | rfl | (simp; done))) | (with_reducible refine AtL.drew ?_) | (with_reducible refine AtL.below ?_ (by with_reducible assumption)) | (with_reducible refine AtL.alloc ?_ _) | (with_reducible refine AtL.far ?_ ?_ _ _) | omega | (simp; done) | (simp; omega))
  have row_a1W0 : Row RvPt 2 W0 (w.heap.size) a1A a1l := by rw [← hW]; repeat' (first | with_reducible assumption | (with_reducible refine Row.drew ?_) | (with_reducible refine Row.carry ?_ (by with_reducible assumption) ?_) | (with_reducible refine Row.alloc ?_ ?_ _) | (with_reducible refine Row.setCell ?_ ?_ _) | omega | (simp; done) | (simp; omega))
  have row_a2W0 : Row RvPt 2 W0 (w.heap.size) a2A a2l := by rw [← hW]; repeat' (first | with_reducible assumption | (with_reducible refine Row.drew ?_) | (with_reducible refine Row.carry ?_ (by with_reducible assumption) ?_) | (with_reducible refine Row.alloc ?_ ?_ _) | (with_reducible refine Row.setCell ?_ ?_ _) | omega | (simp; done) | (simp; omega))
  have row_a3W0 : Row RvBool 1 W0 (w.heap.size) a3A a3l := by rw [← hW]; repeat' (first | with_reducible assumption | (with_reducible refine Row.drew ?_) | (with_reducible refine Row.carry ?_ (by with_reducible assumption) ?_) | (with_reducible refine Row.alloc ?_ ?_ _) | (with_reducible refine Row.setCell ?_ ?_ _) | omega | (simp; done) | (simp; omega))
  have row_a4W0 : Row RvBool 1 W0 (w.heap.size) a4A a4l := by rw [← hW]; repeat' (first | with_reducible assumption | (with_reducible refine Row.drew ?_) | (with_reducible refine Row.carry ?_ (by with_reducible assumption) ?_) | (with_reducible refine Row.alloc ?_ ?_ _) | (with_reducible refine Row.setCell ?_ ?_ _) | omega | (simp; done) | (simp; omega))
  have row_a5W0 : Row RvInt64 1 W0 (w.heap.size) a5A a5l := by rw [← hW]; repeat' (first | with_reducible assumption | (with_reducible refine Row.drew ?_) | (with_reducible refine Row.carry ?_ (by with_reducible assumption) ?_) | (with_reducible refine Row.alloc ?_ ?_ _) | (with_reducible refine Row.setCell ?_ ?_ _) | omega | (simp; done) | (simp; omega))
  have row_a6W0 : Row RvInt64 1 W0 (w.heap.size) a6A a6l := by rw [← hW]; repeat' (first | with_reducible assumption | (with_reducible refine Row.drew ?_) | (with_reducible refine Row.carry ?_ (by with_reducible assumption) ?_) | (with_reducible refine Row.alloc ?_ ?_ _) | (with_reducible refine Row.setCell ?_ ?_ _) | omega | (simp; done) | (simp; omega))
  have row_a7W0 : Row RvInt64 1 W0 (w.heap.size) a7A a7l := by rw [← hW]; repeat' (first | with_reducible assumption | (with_reducible refine Row.drew ?_) | (with_reducible refine Row.carry ?_ (by with_reducible assumption) ?_) | (with_reducible refine Row.alloc ?_ ?_ _) | (with_reducible refine Row.setCell ?_ ?_ _) | omega | (simp; done) | (simp; omega))
  have bx_bW0 : AtL (w.heap.size + 1) [.int .i64 b0, .slice b1A b1l.length b1c, .slice b2A b2l.length b2c, .slice b3A b3l.length b3c, .slice b4A b4l.length b4c, .slice b5A b5l.length b5c, .slice b6A b6l.length b6c, .slice b7A b7l.length b7c, .bool b8, .int .i64 b9, .int .i64 b10, .int .i64 b11, .int .i64 b12] W0 := by rw [← hW]; repeat' (first | with_reducible assumption | with_reducible exact AtL.new _ _ _ | ((with_reducible refine AtL.newAt ?_); (first | rfl | (simp; done))) | (with_reducible refine AtL.drew ?_) | (with_reducible refine AtL.below ?_ (by with_reducible assumption)) | (with_reducible refine AtL.alloc ?_ _) | (with_reducible refine AtL.far ?_ ?_ _ _) | omega | (simp; done) | (simp; omega))
  have row_b1W0 : Row RvPt 2 W0 (w.heap.size) b1A b1l := by rw [← hW]; repeat' (first | with_reducible assumption | (with_reducible refine Row.drew ?_) | (with_reducible refine Row.carry ?_ (by with_reducible assumption) ?_) | (with_reducible refine Row.alloc ?_ ?_ _) | (with_reducible refine Row.setCell ?_ ?_ _) | omega | (simp; done) | (simp; omega))
  have row_b2W0 : Row RvPt 2 W0 (w.heap.size) b2A b2l := by rw [← hW]; repeat' (first | with_reducible assumption | (with_reducible refine Row.drew ?_) | (with_reducible refine Row.carry ?_ (by with_reducible assumption) ?_) | (with_reducible refine Row.alloc ?_ ?_ _) | (with_reducible refine Row.setCell ?_ ?_ _) | omega | (simp; done) | (simp; omega))
  have row_b3W0 : Row RvBool 1 W0 (w.heap.size) b3A b3l := by rw [← hW]; repeat' (first | with_reducible assumption | (with_reducible refine Row.drew ?_) | (with_reducible refine Row.carry ?_ (by with_reducible assumption) ?_) | (with_reducible refine Row.alloc ?_ ?_ _) | (with_reducible refine Row.setCell ?_ ?_ _) | omega | (simp; done) | (simp; omega))
  have row_b4W0 : Row RvBool 1 W0 (w.heap.size) b4A b4l := by rw [← hW]; repeat' (first | with_reducible assumption | (with_reducible refine Row.drew ?_) | (with_reducible refine Row.carry ?_ (by with_reducible assumption) ?_) | (with_reducible refine Row.alloc ?_ ?_ _) | (with_reducible refine Row.setCell ?_ ?_ _) | omega | (simp; done) | (simp; omega))
  have row_b5W0 : Row RvInt64 1 W0 (w.heap.size) b5A b5l := by rw [← hW]; repeat' (first | with_reducible assumption | (with_reducible refine Row.drew ?_) | (with_reducible refine Row.carry ?_ (by with_reducible assumption) ?_) | (with_reducible refine Row.alloc ?_ ?_ _) | (with_reducible refine Row.setCell ?_ ?_ _) | omega | (simp; done) | (simp; omega))
  have row_b6W0 : Row RvInt64 1 W0 (w.heap.size) b6A b6l := by rw [← hW]; repeat' (first | with_reducible assumption | (with_reducible refine Row.drew ?_) | (with_reducible refine Row.carry ?_ (by with_reducible assumption) ?_) | (with_reducible refine Row.alloc ?_ ?_ _) | (with_reducible refine Row.setCell ?_ ?_ _) | omega | (simp; done) | (simp; omega))
  have row_b7W0 : Row RvInt64 1 W0 (w.heap.size) b7A b7l := by rw [← hW]; repeat' (first | with_reducible assumption | (with_reducible refine Row.drew ?_) | (with_reducible refine Row.carry ?_ (by with_reducible assumption) ?_) | (with_reducible refine Row.alloc ?_ ?_ _) | (with_reducible refine Row.setCell ?_ ?_ _) | omega | (simp; done) | (simp; omega))
  have qW0 : w.heap.size ≤ W0.heap.size := by rw [← hW]; first | (simp; done) | (simp; omega)
  have bn : Below w.heap.size w W0 := by rw [← hW]; repeat' (first | with_reducible assumption | with_reducible exact Below.refl _ _ | (with_reducible refine Below.setCell ?_ ?_ _) | (with_reducible refine Below.alloc ?_ ?_ _) | (with_reducible refine Below.drew ?_) | (with_reducible refine below_dr ?_ _) | (with_reducible refine Below.trans ?_ (Below.mono (by with_reducible assumption) ?_)) | omega | (simp; done) | (simp; omega))
  have bW0 := Lib.hid bn
  clear hW bn
  clear row_a1w row_a1 row_a2w row_a2 row_a3w row_a3 row_a4w row_a4 row_a5w row_a5 row_a6w row_a6 row_a7w row_a7 row_b1w row_b1 row_b2w row_b2 row_b3w row_b3 row_b4w row_b4 row_b5w row_b5 row_b6w row_b6 row_b7w row_b7
  have kbx_a0 := bx_aW0.cell 0 rfl
  have kbx_a1 := bx_aW0.cell 1 rfl
  have kbx_a2 := bx_aW0.cell 2 rfl
  have kbx_a3 := bx_aW0.cell 3 rfl
  have kbx_a4 := bx_aW0.cell 4 rfl
  have kbx_a5 := bx_aW0.cell 5 rfl
  have kbx_a6 := bx_aW0.cell 6 rfl
  have kbx_a7 := bx_aW0.cell 7 rfl
  have kbx_a8 := bx_aW0.cell 8 rfl
  have kbx_a9 := bx_aW0.cell 9 rfl
  have kbx_a10 := bx_aW0.cell 10 rfl
  have kbx_a11 := bx_aW0.cell 11 rfl
  have kbx_a12 := bx_aW0.cell 12 rfl
  have lbx_a := bx_aW0.lt
  have kbx_b0 := bx_bW0.cell 0 rfl
  have kbx_b1 := bx_bW0.cell 1 rfl
  have kbx_b2 := bx_bW0.cell 2 rfl
  have kbx_b3 := bx_bW0.cell 3 rfl
  have kbx_b4 := bx_bW0.cell 4 rfl
  have kbx_b5 := bx_bW0.cell 5 rfl
  have kbx_b6 := bx_bW0.cell 6 rfl
  have kbx_b7 := bx_bW0.cell 7 rfl
  have kbx_b8 := bx_bW0.cell 8 rfl
  have kbx_b9 := bx_bW0.cell 9 rfl
  have kbx_b10 := bx_bW0.cell 10 rfl
  have kbx_b11 := bx_bW0.cell 11 rfl
  have kbx_b12 := bx_bW0.cell 12 rfl
  have lbx_b := bx_bW0.lt
  go_wp2_with fail
  clear kbx_a0 kbx_a1 kbx_a2 kbx_a3 kbx_a4 kbx_a5 kbx_a6 kbx_a7 kbx_a8 kbx_a9 kbx_a10 kbx_a11 kbx_a12 lbx_a
  clear kbx_b0 kbx_b1 kbx_b2 kbx_b3 kbx_b4 kbx_b5 kbx_b6 kbx_b7 kbx_b8 kbx_b9 kbx_b10 kbx_b11 kbx_b12 lbx_b
  obtain ⟨T0, hT0⟩ : ∃ T, T = totHinter (a0, a1l, a2l, a3l, a4l, a5l, a6l, a7l, a8, a9, a10, a11, a12) := ⟨_, rfl⟩
  have HTT0 := Lib.hid hT0
  refine (szHinter_any a0 a1A a1c a1l a2A a2c a2l a3A a3c a3l a4A a4c a4l a5A a5c a5l a6A a6c a6l a7A a7c a7l a8 a9 a10 a11 a12 1048576 _ (by omega) (by omega) HZP_a.out ?_ ?_ ?_ ?_ ?_ ?_ ?_).mono ?_
  · (refine Row.more (B := w.heap.size) ?_ (by first | omega | ((try simp only [World.size_setCell]); (try simp only [World.size_drew]); (try simp only [World.size_alloc]); omega))); repeat' (first | with_reducible assumption | (with_reducible refine Row.drew ?_) | (with_reducible refine Row.carry ?_ (by with_reducible assumption) ?_) | (with_reducible refine Row.alloc ?_ ?_ _) | (with_reducible refine Row.setCell ?_ ?_ _) | omega | (simp; done) | (simp; omega))
  · (refine Row.more (B := w.heap.size) ?_ (by first | omega | ((try simp only [World.size_setCell]); (try simp only [World.size_drew]); (try simp only [World.size_alloc]); omega))); repeat' (first | with_reducible assumption | (with_reducible refine Row.drew ?_) | (with_reducible refine Row.carry ?_ (by with_reducible assumption) ?_) | (with_reducible refine Row.alloc ?_ ?_ _) | (with_reducible refine Row.setCell ?_ ?_ _) | omega | (simp; done) | (simp; omega))
  · (refine Row.more (B := w.heap.size) ?_ (by first | omega | ((try simp only [World.size_setCell]); (try simp only [World.size_drew]); (try simp only [World.size_alloc]); omega))); repeat' (first | with_reducible assumption | (with_reducible refine Row.drew ?_) | (with_reducible refine Row.carry ?_ (by with_reducible assumption) ?_) | (with_reducible refine Row.alloc ?_ ?_ _) | (with_reducible refine Row.setCell ?_ ?_ _) | omega | (simp; done) | (simp; omega))
  · (refine Row.more (B := w.heap.size) ?_ (by first | omega | ((try simp only [World.size_setCell]); (try simp only [World.size_drew]); (try simp only [World.size_alloc]); omega))); repeat' (first | with_reducible assumption | (with_reducible refine Row.drew ?_) | (with_reducible refine Row.carry ?_ (by with_reducible assumption) ?_) | (with_reducible refine Row.alloc ?_ ?_ _) | (with_reducible refine Row.setCell ?_ ?_ _) | omega | (simp; done) | (simp; omega))
  · (refine Row.more (B := w.heap.size) ?_ (by first | omega | ((try simp only [World.size_setCell]); (try simp only [World.size_drew]); (try simp only [World.size_alloc]); omega))); repeat' (first | with_reducible assumption | (with_reducible refine Row.drew ?_) | (with_reducible refine Row.carry ?_ (by with_reducible assumption) ?_) | (with_reducible refine Row.alloc ?_ ?_ _) | (with_reducible refine Row.setCell ?_ ?_ _) | omega | (simp; done) | (simp; omega))
  · (refine Row.more (B := w.heap.size) ?_ (by first | omega | ((try simp only [World.size_setCell]); (try simp only [World.size_drew]); (try simp only [World.size_alloc]); omega))); repeat' (first | with_reducible assumption | (with_reducible refine Row.drew ?_) | (with_reducible refine Row.carry ?_ (by with_reducible assumption) ?_) | (with_reducible refine Row.alloc ?_ ?_ _) | (with_reducible refine Row.setCell ?_ ?_ _) | omega | (simp; done) | (simp; omega))
  · (refine Row.more (B := w.heap.size) ?_ (by first | omega | ((try simp only [World.size_setCell]); (try simp only [World.size_drew]); (try simp only [World.size_alloc]); omega))); repeat' (first | with_reducible assumption | (with_reducible refine Row.drew ?_) | (with_reducible refine Row.carry ?_ (by with_reducible assumption) ?_) | (with_reducible refine Row.alloc ?_ ?_ _) | (with_reducible refine Row.setCell ?_ ?_ _) | omega | (simp; done) | (simp; omega))
  rw [← hT0]
  clear hT0
  by_cases hfit : (T0 : Int) ≤ 1048576
  case neg =>
    rw [szV_no hfit]
    rintro e wN ⟨rfl, hb⟩
    go_wp2_with fail
    go_ret
    have bp := bW0.out
    exact ⟨rfl, by repeat' (first | with_reducible assumption | with_reducible exact Below.refl _ _ | (with_reducible refine Below.setCell ?_ ?_ _) | (with_reducible refine Below.alloc ?_ ?_ _) | (with_reducible refine Below.drew ?_) | (with_reducible refine below_dr ?_ _) | (with_reducible refine Below.trans ?_ (Below.mono (by with_reducible assumption) ?_)) | omega | (simp; done) | (simp; omega))⟩
  case pos =>
    rw [szV_yes hfit]
    have HT_a := Lib.hid (show totHinter (a0, a1l, a2l, a3l, a4l, a5l, a6l, a7l, a8, a9, a10, a11, a12) ≤ 1048576 by rw [← HTT0.out]; omega)
    obtain ⟨V0, hV⟩ : ∃ V : Int, V = 1048576 - T0 := ⟨_, rfl⟩
    have hVV : 0 ≤ V0 ∧ V0 ≤ 1048576 := by omega
    rw [← hV]
    rintro e wS0 ⟨rfl, hbwS0⟩
    clear hV hfit
    obtain ⟨hV0_0, hV1_0⟩ := hVV
    have zwS0 := hbwS0.size
    (try simp only [World.size_setCell] at zwS0)
    (try simp only [World.size_drew] at zwS0)
    (try simp only [World.size_alloc] at zwS0)
    have qwS0 : w.heap.size ≤ wS0.heap.size := by omega
    have bx_awS0 : AtL (w.heap.size) [.int .i64 a0, .slice a1A a1l.length a1c, .slice a2A a2l.length a2c, .slice a3A a3l.length a3c, .slice a4A a4l.length a4c, .slice a5A a5l.length a5c, .slice a6A a6l.length a6c, .slice a7A a7l.length a7c, .bool a8, .int .i64 a9, .int .i64 a10, .int .i64 a11, .int .i64 a12] wS0 := by repeat' (first | with_reducible assumption | with_reducible exact AtL.new _ _ _ | ((with_reducible refine AtL.newAt ?_); (first | rfl | (simp; done))) | (with_reducible refine AtL.drew ?_) | (with_reducible refine AtL.below ?_ (by with_reducible assumption)) | (with_reducible refine AtL.alloc ?_ _) | (with_reducible refine AtL.far ?_ ?_ _ _) | omega | (simp; done) | (simp; omega))
    have row_a1wS0 : Row RvPt 2 wS0 (w.heap.size) a1A a1l := by repeat' (first | with_reducible assumption | (with_reducible refine Row.drew ?_) | (with_reducible refine Row.carry ?_ (by with_reducible assumption) ?_) | (with_reducible refine Row.alloc ?_ ?_ _) | (with_reducible refine Row.setCell ?_ ?_ _) | omega | (simp; done) | (simp; omega))
    have row_a2wS0 : Row RvPt 2 wS0 (w.heap.size) a2A a2l := by repeat' (first | with_reducible assumption | (with_reducible refine Row.drew ?_) | (with_reducible refine Row.carry ?_ (by with_reducible assumption) ?_) | (with_reducible refine Row.alloc ?_ ?_ _) | (with_reducible refine Row.setCell ?_ ?_ _) | omega | (simp; done) | (simp; omega))
    have row_a3wS0 : Row RvBool 1 wS0 (w.heap.size) a3A a3l := by repeat' (first | with_reducible assumption | (with_reducible refine Row.drew ?_) | (with_reducible refine Row.carry ?_ (by with_reducible assumption) ?_) | (with_reducible refine Row.alloc ?_ ?_ _) | (with_reducible refine Row.setCell ?_ ?_ _) | omega | (simp; done) | (simp; omega))
    have row_a4wS0 : Row RvBool 1 wS0 (w.heap.size) a4A a4l := by repeat' (first | with_reducible assumption | (with_reducible refine Row.drew ?_) | (with_reducible refine Row.carry ?_ (by with_reducible assumption) ?_) | (with_reducible refine Row.alloc ?_ ?_ _) | (with_reducible refine Row.setCell ?_ ?_ _) | omega | (simp; done) | (simp; omega))
    have row_a5wS0 : Row RvInt64 1 wS0 (w.heap.size) a5A a5l := by repeat' (first | with_reducible assumption | (with_reducible refine Row.drew ?_) | (with_reducible refine Row.carry ?_ (by with_reducible assumption) ?_) | (with_reducible refine Row.alloc ?_ ?_ _) | (with_reducible refine Row.setCell ?_ ?_ _) | omega | (simp; done) | (simp; omega))
    have row_a6wS0 : Row RvInt64 1 wS0 (w.heap.size) a6A a6l := by repeat' (first | with_reducible assumption | (with_reducible refine Row.drew ?_) | (with_reducible refine Row.carry ?_ (by with_reducible assumption) ?_) | (with_reducible refine Row.alloc ?_ ?_ _) | (with_reducible refine Row.setCell ?_ ?_ _) | omega | (simp; done) | (simp; omega))
    have row_a7wS0 : Row RvInt64 1 wS0 (w.heap.size) a7A a7l := by repeat' (first | with_reducible assumption | (with_reducible refine Row.drew ?_) | (with_reducible refine Row.carry ?_ (by with_reducible assumption) ?_) | (with_reducible refine Row.alloc ?_ ?_ _) | (with_reducible refine Row.setCell ?_ ?_ _) | omega | (simp; done) | (simp; omega))
    have bx_bwS0 : AtL (w.heap.size + 1) [.int .i64 b0, .slice b1A b1l.length b1c, .slice b2A b2l.length b2c, .slice b3A b3l.length b3c, .slice b4A b4l.length b4c, .slice b5A b5l.length b5c, .slice b6A b6l.length b6c, .slice b7A b7l.length b7c, .bool b8, .int .i64 b9, .int .i64 b10, .int .i64 b11, .int .i64 b12] wS0 := by repeat' (first | with_reducible assumption | with_reducible exact AtL.new _ _ _ | ((with_reducible refine AtL.newAt ?_); (first | rfl | (simp; done))) | (with_reducible refine AtL.drew ?_) | (with_reducible refine AtL.below ?_ (by with_reducible assumption)) | (with_reducible refine AtL.alloc ?_ _) | (with_reducible refine AtL.far ?_ ?_ _ _) | omega | (simp; done) | (simp; omega))
    have row_b1wS0 : Row RvPt 2 wS0 (w.heap.size) b1A b1l := by repeat' (first | with_reducible assumption | (with_reducible refine Row.drew ?_) | (with_reducible refine Row.carry ?_ (by with_reducible assumption) ?_) | (with_reducible refine Row.alloc ?_ ?_ _) | (with_reducible refine Row.setCell ?_ ?_ _) | omega | (simp; done) | (simp; omega))
    have row_b2wS0 : Row RvPt 2 wS0 (w.heap.size) b2A b2l := by repeat' (first | with_reducible assumption | (with_reducible refine Row.drew ?_) | (with_reducible refine Row.carry ?_ (by with_reducible assumption) ?_) | (with_reducible refine Row.alloc ?_ ?_ _) | (with_reducible refine Row.setCell ?_ ?_ _) | omega | (simp; done) | (simp; omega))
    have row_b3wS0 : Row RvBool 1 wS0 (w.heap.size) b3A b3l := by repeat' (first | with_reducible assumption | (with_reducible refine Row.drew ?_) | (with_reducible refine Row.carry ?_ (by with_reducible assumption) ?_) | (with_reducible refine Row.alloc ?_ ?_ _) | (with_reducible refine Row.setCell ?_ ?_ _) | omega | (simp; done) | (simp; omega))
    have row_b4wS0 : Row RvBool 1 wS0 (w.heap.size) b4A b4l := by repeat' (first | with_reducible assumption | (with_reducible refine Row.drew ?_) | (with_reducible refine Row.carry ?_ (by with_reducible assumption) ?_) | (with_reducible refine Row.alloc ?_ ?_ _) | (with_reducible refine Row.setCell ?_ ?_ _) | omega | (simp; done) | (simp; omega))
    have row_b5wS0 : Row RvInt64 1 wS0 (w.heap.size) b5A b5l := by repeat' (first | with_reducible assumption | (with_reducible refine Row.drew ?_) | (with_reducible refine Row.carry ?_ (by with_reducible assumption) ?_) | (with_reducible refine Row.alloc ?_ ?_ _) | (with_reducible refine Row.setCell ?_ ?_ _) | omega | (simp; done) | (simp; omega))
    have row_b6wS0 : Row RvInt64 1 wS0 (w.heap.size) b6A b6l := by repeat' (first | with_reducible assumption | (with_reducible refine Row.drew ?_) | (with_reducible refine Row.carry ?_ (by with_reducible assumption) ?_) | (with_reducible refine Row.alloc ?_ ?_ _) | (with_reducible refine Row.setCell ?_ ?_ _) | omega | (simp; done) | (simp; omega))
    have row_b7wS0 : Row RvInt64 1 wS0 (w.heap.size) b7A b7l := by repeat' (first | with_reducible assumption | (with_reducible refine Row.drew ?_) | (with_reducible refine Row.carry ?_ (by with_reducible assumption) ?_) | (with_reducible refine Row.alloc ?_ ?_ _) | (with_reducible refine Row.setCell ?_ ?_ _) | omega | (simp; done) | (simp; omega))
    have bp := bW0.out
    have bn : Below w.heap.size w wS0 := by repeat' (first | with_reducible assumption | with_reducible exact Below.refl _ _ | (with_reducible refine Below.setCell ?_ ?_ _) | (with_reducible refine Below.alloc ?_ ?_ _) | (with_reducible refine Below.drew ?_) | (with_reducible refine below_dr ?_ _) | (with_reducible refine Below.trans ?_ (Below.mono (by with_reducible assumption) ?_)) | omega | (simp; done) | (simp; omega))
    have bwS0 := Lib.hid bn
    clear bn
    clear bp bW0
    clear hbwS0
    clear bx_aW0
    clear row_a1W0
    clear row_a2W0
    clear row_a3W0
    clear row_a4W0
    clear row_a5W0
    clear row_a6W0
    clear row_a7W0
    clear bx_bW0
    clear row_b1W0
    clear row_b2W0
    clear row_b3W0
    clear row_b4W0
    clear row_b5W0
    clear row_b6W0
    clear row_b7W0
    have kbx_a0 := bx_awS0.cell 0 rfl
    have kbx_a1 := bx_awS0.cell 1 rfl
    have kbx_a2 := bx_awS0.cell 2 rfl
    have kbx_a3 := bx_awS0.cell 3 rfl
    have kbx_a4 := bx_awS0.cell 4 rfl
    have kbx_a5 := bx_awS0.cell 5 rfl
    have kbx_a6 := bx_awS0.cell 6 rfl
    have kbx_a7 := bx_awS0.cell 7 rfl
    have kbx_a8 := bx_awS0.cell 8 rfl
    have kbx_a9 := bx_awS0.cell 9 rfl
    have kbx_a10 := bx_awS0.cell 10 rfl
    have kbx_a11 := bx_awS0.cell 11 rfl
    have kbx_a12 := bx_awS0.cell 12 rfl
    have lbx_a := bx_awS0.lt
    have kbx_b0 := bx_bwS0.cell 0 rfl
    have kbx_b1 := bx_bwS0.cell 1 rfl
    have kbx_b2 := bx_bwS0.cell 2 rfl
    have kbx_b3 := bx_bwS0.cell 3 rfl
    have kbx_b4 := bx_bwS0.cell 4 rfl
    have kbx_b5 := bx_bwS0.cell 5 rfl
    have kbx_b6 := bx_bwS0.cell 6 rfl
    have kbx_b7 := bx_bwS0.cell 7 rfl
    have kbx_b8 := bx_bwS0.cell 8 rfl
    have kbx_b9 := bx_bwS0.cell 9 rfl
    have kbx_b10 := bx_bwS0.cell 10 rfl
    have kbx_b11 := bx_bwS0.cell 11 rfl
    have kbx_b12 := bx_bwS0.cell 12 rfl
    have lbx_b := bx_bwS0.lt
    go_wp2_with fail
    clear kbx_a0 kbx_a1 kbx_a2 kbx_a3 kbx_a4 kbx_a5 kbx_a6 kbx_a7 kbx_a8 kbx_a9 kbx_a10 kbx_a11 kbx_a12 lbx_a
    clear kbx_b0 kbx_b1 kbx_b2 kbx_b3 kbx_b4 kbx_b5 kbx_b6 kbx_b7 kbx_b8 kbx_b9 kbx_b10 kbx_b11 kbx_b12 lbx_b
    obtain ⟨T1, hT1⟩ : ∃ T, T = totHinter (b0, b1l, b2l, b3l, b4l, b5l, b6l, b7l, b8, b9, b10, b11, b12) := ⟨_, rfl⟩
    have HTT1 := Lib.hid hT1
    refine (szHinter_any b0 b1A b1c b1l b2A b2c b2l b3A b3c b3l b4A b4c b4l b5A b5c b5l b6A b6c b6l b7A b7c b7l b8 b9 b10 b11 b12 V0 _ (by omega) (by omega) HZP_b.out ?_ ?_ ?_ ?_ ?_ ?_ ?_).mono ?_
    · (refine Row.more (B := w.heap.size) ?_ (by first | omega | ((try simp only [World.size_setCell]); (try simp only [World.size_drew]); (try simp only [World.size_alloc]); omega))); repeat' (first | with_reducible assumption | (with_reducible refine Row.drew ?_) | (with_reducible refine Row.carry ?_ (by with_reducible assumption) ?_) | (with_reducible refine Row.alloc ?_ ?_ _) | (with_reducible refine Row.setCell ?_ ?_ _) | omega | (simp; done) | (simp; omega))
    · (refine Row.more (B := w.heap.size) ?_ (by first | omega | ((try simp only [World.size_setCell]); (try simp only [World.size_drew]); (try simp only [World.size_alloc]); omega))); repeat' (first | with_reducible assumption | (with_reducible refine Row.drew ?_) | (with_reducible refine Row.carry ?_ (by with_reducible assumption) ?_) | (with_reducible refine Row.alloc ?_ ?_ _) | (with_reducible refine Row.setCell ?_ ?_ _) | omega | (simp; done) | (simp; omega))
    · (refine Row.more (B := w.heap.size) ?_ (by first | omega | ((try simp only [World.size_setCell]); (try simp only [World.size_drew]); (try simp only [World.size_alloc]); omega))); repeat' (first | with_reducible assumption | (with_reducible refine Row.drew ?_) | (with_reducible refine Row.carry ?_ (by with_reducible assumption) ?_) | (with_reducible refine Row.alloc ?_ ?_ _) | (with_reducible refine Row.setCell ?_ ?_ _) | omega | (simp; done) | (simp; omega))
    · (refine Row.more (B := w.heap.size) ?_ (by first | omega | ((try simp only [World.size_setCell]); (try simp only [World.size_drew]); (try simp only [World.size_alloc]); omega))); repeat' (first | with_reducible assumption | (with_reducible refine Row.drew ?_) | (with_reducible refine Row.carry ?_ (by with_reducible assumption) ?_) | (with_reducible refine Row.alloc ?_ ?_ _) | (with_reducible refine Row.setCell ?_ ?_ _) | omega | (simp; done) | (simp; omega))
    · (refine Row.more (B := w.heap.size) ?_ (by first | omega | ((try simp only [World.size_setCell]); (try simp only [World.size_drew]); (try simp only [World.size_alloc]); omega))); repeat' (first | with_reducible assumption | (with_reducible refine Row.drew ?_) | (with_reducible refine Row.carry ?_ (by with_reducible assumption) ?_) | (with_reducible refine Row.alloc ?_ ?_ _) | (with_reducible refine Row.setCell ?_ ?_ _) | omega | (simp; done) | (simp; omega))
    · (refine Row.more (B := w.heap.size) ?_ (by first | omega | ((try simp only [World.size_setCell]); (try simp only [World.size_drew]); (try simp only [World.size_alloc]); omega))); repeat' (first | with_reducible assumption | (with_reducible refine Row.drew ?_) | (with_reducible refine Row.carry ?_ (by with_reducible assumption) ?_) | (with_reducible refine Row.alloc ?_ ?_ _) | (with_reducible refine Row.setCell ?_ ?_ _) | omega | (simp; done) | (simp; omega))
    · (refine Row.more (B := w.heap.size) ?_ (by first | omega | ((try simp only [World.size_setCell]); (try simp only [World.size_drew]); (try simp only [World.size_alloc]); omega))); repeat' (first | with_reducible assumption | (with_reducible refine Row.drew ?_) | (with_reducible refine Row.carry ?_ (by with_reducible assumption) ?_) | (with_reducible refine Row.alloc ?_ ?_ _) | (with_reducible refine Row.setCell ?_ ?_ _) | omega | (simp; done) | (simp; omega))
    rw [← hT1]
    clear hT1
    by_cases hfit : (T1 : Int) ≤ V0
    case neg =>
      rw [szV_no hfit]
      rintro e wN ⟨rfl, hb⟩
      go_wp2_with fail
      go_ret
      have bp := bwS0.out
      exact ⟨rfl, by repeat' (first | with_reducible assumption | with_reducible exact Below.refl _ _ | (with_reducible refine Below.setCell ?_ ?_ _) | (with_reducible refine Below.alloc ?_ ?_ _) | (with_reducible refine Below.drew ?_) | (with_reducible refine below_dr ?_ _) | (with_reducible refine Below.trans ?_ (Below.mono (by with_reducible assumption) ?_)) | omega | (simp; done) | (simp; omega))⟩
    case pos =>
      rw [szV_yes hfit]
      have HT_b := Lib.hid (show totHinter (b0, b1l, b2l, b3l, b4l, b5l, b6l, b7l, b8, b9, b10, b11, b12) ≤ 1048576 by rw [← HTT1.out]; omega)
      obtain ⟨V1, hV⟩ : ∃ V : Int, V = V0 - T1 := ⟨_, rfl⟩
      have hVV : 0 ≤ V1 ∧ V1 ≤ 1048576 := by omega
      rw [← hV]
      rintro e wS1 ⟨rfl, hbwS1⟩
      clear hV hfit
      obtain ⟨hV0_1, hV1_1⟩ := hVV
      have zwS1 := hbwS1.size
      (try simp only [World.size_setCell] at zwS1)
      (try simp only [World.size_drew] at zwS1)
      (try simp only [World.size_alloc] at zwS1)
      have qwS1 : w.heap.size ≤ wS1.heap.size := by omega
      have bx_awS1 : AtL (w.heap.size) [.int .i64 a0, .slice a1A a1l.length a1c, .slice a2A a2l.length a2c, .slice a3A a3l.length a3c, .slice a4A a4l.length a4c, .slice a5A a5l.length a5c, .slice a6A a6l.length a6c, .slice a7A a7l.length a7c, .bool a8, .int .i64 a9, .int .i64 a10, .int .i64 a11, .int .i64 a12] wS1 := by repeat' (first | with_reducible assumption | with_reducible exact AtL.new _ _ _ | ((with_reducible refine AtL.newAt ?_); (first | rfl | (simp; done))) | (with_reducible refine AtL.drew ?_) | (with_reducible refine AtL.below ?_ (by with_reducible assumption)) | (with_reducible refine AtL.alloc ?_ _) | (with_reducible refine AtL.far ?_ ?_ _ _) | omega | (simp; done) | (simp; omega))
      have row_a1wS1 : Row RvPt 2 wS1 (w.heap.size) a1A a1l := by repeat' (first | with_reducible assumption | (with_reducible refine Row.drew ?_) | (with_reducible refine Row.carry ?_ (by with_reducible assumption) ?_) | (with_reducible refine Row.alloc ?_ ?_ _) | (with_reducible refine Row.setCell ?_ ?_ _) | omega | (simp; done) | (simp; omega))
      have row_a2wS1 : Row RvPt 2 wS1 (w.heap.size) a2A a2l := by repeat' (first | with_reducible assumption | (with_reducible refine Row.drew ?_) | (with_reducible refine Row.carry ?_ (by with_reducible assumption) ?_) | (with_reducible refine Row.alloc ?_ ?_ _) | (with_reducible refine Row.setCell ?_ ?_ _) | omega | (simp; done) | (simp; omega))
      have row_a3wS1 : Row RvBool 1 wS1 (w.heap.size) a3A a3l := by repeat' (first | with_reducible assumption | (with_reducible refine Row.drew ?_) | (with_reducible refine Row.carry ?_ (by with_reducible assumption) ?_) | (with_reducible refine Row.alloc ?_ ?_ _) | (with_reducible refine Row.setCell ?_ ?_ _) | omega | (simp; done) | (simp; omega))
      have row_a4wS1 : Row RvBool 1 wS1 (w.heap.size) a4A a4l := by repeat' (first | with_reducible assumption | (with_reducible refine Row.drew ?_) | (with_reducible refine Row.carry ?_ (by with_reducible assumption) ?_) | (with_reducible refine Row.alloc ?_ ?_ _) | (with_reducible refine Row.setCell ?_ ?_ _) | omega | (simp; done) | (simp; omega))
      have row_a5wS1 : Row RvInt64 1 wS1 (w.heap.size) a5A a5l := by repeat' (first | with_reducible assumption | (with_reducible refine Row.drew ?_) | (with_reducible refine Row.carry ?_ (by with_reducible assumption) ?_) | (with_reducible refine Row.alloc ?_ ?_ _) | (with_reducible refine Row.setCell ?_ ?_ _) | omega | (simp; done) | (simp; omega))
      have row_a6wS1 : Row RvInt64 1 wS1 (w.heap.size) a6A a6l := by repeat' (first | with_reducible assumption | (with_reducible refine Row.drew ?_) | (with_reducible refine Row.carry ?_ (by with_reducible assumption) ?_) | (with_reducible refine Row.alloc ?_ ?_ _) | (with_reducible refine Row.setCell ?_ ?_ _) | omega | (simp; done) | (simp; omega))
      have row_a7wS1 : Row RvInt64 1 wS1 (w.heap.size) a7A a7l := by repeat' (first | with_reducible assumption | (with_reducible refine Row.drew ?_) | (with_reducible refine Row.carry ?_ (by with_reducible assumption) ?_) | (with_reducible refine Row.alloc ?_ ?_ _) | (with_reducible refine Row.setCell ?_ ?_ _) | omega | (simp; done) | (simp; omega))
      have bx_bwS1 : AtL (w.heap.size + 1) [.int .i64 b0, .slice b1A b1l.length b1c, .slice b2A b2l.length b2c, .slice b3A b3l.length b3c, .slice b4A b4l.length b4c, .slice b5A b5l.length b5c, .slice b6A b6l.length b6c, .slice b7A b7l.length b7c, .bool b8, .int .i64 b9, .int .i64 b10, .int .i64 b11, .int .i64 b12] wS1 := by repeat' (first | with_reducible assumption | with_reducible exact AtL.new _ _ _ | ((with_reducible refine AtL.newAt ?_); (first | rfl | (simp; done))) | (with_reducible refine AtL.drew ?_) | (with_reducible refine AtL.below ?_ (by with_reducible assumption)) | (with_reducible refine AtL.alloc ?_ _) | (with_reducible refine AtL.far ?_ ?_ _ _) | omega | (simp; done) | (simp; omega))
      have row_b1wS1 : Row RvPt 2 wS1 (w.heap.size) b1A b1l := by repeat' (first | with_reducible assumption | (with_reducible refine Row.drew ?_) | (with_reducible refine Row.carry ?_ (by with_reducible assumption) ?_) | (with_reducible refine Row.alloc ?_ ?_ _) | (with_reducible refine Row.setCell ?_ ?_ _) | omega | (simp; done) | (simp; omega))
      have row_b2wS1 : Row RvPt 2 wS1 (w.heap.size) b2A b2l := by repeat' (first | with_reducible assumption | (with_reducible refine Row.drew ?_) | (with_reducible refine Row.carry ?_ (by with_reducible assumption) ?_) | (with_reducible refine Row.alloc ?_ ?_ _) | (with_reducible refine Row.setCell ?_ ?_ _) | omega | (simp; done) | (simp; omega))
      have row_b3wS1 : Row RvBool 1 wS1 (w.heap.size) b3A b3l := by repeat' (first | with_reducible assumption | (with_reducible refine Row.drew ?_) | (with_reducible refine Row.carry ?_ (by with_reducible assumption) ?_) | (with_reducible refine Row.alloc ?_ ?_ _) | (with_reducible refine Row.setCell ?_ ?_ _) | omega | (simp; done) | (simp; omega))
      have row_b4wS1 : Row RvBool 1 wS1 (w.heap.size) b4A b4l := by repeat' (first | with_reducible assumption | (with_reducible refine Row.drew ?_) | (with_reducible refine Row.carry ?_ (by with_reducible assumption) ?_) | (with_reducible refine Row.alloc ?_ ?_ _) | (with_reducible refine Row.setCell ?_ ?_ _) | omega | (simp; done) | (simp; omega))
      have row_b5wS1 : Row RvInt64 1 wS1 (w.heap.size) b5A b5l := by repeat' (first | with_reducible assumption | (with_reducible refine Row.drew ?_) | (with_reducible refine Row.carry ?_ (by with_reducible assumption) ?_) | (with_reducible refine Row.alloc ?_ ?_ _) | (with_reducible refine Row.setCell ?_ ?_ _) | omega | (simp; done) | (simp; omega))
      have row_b6wS1 : Row RvInt64 1 wS1 (w.heap.size) b6A b6l := by repeat' (first | with_reducible assumption | (with_reducible refine Row.drew ?_) | (with_reducible refine Row.carry ?_ (by with_reducible assumption) ?_) | (with_reducible refine Row.alloc ?_ ?_ _) | (with_reducible refine Row.setCell ?_ ?_ _) | omega | (simp; done) | (simp; omega))
      have row_b7wS1 : Row RvInt64 1 wS1 (w.heap.size) b7A b7l := by repeat' (first | with_reducible assumption | (with_reducible refine Row.drew ?_) | (with_reducible refine Row.carry ?_ (by with_reducible assumption) ?_) | (with_reducible refine Row.alloc ?_ ?_ _) | (with_reducible refine Row.setCell ?_ ?_ _) | omega | (simp; done) | (simp; omega))
      have bp := bwS0.out
      have bn : Below w.heap.size w wS1 := by repeat' (first | with_reducible assumption | with_reducible exact Below.refl _ _ | (with_reducible refine Below.setCell ?_ ?_ _) | (with_reducible refine Below.alloc ?_ ?_ _) | (with_reducible refine Below.drew ?_) | (with_reducible refine below_dr ?_ _) | (with_reducible refine Below.trans ?_ (Below.mono (by with_reducible assumption) ?_)) | omega | (simp; done) | (simp; omega))
      have bwS1 := Lib.hid bn
      clear bn
      clear bp bwS0
      clear hbwS1
      clear bx_awS0
      clear row_a1wS0
      clear row_a2wS0
      clear row_a3wS0
      clear row_a4wS0
      clear row_a5wS0
      clear row_a6wS0
      clear row_a7wS0
      clear bx_bwS0
      clear row_b1wS0
      clear row_b2wS0
      clear row_b3wS0
      clear row_b4wS0
      clear row_b5wS0
      clear row_b6wS0
      clear row_b7wS0
      have kbx_a0 := bx_awS1.cell 0 rfl
      have kbx_a1 := bx_awS1.cell 1 rfl
      have kbx_a2 := bx_awS1.cell 2 rfl
      have kbx_a3 := bx_awS1.cell 3 rfl
      have kbx_a4 := bx_awS1.cell 4 rfl
      have kbx_a5 := bx_awS1.cell 5 rfl
      have kbx_a6 := bx_awS1.cell 6 rfl
      have kbx_a7 := bx_awS1.cell 7 rfl
      have kbx_a8 := bx_awS1.cell 8 rfl
      have kbx_a9 := bx_awS1.cell 9 rfl
      have kbx_a10 := bx_awS1.cell 10 rfl
      have kbx_a11 := bx_awS1.cell 11 rfl
      have kbx_a12 := bx_awS1.cell 12 rfl
      have lbx_a := bx_awS1.lt
      have kbx_b0 := bx_bwS1.cell 0 rfl
      have kbx_b1 := bx_bwS1.cell 1 rfl
      have kbx_b2 := bx_bwS1.cell 2 rfl
      have kbx_b3 := bx_bwS1.cell 3 rfl
      have kbx_b4 := bx_bwS1.cell 4 rfl
      have kbx_b5 := bx_bwS1.cell 5 rfl
      have kbx_b6 := bx_bwS1.cell 6 rfl
      have kbx_b7 := bx_bwS1.cell 7 rfl
      have kbx_b8 := bx_bwS1.cell 8 rfl
      have kbx_b9 := bx_bwS1.cell 9 rfl
      have kbx_b10 := bx_bwS1.cell 10 rfl
      have kbx_b11 := bx_bwS1.cell 11 rfl
      have kbx_b12 := bx_bwS1.cell 12 rfl
      have lbx_b := bx_bwS1.lt
      go_wp2_with fail
      go_region_held3 (fun w' => (∀ b o, b < wS1.heap.size → w'.cell? ⟨b, o, none⟩ = wS1.cell? ⟨b, o, none⟩) ∧ wS1.heap.size ≤ w'.heap.size)
        (first | ((try dsimp only); exact ⟨fun b o h => (by (repeat (first | with_reducible exact rfl | (with_reducible refine (cell_drew_at _ _).trans ?_) | (with_reducible refine (cell_set_at _ _ (by first | omega | (simp; done) | (simp; omega))).trans ?_) | (with_reducible refine (cell_alloc_at _ _ (by first | omega | (simp; done) | (simp; omega))).trans ?_) | (with_reducible refine (hcwA0 b o (by first | omega | (simp; done) | (simp; omega))).trans ?_) | (with_reducible refine (hcwA1 b o (by first | omega | (simp; done) | (simp; omega))).trans ?_) | (with_reducible refine (hcwB b o (by first | omega | (simp; done) | (simp; omega))).trans ?_)))), (by first | omega | (simp; done) | (simp; omega))⟩) | fail)
        (first
          | (go_at_call 46; (with_reducible refine (xtoHinter_any a0 a1A a1c a1l a2A a2c a2l a3A a3c a3l a4A a4c a4l a5A a5c a5l a6A a6c a6l a7A a7c a7l a8 a9 a10 a11 a12 _ (HT_a.out) ?_ ?_ ?_ ?_ ?_ ?_ ?_).mono ?_); (focus ((refine Row.more (B := w.heap.size) ?_ (by first | omega | ((try simp only [World.size_setCell]); (try simp only [World.size_drew]); (try simp only [World.size_alloc]); omega))); repeat' (first | with_reducible assumption | (with_reducible refine Row.drew ?_) | (with_reducible refine Row.carry ?_ (by with_reducible assumption) ?_) | (with_reducible refine Row.alloc ?_ ?_ _) | (with_reducible refine Row.setCell ?_ ?_ _) | omega | (simp; done) | (simp; omega)))); (focus ((refine Row.more (B := w.heap.size) ?_ (by first | omega | ((try simp only [World.size_setCell]); (try simp only [World.size_drew]); (try simp only [World.size_alloc]); omega))); repeat' (first | with_reducible assumption | (with_reducible refine Row.drew ?_) | (with_reducible refine Row.carry ?_ (by with_reducible assumption) ?_) | (with_reducible refine Row.alloc ?_ ?_ _) | (with_reducible refine Row.setCell ?_ ?_ _) | omega | (simp; done) | (simp; omega)))); (focus ((refine Row.more (B := w.heap.size) ?_ (by first | omega | ((try simp only [World.size_setCell]); (try simp only [World.size_drew]); (try simp only [World.size_alloc]); omega))); repeat' (first | with_reducible assumption | (with_reducible refine Row.drew ?_) | (with_reducible refine Row.carry ?_ (by with_reducible assumption) ?_) | (with_reducible refine Row.alloc ?_ ?_ _) | (with_reducible refine Row.setCell ?_ ?_ _) | omega | (simp; done) | (simp; omega)))); (focus ((refine Row.more (B := w.heap.size) ?_ (by first | omega | ((try simp only [World.size_setCell]); (try simp only [World.size_drew]); (try simp only [World.size_alloc]); omega))); repeat' (first | with_reducible assumption | (with_reducible refine Row.drew ?_) | (with_reducible refine Row.carry ?_ (by with_reducible assumption) ?_) | (with_reducible refine Row.alloc ?_ ?_ _) | (with_reducible refine Row.setCell ?_ ?_ _) | omega | (simp; done) | (simp; omega)))); (focus ((refine Row.more (B := w.heap.size) ?_ (by first | omega | ((try simp only [World.size_setCell]); (try simp only [World.size_drew]); (try simp only [World.size_alloc]); omega))); repeat' (first | with_reducible assumption | (with_reducible refine Row.drew ?_) | (with_reducible refine Row.carry ?_ (by with_reducible assumption) ?_) | (with_reducible refine Row.alloc ?_ ?_ _) | (with_reducible refine Row.setCell ?_ ?_ _) | omega | (simp; done) | (simp; omega)))); (focus ((refine Row.more (B := w.heap.size) ?_ (by first | omega | ((try simp only [World.size_setCell]); (try simp only [World.size_drew]); (try simp only [World.size_alloc]); omega))); repeat' (first | with_reducible assumption | (with_reducible refine Row.drew ?_) | (with_reducible refine Row.carry ?_ (by with_reducible assumption) ?_) | (with_reducible refine Row.alloc ?_ ?_ _) | (with_reducible refine Row.setCell ?_ ?_ _) | omega | (simp; done) | (simp; omega)))); (focus ((refine Row.more (B := w.heap.size) ?_ (by first | omega | ((try simp only [World.size_setCell]); (try simp only [World.size_drew]); (try simp only [World.size_alloc]); omega))); repeat' (first | with_reducible assumption | (with_reducible refine Row.drew ?_) | (with_reducible refine Row.carry ?_ (by with_reducible assumption) ?_) | (with_reducible refine Row.alloc ?_ ?_ _) | (with_reducible refine Row.setCell ?_ ?_ _) | omega | (simp; done) | (simp; omega)))); intro e wA0 hq; obtain ⟨owA0_a1A, owA0_a1c, owA0_a2A, owA0_a2c, owA0_a3A, owA0_a3c, owA0_a4A, owA0_a4c, owA0_a5A, owA0_a5c, owA0_a6A, owA0_a6c, owA0_a7A, owA0_a7c, rfl, owA0_a1, owA0_a2, owA0_a3, owA0_a4, owA0_a5, owA0_a6, owA0_a7, hbwA0⟩ := hq; obtain ⟨hcwA0, hfwA0⟩ := bcell hbwA0; have hzwA0 := hbwA0.size; (try simp only [World.size_drew] at hcwA0 hfwA0 hzwA0); (try simp only [World.size_alloc] at hcwA0 hfwA0 hzwA0))
          | (go_at_call 46; (with_reducible refine (xtoHinter_any b0 b1A b1c b1l b2A b2c b2l b3A b3c b3l b4A b4c b4l b5A b5c b5l b6A b6c b6l b7A b7c b7l b8 b9 b10 b11 b12 _ (HT_b.out) ?_ ?_ ?_ ?_ ?_ ?_ ?_).mono ?_); (focus ((refine Row.more (B := w.heap.size) ?_ (by first | omega | ((try simp only [World.size_setCell]); (try simp only [World.size_drew]); (try simp only [World.size_alloc]); omega))); repeat' (first | with_reducible assumption | (with_reducible refine Row.drew ?_) | (with_reducible refine Row.carry ?_ (by with_reducible assumption) ?_) | (with_reducible refine Row.alloc ?_ ?_ _) | (with_reducible refine Row.setCell ?_ ?_ _) | omega | (simp; done) | (simp; omega)))); (focus ((refine Row.more (B := w.heap.size) ?_ (by first | omega | ((try simp only [World.size_setCell]); (try simp only [World.size_drew]); (try simp only [World.size_alloc]); omega))); repeat' (first | with_reducible assumption | (with_reducible refine Row.drew ?_) | (with_reducible refine Row.carry ?_ (by with_reducible assumption) ?_) | (with_reducible refine Row.alloc ?_ ?_ _) | (with_reducible refine Row.setCell ?_ ?_ _) | omega | (simp; done) | (simp; omega)))); (focus ((refine Row.more (B := w.heap.size) ?_ (by first | omega | ((try simp only [World.size_setCell]); (try simp only [World.size_drew]); (try simp only [World.size_alloc]); omega))); repeat' (first | with_reducible assumption | (with_reducible refine Row.drew ?_) | (with_reducible refine Row.carry ?_ (by with_reducible assumption) ?_) | (with_reducible refine Row.alloc ?_ ?_ _) | (with_reducible refine Row.setCell ?_ ?_ _) | omega | (simp; done) | (simp; omega)))); (focus ((refine Row.more (B := w.heap.size) ?_ (by first | omega | ((try simp only [World.size_setCell]); (try simp only [World.size_drew]); (try simp only [World.size_alloc]); omega))); repeat' (first | with_reducible assumption | (with_reducible refine Row.drew ?_) | (with_reducible refine Row.carry ?_ (by with_reducible assumption) ?_) | (with_reducible refine Row.alloc ?_ ?_ _) | (with_reducible refine Row.setCell ?_ ?_ _) | omega | (simp; done) | (simp; omega)))); (focus ((refine Row.more (B := w.heap.size) ?_ (by first | omega | ((try simp only [World.size_setCell]); (try simp only [World.size_drew]); (try simp only [World.size_alloc]); omega))); repeat' (first | with_reducible assumption | (with_reducible refine Row.drew ?_) | (with_reducible refine Row.carry ?_ (by with_reducible assumption) ?_) | (with_reducible refine Row.alloc ?_ ?_ _) | (with_reducible refine Row.setCell ?_ ?_ _) | omega | (simp; done) | (simp; omega)))); (focus ((refine Row.more (B := w.heap.size) ?_ (by first | omega | ((try simp only [World.size_setCell]); (try simp only [World.size_drew]); (try simp only [World.size_alloc]); omega))); repeat' (first | with_reducible assumption | (with_reducible refine Row.drew ?_) | (with_reducible refine Row.carry ?_ (by with_reducible assumption) ?_) | (with_reducible refine Row.alloc ?_ ?_ _) | (with_reducible refine Row.setCell ?_ ?_ _) | omega | (simp; done) | (simp; omega)))); (focus ((refine Row.more (B := w.heap.size) ?_ (by first | omega | ((try simp only [World.size_setCell]); (try simp only [World.size_drew]); (try simp only [World.size_alloc]); omega))); repeat' (first | with_reducible assumption | (with_reducible refine Row.drew ?_) | (with_reducible refine Row.carry ?_ (by with_reducible assumption) ?_) | (with_reducible refine Row.alloc ?_ ?_ _) | (with_reducible refine Row.setCell ?_ ?_ _) | omega | (simp; done) | (simp; omega)))); intro e wA1 hq; obtain ⟨owA1_b1A, owA1_b1c, owA1_b2A, owA1_b2c, owA1_b3A, owA1_b3c, owA1_b4A, owA1_b4c, owA1_b5A, owA1_b5c, owA1_b6A, owA1_b6c, owA1_b7A, owA1_b7c, rfl, owA1_b1, owA1_b2, owA1_b3, owA1_b4, owA1_b5, owA1_b6, owA1_b7, hbwA1⟩ := hq; obtain ⟨hcwA1, hfwA1⟩ := bcell hbwA1; have hzwA1 := hbwA1.size; (try simp only [World.size_drew] at hcwA1 hfwA1 hzwA1); (try simp only [World.size_alloc] at hcwA1 hfwA1 hzwA1))
          | (go_at_call 48; (with_reducible refine (C1.out HT_a.out HT_b.out owA0_a1A owA0_a1c owA0_a2A owA0_a2c owA0_a3A owA0_a3c owA0_a4A owA0_a4c owA0_a5A owA0_a5c owA0_a6A owA0_a6c owA0_a7A owA0_a7c owA1_b1A owA1_b1c owA1_b2A owA1_b2c owA1_b3A owA1_b3c owA1_b4A owA1_b4c owA1_b5A owA1_b5c owA1_b6A owA1_b6c owA1_b7A owA1_b7c _ ?_ ?_ ?_ ?_ ?_ ?_ ?_ ?_ ?_ ?_ ?_ ?_ ?_ ?_).mono ?_); (focus (refine Row.more (B := wA0.heap.size) ?_ (by first | exact Nat.le_refl _ | omega | ((try simp only [World.size_drew]); omega)))); (focus (first | exact owA0_a1.here | (have h9 := owA0_a1.here; repeat' (first | with_reducible assumption | (with_reducible refine Row.drew ?_) | (with_reducible refine Row.carry ?_ (by with_reducible assumption) ?_) | (with_reducible refine Row.alloc ?_ ?_ _) | (with_reducible refine Row.setCell ?_ ?_ _) | omega | (simp; done) | (simp; omega))))); (focus (refine Row.more (B := wA0.heap.size) ?_ (by first | exact Nat.le_refl _ | omega | ((try simp only [World.size_drew]); omega)))); (focus (first | exact owA0_a2.here | (have h9 := owA0_a2.here; repeat' (first | with_reducible assumption | (with_reducible refine Row.drew ?_) | (with_reducible refine Row.carry ?_ (by with_reducible assumption) ?_) | (with_reducible refine Row.alloc ?_ ?_ _) | (with_reducible refine Row.setCell ?_ ?_ _) | omega | (simp; done) | (simp; omega))))); (focus (refine Row.more (B := wA0.heap.size) ?_ (by first | exact Nat.le_refl _ | omega | ((try simp only [World.size_drew]); omega)))); (focus (first | exact owA0_a3.here | (have h9 := owA0_a3.here; repeat' (first | with_reducible assumption | (with_reducible refine Row.drew ?_) | (with_reducible refine Row.carry ?_ (by with_reducible assumption) ?_) | (with_reducible refine Row.alloc ?_ ?_ _) | (with_reducible refine Row.setCell ?_ ?_ _) | omega | (simp; done) | (simp; omega))))); (focus (refine Row.more (B := wA0.heap.size) ?_ (by first | exact Nat.le_refl _ | omega | ((try simp only [World.size_drew]); omega)))); (focus (first | exact owA0_a4.here | (have h9 := owA0_a4.here; repeat' (first | with_reducible assumption | (with_reducible refine Row.drew ?_) | (with_reducible refine Row.carry ?_ (by with_reducible assumption) ?_) | (with_reducible refine Row.alloc ?_ ?_ _) | (with_reducible refine Row.setCell ?_ ?_ _) | omega | (simp; done) | (simp; omega))))); (focus (refine Row.more (B := wA0.heap.size) ?_ (by first | exact Nat.le_refl _ | omega | ((try simp only [World.size_drew]); omega)))); (focus (first | exact owA0_a5.here | (have h9 := owA0_a5.here; repeat' (first | with_reducible assumption | (with_reducible refine Row.drew ?_) | (with_reducible refine Row.carry ?_ (by with_reducible assumption) ?_) | (with_reducible refine Row.alloc ?_ ?_ _) | (with_reducible refine Row.setCell ?_ ?_ _) | omega | (simp; done) | (simp; omega))))); (focus (refine Row.more (B := wA0.heap.size) ?_ (by first | exact Nat.le_refl _ | omega | ((try simp only [World.size_drew]); omega)))); (focus (first | exact owA0_a6.here | (have h9 := owA0_a6.here; repeat' (first | with_reducible assumption | (with_reducible refine Row.drew ?_) | (with_reducible refine Row.carry ?_ (by with_reducible assumption) ?_) | (with_reducible refine Row.alloc ?_ ?_ _) | (with_reducible refine Row.setCell ?_ ?_ _) | omega | (simp; done) | (simp; omega))))); (focus (refine Row.more (B := wA0.heap.size) ?_ (by first | exact Nat.le_refl _ | omega | ((try simp only [World.size_drew]); omega)))); (focus (first | exact owA0_a7.here | (have h9 := owA0_a7.here; repeat' (first | with_reducible assumption | (with_reducible refine Row.drew ?_) | (with_reducible refine Row.carry ?_ (by with_reducible assumption) ?_) | (with_reducible refine Row.alloc ?_ ?_ _) | (with_reducible refine Row.setCell ?_ ?_ _) | omega | (simp; done) | (simp; omega))))); (focus (refine Row.more (B := wA1.heap.size) ?_ (by first | exact Nat.le_refl _ | omega | ((try simp only [World.size_drew]); omega)))); (focus (first | exact owA1_b1.here | (have h9 := owA1_b1.here; repeat' (first | with_reducible assumption | (with_reducible refine Row.drew ?_) | (with_reducible refine Row.carry ?_ (by with_reducible assumption) ?_) | (with_reducible refine Row.alloc ?_ ?_ _) | (with_reducible refine Row.setCell ?_ ?_ _) | omega | (simp; done) | (simp; omega))))); (focus (refine Row.more (B := wA1.heap.size) ?_ (by first | exact Nat.le_refl _ | omega | ((try simp only [World.size_drew]); omega)))); (focus (first | exact owA1_b2.here | (have h9 := owA1_b2.here; repeat' (first | with_reducible assumption | (with_reducible refine Row.drew ?_) | (with_reducible refine Row.carry ?_ (by with_reducible assumption) ?_) | (with_reducible refine Row.alloc ?_ ?_ _) | (with_reducible refine Row.setCell ?_ ?_ _) | omega | (simp; done) | (simp; omega))))); (focus (refine Row.more (B := wA1.heap.size) ?_ (by first | exact Nat.le_refl _ | omega | ((try simp only [World.size_drew]); omega)))); (focus (first | exact owA1_b3.here | (have h9 := owA1_b3.here; repeat' (first | with_reducible assumption | (with_reducible refine Row.drew ?_) | (with_reducible refine Row.carry ?_ (by with_reducible assumption) ?_) | (with_reducible refine Row.alloc ?_ ?_ _) | (with_reducible refine Row.setCell ?_ ?_ _) | omega | (simp; done) | (simp; omega))))); (focus (refine Row.more (B := wA1.heap.size) ?_ (by first | exact Nat.le_refl _ | omega | ((try simp only [World.size_drew]); omega)))); (focus (first | exact owA1_b4.here | (have h9 := owA1_b4.here; repeat' (first | with_reducible assumption | (with_reducible refine Row.drew ?_) | (with_reducible refine Row.carry ?_ (by with_reducible assumption) ?_) | (with_reducible refine Row.alloc ?_ ?_ _) | (with_reducible refine Row.setCell ?_ ?_ _) | omega | (simp; done) | (simp; omega))))); (focus (refine Row.more (B := wA1.heap.size) ?_ (by first | exact Nat.le_refl _ | omega | ((try simp only [World.size_drew]); omega)))); (focus (first | exact owA1_b5.here | (have h9 := owA1_b5.here; repeat' (first | with_reducible assumption | (with_reducible refine Row.drew ?_) | (with_reducible refine Row.carry ?_ (by with_reducible assumption) ?_) | (with_reducible refine Row.alloc ?_ ?_ _) | (with_reducible refine Row.setCell ?_ ?_ _) | omega | (simp; done) | (simp; omega))))); (focus (refine Row.more (B := wA1.heap.size) ?_ (by first | exact Nat.le_refl _ | omega | ((try simp only [World.size_drew]); omega)))); (focus (first | exact owA1_b6.here | (have h9 := owA1_b6.here; repeat' (first | with_reducible assumption | (with_reducible refine Row.drew ?_) | (with_reducible refine Row.carry ?_ (by with_reducible assumption) ?_) | (with_reducible refine Row.alloc ?_ ?_ _) | (with_reducible refine Row.setCell ?_ ?_ _) | omega | (simp; done) | (simp; omega))))); (focus (refine Row.more (B := wA1.heap.size) ?_ (by first | exact Nat.le_refl _ | omega | ((try simp only [World.size_drew]); omega)))); (focus (first | exact owA1_b7.here | (have h9 := owA1_b7.here; repeat' (first | with_reducible assumption | (with_reducible refine Row.drew ?_) | (with_reducible refine Row.carry ?_ (by with_reducible assumption) ?_) | (with_reducible refine Row.alloc ?_ ?_ _) | (with_reducible refine Row.setCell ?_ ?_ _) | omega | (simp; done) | (simp; omega))))); rintro e wB ⟨rfl, hbwB⟩; obtain ⟨hcwB, hfwB⟩ := bcell hbwB; have hzwB := hbwB.size; (try simp only [World.size_drew] at hcwB hfwB hzwB); (try simp only [World.size_alloc] at hcwB hfwB hzwB)))
      clear kbx_a0 kbx_a1 kbx_a2 kbx_a3 kbx_a4 kbx_a5 kbx_a6 kbx_a7 kbx_a8 kbx_a9 kbx_a10 kbx_a11 kbx_a12 lbx_a
      clear kbx_b0 kbx_b1 kbx_b2 kbx_b3 kbx_b4 kbx_b5 kbx_b6 kbx_b7 kbx_b8 kbx_b9 kbx_b10 kbx_b11 kbx_b12 lbx_b
      all_goals
        have zwB := hbwB.size
        (try simp only [World.size_setCell] at zwB)
        (try simp only [World.size_drew] at zwB)
        (try simp only [World.size_alloc] at zwB)
        have qwB : w.heap.size ≤ wB.heap.size := by omega
        have bx_awB : AtL (w.heap.size) [.int .i64 a0, .slice a1A a1l.length a1c, .slice a2A a2l.length a2c, .slice a3A a3l.length a3c, .slice a4A a4l.length a4c, .slice a5A a5l.length a5c, .slice a6A a6l.length a6c, .slice a7A a7l.length a7c, .bool a8, .int .i64 a9, .int .i64 a10, .int .i64 a11, .int .i64 a12] wB := by repeat' (first | with_reducible assumption | with_reducible exact AtL.new _ _ _ | ((with_reducible refine AtL.newAt ?_); (first | rfl | (simp; done))) | (with_reducible refine AtL.drew ?_) | (with_reducible refine AtL.below ?_ (by with_reducible assumption)) | (with_reducible refine AtL.alloc ?_ _) | (with_reducible refine AtL.far ?_ ?_ _ _) | omega | (simp; done) | (simp; omega))
        have row_a1wB : Row RvPt 2 wB (w.heap.size) a1A a1l := by repeat' (first | with_reducible assumption | (with_reducible refine Row.drew ?_) | (with_reducible refine Row.carry ?_ (by with_reducible assumption) ?_) | (with_reducible refine Row.alloc ?_ ?_ _) | (with_reducible refine Row.setCell ?_ ?_ _) | omega | (simp; done) | (simp; omega))
        have row_a2wB : Row RvPt 2 wB (w.heap.size) a2A a2l := by repeat' (first | with_reducible assumption | (with_reducible refine Row.drew ?_) | (with_reducible refine Row.carry ?_ (by with_reducible assumption) ?_) | (with_reducible refine Row.alloc ?_ ?_ _) | (with_reducible refine Row.setCell ?_ ?_ _) | omega | (simp; done) | (simp; omega))
        have row_a3wB : Row RvBool 1 wB (w.heap.size) a3A a3l := by repeat' (first | with_reducible assumption | (with_reducible refine Row.drew ?_) | (with_reducible refine Row.carry ?_ (by with_reducible assumption) ?_) | (with_reducible refine Row.alloc ?_ ?_ _) | (with_reducible refine Row.setCell ?_ ?_ _) | omega | (simp; done) | (simp; omega))
        have row_a4wB : Row RvBool 1 wB (w.heap.size) a4A a4l := by repeat' (first | with_reducible assumption | (with_reducible refine Row.drew ?_) | (with_reducible refine Row.carry ?_ (by with_reducible assumption) ?_) | (with_reducible refine Row.alloc ?_ ?_ _) | (with_reducible refine Row.setCell ?_ ?_ _) | omega | (simp; done) | (simp; omega))
        have row_a5wB : Row RvInt64 1 wB (w.heap.size) a5A a5l := by repeat' (first | with_reducible assumption | (with_reducible refine Row.drew ?_) | (with_reducible refine Row.carry ?_ (by with_reducible assumption) ?_) | (with_reducible refine Row.alloc ?_ ?_ _) | (with_reducible refine Row.setCell ?_ ?_ _) | omega | (simp; done) | (simp; omega))
        have row_a6wB : Row RvInt64 1 wB (w.heap.size) a6A a6l := by repeat' (first | with_reducible assumption | (with_reducible refine Row.drew ?_) | (with_reducible refine Row.carry ?_ (by with_reducible assumption) ?_) | (with_reducible refine Row.alloc ?_ ?_ _) | (with_reducible refine Row.setCell ?_ ?_ _) | omega | (simp; done) | (simp; omega))
        have row_a7wB : Row RvInt64 1 wB (w.heap.size) a7A a7l := by repeat' (first | with_reducible assumption | (with_reducible refine Row.drew ?_) | (with_reducible refine Row.carry ?_ (by with_reducible assumption) ?_) | (with_reducible refine Row.alloc ?_ ?_ _) | (with_reducible refine Row.setCell ?_ ?_ _) | omega | (simp; done) | (simp; omega))
        have bx_bwB : AtL (w.heap.size + 1) [.int .i64 b0, .slice b1A b1l.length b1c, .slice b2A b2l.length b2c, .slice b3A b3l.length b3c, .slice b4A b4l.length b4c, .slice b5A b5l.length b5c, .slice b6A b6l.length b6c, .slice b7A b7l.length b7c, .bool b8, .int .i64 b9, .int .i64 b10, .int .i64 b11, .int .i64 b12] wB := by repeat' (first | with_reducible assumption | with_reducible exact AtL.new _ _ _ | ((with_reducible refine AtL.newAt ?_); (first | rfl | (simp; done))) | (with_reducible refine AtL.drew ?_) | (with_reducible refine AtL.below ?_ (by with_reducible assumption)) | (with_reducible refine AtL.alloc ?_ _) | (with_reducible refine AtL.far ?_ ?_ _ _) | omega | (simp; done) | (simp; omega))
        have row_b1wB : Row RvPt 2 wB (w.heap.size) b1A b1l := by repeat' (first | with_reducible assumption | (with_reducible refine Row.drew ?_) | (with_reducible refine Row.carry ?_ (by with_reducible assumption) ?_) | (with_reducible refine Row.alloc ?_ ?_ _) | (with_reducible refine Row.setCell ?_ ?_ _) | omega | (simp; done) | (simp; omega))
        have row_b2wB : Row RvPt 2 wB (w.heap.size) b2A b2l := by repeat' (first | with_reducible assumption | (with_reducible refine Row.drew ?_) | (with_reducible refine Row.carry ?_ (by with_reducible assumption) ?_) | (with_reducible refine Row.alloc ?_ ?_ _) | (with_reducible refine Row.setCell ?_ ?_ _) | omega | (simp; done) | (simp; omega))
        have row_b3wB : Row RvBool 1 wB (w.heap.size) b3A b3l := by repeat' (first | with_reducible assumption | (with_reducible refine Row.drew ?_) | (with_reducible refine Row.carry ?_ (by with_reducible assumption) ?_) | (with_reducible refine Row.alloc ?_ ?_ _) | (with_reducible refine Row.setCell ?_ ?_ _) | omega | (simp; done) | (simp; omega))
        have row_b4wB : Row RvBool 1 wB (w.heap.size) b4A b4l := by repeat' (first | with_reducible assumption | (with_reducible refine Row.drew ?_) | (with_reducible refine Row.carry ?_ (by with_reducible assumption) ?_) | (with_reducible refine Row.alloc ?_ ?_ _) | (with_reducible refine Row.setCell ?_ ?_ _) | omega | (simp; done) | (simp; omega))
        have row_b5wB : Row RvInt64 1 wB (w.heap.size) b5A b5l := by repeat' (first | with_reducible assumption | (with_reducible refine Row.drew ?_) | (with_reducible refine Row.carry ?_ (by with_reducible assumption) ?_) | (with_reducible refine Row.alloc ?_ ?_ _) | (with_reducible refine Row.setCell ?_ ?_ _) | omega | (simp; done) | (simp; omega))
        have row_b6wB : Row RvInt64 1 wB (w.heap.size) b6A b6l := by repeat' (first | with_reducible assumption | (with_reducible refine Row.drew ?_) | (with_reducible refine Row.carry ?_ (by with_reducible assumption) ?_) | (with_reducible refine Row.alloc ?_ ?_ _) | (with_reducible refine Row.setCell ?_ ?_ _) | omega | (simp; done) | (simp; omega))
        have row_b7wB : Row RvInt64 1 wB (w.heap.size) b7A b7l := by repeat' (first | with_reducible assumption | (with_reducible refine Row.drew ?_) | (with_reducible refine Row.carry ?_ (by with_reducible assumption) ?_) | (with_reducible refine Row.alloc ?_ ?_ _) | (with_reducible refine Row.setCell ?_ ?_ _) | omega | (simp; done) | (simp; omega))
        have bp := bwS1.out
        have bn : Below w.heap.size w wB := by repeat' (first | with_reducible assumption | with_reducible exact Below.refl _ _ | (with_reducible refine Below.setCell ?_ ?_ _) | (with_reducible refine Below.alloc ?_ ?_ _) | (with_reducible refine Below.drew ?_) | (with_reducible refine below_dr ?_ _) | (with_reducible refine Below.trans ?_ (Below.mono (by with_reducible assumption) ?_)) | omega | (simp; done) | (simp; omega))
        have bwB := Lib.hid bn
        clear bn
        clear bp bwS1
        clear hbwB
        clear bx_awS1
        clear row_a1wS1
        clear row_a2wS1
        clear row_a3wS1
        clear row_a4wS1
        clear row_a5wS1
        clear row_a6wS1
        clear row_a7wS1
        clear bx_bwS1
        clear row_b1wS1
        clear row_b2wS1
        clear row_b3wS1
        clear row_b4wS1
        clear row_b5wS1
        clear row_b6wS1
        clear row_b7wS1
        clear hbwA0 hcwA0 hfwA0 hbwA1 hcwA1 hfwA1 hcwB hfwB
        have kbx_a0 := bx_awB.cell 0 rfl
        have kbx_a1 := bx_awB.cell 1 rfl
        have kbx_a2 := bx_awB.cell 2 rfl
        have kbx_a3 := bx_awB.cell 3 rfl
        have kbx_a4 := bx_awB.cell 4 rfl
        have kbx_a5 := bx_awB.cell 5 rfl
        have kbx_a6 := bx_awB.cell 6 rfl
        have kbx_a7 := bx_awB.cell 7 rfl
        have kbx_a8 := bx_awB.cell 8 rfl
        have kbx_a9 := bx_awB.cell 9 rfl
        have kbx_a10 := bx_awB.cell 10 rfl
        have kbx_a11 := bx_awB.cell 11 rfl
        have kbx_a12 := bx_awB.cell 12 rfl
        have lbx_a := bx_awB.lt
        go_wp2_with fail
        clear kbx_a0 kbx_a1 kbx_a2 kbx_a3 kbx_a4 kbx_a5 kbx_a6 kbx_a7 kbx_a8 kbx_a9 kbx_a10 kbx_a11 kbx_a12 lbx_a
        refine (xtoHinter_any a0 a1A a1c a1l a2A a2c a2l a3A a3c a3l a4A a4c a4l a5A a5c a5l a6A a6c a6l a7A a7c a7l a8 a9 a10 a11 a12 _ (HT_a.out) ?_ ?_ ?_ ?_ ?_ ?_ ?_).mono ?_
        · (refine Row.more (B := w.heap.size) ?_ (by first | omega | ((try simp only [World.size_setCell]); (try simp only [World.size_drew]); (try simp only [World.size_alloc]); omega))); repeat' (first | with_reducible assumption | (with_reducible refine Row.drew ?_) | (with_reducible refine Row.carry ?_ (by with_reducible assumption) ?_) | (with_reducible refine Row.alloc ?_ ?_ _) | (with_reducible refine Row.setCell ?_ ?_ _) | omega | (simp; done) | (simp; omega))
        · (refine Row.more (B := w.heap.size) ?_ (by first | omega | ((try simp only [World.size_setCell]); (try simp only [World.size_drew]); (try simp only [World.size_alloc]); omega))); repeat' (first | with_reducible assumption | (with_reducible refine Row.drew ?_) | (with_reducible refine Row.carry ?_ (by with_reducible assumption) ?_) | (with_reducible refine Row.alloc ?_ ?_ _) | (with_reducible refine Row.setCell ?_ ?_ _) | omega | (simp; done) | (simp; omega))
        · (refine Row.more (B := w.heap.size) ?_ (by first | omega | ((try simp only [World.size_setCell]); (try simp only [World.size_drew]); (try simp only [World.size_alloc]); omega))); repeat' (first | with_reducible assumption | (with_reducible refine Row.drew ?_) | (with_reducible refine Row.carry ?_ (by with_reducible assumption) ?_) | (with_reducible refine Row.alloc ?_ ?_ _) | (with_reducible refine Row.setCell ?_ ?_ _) | omega | (simp; done) | (simp; omega))
        · (refine Row.more (B := w.heap.size) ?_ (by first | omega | ((try simp only [World.size_setCell]); (try simp only [World.size_drew]); (try simp only [World.size_alloc]); omega))); repeat' (first | with_reducible assumption | (with_reducible refine Row.drew ?_) | (with_reducible refine Row.carry ?_ (by with_reducible assumption) ?_) | (with_reducible refine Row.alloc ?_ ?_ _) | (with_reducible refine Row.setCell ?_ ?_ _) | omega | (simp; done) | (simp; omega))
        · (refine Row.more (B := w.heap.size) ?_ (by first | omega | ((try simp only [World.size_setCell]); (try simp only [World.size_drew]); (try simp only [World.size_alloc]); omega))); repeat' (first | with_reducible assumption | (with_reducible refine Row.drew ?_) | (with_reducible refine Row.carry ?_ (by with_reducible assumption) ?_) | (with_reducible refine Row.alloc ?_ ?_ _) | (with_reducible refine Row.setCell ?_ ?_ _) | omega | (simp; done) | (simp; omega))
        · (refine Row.more (B := w.heap.size) ?_ (by first | omega | ((try simp only [World.size_setCell]); (try simp only [World.size_drew]); (try simp only [World.size_alloc]); omega))); repeat' (first | with_reducible assumption | (with_reducible refine Row.drew ?_) | (with_reducible refine Row.carry ?_ (by with_reducible assumption) ?_) | (with_reducible refine Row.alloc ?_ ?_ _) | (with_reducible refine Row.setCell ?_ ?_ _) | omega | (simp; done) | (simp; omega))
        · (refine Row.more (B := w.heap.size) ?_ (by first | omega | ((try simp only [World.size_setCell]); (try simp only [World.size_drew]); (try simp only [World.size_alloc]); omega))); repeat' (first | with_reducible assumption | (with_reducible refine Row.drew ?_) | (with_reducible refine Row.carry ?_ (by with_reducible assumption) ?_) | (with_reducible refine Row.alloc ?_ ?_ _) | (with_reducible refine Row.setCell ?_ ?_ _) | omega | (simp; done) | (simp; omega))
        intro e wX0 hq
        obtain ⟨gX0_a1A, gX0_a1c, gX0_a2A, gX0_a2c, gX0_a3A, gX0_a3c, gX0_a4A, gX0_a4c, gX0_a5A, gX0_a5c, gX0_a6A, gX0_a6c, gX0_a7A, gX0_a7c, rfl, owX_a1, owX_a2, owX_a3, owX_a4, owX_a5, owX_a6, owX_a7, hbwX0⟩ := hq
        have zwX0 := hbwX0.size
        (try simp only [World.size_setCell] at zwX0)
        (try simp only [World.size_drew] at zwX0)
        (try simp only [World.size_alloc] at zwX0)
        have qwX0 : w.heap.size ≤ wX0.heap.size := by omega
        have bx_awX0 : AtL (w.heap.size) [.int .i64 a0, .slice a1A a1l.length a1c, .slice a2A a2l.length a2c, .slice a3A a3l.length a3c, .slice a4A a4l.length a4c, .slice a5A a5l.length a5c, .slice a6A a6l.length a6c, .slice a7A a7l.length a7c, .bool a8, .int .i64 a9, .int .i64 a10, .int .i64 a11, .int .i64 a12] wX0 := by repeat' (first | with_reducible assumption | with_reducible exact AtL.new _ _ _ | ((with_reducible refine AtL.newAt ?_); (first | rfl | (simp; done))) | (with_reducible refine AtL.drew ?_) | (with_reducible refine AtL.below ?_ (by with_reducible assumption)) | (with_reducible refine AtL.alloc ?_ _) | (with_reducible refine AtL.far ?_ ?_ _ _) | omega | (simp; done) | (simp; omega))
        have row_a1wX0 : Row RvPt 2 wX0 (w.heap.size) a1A a1l := by repeat' (first | with_reducible assumption | (with_reducible refine Row.drew ?_) | (with_reducible refine Row.carry ?_ (by with_reducible assumption) ?_) | (with_reducible refine Row.alloc ?_ ?_ _) | (with_reducible refine Row.setCell ?_ ?_ _) | omega | (simp; done) | (simp; omega))
        have row_a2wX0 : Row RvPt 2 wX0 (w.heap.size) a2A a2l := by repeat' (first | with_reducible assumption | (with_reducible refine Row.drew ?_) | (with_reducible refine Row.carry ?_ (by with_reducible assumption) ?_) | (with_reducible refine Row.alloc ?_ ?_ _) | (with_reducible refine Row.setCell ?_ ?_ _) | omega | (simp; done) | (simp; omega))
        have row_a3wX0 : Row RvBool 1 wX0 (w.heap.size) a3A a3l := by repeat' (first | with_reducible assumption | (with_reducible refine Row.drew ?_) | (with_reducible refine Row.carry ?_ (by with_reducible assumption) ?_) | (with_reducible refine Row.alloc ?_ ?_ _) | (with_reducible refine Row.setCell ?_ ?_ _) | omega | (simp; done) | (simp; omega))
        have row_a4wX0 : Row RvBool 1 wX0 (w.heap.size) a4A a4l := by repeat' (first | with_reducible assumption | (with_reducible refine Row.drew ?_) | (with_reducible refine Row.carry ?_ (by with_reducible assumption) ?_) | (with_reducible refine Row.alloc ?_ ?_ _) | (with_reducible refine Row.setCell ?_ ?_ _) | omega | (simp; done) | (simp; omega))
        have row_a5wX0 : Row RvInt64 1 wX0 (w.heap.size) a5A a5l := by repeat' (first | with_reducible assumption | (with_reducible refine Row.drew ?_) | (with_reducible refine Row.carry ?_ (by with_reducible assumption) ?_) | (with_reducible refine Row.alloc ?_ ?_ _) | (with_reducible refine Row.setCell ?_ ?_ _) | omega | (simp; done) | (simp; omega))
        have row_a6wX0 : Row RvInt64 1 wX0 (w.heap.size) a6A a6l := by repeat' (first | with_reducible assumption | (with_reducible refine Row.drew ?_) | (with_reducible refine Row.carry ?_ (by with_reducible assumption) ?_) | (with_reducible refine Row.alloc ?_ ?_ _) | (with_reducible refine Row.setCell ?_ ?_ _) | omega | (simp; done) | (simp; omega))
        have row_a7wX0 : Row RvInt64 1 wX0 (w.heap.size) a7A a7l := by repeat' (first | with_reducible assumption | (with_reducible refine Row.drew ?_) | (with_reducible refine Row.carry ?_ (by with_reducible assumption) ?_) | (with_reducible refine Row.alloc ?_ ?_ _) | (with_reducible refine Row.setCell ?_ ?_ _) | omega | (simp; done) | (simp; omega))
        have bx_bwX0 : AtL (w.heap.size + 1) [.int .i64 b0, .slice b1A b1l.length b1c, .slice b2A b2l.length b2c, .slice b3A b3l.length b3c, .slice b4A b4l.length b4c, .slice b5A b5l.length b5c, .slice b6A b6l.length b6c, .slice b7A b7l.length b7c, .bool b8, .int .i64 b9, .int .i64 b10, .int .i64 b11, .int .i64 b12] wX0 := by repeat' (first | with_reducible assumption | with_reducible exact AtL.new _ _ _ | ((with_reducible refine AtL.newAt ?_); (first | rfl | (simp; done))) | (with_reducible refine AtL.drew ?_) | (with_reducible refine AtL.below ?_ (by with_reducible assumption)) | (with_reducible refine AtL.alloc ?_ _) | (with_reducible refine AtL.far ?_ ?_ _ _) | omega | (simp; done) | (simp; omega))
        have row_b1wX0 : Row RvPt 2 wX0 (w.heap.size) b1A b1l := by repeat' (first | with_reducible assumption | (with_reducible refine Row.drew ?_) | (with_reducible refine Row.carry ?_ (by with_reducible assumption) ?_) | (with_reducible refine Row.alloc ?_ ?_ _) | (with_reducible refine Row.setCell ?_ ?_ _) | omega | (simp; done) | (simp; omega))
        have row_b2wX0 : Row RvPt 2 wX0 (w.heap.size) b2A b2l := by repeat' (first | with_reducible assumption | (with_reducible refine Row.drew ?_) | (with_reducible refine Row.carry ?_ (by with_reducible assumption) ?_) | (with_reducible refine Row.alloc ?_ ?_ _) | (with_reducible refine Row.setCell ?_ ?_ _) | omega | (simp; done) | (simp; omega))
        have row_b3wX0 : Row RvBool 1 wX0 (w.heap.size) b3A b3l := by repeat' (first | with_reducible assumption | (with_reducible refine Row.drew ?_) | (with_reducible refine Row.carry ?_ (by with_reducible assumption) ?_) | (with_reducible refine Row.alloc ?_ ?_ _) | (with_reducible refine Row.setCell ?_ ?_ _) | omega | (simp; done) | (simp; omega))
        have row_b4wX0 : Row RvBool 1 wX0 (w.heap.size) b4A b4l := by repeat' (first | with_reducible assumption | (with_reducible refine Row.drew ?_) | (with_reducible refine Row.carry ?_ (by with_reducible assumption) ?_) | (with_reducible refine Row.alloc ?_ ?_ _) | (with_reducible refine Row.setCell ?_ ?_ _) | omega | (simp; done) | (simp; omega))
        have row_b5wX0 : Row RvInt64 1 wX0 (w.heap.size) b5A b5l := by repeat' (first | with_reducible assumption | (with_reducible refine Row.drew ?_) | (with_reducible refine Row.carry ?_ (by with_reducible assumption) ?_) | (with_reducible refine Row.alloc ?_ ?_ _) | (with_reducible refine Row.setCell ?_ ?_ _) | omega | (simp; done) | (simp; omega))
        have row_b6wX0 : Row RvInt64 1 wX0 (w.heap.size) b6A b6l := by repeat' (first | with_reducible assumption | (with_reducible refine Row.drew ?_) | (with_reducible refine Row.carry ?_ (by with_reducible assumption) ?_) | (with_reducible refine Row.alloc ?_ ?_ _) | (with_reducible refine Row.setCell ?_ ?_ _) | omega | (simp; done) | (simp; omega))
        have row_b7wX0 : Row RvInt64 1 wX0 (w.heap.size) b7A b7l := by repeat' (first | with_reducible assumption | (with_reducible refine Row.drew ?_) | (with_reducible refine Row.carry ?_ (by with_reducible assumption) ?_) | (with_reducible refine Row.alloc ?_ ?_ _) | (with_reducible refine Row.setCell ?_ ?_ _) | omega | (simp; done) | (simp; omega))
        have bp := bwB.out
        have bn : Below w.heap.size w wX0 := by repeat' (first | with_reducible assumption | with_reducible exact Below.refl _ _ | (with_reducible refine Below.setCell ?_ ?_ _) | (with_reducible refine Below.alloc ?_ ?_ _) | (with_reducible refine Below.drew ?_) | (with_reducible refine below_dr ?_ _) | (with_reducible refine Below.trans ?_ (Below.mono (by with_reducible assumption) ?_)) | omega | (simp; done) | (simp; omega))
        have bwX0 := Lib.hid bn
        clear bn
        clear bp bwB
        clear hbwX0
        clear bx_awB
        clear row_a1wB
        clear row_a2wB
        clear row_a3wB
        clear row_a4wB
        clear row_a5wB
        clear row_a6wB
        clear row_a7wB
        clear bx_bwB
        clear row_b1wB
        clear row_b2wB
        clear row_b3wB
        clear row_b4wB
        clear row_b5wB
        clear row_b6wB
        clear row_b7wB
        have rx_a1wX0 : Row RvPt 2 wX0 (wX0.heap.size) gX0_a1A a1l := owX_a1.here
        clear owX_a1
        have rx_a2wX0 : Row RvPt 2 wX0 (wX0.heap.size) gX0_a2A a2l := owX_a2.here
        clear owX_a2
        have rx_a3wX0 : Row RvBool 1 wX0 (wX0.heap.size) gX0_a3A a3l := owX_a3.here
        clear owX_a3
        have rx_a4wX0 : Row RvBool 1 wX0 (wX0.heap.size) gX0_a4A a4l := owX_a4.here
        clear owX_a4
        have rx_a5wX0 : Row RvInt64 1 wX0 (wX0.heap.size) gX0_a5A a5l := owX_a5.here
        clear owX_a5
        have rx_a6wX0 : Row RvInt64 1 wX0 (wX0.heap.size) gX0_a6A a6l := owX_a6.here
        clear owX_a6
        have rx_a7wX0 : Row RvInt64 1 wX0 (wX0.heap.size) gX0_a7A a7l := owX_a7.here
        clear owX_a7
        have kbx_b0 := bx_bwX0.cell 0 rfl
        have kbx_b1 := bx_bwX0.cell 1 rfl
        have kbx_b2 := bx_bwX0.cell 2 rfl
        have kbx_b3 := bx_bwX0.cell 3 rfl
        have kbx_b4 := bx_bwX0.cell 4 rfl
        have kbx_b5 := bx_bwX0.cell 5 rfl
        have kbx_b6 := bx_bwX0.cell 6 rfl
        have kbx_b7 := bx_bwX0.cell 7 rfl
        have kbx_b8 := bx_bwX0.cell 8 rfl
        have kbx_b9 := bx_bwX0.cell 9 rfl
        have kbx_b10 := bx_bwX0.cell 10 rfl
        have kbx_b11 := bx_bwX0.cell 11 rfl
        have kbx_b12 := bx_bwX0.cell 12 rfl
        have lbx_b := bx_bwX0.lt
        go_wp2_with fail
        clear kbx_b0 kbx_b1 kbx_b2 kbx_b3 kbx_b4 kbx_b5 kbx_b6 kbx_b7 kbx_b8 kbx_b9 kbx_b10 kbx_b11 kbx_b12 lbx_b
        generalize hWB : wX0.alloc (.cells #[.int .i64 a0, .slice gX0_a1A a1l.length gX0_a1c, .slice gX0_a2A a2l.length gX0_a2c, .slice gX0_a3A a3l.length gX0_a3c, .slice gX0_a4A a4l.length gX0_a4c, .slice gX0_a5A a5l.length gX0_a5c, .slice gX0_a6A a6l.length gX0_a6c, .slice gX0_a7A a7l.length gX0_a7c, .bool a8, .int .i64 a9, .int .i64 a10, .int .i64 a11, .int .i64 a12] 67) = WB0
        have hbWB0 : Below wX0.heap.size wX0 WB0 := by rw [← hWB]; repeat' (first | with_reducible assumption | with_reducible exact Below.refl _ _ | (with_reducible refine Below.setCell ?_ ?_ _) | (with_reducible refine Below.alloc ?_ ?_ _) | (with_reducible refine Below.drew ?_) | (with_reducible refine below_dr ?_ _) | (with_reducible refine Below.trans ?_ (Below.mono (by with_reducible assumption) ?_)) | omega | (simp; done) | (simp; omega))
        have at_aWB0 : AtL (wX0.heap.size) [.int .i64 a0, .slice gX0_a1A a1l.length gX0_a1c, .slice gX0_a2A a2l.length gX0_a2c, .slice gX0_a3A a3l.length gX0_a3c, .slice gX0_a4A a4l.length gX0_a4c, .slice gX0_a5A a5l.length gX0_a5c, .slice gX0_a6A a6l.length gX0_a6c, .slice gX0_a7A a7l.length gX0_a7c, .bool a8, .int .i64 a9, .int .i64 a10, .int .i64 a11, .int .i64 a12] WB0 := by rw [← hWB]; exact AtL.new _ _ _
        clear hWB
        have zWB0 := hbWB0.size
        (try simp only [World.size_setCell] at zWB0)
        (try simp only [World.size_drew] at zWB0)
        (try simp only [World.size_alloc] at zWB0)
        have qWB0 : w.heap.size ≤ WB0.heap.size := by omega
        have bx_aWB0 : AtL (w.heap.size) [.int .i64 a0, .slice a1A a1l.length a1c, .slice a2A a2l.length a2c, .slice a3A a3l.length a3c, .slice a4A a4l.length a4c, .slice a5A a5l.length a5c, .slice a6A a6l.length a6c, .slice a7A a7l.length a7c, .bool a8, .int .i64 a9, .int .i64 a10, .int .i64 a11, .int .i64 a12] WB0 := by repeat' (first | with_reducible assumption | with_reducible exact AtL.new _ _ _ | ((with_reducible refine AtL.newAt ?_); (first | rfl | (simp; done))) | (with_reducible refine AtL.drew ?_) | (with_reducible refine AtL.below ?_ (by with_reducible assumption)) | (with_reducible refine AtL.alloc ?_ _) | (with_reducible refine AtL.far ?_ ?_ _ _) | omega | (simp; done) | (simp; omega))
        have row_a1WB0 : Row RvPt 2 WB0 (w.heap.size) a1A a1l := by repeat' (first | with_reducible assumption | (with_reducible refine Row.drew ?_) | (with_reducible refine Row.carry ?_ (by with_reducible assumption) ?_) | (with_reducible refine Row.alloc ?_ ?_ _) | (with_reducible refine Row.setCell ?_ ?_ _) | omega | (simp; done) | (simp; omega))
        have row_a2WB0 : Row RvPt 2 WB0 (w.heap.size) a2A a2l := by repeat' (first | with_reducible assumption | (with_reducible refine Row.drew ?_) | (with_reducible refine Row.carry ?_ (by with_reducible assumption) ?_) | (with_reducible refine Row.alloc ?_ ?_ _) | (with_reducible refine Row.setCell ?_ ?_ _) | omega | (simp; done) | (simp; omega))
        have row_a3WB0 : Row RvBool 1 WB0 (w.heap.size) a3A a3l := by repeat' (first | with_reducible assumption | (with_reducible refine Row.drew ?_) | (with_reducible refine Row.carry ?_ (by with_reducible assumption) ?_) | (with_reducible refine Row.alloc ?_ ?_ _) | (with_reducible refine Row.setCell ?_ ?_ _) | omega | (simp; done) | (simp; omega))
        have row_a4WB0 : Row RvBool 1 WB0 (w.heap.size) a4A a4l := by repeat' (first | with_reducible assumption | (with_reducible refine Row.drew ?_) | (with_reducible refine Row.carry ?_ (by with_reducible assumption) ?_) | (with_reducible refine Row.alloc ?_ ?_ _) | (with_reducible refine Row.setCell ?_ ?_ _) | omega | (simp; done) | (simp; omega))
        have row_a5WB0 : Row RvInt64 1 WB0 (w.heap.size) a5A a5l := by repeat' (first | with_reducible assumption | (with_reducible refine Row.drew ?_) | (with_reducible refine Row.carry ?_ (by with_reducible assumption) ?_) | (with_reducible refine Row.alloc ?_ ?_ _) | (with_reducible refine Row.setCell ?_ ?_ _) | omega | (simp; done) | (simp; omega))
        have row_a6WB0 : Row RvInt64 1 WB0 (w.heap.size) a6A a6l := by repeat' (first | with_reducible assumption | (with_reducible refine Row.drew ?_) | (with_reducible refine Row.carry ?_ (by with_reducible assumption) ?_) | (with_reducible refine Row.alloc ?_ ?_ _) | (with_reducible refine Row.setCell ?_ ?_ _) | omega | (simp; done) | (simp; omega))
        have row_a7WB0 : Row RvInt64 1 WB0 (w.heap.size) a7A a7l := by repeat' (first | with_reducible assumption | (with_reducible refine Row.drew ?_) | (with_reducible refine Row.carry ?_ (by with_reducible assumption) ?_) | (with_reducible refine Row.alloc ?_ ?_ _) | (with_reducible refine Row.setCell ?_ ?_ _) | omega | (simp; done) | (simp; omega))
        have bx_bWB0 : AtL (w.heap.size + 1) [.int .i64 b0, .slice b1A b1l.length b1c, .slice b2A b2l.length b2c, .slice b3A b3l.length b3c, .slice b4A b4l.length b4c, .slice b5A b5l.length b5c, .slice b6A b6l.length b6c, .slice b7A b7l.length b7c, .bool b8, .int .i64 b9, .int .i64 b10, .int .i64 b11, .int .i64 b12] WB0 := by repeat' (first | with_reducible assumption | with_reducible exact AtL.new _ _ _ | ((with_reducible refine AtL.newAt ?_); (first | rfl | (simp; done))) | (with_reducible refine AtL.drew ?_) | (with_reducible refine AtL.below ?_ (by with_reducible assumption)) | (with_reducible refine AtL.alloc ?_ _) | (with_reducible refine AtL.far ?_ ?_ _ _) | omega | (simp; done) | (simp; omega))
        have row_b1WB0 : Row RvPt 2 WB0 (w.heap.size) b1A b1l := by repeat' (first | with_reducible assumption | (with_reducible refine Row.drew ?_) | (with_reducible refine Row.carry ?_ (by with_reducible assumption) ?_) | (with_reducible refine Row.alloc ?_ ?_ _) | (with_reducible refine Row.setCell ?_ ?_ _) | omega | (simp; done) | (simp; omega))
        have row_b2WB0 : Row RvPt 2 WB0 (w.heap.size) b2A b2l := by repeat' (first | with_reducible assumption | (with_reducible refine Row.drew ?_) | (with_reducible refine Row.carry ?_ (by with_reducible assumption) ?_) | (with_reducible refine Row.alloc ?_ ?_ _) | (with_reducible refine Row.setCell ?_ ?_ _) | omega | (simp; done) | (simp; omega))
        have row_b3WB0 : Row RvBool 1 WB0 (w.heap.size) b3A b3l := by repeat' (first | with_reducible assumption | (with_reducible refine Row.drew ?_) | (with_reducible refine Row.carry ?_ (by with_reducible assumption) ?_) | (with_reducible refine Row.alloc ?_ ?_ _) | (with_reducible refine Row.setCell ?_ ?_ _) | omega | (simp; done) | (simp; omega))
        have row_b4WB0 : Row RvBool 1 WB0 (w.heap.size) b4A b4l := by repeat' (first | with_reducible assumption | (with_reducible refine Row.drew ?_) | (with_reducible refine Row.carry ?_ (by with_reducible assumption) ?_) | (with_reducible refine Row.alloc ?_ ?_ _) | (with_reducible refine Row.setCell ?_ ?_ _) | omega | (simp; done) | (simp; omega))
        have row_b5WB0 : Row RvInt64 1 WB0 (w.heap.size) b5A b5l := by repeat' (first | with_reducible assumption | (with_reducible refine Row.drew ?_) | (with_reducible refine Row.carry ?_ (by with_reducible assumption) ?_) | (with_reducible refine Row.alloc ?_ ?_ _) | (with_reducible refine Row.setCell ?_ ?_ _) | omega | (simp; done) | (simp; omega))
        have row_b6WB0 : Row RvInt64 1 WB0 (w.heap.size) b6A b6l := by repeat' (first | with_reducible assumption | (with_reducible refine Row.drew ?_) | (with_reducible refine Row.carry ?_ (by with_reducible assumption) ?_) | (with_reducible refine Row.alloc ?_ ?_ _) | (with_reducible refine Row.setCell ?_ ?_ _) | omega | (simp; done) | (simp; omega))
        have row_b7WB0 : Row RvInt64 1 WB0 (w.heap.size) b7A b7l := by repeat' (first | with_reducible assumption | (with_reducible refine Row.drew ?_) | (with_reducible refine Row.carry ?_ (by with_reducible assumption) ?_) | (with_reducible refine Row.alloc ?_ ?_ _) | (with_reducible refine Row.setCell ?_ ?_ _) | omega | (simp; done) | (simp; omega))
        have rx_a1WB0 : Row RvPt 2 WB0 (wX0.heap.size) gX0_a1A a1l := by repeat' (first | with_reducible assumption | (with_reducible refine Row.drew ?_) | (with_reducible refine Row.carry ?_ (by with_reducible assumption) ?_) | (with_reducible refine Row.alloc ?_ ?_ _) | (with_reducible refine Row.setCell ?_ ?_ _) | omega | (simp; done) | (simp; omega))
        have rx_a2WB0 : Row RvPt 2 WB0 (wX0.heap.size) gX0_a2A a2l := by repeat' (first | with_reducible assumption | (with_reducible refine Row.drew ?_) | (with_reducible refine Row.carry ?_ (by with_reducible assumption) ?_) | (with_reducible refine Row.alloc ?_ ?_ _) | (with_reducible refine Row.setCell ?_ ?_ _) | omega | (simp; done) | (simp; omega))
        have rx_a3WB0 : Row RvBool 1 WB0 (wX0.heap.size) gX0_a3A a3l := by repeat' (first | with_reducible assumption | (with_reducible refine Row.drew ?_) | (with_reducible refine Row.carry ?_ (by with_reducible assumption) ?_) | (with_reducible refine Row.alloc ?_ ?_ _) | (with_reducible refine Row.setCell ?_ ?_ _) | omega | (simp; done) | (simp; omega))
        have rx_a4WB0 : Row RvBool 1 WB0 (wX0.heap.size) gX0_a4A a4l := by repeat' (first | with_reducible assumption | (with_reducible refine Row.drew ?_) | (with_reducible refine Row.carry ?_ (by with_reducible assumption) ?_) | (with_reducible refine Row.alloc ?_ ?_ _) | (with_reducible refine Row.setCell ?_ ?_ _) | omega | (simp; done) | (simp; omega))
        have rx_a5WB0 : Row RvInt64 1 WB0 (wX0.heap.size) gX0_a5A a5l := by repeat' (first | with_reducible assumption | (with_reducible refine Row.drew ?_) | (with_reducible refine Row.carry ?_ (by with_reducible assumption) ?_) | (with_reducible refine Row.alloc ?_ ?_ _) | (with_reducible refine Row.setCell ?_ ?_ _) | omega | (simp; done) | (simp; omega))
        have rx_a6WB0 : Row RvInt64 1 WB0 (wX0.heap.size) gX0_a6A a6l := by repeat' (first | with_reducible assumption | (with_reducible refine Row.drew ?_) | (with_reducible refine Row.carry ?_ (by with_reducible assumption) ?_) | (with_reducible refine Row.alloc ?_ ?_ _) | (with_reducible refine Row.setCell ?_ ?_ _) | omega | (simp; done) | (simp; omega))
        have rx_a7WB0 : Row RvInt64 1 WB0 (wX0.heap.size) gX0_a7A a7l := by repeat' (first | with_reducible assumption | (with_reducible refine Row.drew ?_) | (with_reducible refine Row.carry ?_ (by with_reducible assumption) ?_) | (with_reducible refine Row.alloc ?_ ?_ _) | (with_reducible refine Row.setCell ?_ ?_ _) | omega | (simp; done) | (simp; omega))
        have bp := bwX0.out
        have bn : Below w.heap.size w WB0 := by repeat' (first | with_reducible assumption | with_reducible exact Below.refl _ _ | (with_reducible refine Below.setCell ?_ ?_ _) | (with_reducible refine Below.alloc ?_ ?_ _) | (with_reducible refine Below.drew ?_) | (with_reducible refine below_dr ?_ _) | (with_reducible refine Below.trans ?_ (Below.mono (by with_reducible assumption) ?_)) | omega | (simp; done) | (simp; omega))
        have bWB0 := Lib.hid bn
        clear bn
        clear bp bwX0
        clear hbWB0
        clear bx_awX0
        clear row_a1wX0
        clear row_a2wX0
        clear row_a3wX0
        clear row_a4wX0
        clear row_a5wX0
        clear row_a6wX0
        clear row_a7wX0
        clear bx_bwX0
        clear row_b1wX0
        clear row_b2wX0
        clear row_b3wX0
        clear row_b4wX0
        clear row_b5wX0
        clear row_b6wX0
        clear row_b7wX0
        clear rx_a1wX0
        clear rx_a2wX0
        clear rx_a3wX0
        clear rx_a4wX0
        clear rx_a5wX0
        clear rx_a6wX0
        clear rx_a7wX0
        refine (xtoHinter_any b0 b1A b1c b1l b2A b2c b2l b3A b3c b3l b4A b4c b4l b5A b5c b5l b6A b6c b6l b7A b7c b7l b8 b9 b10 b11 b12 _ (HT_b.out) ?_ ?_ ?_ ?_ ?_ ?_ ?_).mono ?_
        · (refine Row.more (B := w.heap.size) ?_ (by first | omega | ((try simp only [World.size_setCell]); (try simp only [World.size_drew]); (try simp only [World.size_alloc]); omega))); repeat' (first | with_reducible assumption | (with_reducible refine Row.drew ?_) | (with_reducible refine Row.carry ?_ (by with_reducible assumption) ?_) | (with_reducible refine Row.alloc ?_ ?_ _) | (with_reducible refine Row.setCell ?_ ?_ _) | omega | (simp; done) | (simp; omega))
        · (refine Row.more (B := w.heap.size) ?_ (by first | omega | ((try simp only [World.size_setCell]); (try simp only [World.size_drew]); (try simp only [World.size_alloc]); omega))); repeat' (first | with_reducible assumption | (with_reducible refine Row.drew ?_) | (with_reducible refine Row.carry ?_ (by with_reducible assumption) ?_) | (with_reducible refine Row.alloc ?_ ?_ _) | (with_reducible refine Row.setCell ?_ ?_ _) | omega | (simp; done) | (simp; omega))
        · (refine Row.more (B := w.heap.size) ?_ (by first | omega | ((try simp only [World.size_setCell]); (try simp only [World.size_drew]); (try simp only [World.size_alloc]); omega))); repeat' (first | with_reducible assumption | (with_reducible refine Row.drew ?_) | (with_reducible refine Row.carry ?_ (by with_reducible assumption) ?_) | (with_reducible refine Row.alloc ?_ ?_ _) | (with_reducible refine Row.setCell ?_ ?_ _) | omega | (simp; done) | (simp; omega))
        · (refine Row.more (B := w.heap.size) ?_ (by first | omega | ((try simp only [World.size_setCell]); (try simp only [World.size_drew]); (try simp only [World.size_alloc]); omega))); repeat' (first | with_reducible assumption | (with_reducible refine Row.drew ?_) | (with_reducible refine Row.carry ?_ (by with_reducible assumption) ?_) | (with_reducible refine Row.alloc ?_ ?_ _) | (with_reducible refine Row.setCell ?_ ?_ _) | omega | (simp; done) | (simp; omega))
        · (refine Row.more (B := w.heap.size) ?_ (by first | omega | ((try simp only [World.size_setCell]); (try simp only [World.size_drew]); (try simp only [World.size_alloc]); omega))); repeat' (first | with_reducible assumption | (with_reducible refine Row.drew ?_) | (with_reducible refine Row.carry ?_ (by with_reducible assumption) ?_) | (with_reducible refine Row.alloc ?_ ?_ _) | (with_reducible refine Row.setCell ?_ ?_ _) | omega | (simp; done) | (simp; omega))
        · (refine Row.more (B := w.heap.size) ?_ (by first | omega | ((try simp only [World.size_setCell]); (try simp only [World.size_drew]); (try simp only [World.size_alloc]); omega))); repeat' (first | with_reducible assumption | (with_reducible refine Row.drew ?_) | (with_reducible refine Row.carry ?_ (by with_reducible assumption) ?_) | (with_reducible refine Row.alloc ?_ ?_ _) | (with_reducible refine Row.setCell ?_ ?_ _) | omega | (simp; done) | (simp; omega))
        · (refine Row.more (B := w.heap.size) ?_ (by first | omega | ((try simp only [World.size_setCell]); (try simp only [World.size_drew]); (try simp only [World.size_alloc]); omega))); repeat' (first | with_reducible assumption | (with_reducible refine Row.drew ?_) | (with_reducible refine Row.carry ?_ (by with_reducible assumption) ?_) | (with_reducible refine Row.alloc ?_ ?_ _) | (with_reducible refine Row.setCell ?_ ?_ _) | omega | (simp; done) | (simp; omega))
        intro e wX1 hq
        obtain ⟨gX1_b1A, gX1_b1c, gX1_b2A, gX1_b2c, gX1_b3A, gX1_b3c, gX1_b4A, gX1_b4c, gX1_b5A, gX1_b5c, gX1_b6A, gX1_b6c, gX1_b7A, gX1_b7c, rfl, owX_b1, owX_b2, owX_b3, owX_b4, owX_b5, owX_b6, owX_b7, hbwX1⟩ := hq
        have zwX1 := hbwX1.size
        (try simp only [World.size_setCell] at zwX1)
        (try simp only [World.size_drew] at zwX1)
        (try simp only [World.size_alloc] at zwX1)
        have qwX1 : w.heap.size ≤ wX1.heap.size := by omega
        have bx_awX1 : AtL (w.heap.size) [.int .i64 a0, .slice a1A a1l.length a1c, .slice a2A a2l.length a2c, .slice a3A a3l.length a3c, .slice a4A a4l.length a4c, .slice a5A a5l.length a5c, .slice a6A a6l.length a6c, .slice a7A a7l.length a7c, .bool a8, .int .i64 a9, .int .i64 a10, .int .i64 a11, .int .i64 a12] wX1 := by repeat' (first | with_reducible assumption | with_reducible exact AtL.new _ _ _ | ((with_reducible refine AtL.newAt ?_); (first | rfl | (simp; done))) | (with_reducible refine AtL.drew ?_) | (with_reducible refine AtL.below ?_ (by with_reducible assumption)) | (with_reducible refine AtL.alloc ?_ _) | (with_reducible refine AtL.far ?_ ?_ _ _) | omega | (simp; done) | (simp; omega))
        have row_a1wX1 : Row RvPt 2 wX1 (w.heap.size) a1A a1l := by repeat' (first | with_reducible assumption | (with_reducible refine Row.drew ?_) | (with_reducible refine Row.carry ?_ (by with_reducible assumption) ?_) | (with_reducible refine Row.alloc ?_ ?_ _) | (with_reducible refine Row.setCell ?_ ?_ _) | omega | (simp; done) | (simp; omega))
        have row_a2wX1 : Row RvPt 2 wX1 (w.heap.size) a2A a2l := by repeat' (first | with_reducible assumption | (with_reducible refine Row.drew ?_) | (with_reducible refine Row.carry ?_ (by with_reducible assumption) ?_) | (with_reducible refine Row.alloc ?_ ?_ _) | (with_reducible refine Row.setCell ?_ ?_ _) | omega | (simp; done) | (simp; omega))
        have row_a3wX1 : Row RvBool 1 wX1 (w.heap.size) a3A a3l := by repeat' (first | with_reducible assumption | (with_reducible refine Row.drew ?_) | (with_reducible refine Row.carry ?_ (by with_reducible assumption) ?_) | (with_reducible refine Row.alloc ?_ ?_ _) | (with_reducible refine Row.setCell ?_ ?_ _) | omega | (simp; done) | (simp; omega))
        have row_a4wX1 : Row RvBool 1 wX1 (w.heap.size) a4A a4l := by repeat' (first | with_reducible assumption | (with_reducible refine Row.drew ?_) | (with_reducible refine Row.carry ?_ (by with_reducible assumption) ?_) | (with_reducible refine Row.alloc ?_ ?_ _) | (with_reducible refine Row.setCell ?_ ?_ _) | omega | (simp; done) | (simp; omega))
        have row_a5wX1 : Row RvInt64 1 wX1 (w.heap.size) a5A a5l := by repeat' (first | with_reducible assumption | (with_reducible refine Row.drew ?_) | (with_reducible refine Row.carry ?_ (by with_reducible assumption) ?_) | (with_reducible refine Row.alloc ?_ ?_ _) | (with_reducible refine Row.setCell ?_ ?_ _) | omega | (simp; done) | (simp; omega))
        have row_a6wX1 : Row RvInt64 1 wX1 (w.heap.size) a6A a6l := by repeat' (first | with_reducible assumption | (with_reducible refine Row.drew ?_) | (with_reducible refine Row.carry ?_ (by with_reducible assumption) ?_) | (with_reducible refine Row.alloc ?_ ?_ _) | (with_reducible refine Row.setCell ?_ ?_ _) | omega | (simp; done) | (simp; omega))
        have row_a7wX1 : Row RvInt64 1 wX1 (w.heap.size) a7A a7l := by repeat' (first | with_reducible assumption | (with_reducible refine Row.drew ?_) | (with_reducible refine Row.carry ?_ (by with_reducible assumption) ?_) | (with_reducible refine Row.alloc ?_ ?_ _) | (with_reducible refine Row.setCell ?_ ?_ _) | omega | (simp; done) | (simp; omega))
        have bx_bwX1 : AtL (w.heap.size + 1) [.int .i64 b0, .slice b1A b1l.length b1c, .slice b2A b2l.length b2c, .slice b3A b3l.length b3c, .slice b4A b4l.length b4c, .slice b5A b5l.length b5c, .slice b6A b6l.length b6c, .slice b7A b7l.length b7c, .bool b8, .int .i64 b9, .int .i64 b10, .int .i64 b11, .int .i64 b12] wX1 := by repeat' (first | with_reducible assumption | with_reducible exact AtL.new _ _ _ | ((with_reducible refine AtL.newAt ?_); (first | rfl | (simp; done))) | (with_reducible refine AtL.drew ?_) | (with_reducible refine AtL.below ?_ (by with_reducible assumption)) | (with_reducible refine AtL.alloc ?_ _) | (with_reducible refine AtL.far ?_ ?_ _ _) | omega | (simp; done) | (simp; omega))
        have row_b1wX1 : Row RvPt 2 wX1 (w.heap.size) b1A b1l := by repeat' (first | with_reducible assumption | (with_reducible refine Row.drew ?_) | (with_reducible refine Row.carry ?_ (by with_reducible assumption) ?_) | (with_reducible refine Row.alloc ?_ ?_ _) | (with_reducible refine Row.setCell ?_ ?_ _) | omega | (simp; done) | (simp; omega))
        have row_b2wX1 : Row RvPt 2 wX1 (w.heap.size) b2A b2l := by repeat' (first | with_reducible assumption | (with_reducible refine Row.drew ?_) | (with_reducible refine Row.carry ?_ (by with_reducible assumption) ?_) | (with_reducible refine Row.alloc ?_ ?_ _) | (with_reducible refine Row.setCell ?_ ?_ _) | omega | (simp; done) | (simp; omega))
        have row_b3wX1 : Row RvBool 1 wX1 (w.heap.size) b3A b3l := by repeat' (first | with_reducible assumption | (with_reducible refine Row.drew ?_) | (with_reducible refine Row.carry ?_ (by with_reducible assumption) ?_) | (with_reducible refine Row.alloc ?_ ?_ _) | (with_reducible refine Row.setCell ?_ ?_ _) | omega | (simp; done) | (simp; omega))
        have row_b4wX1 : Row RvBool 1 wX1 (w.heap.size) b4A b4l := by repeat' (first | with_reducible assumption | (with_reducible refine Row.drew ?_) | (with_reducible refine Row.carry ?_ (by with_reducible assumption) ?_) | (with_reducible refine Row.alloc ?_ ?_ _) | (with_reducible refine Row.setCell ?_ ?_ _) | omega | (simp; done) | (simp; omega))
        have row_b5wX1 : Row RvInt64 1 wX1 (w.heap.size) b5A b5l := by repeat' (first | with_reducible assumption | (with_reducible refine Row.drew ?_) | (with_reducible refine Row.carry ?_ (by with_reducible assumption) ?_) | (with_reducible refine Row.alloc ?_ ?_ _) | (with_reducible refine Row.setCell ?_ ?_ _) | omega | (simp; done) | (simp; omega))
        have row_b6wX1 : Row RvInt64 1 wX1 (w.heap.size) b6A b6l := by repeat' (first | with_reducible assumption | (with_reducible refine Row.drew ?_) | (with_reducible refine Row.carry ?_ (by with_reducible assumption) ?_) | (with_reducible refine Row.alloc ?_ ?_ _) | (with_reducible refine Row.setCell ?_ ?_ _) | omega | (simp; done) | (simp; omega))
        have row_b7wX1 : Row RvInt64 1 wX1 (w.heap.size) b7A b7l := by repeat' (first | with_reducible assumption | (with_reducible refine Row.drew ?_) | (with_reducible refine Row.carry ?_ (by with_reducible assumption) ?_) | (with_reducible refine Row.alloc ?_ ?_ _) | (with_reducible refine Row.setCell ?_ ?_ _) | omega | (simp; done) | (simp; omega))
        have rx_a1wX1 : Row RvPt 2 wX1 (wX0.heap.size) gX0_a1A a1l := by repeat' (first | with_reducible assumption | (with_reducible refine Row.drew ?_) | (with_reducible refine Row.carry ?_ (by with_reducible assumption) ?_) | (with_reducible refine Row.alloc ?_ ?_ _) | (with_reducible refine Row.setCell ?_ ?_ _) | omega | (simp; done) | (simp; omega))
        have rx_a2wX1 : Row RvPt 2 wX1 (wX0.heap.size) gX0_a2A a2l := by repeat' (first | with_reducible assumption | (with_reducible refine Row.drew ?_) | (with_reducible refine Row.carry ?_ (by with_reducible assumption) ?_) | (with_reducible refine Row.alloc ?_ ?_ _) | (with_reducible refine Row.setCell ?_ ?_ _) | omega | (simp; done) | (simp; omega))
        have rx_a3wX1 : Row RvBool 1 wX1 (wX0.heap.size) gX0_a3A a3l := by repeat' (first | with_reducible assumption | (with_reducible refine Row.drew ?_) | (with_reducible refine Row.carry ?_ (by with_reducible assumption) ?_) | (with_reducible refine Row.alloc ?_ ?_ _) | (with_reducible refine Row.setCell ?_ ?_ _) | omega | (simp; done) | (simp; omega))
        have rx_a4wX1 : Row RvBool 1 wX1 (wX0.heap.size) gX0_a4A a4l := by repeat' (first | with_reducible assumption | (with_reducible refine Row.drew ?_) | (with_reducible refine Row.carry ?_ (by with_reducible assumption) ?_) | (with_reducible refine Row.alloc ?_ ?_ _) | (with_reducible refine Row.setCell ?_ ?_ _) | omega | (simp; done) | (simp; omega))
        have rx_a5wX1 : Row RvInt64 1 wX1 (wX0.heap.size) gX0_a5A a5l := by repeat' (first | with_reducible assumption | (with_reducible refine Row.drew ?_) | (with_reducible refine Row.carry ?_ (by with_reducible assumption) ?_) | (with_reducible refine Row.alloc ?_ ?_ _) | (with_reducible refine Row.setCell ?_ ?_ _) | omega | (simp; done) | (simp; omega))
        have rx_a6wX1 : Row RvInt64 1 wX1 (wX0.heap.size) gX0_a6A a6l := by repeat' (first | with_reducible assumption | (with_reducible refine Row.drew ?_) | (with_reducible refine Row.carry ?_ (by with_reducible assumption) ?_) | (with_reducible refine Row.alloc ?_ ?_ _) | (with_reducible refine Row.setCell ?_ ?_ _) | omega | (simp; done) | (simp; omega))
        have rx_a7wX1 : Row RvInt64 1 wX1 (wX0.heap.size) gX0_a7A a7l := by repeat' (first | with_reducible assumption | (with_reducible refine Row.drew ?_) | (with_reducible refine Row.carry ?_ (by with_reducible assumption) ?_) | (with_reducible refine Row.alloc ?_ ?_ _) | (with_reducible refine Row.setCell ?_ ?_ _) | omega | (simp; done) | (simp; omega))
        have at_awX1 : AtL (wX0.heap.size) [.int .i64 a0, .slice gX0_a1A a1l.length gX0_a1c, .slice gX0_a2A a2l.length gX0_a2c, .slice gX0_a3A a3l.length gX0_a3c, .slice gX0_a4A a4l.length gX0_a4c, .slice gX0_a5A a5l.length gX0_a5c, .slice gX0_a6A a6l.length gX0_a6c, .slice gX0_a7A a7l.length gX0_a7c, .bool a8, .int .i64 a9, .int .i64 a10, .int .i64 a11, .int .i64 a12] wX1 := by repeat' (first | with_reducible assumption | with_reducible exact AtL.new _ _ _ | ((with_reducible refine AtL.newAt ?_); (first | rfl | (simp; done))) | (with_reducible refine AtL.drew ?_) | (with_reducible refine AtL.below ?_ (by with_reducible assumption)) | (with_reducible refine AtL.alloc ?_ _) | (with_reducible refine AtL.far ?_ ?_ _ _) | omega | (simp; done) | (simp; omega))
        have bp := bWB0.out
        have bn : Below w.heap.size w wX1 := by repeat' (first | with_reducible assumption | with_reducible exact Below.refl _ _ | (with_reducible refine Below.setCell ?_ ?_ _) | (with_reducible refine Below.alloc ?_ ?_ _) | (with_reducible refine Below.drew ?_) | (with_reducible refine below_dr ?_ _) | (with_reducible refine Below.trans ?_ (Below.mono (by with_reducible assumption) ?_)) | omega | (simp; done) | (simp; omega))
        have bwX1 := Lib.hid bn
        clear bn
        clear bp bWB0
        clear hbwX1
        clear bx_aWB0
        clear row_a1WB0
        clear row_a2WB0
        clear row_a3WB0
        clear row_a4WB0
        clear row_a5WB0
        clear row_a6WB0
        clear row_a7WB0
        clear bx_bWB0
        clear row_b1WB0
        clear row_b2WB0
        clear row_b3WB0
        clear row_b4WB0
        clear row_b5WB0
        clear row_b6WB0
        clear row_b7WB0
        clear rx_a1WB0
        clear rx_a2WB0
        clear rx_a3WB0
        clear rx_a4WB0
        clear rx_a5WB0
        clear rx_a6WB0
        clear rx_a7WB0
        clear at_aWB0
        have rx_b1wX1 : Row RvPt 2 wX1 (wX1.heap.size) gX1_b1A b1l := owX_b1.here
        clear owX_b1
        have rx_b2wX1 : Row RvPt 2 wX1 (wX1.heap.size) gX1_b2A b2l := owX_b2.here
        clear owX_b2
        have rx_b3wX1 : Row RvBool 1 wX1 (wX1.heap.size) gX1_b3A b3l := owX_b3.here
        clear owX_b3
        have rx_b4wX1 : Row RvBool 1 wX1 (wX1.heap.size) gX1_b4A b4l := owX_b4.here
        clear owX_b4
        have rx_b5wX1 : Row RvInt64 1 wX1 (wX1.heap.size) gX1_b5A b5l := owX_b5.here
        clear owX_b5
        have rx_b6wX1 : Row RvInt64 1 wX1 (wX1.heap.size) gX1_b6A b6l := owX_b6.here
        clear owX_b6
        have rx_b7wX1 : Row RvInt64 1 wX1 (wX1.heap.size) gX1_b7A b7l := owX_b7.here
        clear owX_b7
        have kat_a0 := at_awX1.cell 0 rfl
        have kat_a1 := at_awX1.cell 1 rfl
        have kat_a2 := at_awX1.cell 2 rfl
        have kat_a3 := at_awX1.cell 3 rfl
        have kat_a4 := at_awX1.cell 4 rfl
        have kat_a5 := at_awX1.cell 5 rfl
        have kat_a6 := at_awX1.cell 6 rfl
        have kat_a7 := at_awX1.cell 7 rfl
        have kat_a8 := at_awX1.cell 8 rfl
        have kat_a9 := at_awX1.cell 9 rfl
        have kat_a10 := at_awX1.cell 10 rfl
        have kat_a11 := at_awX1.cell 11 rfl
        have kat_a12 := at_awX1.cell 12 rfl
        have lat_a := at_awX1.lt
        go_wp2_with fail
        clear kat_a0 kat_a1 kat_a2 kat_a3 kat_a4 kat_a5 kat_a6 kat_a7 kat_a8 kat_a9 kat_a10 kat_a11 kat_a12 lat_a
        generalize hWB : wX1.alloc (.cells #[.int .i64 b0, .slice gX1_b1A b1l.length gX1_b1c, .slice gX1_b2A b2l.length gX1_b2c, .slice gX1_b3A b3l.length gX1_b3c, .slice gX1_b4A b4l.length gX1_b4c, .slice gX1_b5A b5l.length gX1_b5c, .slice gX1_b6A b6l.length gX1_b6c, .slice gX1_b7A b7l.length gX1_b7c, .bool b8, .int .i64 b9, .int .i64 b10, .int .i64 b11, .int .i64 b12] 67) = WB1
        have hbWB1 : Below wX1.heap.size wX1 WB1 := by rw [← hWB]; repeat' (first | with_reducible assumption | with_reducible exact Below.refl _ _ | (with_reducible refine Below.setCell ?_ ?_ _) | (with_reducible refine Below.alloc ?_ ?_ _) | (with_reducible refine Below.drew ?_) | (with_reducible refine below_dr ?_ _) | (with_reducible refine Below.trans ?_ (Below.mono (by with_reducible assumption) ?_)) | omega | (simp; done) | (simp; omega))
        have at_bWB1 : AtL (wX1.heap.size) [.int .i64 b0, .slice gX1_b1A b1l.length gX1_b1c, .slice gX1_b2A b2l.length gX1_b2c, .slice gX1_b3A b3l.length gX1_b3c, .slice gX1_b4A b4l.length gX1_b4c, .slice gX1_b5A b5l.length gX1_b5c, .slice gX1_b6A b6l.length gX1_b6c, .slice gX1_b7A b7l.length gX1_b7c, .bool b8, .int .i64 b9, .int .i64 b10, .int .i64 b11, .int .i64 b12] WB1 := by rw [← hWB]; exact AtL.new _ _ _
        clear hWB
        have zWB1 := hbWB1.size
        (try simp only [World.size_setCell] at zWB1)
        (try simp only [World.size_drew] at zWB1)
        (try simp only [World.size_alloc] at zWB1)
        have qWB1 : w.heap.size ≤ WB1.heap.size := by omega
        have bx_aWB1 : AtL (w.heap.size) [.int .i64 a0, .slice a1A a1l.length a1c, .slice a2A a2l.length a2c, .slice a3A a3l.length a3c, .slice a4A a4l.length a4c, .slice a5A a5l.length a5c, .slice a6A a6l.length a6c, .slice a7A a7l.length a7c, .bool a8, .int .i64 a9, .int .i64 a10, .int .i64 a11, .int .i64 a12] WB1 := by repeat' (first | with_reducible assumption | with_reducible exact AtL.new _ _ _ | ((with_reducible refine AtL.newAt ?_); (first | rfl | (simp; done))) | (with_reducible refine AtL.drew ?_) | (with_reducible refine AtL.below ?_ (by with_reducible assumption)) | (with_reducible refine AtL.alloc ?_ _) | (with_reducible refine AtL.far ?_ ?_ _ _) | omega | (simp; done) | (simp; omega))
        have row_a1WB1 : Row RvPt 2 WB1 (w.heap.size) a1A a1l := by repeat' (first | with_reducible assumption | (with_reducible refine Row.drew ?_) | (with_reducible refine Row.carry ?_ (by with_reducible assumption) ?_) | (with_reducible refine Row.alloc ?_ ?_ _) | (with_reducible refine Row.setCell ?_ ?_ _) | omega | (simp; done) | (simp; omega))
        have row_a2WB1 : Row RvPt 2 WB1 (w.heap.size) a2A a2l := by repeat' (first | with_reducible assumption | (with_reducible refine Row.drew ?_) | (with_reducible refine Row.carry ?_ (by with_reducible assumption) ?_) | (with_reducible refine Row.alloc ?_ ?_ _) | (with_reducible refine Row.setCell ?_ ?_ _) | omega | (simp; done) | (simp; omega))
        have row_a3WB1 : Row RvBool 1 WB1 (w.heap.size) a3A a3l := by repeat' (first | with_reducible assumption | (with_reducible refine Row.drew ?_) | (with_reducible refine Row.carry ?_ (by with_reducible assumption) ?_) | (with_reducible refine Row.alloc ?_ ?_ _) | (with_reducible refine Row.setCell ?_ ?_ _) | omega | (simp; done) | (simp; omega))
        have row_a4WB1 : Row RvBool 1 WB1 (w.heap.size) a4A a4l := by repeat' (first | with_reducible assumption | (with_reducible refine Row.drew ?_) | (with_reducible refine Row.carry ?_ (by with_reducible assumption) ?_) | (with_reducible refine Row.alloc ?_ ?_ _) | (with_reducible refine Row.setCell ?_ ?_ _) | omega | (simp; done) | (simp; omega))
        have row_a5WB1 : Row RvInt64 1 WB1 (w.heap.size) a5A a5l := by repeat' (first | with_reducible assumption | (with_reducible refine Row.drew ?_) | (with_reducible refine Row.carry ?_ (by with_reducible assumption) ?_) | (with_reducible refine Row.alloc ?_ ?_ _) | (with_reducible refine Row.setCell ?_ ?_ _) | omega | (simp; done) | (simp; omega))
        have row_a6WB1 : Row RvInt64 1 WB1 (w.heap.size) a6A a6l := by repeat' (first | with_reducible assumption | (with_reducible refine Row.drew ?_) | (with_reducible refine Row.carry ?_ (by with_reducible assumption) ?_) | (with_reducible refine Row.alloc ?_ ?_ _) | (with_reducible refine Row.setCell ?_ ?_ _) | omega | (simp; done) | (simp; omega))
        have row_a7WB1 : Row RvInt64 1 WB1 (w.heap.size) a7A a7l := by repeat' (first | with_reducible assumption | (with_reducible refine Row.drew ?_) | (with_reducible refine Row.carry ?_ (by with_reducible assumption) ?_) | (with_reducible refine Row.alloc ?_ ?_ _) | (with_reducible refine Row.setCell ?_ ?_ _) | omega | (simp; done) | (simp; omega))
        have bx_bWB1 : AtL (w.heap.size + 1) [.int .i64 b0, .slice b1A b1l.length b1c, .slice b2A b2l.length b2c, .slice b3A b3l.length b3c, .slice b4A b4l.length b4c, .slice b5A b5l.length b5c, .slice b6A b6l.length b6c, .slice b7A b7l.length b7c, .bool b8, .int .i64 b9, .int .i64 b10, .int .i64 b11, .int .i64 b12] WB1 := by repeat' (first | with_reducible assumption | with_reducible exact AtL.new _ _ _ | ((with_reducible refine AtL.newAt ?_); (first | rfl | (simp; done))) | (with_reducible refine AtL.drew ?_) | (with_reducible refine AtL.below ?_ (by with_reducible assumption)) | (with_reducible refine AtL.alloc ?_ _) | (with_reducible refine AtL.far ?_ ?_ _ _) | omega | (simp; done) | (simp; omega))
        have row_b1WB1 : Row RvPt 2 WB1 (w.heap.size) b1A b1l := by repeat' (first | with_reducible assumption | (with_reducible refine Row.drew ?_) | (with_reducible refine Row.carry ?_ (by with_reducible assumption) ?_) | (with_reducible refine Row.alloc ?_ ?_ _) | (with_reducible refine Row.setCell ?_ ?_ _) | omega | (simp; done) | (simp; omega))
        have row_b2WB1 : Row RvPt 2 WB1 (w.heap.size) b2A b2l := by repeat' (first | with_reducible assumption | (with_reducible refine Row.drew ?_) | (with_reducible refine Row.carry ?_ (by with_reducible assumption) ?_) | (with_reducible refine Row.alloc ?_ ?_ _) | (with_reducible refine Row.setCell ?_ ?_ _) | omega | (simp; done) | (simp; omega))
        have row_b3WB1 : Row RvBool 1 WB1 (w.heap.size) b3A b3l := by repeat' (first | with_reducible assumption | (with_reducible refine Row.drew ?_) | (with_reducible refine Row.carry ?_ (by with_reducible assumption) ?_) | (with_reducible refine Row.alloc ?_ ?_ _) | (with_reducible refine Row.setCell ?_ ?_ _) | omega | (simp; done) | (simp; omega))
        have row_b4WB1 : Row RvBool 1 WB1 (w.heap.size) b4A b4l := by repeat' (first | with_reducible assumption | (with_reducible refine Row.drew ?_) | (with_reducible refine Row.carry ?_ (by with_reducible assumption) ?_) | (with_reducible refine Row.alloc ?_ ?_ _) | (with_reducible refine Row.setCell ?_ ?_ _) | omega | (simp; done) | (simp; omega))
        have row_b5WB1 : Row RvInt64 1 WB1 (w.heap.size) b5A b5l := by repeat' (first | with_reducible assumption | (with_reducible refine Row.drew ?_) | (with_reducible refine Row.carry ?_ (by with_reducible assumption) ?_) | (with_reducible refine Row.alloc ?_ ?_ _) | (with_reducible refine Row.setCell ?_ ?_ _) | omega | (simp; done) | (simp; omega))
        have row_b6WB1 : Row RvInt64 1 WB1 (w.heap.size) b6A b6l := by repeat' (first | with_reducible assumption | (with_reducible refine Row.drew ?_) | (with_reducible refine Row.carry ?_ (by with_reducible assumption) ?_) | (with_reducible refine Row.alloc ?_ ?_ _) | (with_reducible refine Row.setCell ?_ ?_ _) | omega | (simp; done) | (simp; omega))
        have row_b7WB1 : Row RvInt64 1 WB1 (w.heap.size) b7A b7l := by repeat' (first | with_reducible assumption | (with_reducible refine Row.drew ?_) | (with_reducible refine Row.carry ?_ (by with_reducible assumption) ?_) | (with_reducible refine Row.alloc ?_ ?_ _) | (with_reducible refine Row.setCell ?_ ?_ _) | omega | (simp; done) | (simp; omega))
        have rx_a1WB1 : Row RvPt 2 WB1 (wX0.heap.size) gX0_a1A a1l := by repeat' (first | with_reducible assumption | (with_reducible refine Row.drew ?_) | (with_reducible refine Row.carry ?_ (by with_reducible assumption) ?_) | (with_reducible refine Row.alloc ?_ ?_ _) | (with_reducible refine Row.setCell ?_ ?_ _) | omega | (simp; done) | (simp; omega))
        have rx_a2WB1 : Row RvPt 2 WB1 (wX0.heap.size) gX0_a2A a2l := by repeat' (first | with_reducible assumption | (with_reducible refine Row.drew ?_) | (with_reducible refine Row.carry ?_ (by with_reducible assumption) ?_) | (with_reducible refine Row.alloc ?_ ?_ _) | (with_reducible refine Row.setCell ?_ ?_ _) | omega | (simp; done) | (simp; omega))
        have rx_a3WB1 : Row RvBool 1 WB1 (wX0.heap.size) gX0_a3A a3l := by repeat' (first | with_reducible assumption | (with_reducible refine Row.drew ?_) | (with_reducible refine Row.carry ?_ (by with_reducible assumption) ?_) | (with_reducible refine Row.alloc ?_ ?_ _) | (with_reducible refine Row.setCell ?_ ?_ _) | omega | (simp; done) | (simp; omega))
        have rx_a4WB1 : Row RvBool 1 WB1 (wX0.heap.size) gX0_a4A a4l := by repeat' (first | with_reducible assumption | (with_reducible refine Row.drew ?_) | (with_reducible refine Row.carry ?_ (by with_reducible assumption) ?_) | (with_reducible refine Row.alloc ?_ ?_ _) | (with_reducible refine Row.setCell ?_ ?_ _) | omega | (simp; done) | (simp; omega))
        have rx_a5WB1 : Row RvInt64 1 WB1 (wX0.heap.size) gX0_a5A a5l := by repeat' (first | with_reducible assumption | (with_reducible refine Row.drew ?_) | (with_reducible refine Row.carry ?_ (by with_reducible assumption) ?_) | (with_reducible refine Row.alloc ?_ ?_ _) | (with_reducible refine Row.setCell ?_ ?_ _) | omega | (simp; done) | (simp; omega))
        have rx_a6WB1 : Row RvInt64 1 WB1 (wX0.heap.size) gX0_a6A a6l := by repeat' (first | with_reducible assumption | (with_reducible refine Row.drew ?_) | (with_reducible refine Row.carry ?_ (by with_reducible assumption) ?_) | (with_reducible refine Row.alloc ?_ ?_ _) | (with_reducible refine Row.setCell ?_ ?_ _) | omega | (simp; done) | (simp; omega))
        have rx_a7WB1 : Row RvInt64 1 WB1 (wX0.heap.size) gX0_a7A a7l := by repeat' (first | with_reducible assumption | (with_reducible refine Row.drew ?_) | (with_reducible refine Row.carry ?_ (by with_reducible assumption) ?_) | (with_reducible refine Row.alloc ?_ ?_ _) | (with_reducible refine Row.setCell ?_ ?_ _) | omega | (simp; done) | (simp; omega))
        have at_aWB1 : AtL (wX0.heap.size) [.int .i64 a0, .slice gX0_a1A a1l.length gX0_a1c, .slice gX0_a2A a2l.length gX0_a2c, .slice gX0_a3A a3l.length gX0_a3c, .slice gX0_a4A a4l.length gX0_a4c, .slice gX0_a5A a5l.length gX0_a5c, .slice gX0_a6A a6l.length gX0_a6c, .slice gX0_a7A a7l.length gX0_a7c, .bool a8, .int .i64 a9, .int .i64 a10, .int .i64 a11, .int .i64 a12] WB1 := by repeat' (first | with_reducible assumption | with_reducible exact AtL.new _ _ _ | ((with_reducible refine AtL.newAt ?_); (first | rfl | (simp; done))) | (with_reducible refine AtL.drew ?_) | (with_reducible refine AtL.below ?_ (by with_reducible assumption)) | (with_reducible refine AtL.alloc ?_ _) | (with_reducible refine AtL.far ?_ ?_ _ _) | omega | (simp; done) | (simp; omega))
        have rx_b1WB1 : Row RvPt 2 WB1 (wX1.heap.size) gX1_b1A b1l := by repeat' (first | with_reducible assumption | (with_reducible refine Row.drew ?_) | (with_reducible refine Row.carry ?_ (by with_reducible assumption) ?_) | (with_reducible refine Row.alloc ?_ ?_ _) | (with_reducible refine Row.setCell ?_ ?_ _) | omega | (simp; done) | (simp; omega))
        have rx_b2WB1 : Row RvPt 2 WB1 (wX1.heap.size) gX1_b2A b2l := by repeat' (first | with_reducible assumption | (with_reducible refine Row.drew ?_) | (with_reducible refine Row.carry ?_ (by with_reducible assumption) ?_) | (with_reducible refine Row.alloc ?_ ?_ _) | (with_reducible refine Row.setCell ?_ ?_ _) | omega | (simp; done) | (simp; omega))
        have rx_b3WB1 : Row RvBool 1 WB1 (wX1.heap.size) gX1_b3A b3l := by repeat' (first | with_reducible assumption | (with_reducible refine Row.drew ?_) | (with_reducible refine Row.carry ?_ (by with_reducible assumption) ?_) | (with_reducible refine Row.alloc ?_ ?_ _) | (with_reducible refine Row.setCell ?_ ?_ _) | omega | (simp; done) | (simp; omega))
        have rx_b4WB1 : Row RvBool 1 WB1 (wX1.heap.size) gX1_b4A b4l := by repeat' (first | with_reducible assumption | (with_reducible refine Row.drew ?_) | (with_reducible refine Row.carry ?_ (by with_reducible assumption) ?_) | (with_reducible refine Row.alloc ?_ ?_ _) | (with_reducible refine Row.setCell ?_ ?_ _) | omega | (simp; done) | (simp; omega))
        have rx_b5WB1 : Row RvInt64 1 WB1 (wX1.heap.size) gX1_b5A b5l := by repeat' (first | with_reducible assumption | (with_reducible refine Row.drew ?_) | (with_reducible refine Row.carry ?_ (by with_reducible assumption) ?_) | (with_reducible refine Row.alloc ?_ ?_ _) | (with_reducible refine Row.setCell ?_ ?_ _) | omega | (simp; done) | (simp; omega))
        have rx_b6WB1 : Row RvInt64 1 WB1 (wX1.heap.size) gX1_b6A b6l := by repeat' (first | with_reducible assumption | (with_reducible refine Row.drew ?_) | (with_reducible refine Row.carry ?_ (by with_reducible assumption) ?_) | (with_reducible refine Row.alloc ?_ ?_ _) | (with_reducible refine Row.setCell ?_ ?_ _) | omega | (simp; done) | (simp; omega))
        have rx_b7WB1 : Row RvInt64 1 WB1 (wX1.heap.size) gX1_b7A b7l := by repeat' (first | with_reducible assumption | (with_reducible refine Row.drew ?_) | (with_reducible refine Row.carry ?_ (by with_reducible assumption) ?_) | (with_reducible refine Row.alloc ?_ ?_ _) | (with_reducible refine Row.setCell ?_ ?_ _) | omega | (simp; done) | (simp; omega))
        have bp := bwX1.out
        have bn : Below w.heap.size w WB1 := by repeat' (first | with_reducible assumption | with_reducible exact Below.refl _ _ | (with_reducible refine Below.setCell ?_ ?_ _) | (with_reducible refine Below.alloc ?_ ?_ _) | (with_reducible refine Below.drew ?_) | (with_reducible refine below_dr ?_ _) | (with_reducible refine Below.trans ?_ (Below.mono (by with_reducible assumption) ?_)) | omega | (simp; done) | (simp; omega))
        have bWB1 := Lib.hid bn
        clear bn
        clear bp bwX1
        clear hbWB1
        clear bx_awX1
        clear row_a1wX1
        clear row_a2wX1
        clear row_a3wX1
        clear row_a4wX1
        clear row_a5wX1
        clear row_a6wX1
        clear row_a7wX1
        clear bx_bwX1
        clear row_b1wX1
        clear row_b2wX1
        clear row_b3wX1
        clear row_b4wX1
        clear row_b5wX1
        clear row_b6wX1
        clear row_b7wX1
        clear rx_a1wX1
        clear rx_a2wX1
        clear rx_a3wX1
        clear rx_a4wX1
        clear rx_a5wX1
        clear rx_a6wX1
        clear rx_a7wX1
        clear at_awX1
        clear rx_b1wX1
        clear rx_b2wX1
        clear rx_b3wX1
        clear rx_b4wX1
        clear rx_b5wX1
        clear rx_b6wX1
        clear rx_b7wX1
        refine (C2.out HT_a.out HT_b.out gX0_a1A gX0_a1c gX0_a2A gX0_a2c gX0_a3A gX0_a3c gX0_a4A gX0_a4c gX0_a5A gX0_a5c gX0_a6A gX0_a6c gX0_a7A gX0_a7c gX1_b1A gX1_b1c gX1_b2A gX1_b2c gX1_b3A gX1_b3c gX1_b4A gX1_b4c gX1_b5A gX1_b5c gX1_b6A gX1_b6c gX1_b7A gX1_b7c _ ?_ ?_ ?_ ?_ ?_ ?_ ?_ ?_ ?_ ?_ ?_ ?_ ?_ ?_).mono ?_
        · (refine Row.more (B := wX0.heap.size) ?_ (by first | omega | ((try simp only [World.size_setCell]); (try simp only [World.size_drew]); (try simp only [World.size_alloc]); omega))); repeat' (first | with_reducible assumption | (with_reducible refine Row.drew ?_) | (with_reducible refine Row.carry ?_ (by with_reducible assumption) ?_) | (with_reducible refine Row.alloc ?_ ?_ _) | (with_reducible refine Row.setCell ?_ ?_ _) | omega | (simp; done) | (simp; omega))
        · (refine Row.more (B := wX0.heap.size) ?_ (by first | omega | ((try simp only [World.size_setCell]); (try simp only [World.size_drew]); (try simp only [World.size_alloc]); omega))); repeat' (first | with_reducible assumption | (with_reducible refine Row.drew ?_) | (with_reducible refine Row.carry ?_ (by with_reducible assumption) ?_) | (with_reducible refine Row.alloc ?_ ?_ _) | (with_reducible refine Row.setCell ?_ ?_ _) | omega | (simp; done) | (simp; omega))
        · (refine Row.more (B := wX0.heap.size) ?_ (by first | omega | ((try simp only [World.size_setCell]); (try simp only [World.size_drew]); (try simp only [World.size_alloc]); omega))); repeat' (first | with_reducible assumption | (with_reducible refine Row.drew ?_) | (with_reducible refine Row.carry ?_ (by with_reducible assumption) ?_) | (with_reducible refine Row.alloc ?_ ?_ _) | (with_reducible refine Row.setCell ?_ ?_ _) | omega | (simp; done) | (simp; omega))
        · (refine Row.more (B := wX0.heap.size) ?_ (by first | omega | ((try simp only [World.size_setCell]); (try simp only [World.size_drew]); (try simp only [World.size_alloc]); omega))); repeat' (first | with_reducible assumption | (with_reducible refine Row.drew ?_) | (with_reducible refine Row.carry ?_ (by with_reducible assumption) ?_) | (with_reducible refine Row.alloc ?_ ?_ _) | (with_reducible refine Row.setCell ?_ ?_ _) | omega | (simp; done) | (simp; omega))
        · (refine Row.more (B := wX0.heap.size) ?_ (by first | omega | ((try simp only [World.size_setCell]); (try simp only [World.size_drew]); (try simp only [World.size_alloc]); omega))); repeat' (first | with_reducible assumption | (with_reducible refine Row.drew ?_) | (with_reducible refine Row.carry ?_ (by with_reducible assumption) ?_) | (with_reducible refine Row.alloc ?_ ?_ _) | (with_reducible refine Row.setCell ?_ ?_ _) | omega | (simp; done) | (simp; omega))
        · (refine Row.more (B := wX0.heap.size) ?_ (by first | omega | ((try simp only [World.size_setCell]); (try simp only [World.size_drew]); (try simp only [World.size_alloc]); omega))); repeat' (first | with_reducible assumption | (with_reducible refine Row.drew ?_) | (with_reducible refine Row.carry ?_ (by with_reducible assumption) ?_) | (with_reducible refine Row.alloc ?_ ?_ _) | (with_reducible refine Row.setCell ?_ ?_ _) | omega | (simp; done) | (simp; omega))
        · (refine Row.more (B := wX0.heap.size) ?_ (by first | omega | ((try simp only [World.size_setCell]); (try simp only [World.size_drew]); (try simp only [World.size_alloc]); omega))); repeat' (first | with_reducible assumption | (with_reducible refine Row.drew ?_) | (with_reducible refine Row.carry ?_ (by with_reducible assumption) ?_) | (with_reducible refine Row.alloc ?_ ?_ _) | (with_reducible refine Row.setCell ?_ ?_ _) | omega | (simp; done) | (simp; omega))
        · (refine Row.more (B := wX1.heap.size) ?_ (by first | omega | ((try simp only [World.size_setCell]); (try simp only [World.size_drew]); (try simp only [World.size_alloc]); omega))); repeat' (first | with_reducible assumption | (with_reducible refine Row.drew ?_) | (with_reducible refine Row.carry ?_ (by with_reducible assumption) ?_) | (with_reducible refine Row.alloc ?_ ?_ _) | (with_reducible refine Row.setCell ?_ ?_ _) | omega | (simp; done) | (simp; omega))
        · (refine Row.more (B := wX1.heap.size) ?_ (by first | omega | ((try simp only [World.size_setCell]); (try simp only [World.size_drew]); (try simp only [World.size_alloc]); omega))); repeat' (first | with_reducible assumption | (with_reducible refine Row.drew ?_) | (with_reducible refine Row.carry ?_ (by with_reducible assumption) ?_) | (with_reducible refine Row.alloc ?_ ?_ _) | (with_reducible refine Row.setCell ?_ ?_ _) | omega | (simp; done) | (simp; omega))
        · (refine Row.more (B := wX1.heap.size) ?_ (by first | omega | ((try simp only [World.size_setCell]); (try simp only [World.size_drew]); (try simp only [World.size_alloc]); omega))); repeat' (first | with_reducible assumption | (with_reducible refine Row.drew ?_) | (with_reducible refine Row.carry ?_ (by with_reducible assumption) ?_) | (with_reducible refine Row.alloc ?_ ?_ _) | (with_reducible refine Row.setCell ?_ ?_ _) | omega | (simp; done) | (simp; omega))
        · (refine Row.more (B := wX1.heap.size) ?_ (by first | omega | ((try simp only [World.size_setCell]); (try simp only [World.size_drew]); (try simp only [World.size_alloc]); omega))); repeat' (first | with_reducible assumption | (with_reducible refine Row.drew ?_) | (with_reducible refine Row.carry ?_ (by with_reducible assumption) ?_) | (with_reducible refine Row.alloc ?_ ?_ _) | (with_reducible refine Row.setCell ?_ ?_ _) | omega | (simp; done) | (simp; omega))
        · (refine Row.more (B := wX1.heap.size) ?_ (by first | omega | ((try simp only [World.size_setCell]); (try simp only [World.size_drew]); (try simp only [World.size_alloc]); omega))); repeat' (first | with_reducible assumption | (with_reducible refine Row.drew ?_) | (with_reducible refine Row.carry ?_ (by with_reducible assumption) ?_) | (with_reducible refine Row.alloc ?_ ?_ _) | (with_reducible refine Row.setCell ?_ ?_ _) | omega | (simp; done) | (simp; omega))
        · (refine Row.more (B := wX1.heap.size) ?_ (by first | omega | ((try simp only [World.size_setCell]); (try simp only [World.size_drew]); (try simp only [World.size_alloc]); omega))); repeat' (first | with_reducible assumption | (with_reducible refine Row.drew ?_) | (with_reducible refine Row.carry ?_ (by with_reducible assumption) ?_) | (with_reducible refine Row.alloc ?_ ?_ _) | (with_reducible refine Row.setCell ?_ ?_ _) | omega | (simp; done) | (simp; omega))
        · (refine Row.more (B := wX1.heap.size) ?_ (by first | omega | ((try simp only [World.size_setCell]); (try simp only [World.size_drew]); (try simp only [World.size_alloc]); omega))); repeat' (first | with_reducible assumption | (with_reducible refine Row.drew ?_) | (with_reducible refine Row.carry ?_ (by with_reducible assumption) ?_) | (with_reducible refine Row.alloc ?_ ?_ _) | (with_reducible refine Row.setCell ?_ ?_ _) | omega | (simp; done) | (simp; omega))
        rintro e wI ⟨rfl, hbwI⟩
        have zwI := hbwI.size
        (try simp only [World.size_setCell] at zwI)
        (try simp only [World.size_drew] at zwI)
        (try simp only [World.size_alloc] at zwI)
        have qwI : w.heap.size ≤ wI.heap.size := by omega
        have bx_awI : AtL (w.heap.size) [.int .i64 a0, .slice a1A a1l.length a1c, .slice a2A a2l.length a2c, .slice a3A a3l.length a3c, .slice a4A a4l.length a4c, .slice a5A a5l.length a5c, .slice a6A a6l.length a6c, .slice a7A a7l.length a7c, .bool a8, .int .i64 a9, .int .i64 a10, .int .i64 a11, .int .i64 a12] wI := by repeat' (first | with_reducible assumption | with_reducible exact AtL.new _ _ _ | ((with_reducible refine AtL.newAt ?_); (first | rfl | (simp; done))) | (with_reducible refine AtL.drew ?_) | (with_reducible refine AtL.below ?_ (by with_reducible assumption)) | (with_reducible refine AtL.alloc ?_ _) | (with_reducible refine AtL.far ?_ ?_ _ _) | omega | (simp; done) | (simp; omega))
        have row_a1wI : Row RvPt 2 wI (w.heap.size) a1A a1l := by repeat' (first | with_reducible assumption | (with_reducible refine Row.drew ?_) | (with_reducible refine Row.carry ?_ (by with_reducible assumption) ?_) | (with_reducible refine Row.alloc ?_ ?_ _) | (with_reducible refine Row.setCell ?_ ?_ _) | omega | (simp; done) | (simp; omega))
        have row_a2wI : Row RvPt 2 wI (w.heap.size) a2A a2l := by repeat' (first | with_reducible assumption | (with_reducible refine Row.drew ?_) | (with_reducible refine Row.carry ?_ (by with_reducible assumption) ?_) | (with_reducible refine Row.alloc ?_ ?_ _) | (with_reducible refine Row.setCell ?_ ?_ _) | omega | (simp; done) | (simp; omega))
        have row_a3wI : Row RvBool 1 wI (w.heap.size) a3A a3l := by repeat' (first | with_reducible assumption | (with_reducible refine Row.drew ?_) | (with_reducible refine Row.carry ?_ (by with_reducible assumption) ?_) | (with_reducible refine Row.alloc ?_ ?_ _) | (with_reducible refine Row.setCell ?_ ?_ _) | omega | (simp; done) | (simp; omega))
        have row_a4wI : Row RvBool 1 wI (w.heap.size) a4A a4l := by repeat' (first | with_reducible assumption | (with_reducible refine Row.drew ?_) | (with_reducible refine Row.carry ?_ (by with_reducible assumption) ?_) | (with_reducible refine Row.alloc ?_ ?_ _) | (with_reducible refine Row.setCell ?_ ?_ _) | omega | (simp; done) | (simp; omega))
        have row_a5wI : Row RvInt64 1 wI (w.heap.size) a5A a5l := by repeat' (first | with_reducible assumption | (with_reducible refine Row.drew ?_) | (with_reducible refine Row.carry ?_ (by with_reducible assumption) ?_) | (with_reducible refine Row.alloc ?_ ?_ _) | (with_reducible refine Row.setCell ?_ ?_ _) | omega | (simp; done) | (simp; omega))
        have row_a6wI : Row RvInt64 1 wI (w.heap.size) a6A a6l := by repeat' (first | with_reducible assumption | (with_reducible refine Row.drew ?_) | (with_reducible refine Row.carry ?_ (by with_reducible assumption) ?_) | (with_reducible refine Row.alloc ?_ ?_ _) | (with_reducible refine Row.setCell ?_ ?_ _) | omega | (simp; done) | (simp; omega))
        have row_a7wI : Row RvInt64 1 wI (w.heap.size) a7A a7l := by repeat' (first | with_reducible assumption | (with_reducible refine Row.drew ?_) | (with_reducible refine Row.carry ?_ (by with_reducible assumption) ?_) | (with_reducible refine Row.alloc ?_ ?_ _) | (with_reducible refine Row.setCell ?_ ?_ _) | omega | (simp; done) | (simp; omega))
        have bx_bwI : AtL (w.heap.size + 1) [.int .i64 b0, .slice b1A b1l.length b1c, .slice b2A b2l.length b2c, .slice b3A b3l.length b3c, .slice b4A b4l.length b4c, .slice b5A b5l.length b5c, .slice b6A b6l.length b6c, .slice b7A b7l.length b7c, .bool b8, .int .i64 b9, .int .i64 b10, .int .i64 b11, .int .i64 b12] wI := by repeat' (first | with_reducible assumption | with_reducible exact AtL.new _ _ _ | ((with_reducible refine AtL.newAt ?_); (first | rfl | (simp; done))) | (with_reducible refine AtL.drew ?_) | (with_reducible refine AtL.below ?_ (by with_reducible assumption)) | (with_reducible refine AtL.alloc ?_ _) | (with_reducible refine AtL.far ?_ ?_ _ _) | omega | (simp; done) | (simp; omega))
        have row_b1wI : Row RvPt 2 wI (w.heap.size) b1A b1l := by repeat' (first | with_reducible assumption | (with_reducible refine Row.drew ?_) | (with_reducible refine Row.carry ?_ (by with_reducible assumption) ?_) | (with_reducible refine Row.alloc ?_ ?_ _) | (with_reducible refine Row.setCell ?_ ?_ _) | omega | (simp; done) | (simp; omega))
        have row_b2wI : Row RvPt 2 wI (w.heap.size) b2A b2l := by repeat' (first | with_reducible assumption | (with_reducible refine Row.drew ?_) | (with_reducible refine Row.carry ?_ (by with_reducible assumption) ?_) | (with_reducible refine Row.alloc ?_ ?_ _) | (with_reducible refine Row.setCell ?_ ?_ _) | omega | (simp; done) | (simp; omega))
        have row_b3wI : Row RvBool 1 wI (w.heap.size) b3A b3l := by repeat' (first | with_reducible assumption | (with_reducible refine Row.drew ?_) | (with_reducible refine Row.carry ?_ (by with_reducible assumption) ?_) | (with_reducible refine Row.alloc ?_ ?_ _) | (with_reducible refine Row.setCell ?_ ?_ _) | omega | (simp; done) | (simp; omega))
        have row_b4wI : Row RvBool 1 wI (w.heap.size) b4A b4l := by repeat' (first | with_reducible assumption | (with_reducible refine Row.drew ?_) | (with_reducible refine Row.carry ?_ (by with_reducible assumption) ?_) | (with_reducible refine Row.alloc ?_ ?_ _) | (with_reducible refine Row.setCell ?_ ?_ _) | omega | (simp; done) | (simp; omega))
        have row_b5wI : Row RvInt64 1 wI (w.heap.size) b5A b5l := by repeat' (first | with_reducible assumption | (with_reducible refine Row.drew ?_) | (with_reducible refine Row.carry ?_ (by with_reducible assumption) ?_) | (with_reducible refine Row.alloc ?_ ?_ _) | (with_reducible refine Row.setCell ?_ ?_ _) | omega | (simp; done) | (simp; omega))
        have row_b6wI : Row RvInt64 1 wI (w.heap.size) b6A b6l := by repeat' (first | with_reducible assumption | (with_reducible refine Row.drew ?_) | (with_reducible refine Row.carry ?_ (by with_reducible assumption) ?_) | (with_reducible refine Row.alloc ?_ ?_ _) | (with_reducible refine Row.setCell ?_ ?_ _) | omega | (simp; done) | (simp; omega))
        have row_b7wI : Row RvInt64 1 wI (w.heap.size) b7A b7l := by repeat' (first | with_reducible assumption | (with_reducible refine Row.drew ?_) | (with_reducible refine Row.carry ?_ (by with_reducible assumption) ?_) | (with_reducible refine Row.alloc ?_ ?_ _) | (with_reducible refine Row.setCell ?_ ?_ _) | omega | (simp; done) | (simp; omega))
        have rx_a1wI : Row RvPt 2 wI (wX0.heap.size) gX0_a1A a1l := by repeat' (first | with_reducible assumption | (with_reducible refine Row.drew ?_) | (with_reducible refine Row.carry ?_ (by with_reducible assumption) ?_) | (with_reducible refine Row.alloc ?_ ?_ _) | (with_reducible refine Row.setCell ?_ ?_ _) | omega | (simp; done) | (simp; omega))
        have rx_a2wI : Row RvPt 2 wI (wX0.heap.size) gX0_a2A a2l := by repeat' (first | with_reducible assumption | (with_reducible refine Row.drew ?_) | (with_reducible refine Row.carry ?_ (by with_reducible assumption) ?_) | (with_reducible refine Row.alloc ?_ ?_ _) | (with_reducible refine Row.setCell ?_ ?_ _) | omega | (simp; done) | (simp; omega))
        have rx_a3wI : Row RvBool 1 wI (wX0.heap.size) gX0_a3A a3l := by repeat' (first | with_reducible assumption | (with_reducible refine Row.drew ?_) | (with_reducible refine Row.carry ?_ (by with_reducible assumption) ?_) | (with_reducible refine Row.alloc ?_ ?_ _) | (with_reducible refine Row.setCell ?_ ?_ _) | omega | (simp; done) | (simp; omega))
        have rx_a4wI : Row RvBool 1 wI (wX0.heap.size) gX0_a4A a4l := by repeat' (first | with_reducible assumption | (with_reducible refine Row.drew ?_) | (with_reducible refine Row.carry ?_ (by with_reducible assumption) ?_) | (with_reducible refine Row.alloc ?_ ?_ _) | (with_reducible refine Row.setCell ?_ ?_ _) | omega | (simp; done) | (simp; omega))
        have rx_a5wI : Row RvInt64 1 wI (wX0.heap.size) gX0_a5A a5l := by repeat' (first | with_reducible assumption | (with_reducible refine Row.drew ?_) | (with_reducible refine Row.carry ?_ (by with_reducible assumption) ?_) | (with_reducible refine Row.alloc ?_ ?_ _) | (with_reducible refine Row.setCell ?_ ?_ _) | omega | (simp; done) | (simp; omega))
        have rx_a6wI : Row RvInt64 1 wI (wX0.heap.size) gX0_a6A a6l := by repeat' (first | with_reducible assumption | (with_reducible refine Row.drew ?_) | (with_reducible refine Row.carry ?_ (by with_reducible assumption) ?_) | (with_reducible refine Row.alloc ?_ ?_ _) | (with_reducible refine Row.setCell ?_ ?_ _) | omega | (simp; done) | (simp; omega))
        have rx_a7wI : Row RvInt64 1 wI (wX0.heap.size) gX0_a7A a7l := by repeat' (first | with_reducible assumption | (with_reducible refine Row.drew ?_) | (with_reducible refine Row.carry ?_ (by with_reducible assumption) ?_) | (with_reducible refine Row.alloc ?_ ?_ _) | (with_reducible refine Row.setCell ?_ ?_ _) | omega | (simp; done) | (simp; omega))
        have at_awI : AtL (wX0.heap.size) [.int .i64 a0, .slice gX0_a1A a1l.length gX0_a1c, .slice gX0_a2A a2l.length gX0_a2c, .slice gX0_a3A a3l.length gX0_a3c, .slice gX0_a4A a4l.length gX0_a4c, .slice gX0_a5A a5l.length gX0_a5c, .slice gX0_a6A a6l.length gX0_a6c, .slice gX0_a7A a7l.length gX0_a7c, .bool a8, .int .i64 a9, .int .i64 a10, .int .i64 a11, .int .i64 a12] wI := by repeat' (first | with_reducible assumption | with_reducible exact AtL.new _ _ _ | ((with_reducible refine AtL.newAt ?_); (first | rfl | (simp; done))) | (with_reducible refine AtL.drew ?_) | (with_reducible refine AtL.below ?_ (by with_reducible assumption)) | (with_reducible refine AtL.alloc ?_ _) | (with_reducible refine AtL.far ?_ ?_ _ _) | omega | (simp; done) | (simp; omega))
        have rx_b1wI : Row RvPt 2 wI (wX1.heap.size) gX1_b1A b1l := by repeat' (first | with_reducible assumption | (with_reducible refine Row.drew ?_) | (with_reducible refine Row.carry ?_ (by with_reducible assumption) ?_) | (with_reducible refine Row.alloc ?_ ?_ _) | (with_reducible refine Row.setCell ?_ ?_ _) | omega | (simp; done) | (simp; omega))
        have rx_b2wI : Row RvPt 2 wI (wX1.heap.size) gX1_b2A b2l := by repeat' (first | with_reducible assumption | (with_reducible refine Row.drew ?_) | (with_reducible refine Row.carry ?_ (by with_reducible assumption) ?_) | (with_reducible refine Row.alloc ?_ ?_ _) | (with_reducible refine Row.setCell ?_ ?_ _) | omega | (simp; done) | (simp; omega))
        have rx_b3wI : Row RvBool 1 wI (wX1.heap.size) gX1_b3A b3l := by repeat' (first | with_reducible assumption | (with_reducible refine Row.drew ?_) | (with_reducible refine Row.carry ?_ (by with_reducible assumption) ?_) | (with_reducible refine Row.alloc ?_ ?_ _) | (with_reducible refine Row.setCell ?_ ?_ _) | omega | (simp; done) | (simp; omega))
        have rx_b4wI : Row RvBool 1 wI (wX1.heap.size) gX1_b4A b4l := by repeat' (first | with_reducible assumption | (with_reducible refine Row.drew ?_) | (with_reducible refine Row.carry ?_ (by with_reducible assumption) ?_) | (with_reducible refine Row.alloc ?_ ?_ _) | (with_reducible refine Row.setCell ?_ ?_ _) | omega | (simp; done) | (simp; omega))
        have rx_b5wI : Row RvInt64 1 wI (wX1.heap.size) gX1_b5A b5l := by repeat' (first | with_reducible assumption | (with_reducible refine Row.drew ?_) | (with_reducible refine Row.carry ?_ (by with_reducible assumption) ?_) | (with_reducible refine Row.alloc ?_ ?_ _) | (with_reducible refine Row.setCell ?_ ?_ _) | omega | (simp; done) | (simp; omega))
        have rx_b6wI : Row RvInt64 1 wI (wX1.heap.size) gX1_b6A b6l := by repeat' (first | with_reducible assumption | (with_reducible refine Row.drew ?_) | (with_reducible refine Row.carry ?_ (by with_reducible assumption) ?_) | (with_reducible refine Row.alloc ?_ ?_ _) | (with_reducible refine Row.setCell ?_ ?_ _) | omega | (simp; done) | (simp; omega))
        have rx_b7wI : Row RvInt64 1 wI (wX1.heap.size) gX1_b7A b7l := by repeat' (first | with_reducible assumption | (with_reducible refine Row.drew ?_) | (with_reducible refine Row.carry ?_ (by with_reducible assumption) ?_) | (with_reducible refine Row.alloc ?_ ?_ _) | (with_reducible refine Row.setCell ?_ ?_ _) | omega | (simp; done) | (simp; omega))
        have at_bwI : AtL (wX1.heap.size) [.int .i64 b0, .slice gX1_b1A b1l.length gX1_b1c, .slice gX1_b2A b2l.length gX1_b2c, .slice gX1_b3A b3l.length gX1_b3c, .slice gX1_b4A b4l.length gX1_b4c, .slice gX1_b5A b5l.length gX1_b5c, .slice gX1_b6A b6l.length gX1_b6c, .slice gX1_b7A b7l.length gX1_b7c, .bool b8, .int .i64 b9, .int .i64 b10, .int .i64 b11, .int .i64 b12] wI := by repeat' (first | with_reducible assumption | with_reducible exact AtL.new _ _ _ | ((with_reducible refine AtL.newAt ?_); (first | rfl | (simp; done))) | (with_reducible refine AtL.drew ?_) | (with_reducible refine AtL.below ?_ (by with_reducible assumption)) | (with_reducible refine AtL.alloc ?_ _) | (with_reducible refine AtL.far ?_ ?_ _ _) | omega | (simp; done) | (simp; omega))
        have bp := bWB1.out
        have bn : Below w.heap.size w wI := by repeat' (first | with_reducible assumption | with_reducible exact Below.refl _ _ | (with_reducible refine Below.setCell ?_ ?_ _) | (with_reducible refine Below.alloc ?_ ?_ _) | (with_reducible refine Below.drew ?_) | (with_reducible refine below_dr ?_ _) | (with_reducible refine Below.trans ?_ (Below.mono (by with_reducible assumption) ?_)) | omega | (simp; done) | (simp; omega))
        have bwI := Lib.hid bn
        clear bn
        clear bp bWB1
        clear hbwI
        clear bx_aWB1
        clear row_a1WB1
        clear row_a2WB1
        clear row_a3WB1
        clear row_a4WB1
        clear row_a5WB1
        clear row_a6WB1
        clear row_a7WB1
        clear bx_bWB1
        clear row_b1WB1
        clear row_b2WB1
        clear row_b3WB1
        clear row_b4WB1
        clear row_b5WB1
        clear row_b6WB1
        clear row_b7WB1
        clear rx_a1WB1
        clear rx_a2WB1
        clear rx_a3WB1
        clear rx_a4WB1
        clear rx_a5WB1
        clear rx_a6WB1
        clear rx_a7WB1
        clear at_aWB1
        clear rx_b1WB1
        clear rx_b2WB1
        clear rx_b3WB1
        clear rx_b4WB1
        clear rx_b5WB1
        clear rx_b6WB1
        clear rx_b7WB1
        clear at_bWB1
        have kat_a0 := at_awI.cell 0 rfl
        have kat_a1 := at_awI.cell 1 rfl
        have kat_a2 := at_awI.cell 2 rfl
        have kat_a3 := at_awI.cell 3 rfl
        have kat_a4 := at_awI.cell 4 rfl
        have kat_a5 := at_awI.cell 5 rfl
        have kat_a6 := at_awI.cell 6 rfl
        have kat_a7 := at_awI.cell 7 rfl
        have kat_a8 := at_awI.cell 8 rfl
        have kat_a9 := at_awI.cell 9 rfl
        have kat_a10 := at_awI.cell 10 rfl
        have kat_a11 := at_awI.cell 11 rfl
        have kat_a12 := at_awI.cell 12 rfl
        have lat_a := at_awI.lt
        have kbx_a0 := bx_awI.cell 0 rfl
        have kbx_a1 := bx_awI.cell 1 rfl
        have kbx_a2 := bx_awI.cell 2 rfl
        have kbx_a3 := bx_awI.cell 3 rfl
        have kbx_a4 := bx_awI.cell 4 rfl
        have kbx_a5 := bx_awI.cell 5 rfl
        have kbx_a6 := bx_awI.cell 6 rfl
        have kbx_a7 := bx_awI.cell 7 rfl
        have kbx_a8 := bx_awI.cell 8 rfl
        have kbx_a9 := bx_awI.cell 9 rfl
        have kbx_a10 := bx_awI.cell 10 rfl
        have kbx_a11 := bx_awI.cell 11 rfl
        have kbx_a12 := bx_awI.cell 12 rfl
        have lbx_a := bx_awI.lt
        go_wp2_with fail
        go_region_held3 (fun w' => (∀ b o, b < wI.heap.size → w'.cell? ⟨b, o, none⟩ = wI.cell? ⟨b, o, none⟩) ∧ wI.heap.size ≤ w'.heap.size)
          (first | ((try dsimp only); exact ⟨fun b o h => (by (repeat (first | with_reducible exact rfl | (with_reducible refine (cell_drew_at _ _).trans ?_) | (with_reducible refine (cell_set_at _ _ (by first | omega | (simp; done) | (simp; omega))).trans ?_) | (with_reducible refine (cell_alloc_at _ _ (by first | omega | (simp; done) | (simp; omega))).trans ?_) | (with_reducible refine (hcwT0 b o (by first | omega | (simp; done) | (simp; omega))).trans ?_) | (with_reducible refine (hcwE0 b o (by first | omega | (simp; done) | (simp; omega))).trans ?_)))), (by first | omega | (simp; done) | (simp; omega))⟩) | fail)
          (first
            | (go_at_call 46; (with_reducible refine (xtoHinter_any a0 a1A a1c a1l a2A a2c a2l a3A a3c a3l a4A a4c a4l a5A a5c a5l a6A a6c a6l a7A a7c a7l a8 a9 a10 a11 a12 _ (HT_a.out) ?_ ?_ ?_ ?_ ?_ ?_ ?_).mono ?_); (focus ((refine Row.more (B := w.heap.size) ?_ (by first | omega | ((try simp only [World.size_setCell]); (try simp only [World.size_drew]); (try simp only [World.size_alloc]); omega))); repeat' (first | with_reducible assumption | (with_reducible refine Row.drew ?_) | (with_reducible refine Row.carry ?_ (by with_reducible assumption) ?_) | (with_reducible refine Row.alloc ?_ ?_ _) | (with_reducible refine Row.setCell ?_ ?_ _) | omega | (simp; done) | (simp; omega)))); (focus ((refine Row.more (B := w.heap.size) ?_ (by first | omega | ((try simp only [World.size_setCell]); (try simp only [World.size_drew]); (try simp only [World.size_alloc]); omega))); repeat' (first | with_reducible assumption | (with_reducible refine Row.drew ?_) | (with_reducible refine Row.carry ?_ (by with_reducible assumption) ?_) | (with_reducible refine Row.alloc ?_ ?_ _) | (with_reducible refine Row.setCell ?_ ?_ _) | omega | (simp; done) | (simp; omega)))); (focus ((refine Row.more (B := w.heap.size) ?_ (by first | omega | ((try simp only [World.size_setCell]); (try simp only [World.size_drew]); (try simp only [World.size_alloc]); omega))); repeat' (first | with_reducible assumption | (with_reducible refine Row.drew ?_) | (with_reducible refine Row.carry ?_ (by with_reducible assumption) ?_) | (with_reducible refine Row.alloc ?_ ?_ _) | (with_reducible refine Row.setCell ?_ ?_ _) | omega | (simp; done) | (simp; omega)))); (focus ((refine Row.more (B := w.heap.size) ?_ (by first | omega | ((try simp only [World.size_setCell]); (try simp only [World.size_drew]); (try simp only [World.size_alloc]); omega))); repeat' (first | with_reducible assumption | (with_reducible refine Row.drew ?_) | (with_reducible refine Row.carry ?_ (by with_reducible assumption) ?_) | (with_reducible refine Row.alloc ?_ ?_ _) | (with_reducible refine Row.setCell ?_ ?_ _) | omega | (simp; done) | (simp; omega)))); (focus ((refine Row.more (B := w.heap.size) ?_ (by first | omega | ((try simp only [World.size_setCell]); (try simp only [World.size_drew]); (try simp only [World.size_alloc]); omega))); repeat' (first | with_reducible assumption | (with_reducible refine Row.drew ?_) | (with_reducible refine Row.carry ?_ (by with_reducible assumption) ?_) | (with_reducible refine Row.alloc ?_ ?_ _) | (with_reducible refine Row.setCell ?_ ?_ _) | omega | (simp; done) | (simp; omega)))); (focus ((refine Row.more (B := w.heap.size) ?_ (by first | omega | ((try simp only [World.size_setCell]); (try simp only [World.size_drew]); (try simp only [World.size_alloc]); omega))); repeat' (first | with_reducible assumption | (with_reducible refine Row.drew ?_) | (with_reducible refine Row.carry ?_ (by with_reducible assumption) ?_) | (with_reducible refine Row.alloc ?_ ?_ _) | (with_reducible refine Row.setCell ?_ ?_ _) | omega | (simp; done) | (simp; omega)))); (focus ((refine Row.more (B := w.heap.size) ?_ (by first | omega | ((try simp only [World.size_setCell]); (try simp only [World.size_drew]); (try simp only [World.size_alloc]); omega))); repeat' (first | with_reducible assumption | (with_reducible refine Row.drew ?_) | (with_reducible refine Row.carry ?_ (by with_reducible assumption) ?_) | (with_reducible refine Row.alloc ?_ ?_ _) | (with_reducible refine Row.setCell ?_ ?_ _) | omega | (simp; done) | (simp; omega)))); intro e wT0 hq; obtain ⟨owE_a1A, owE_a1c, owE_a2A, owE_a2c, owE_a3A, owE_a3c, owE_a4A, owE_a4c, owE_a5A, owE_a5c, owE_a6A, owE_a6c, owE_a7A, owE_a7c, rfl, owE_a1, owE_a2, owE_a3, owE_a4, owE_a5, owE_a6, owE_a7, hbwT0⟩ := hq; obtain ⟨hcwT0, hfwT0⟩ := bcell hbwT0; have hzwT0 := hbwT0.size; (try simp only [World.size_drew] at hcwT0 hfwT0 hzwT0); (try simp only [World.size_alloc] at hcwT0 hfwT0 hzwT0))
            | (go_at_call 41; (with_reducible refine (xeqHinter_any a0 gX0_a1A gX0_a1c a1l gX0_a2A gX0_a2c a2l gX0_a3A gX0_a3c a3l gX0_a4A gX0_a4c a4l gX0_a5A gX0_a5c a5l gX0_a6A gX0_a6c a6l gX0_a7A gX0_a7c a7l a8 a9 a10 a11 a12 owE_a1A owE_a1c owE_a2A owE_a2c owE_a3A owE_a3c owE_a4A owE_a4c owE_a5A owE_a5c owE_a6A owE_a6c owE_a7A owE_a7c _ (Nat.le_trans HT_a.out (by omega)) ?_ ?_ ?_ ?_ ?_ ?_ ?_ ?_ ?_ ?_ ?_ ?_ ?_ ?_).mono ?_); (focus ((refine Row.more (B := wX0.heap.size) ?_ (by first | omega | ((try simp only [World.size_setCell]); (try simp only [World.size_drew]); (try simp only [World.size_alloc]); omega))); repeat' (first | with_reducible assumption | (with_reducible refine Row.drew ?_) | (with_reducible refine Row.carry ?_ (by with_reducible assumption) ?_) | (with_reducible refine Row.alloc ?_ ?_ _) | (with_reducible refine Row.setCell ?_ ?_ _) | omega | (simp; done) | (simp; omega)))); (focus ((refine Row.more (B := wX0.heap.size) ?_ (by first | omega | ((try simp only [World.size_setCell]); (try simp only [World.size_drew]); (try simp only [World.size_alloc]); omega))); repeat' (first | with_reducible assumption | (with_reducible refine Row.drew ?_) | (with_reducible refine Row.carry ?_ (by with_reducible assumption) ?_) | (with_reducible refine Row.alloc ?_ ?_ _) | (with_reducible refine Row.setCell ?_ ?_ _) | omega | (simp; done) | (simp; omega)))); (focus ((refine Row.more (B := wX0.heap.size) ?_ (by first | omega | ((try simp only [World.size_setCell]); (try simp only [World.size_drew]); (try simp only [World.size_alloc]); omega))); repeat' (first | with_reducible assumption | (with_reducible refine Row.drew ?_) | (with_reducible refine Row.carry ?_ (by with_reducible assumption) ?_) | (with_reducible refine Row.alloc ?_ ?_ _) | (with_reducible refine Row.setCell ?_ ?_ _) | omega | (simp; done) | (simp; omega)))); (focus ((refine Row.more (B := wX0.heap.size) ?_ (by first | omega | ((try simp only [World.size_setCell]); (try simp only [World.size_drew]); (try simp only [World.size_alloc]); omega))); repeat' (first | with_reducible assumption | (with_reducible refine Row.drew ?_) | (with_reducible refine Row.carry ?_ (by with_reducible assumption) ?_) | (with_reducible refine Row.alloc ?_ ?_ _) | (with_reducible refine Row.setCell ?_ ?_ _) | omega | (simp; done) | (simp; omega)))); (focus ((refine Row.more (B := wX0.heap.size) ?_ (by first | omega | ((try simp only [World.size_setCell]); (try simp only [World.size_drew]); (try simp only [World.size_alloc]); omega))); repeat' (first | with_reducible assumption | (with_reducible refine Row.drew ?_) | (with_reducible refine Row.carry ?_ (by with_reducible assumption) ?_) | (with_reducible refine Row.alloc ?_ ?_ _) | (with_reducible refine Row.setCell ?_ ?_ _) | omega | (simp; done) | (simp; omega)))); (focus ((refine Row.more (B := wX0.heap.size) ?_ (by first | omega | ((try simp only [World.size_setCell]); (try simp only [World.size_drew]); (try simp only [World.size_alloc]); omega))); repeat' (first | with_reducible assumption | (with_reducible refine Row.drew ?_) | (with_reducible refine Row.carry ?_ (by with_reducible assumption) ?_) | (with_reducible refine Row.alloc ?_ ?_ _) | (with_reducible refine Row.setCell ?_ ?_ _) | omega | (simp; done) | (simp; omega)))); (focus ((refine Row.more (B := wX0.heap.size) ?_ (by first | omega | ((try simp only [World.size_setCell]); (try simp only [World.size_drew]); (try simp only [World.size_alloc]); omega))); repeat' (first | with_reducible assumption | (with_reducible refine Row.drew ?_) | (with_reducible refine Row.carry ?_ (by with_reducible assumption) ?_) | (with_reducible refine Row.alloc ?_ ?_ _) | (with_reducible refine Row.setCell ?_ ?_ _) | omega | (simp; done) | (simp; omega)))); (focus (first | exact owE_a1.here | exact (RowIn.here owE_a1).drew)); (focus (first | exact owE_a2.here | exact (RowIn.here owE_a2).drew)); (focus (first | exact owE_a3.here | exact (RowIn.here owE_a3).drew)); (focus (first | exact owE_a4.here | exact (RowIn.here owE_a4).drew)); (focus (first | exact owE_a5.here | exact (RowIn.here owE_a5).drew)); (focus (first | exact owE_a6.here | exact (RowIn.here owE_a6).drew)); (focus (first | exact owE_a7.here | exact (RowIn.here owE_a7).drew)); rintro e wE0 ⟨rfl, hbwE0⟩; obtain ⟨hcwE0, hfwE0⟩ := bcell hbwE0; have hzwE0 := hbwE0.size; (try simp only [World.size_drew] at hcwE0 hfwE0 hzwE0); (try simp only [World.size_alloc] at hcwE0 hfwE0 hzwE0)))
        clear kat_a0 kat_a1 kat_a2 kat_a3 kat_a4 kat_a5 kat_a6 kat_a7 kat_a8 kat_a9 kat_a10 kat_a11 kat_a12 lat_a
        clear kbx_a0 kbx_a1 kbx_a2 kbx_a3 kbx_a4 kbx_a5 kbx_a6 kbx_a7 kbx_a8 kbx_a9 kbx_a10 kbx_a11 kbx_a12 lbx_a
        all_goals
          have zwE0 := hbwE0.size
          (try simp only [World.size_setCell] at zwE0)
          (try simp only [World.size_drew] at zwE0)
          (try simp only [World.size_alloc] at zwE0)
          have qwE0 : w.heap.size ≤ wE0.heap.size := by omega
          have bx_awE0 : AtL (w.heap.size) [.int .i64 a0, .slice a1A a1l.length a1c, .slice a2A a2l.length a2c, .slice a3A a3l.length a3c, .slice a4A a4l.length a4c, .slice a5A a5l.length a5c, .slice a6A a6l.length a6c, .slice a7A a7l.length a7c, .bool a8, .int .i64 a9, .int .i64 a10, .int .i64 a11, .int .i64 a12] wE0 := by repeat' (first | with_reducible assumption | with_reducible exact AtL.new _ _ _ | ((with_reducible refine AtL.newAt ?_); (first | rfl | (simp; done))) | (with_reducible refine AtL.drew ?_) | (with_reducible refine AtL.below ?_ (by with_reducible assumption)) | (with_reducible refine AtL.alloc ?_ _) | (with_reducible refine AtL.far ?_ ?_ _ _) | omega | (simp; done) | (simp; omega))
          have row_a1wE0 : Row RvPt 2 wE0 (w.heap.size) a1A a1l := by repeat' (first | with_reducible assumption | (with_reducible refine Row.drew ?_) | (with_reducible refine Row.carry ?_ (by with_reducible assumption) ?_) | (with_reducible refine Row.alloc ?_ ?_ _) | (with_reducible refine Row.setCell ?_ ?_ _) | omega | (simp; done) | (simp; omega))
          have row_a2wE0 : Row RvPt 2 wE0 (w.heap.size) a2A a2l := by repeat' (first | with_reducible assumption | (with_reducible refine Row.drew ?_) | (with_reducible refine Row.carry ?_ (by with_reducible assumption) ?_) | (with_reducible refine Row.alloc ?_ ?_ _) | (with_reducible refine Row.setCell ?_ ?_ _) | omega | (simp; done) | (simp; omega))
          have row_a3wE0 : Row RvBool 1 wE0 (w.heap.size) a3A a3l := by repeat' (first | with_reducible assumption | (with_reducible refine Row.drew ?_) | (with_reducible refine Row.carry ?_ (by with_reducible assumption) ?_) | (with_reducible refine Row.alloc ?_ ?_ _) | (with_reducible refine Row.setCell ?_ ?_ _) | omega | (simp; done) | (simp; omega))
          have row_a4wE0 : Row RvBool 1 wE0 (w.heap.size) a4A a4l := by repeat' (first | with_reducible assumption | (with_reducible refine Row.drew ?_) | (with_reducible refine Row.carry ?_ (by with_reducible assumption) ?_) | (with_reducible refine Row.alloc ?_ ?_ _) | (with_reducible refine Row.setCell ?_ ?_ _) | omega | (simp; done) | (simp; omega))
          have row_a5wE0 : Row RvInt64 1 wE0 (w.heap.size) a5A a5l := by repeat' (first | with_reducible assumption | (with_reducible refine Row.drew ?_) | (with_reducible refine Row.carry ?_ (by with_reducible assumption) ?_) | (with_reducible refine Row.alloc ?_ ?_ _) | (with_reducible refine Row.setCell ?_ ?_ _) | omega | (simp; done) | (simp; omega))
          have row_a6wE0 : Row RvInt64 1 wE0 (w.heap.size) a6A a6l := by repeat' (first | with_reducible assumption | (with_reducible refine Row.drew ?_) | (with_reducible refine Row.carry ?_ (by with_reducible assumption) ?_) | (with_reducible refine Row.alloc ?_ ?_ _) | (with_reducible refine Row.setCell ?_ ?_ _) | omega | (simp; done) | (simp; omega))
          have row_a7wE0 : Row RvInt64 1 wE0 (w.heap.size) a7A a7l := by repeat' (first | with_reducible assumption | (with_reducible refine Row.drew ?_) | (with_reducible refine Row.carry ?_ (by with_reducible assumption) ?_) | (with_reducible refine Row.alloc ?_ ?_ _) | (with_reducible refine Row.setCell ?_ ?_ _) | omega | (simp; done) | (simp; omega))
          have bx_bwE0 : AtL (w.heap.size + 1) [.int .i64 b0, .slice b1A b1l.length b1c, .slice b2A b2l.length b2c, .slice b3A b3l.length b3c, .slice b4A b4l.length b4c, .slice b5A b5l.length b5c, .slice b6A b6l.length b6c, .slice b7A b7l.length b7c, .bool b8, .int .i64 b9, .int .i64 b10, .int .i64 b11, .int .i64 b12] wE0 := by repeat' (first | with_reducible assumption | with_reducible exact AtL.new _ _ _ | ((with_reducible refine AtL.newAt ?_); (first | rfl | (simp; done))) | (with_reducible refine AtL.drew ?_) | (with_reducible refine AtL.below ?_ (by with_reducible assumption)) | (with_reducible refine AtL.alloc ?_ _) | (with_reducible refine AtL.far ?_ ?_ _ _) | omega | (simp; done) | (simp; omega))
          have row_b1wE0 : Row RvPt 2 wE0 (w.heap.size) b1A b1l := by repeat' (first | with_reducible assumption | (with_reducible refine Row.drew ?_) | (with_reducible refine Row.carry ?_ (by with_reducible assumption) ?_) | (with_reducible refine Row.alloc ?_ ?_ _) | (with_reducible refine Row.setCell ?_ ?_ _) | omega | (simp; done) | (simp; omega))
          have row_b2wE0 : Row RvPt 2 wE0 (w.heap.size) b2A b2l := by repeat' (first | with_reducible assumption | (with_reducible refine Row.drew ?_) | (with_reducible refine Row.carry ?_ (by with_reducible assumption) ?_) | (with_reducible refine Row.alloc ?_ ?_ _) | (with_reducible refine Row.setCell ?_ ?_ _) | omega | (simp; done) | (simp; omega))
          have row_b3wE0 : Row RvBool 1 wE0 (w.heap.size) b3A b3l := by repeat' (first | with_reducible assumption | (with_reducible refine Row.drew ?_) | (with_reducible refine Row.carry ?_ (by with_reducible assumption) ?_) | (with_reducible refine Row.alloc ?_ ?_ _) | (with_reducible refine Row.setCell ?_ ?_ _) | omega | (simp; done) | (simp; omega))
          have row_b4wE0 : Row RvBool 1 wE0 (w.heap.size) b4A b4l := by repeat' (first | with_reducible assumption | (with_reducible refine Row.drew ?_) | (with_reducible refine Row.carry ?_ (by with_reducible assumption) ?_) | (with_reducible refine Row.alloc ?_ ?_ _) | (with_reducible refine Row.setCell ?_ ?_ _) | omega | (simp; done) | (simp; omega))
          have row_b5wE0 : Row RvInt64 1 wE0 (w.heap.size) b5A b5l := by repeat' (first | with_reducible assumption | (with_reducible refine Row.drew ?_) | (with_reducible refine Row.carry ?_ (by with_reducible assumption) ?_) | (with_reducible refine Row.alloc ?_ ?_ _) | (with_reducible refine Row.setCell ?_ ?_ _) | omega | (simp; done) | (simp; omega))
          have row_b6wE0 : Row RvInt64 1 wE0 (w.heap.size) b6A b6l := by repeat' (first | with_reducible assumption | (with_reducible refine Row.drew ?_) | (with_reducible refine Row.carry ?_ (by with_reducible assumption) ?_) | (with_reducible refine Row.alloc ?_ ?_ _) | (with_reducible refine Row.setCell ?_ ?_ _) | omega | (simp; done) | (simp; omega))
          have row_b7wE0 : Row RvInt64 1 wE0 (w.heap.size) b7A b7l := by repeat' (first | with_reducible assumption | (with_reducible refine Row.drew ?_) | (with_reducible refine Row.carry ?_ (by with_reducible assumption) ?_) | (with_reducible refine Row.alloc ?_ ?_ _) | (with_reducible refine Row.setCell ?_ ?_ _) | omega | (simp; done) | (simp; omega))
          have rx_a1wE0 : Row RvPt 2 wE0 (wX0.heap.size) gX0_a1A a1l := by repeat' (first | with_reducible assumption | (with_reducible refine Row.drew ?_) | (with_reducible refine Row.carry ?_ (by with_reducible assumption) ?_) | (with_reducible refine Row.alloc ?_ ?_ _) | (with_reducible refine Row.setCell ?_ ?_ _) | omega | (simp; done) | (simp; omega))
          have rx_a2wE0 : Row RvPt 2 wE0 (wX0.heap.size) gX0_a2A a2l := by repeat' (first | with_reducible assumption | (with_reducible refine Row.drew ?_) | (with_reducible refine Row.carry ?_ (by with_reducible assumption) ?_) | (with_reducible refine Row.alloc ?_ ?_ _) | (with_reducible refine Row.setCell ?_ ?_ _) | omega | (simp; done) | (simp; omega))
          have rx_a3wE0 : Row RvBool 1 wE0 (wX0.heap.size) gX0_a3A a3l := by repeat' (first | with_reducible assumption | (with_reducible refine Row.drew ?_) | (with_reducible refine Row.carry ?_ (by with_reducible assumption) ?_) | (with_reducible refine Row.alloc ?_ ?_ _) | (with_reducible refine Row.setCell ?_ ?_ _) | omega | (simp; done) | (simp; omega))
          have rx_a4wE0 : Row RvBool 1 wE0 (wX0.heap.size) gX0_a4A a4l := by repeat' (first | with_reducible assumption | (with_reducible refine Row.drew ?_) | (with_reducible refine Row.carry ?_ (by with_reducible assumption) ?_) | (with_reducible refine Row.alloc ?_ ?_ _) | (with_reducible refine Row.setCell ?_ ?_ _) | omega | (simp; done) | (simp; omega))
          have rx_a5wE0 : Row RvInt64 1 wE0 (wX0.heap.size) gX0_a5A a5l := by repeat' (first | with_reducible assumption | (with_reducible refine Row.drew ?_) | (with_reducible refine Row.carry ?_ (by with_reducible assumption) ?_) | (with_reducible refine Row.alloc ?_ ?_ _) | (with_reducible refine Row.setCell ?_ ?_ _) | omega | (simp; done) | (simp; omega))
          have rx_a6wE0 : Row RvInt64 1 wE0 (wX0.heap.size) gX0_a6A a6l := by repeat' (first | with_reducible assumption | (with_reducible refine Row.drew ?_) | (with_reducible refine Row.carry ?_ (by with_reducible assumption) ?_) | (with_reducible refine Row.alloc ?_ ?_ _) | (with_reducible refine Row.setCell ?_ ?_ _) | omega | (simp; done) | (simp; omega))
          have rx_a7wE0 : Row RvInt64 1 wE0 (wX0.heap.size) gX0_a7A a7l := by repeat' (first | with_reducible assumption | (with_reducible refine Row.drew ?_) | (with_reducible refine Row.carry ?_ (by with_reducible assumption) ?_) | (with_reducible refine Row.alloc ?_ ?_ _) | (with_reducible refine Row.setCell ?_ ?_ _) | omega | (simp; done) | (simp; omega))
          have at_awE0 : AtL (wX0.heap.size) [.int .i64 a0, .slice gX0_a1A a1l.length gX0_a1c, .slice gX0_a2A a2l.length gX0_a2c, .slice gX0_a3A a3l.length gX0_a3c, .slice gX0_a4A a4l.length gX0_a4c, .slice gX0_a5A a5l.length gX0_a5c, .slice gX0_a6A a6l.length gX0_a6c, .slice gX0_a7A a7l.length gX0_a7c, .bool a8, .int .i64 a9, .int .i64 a10, .int .i64 a11, .int .i64 a12] wE0 := by repeat' (first | with_reducible assumption | with_reducible exact AtL.new _ _ _ | ((with_reducible refine AtL.newAt ?_); (first | rfl | (simp; done))) | (with_reducible refine AtL.drew ?_) | (with_reducible refine AtL.below ?_ (by with_reducible assumption)) | (with_reducible refine AtL.alloc ?_ _) | (with_reducible refine AtL.far ?_ ?_ _ _) | omega | (simp; done) | (simp; omega))
          have rx_b1wE0 : Row RvPt 2 wE0 (wX1.heap.size) gX1_b1A b1l := by repeat' (first | with_reducible assumption | (with_reducible refine Row.drew ?_) | (with_reducible refine Row.carry ?_ (by with_reducible assumption) ?_) | (with_reducible refine Row.alloc ?_ ?_ _) | (with_reducible refine Row.setCell ?_ ?_ _) | omega | (simp; done) | (simp; omega))
          have rx_b2wE0 : Row RvPt 2 wE0 (wX1.heap.size) gX1_b2A b2l := by repeat' (first | with_reducible assumption | (with_reducible refine Row.drew ?_) | (with_reducible refine Row.carry ?_ (by with_reducible assumption) ?_) | (with_reducible refine Row.alloc ?_ ?_ _) | (with_reducible refine Row.setCell ?_ ?_ _) | omega | (simp; done) | (simp; omega))
          have rx_b3wE0 : Row RvBool 1 wE0 (wX1.heap.size) gX1_b3A b3l := by repeat' (first | with_reducible assumption | (with_reducible refine Row.drew ?_) | (with_reducible refine Row.carry ?_ (by with_reducible assumption) ?_) | (with_reducible refine Row.alloc ?_ ?_ _) | (with_reducible refine Row.setCell ?_ ?_ _) | omega | (simp; done) | (simp; omega))
          have rx_b4wE0 : Row RvBool 1 wE0 (wX1.heap.size) gX1_b4A b4l := by repeat' (first | with_reducible assumption | (with_reducible refine Row.drew ?_) | (with_reducible refine Row.carry ?_ (by with_reducible assumption) ?_) | (with_reducible refine Row.alloc ?_ ?_ _) | (with_reducible refine Row.setCell ?_ ?_ _) | omega | (simp; done) | (simp; omega))
          have rx_b5wE0 : Row RvInt64 1 wE0 (wX1.heap.size) gX1_b5A b5l := by repeat' (first | with_reducible assumption | (with_reducible refine Row.drew ?_) | (with_reducible refine Row.carry ?_ (by with_reducible assumption) ?_) | (with_reducible refine Row.alloc ?_ ?_ _) | (with_reducible refine Row.setCell ?_ ?_ _) | omega | (simp; done) | (simp; omega))
          have rx_b6wE0 : Row RvInt64 1 wE0 (wX1.heap.size) gX1_b6A b6l := by repeat' (first | with_reducible assumption | (with_reducible refine Row.drew ?_) | (with_reducible refine Row.carry ?_ (by with_reducible assumption) ?_) | (with_reducible refine Row.alloc ?_ ?_ _) | (with_reducible refine Row.setCell ?_ ?_ _) | omega | (simp; done) | (simp; omega))
          have rx_b7wE0 : Row RvInt64 1 wE0 (wX1.heap.size) gX1_b7A b7l := by repeat' (first | with_reducible assumption | (with_reducible refine Row.drew ?_) | (with_reducible refine Row.carry ?_ (by with_reducible assumption) ?_) | (with_reducible refine Row.alloc ?_ ?_ _) | (with_reducible refine Row.setCell ?_ ?_ _) | omega | (simp; done) | (simp; omega))
          have at_bwE0 : AtL (wX1.heap.size) [.int .i64 b0, .slice gX1_b1A b1l.length gX1_b1c, .slice gX1_b2A b2l.length gX1_b2c, .slice gX1_b3A b3l.length gX1_b3c, .slice gX1_b4A b4l.length gX1_b4c, .slice gX1_b5A b5l.length gX1_b5c, .slice gX1_b6A b6l.length gX1_b6c, .slice gX1_b7A b7l.length gX1_b7c, .bool b8, .int .i64 b9, .int .i64 b10, .int .i64 b11, .int .i64 b12] wE0 := by repeat' (first | with_reducible assumption | with_reducible exact AtL.new _ _ _ | ((with_reducible refine AtL.newAt ?_); (first | rfl | (simp; done))) | (with_reducible refine AtL.drew ?_) | (with_reducible refine AtL.below ?_ (by with_reducible assumption)) | (with_reducible refine AtL.alloc ?_ _) | (with_reducible refine AtL.far ?_ ?_ _ _) | omega | (simp; done) | (simp; omega))
          have bp := bwI.out
          have bn : Below w.heap.size w wE0 := by repeat' (first | with_reducible assumption | with_reducible exact Below.refl _ _ | (with_reducible refine Below.setCell ?_ ?_ _) | (with_reducible refine Below.alloc ?_ ?_ _) | (with_reducible refine Below.drew ?_) | (with_reducible refine below_dr ?_ _) | (with_reducible refine Below.trans ?_ (Below.mono (by with_reducible assumption) ?_)) | omega | (simp; done) | (simp; omega))
          have bwE0 := Lib.hid bn
          clear bn
          clear bp bwI
          clear hbwE0
          clear bx_awI
          clear row_a1wI
          clear row_a2wI
          clear row_a3wI
          clear row_a4wI
          clear row_a5wI
          clear row_a6wI
          clear row_a7wI
          clear bx_bwI
          clear row_b1wI
          clear row_b2wI
          clear row_b3wI
          clear row_b4wI
          clear row_b5wI
          clear row_b6wI
          clear row_b7wI
          clear rx_a1wI
          clear rx_a2wI
          clear rx_a3wI
          clear rx_a4wI
          clear rx_a5wI
          clear rx_a6wI
          clear rx_a7wI
          clear at_awI
          clear rx_b1wI
          clear rx_b2wI
          clear rx_b3wI
          clear rx_b4wI
          clear rx_b5wI
          clear rx_b6wI
          clear rx_b7wI
          clear at_bwI
          have kat_b0 := at_bwE0.cell 0 rfl
          have kat_b1 := at_bwE0.cell 1 rfl
          have kat_b2 := at_bwE0.cell 2 rfl
          have kat_b3 := at_bwE0.cell 3 rfl
          have kat_b4 := at_bwE0.cell 4 rfl
          have kat_b5 := at_bwE0.cell 5 rfl
          have kat_b6 := at_bwE0.cell 6 rfl
          have kat_b7 := at_bwE0.cell 7 rfl
          have kat_b8 := at_bwE0.cell 8 rfl
          have kat_b9 := at_bwE0.cell 9 rfl
          have kat_b10 := at_bwE0.cell 10 rfl
          have kat_b11 := at_bwE0.cell 11 rfl
          have kat_b12 := at_bwE0.cell 12 rfl
          have lat_b := at_bwE0.lt
          have kbx_b0 := bx_bwE0.cell 0 rfl
          have kbx_b1 := bx_bwE0.cell 1 rfl
          have kbx_b2 := bx_bwE0.cell 2 rfl
          have kbx_b3 := bx_bwE0.cell 3 rfl
          have kbx_b4 := bx_bwE0.cell 4 rfl
          have kbx_b5 := bx_bwE0.cell 5 rfl
          have kbx_b6 := bx_bwE0.cell 6 rfl
          have kbx_b7 := bx_bwE0.cell 7 rfl
          have kbx_b8 := bx_bwE0.cell 8 rfl
          have kbx_b9 := bx_bwE0.cell 9 rfl
          have kbx_b10 := bx_bwE0.cell 10 rfl
          have kbx_b11 := bx_bwE0.cell 11 rfl
          have kbx_b12 := bx_bwE0.cell 12 rfl
          have lbx_b := bx_bwE0.lt
          go_wp2_with fail
          go_region_held3 (fun w' => (∀ b o, b < wE0.heap.size → w'.cell? ⟨b, o, none⟩ = wE0.cell? ⟨b, o, none⟩) ∧ wE0.heap.size ≤ w'.heap.size)
            (first | ((try dsimp only); exact ⟨fun b o h => (by (repeat (first | with_reducible exact rfl | (with_reducible refine (cell_drew_at _ _).trans ?_) | (with_reducible refine (cell_set_at _ _ (by first | omega | (simp; done) | (simp; omega))).trans ?_) | (with_reducible refine (cell_alloc_at _ _ (by first | omega | (simp; done) | (simp; omega))).trans ?_) | (with_reducible refine (hcwT1 b o (by first | omega | (simp; done) | (simp; omega))).trans ?_) | (with_reducible refine (hcwE1 b o (by first | omega | (simp; done) | (simp; omega))).trans ?_)))), (by first | omega | (simp; done) | (simp; omega))⟩) | fail)
            (first
              | (go_at_call 46; (with_reducible refine (xtoHinter_any b0 b1A b1c b1l b2A b2c b2l b3A b3c b3l b4A b4c b4l b5A b5c b5l b6A b6c b6l b7A b7c b7l b8 b9 b10 b11 b12 _ (HT_b.out) ?_ ?_ ?_ ?_ ?_ ?_ ?_).mono ?_); (focus ((refine Row.more (B := w.heap.size) ?_ (by first | omega | ((try simp only [World.size_setCell]); (try simp only [World.size_drew]); (try simp only [World.size_alloc]); omega))); repeat' (first | with_reducible assumption | (with_reducible refine Row.drew ?_) | (with_reducible refine Row.carry ?_ (by with_reducible assumption) ?_) | (with_reducible refine Row.alloc ?_ ?_ _) | (with_reducible refine Row.setCell ?_ ?_ _) | omega | (simp; done) | (simp; omega)))); (focus ((refine Row.more (B := w.heap.size) ?_ (by first | omega | ((try simp only [World.size_setCell]); (try simp only [World.size_drew]); (try simp only [World.size_alloc]); omega))); repeat' (first | with_reducible assumption | (with_reducible refine Row.drew ?_) | (with_reducible refine Row.carry ?_ (by with_reducible assumption) ?_) | (with_reducible refine Row.alloc ?_ ?_ _) | (with_reducible refine Row.setCell ?_ ?_ _) | omega | (simp; done) | (simp; omega)))); (focus ((refine Row.more (B := w.heap.size) ?_ (by first | omega | ((try simp only [World.size_setCell]); (try simp only [World.size_drew]); (try simp only [World.size_alloc]); omega))); repeat' (first | with_reducible assumption | (with_reducible refine Row.drew ?_) | (with_reducible refine Row.carry ?_ (by with_reducible assumption) ?_) | (with_reducible refine Row.alloc ?_ ?_ _) | (with_reducible refine Row.setCell ?_ ?_ _) | omega | (simp; done) | (simp; omega)))); (focus ((refine Row.more (B := w.heap.size) ?_ (by first | omega | ((try simp only [World.size_setCell]); (try simp only [World.size_drew]); (try simp only [World.size_alloc]); omega))); repeat' (first | with_reducible assumption | (with_reducible refine Row.drew ?_) | (with_reducible refine Row.carry ?_ (by with_reducible assumption) ?_) | (with_reducible refine Row.alloc ?_ ?_ _) | (with_reducible refine Row.setCell ?_ ?_ _) | omega | (simp; done) | (simp; omega)))); (focus ((refine Row.more (B := w.heap.size) ?_ (by first | omega | ((try simp only [World.size_setCell]); (try simp only [World.size_drew]); (try simp only [World.size_alloc]); omega))); repeat' (first | with_reducible assumption | (with_reducible refine Row.drew ?_) | (with_reducible refine Row.carry ?_ (by with_reducible assumption) ?_) | (with_reducible refine Row.alloc ?_ ?_ _) | (with_reducible refine Row.setCell ?_ ?_ _) | omega | (simp; done) | (simp; omega)))); (focus ((refine Row.more (B := w.heap.size) ?_ (by first | omega | ((try simp only [World.size_setCell]); (try simp only [World.size_drew]); (try simp only [World.size_alloc]); omega))); repeat' (first | with_reducible assumption | (with_reducible refine Row.drew ?_) | (with_reducible refine Row.carry ?_ (by with_reducible assumption) ?_) | (with_reducible refine Row.alloc ?_ ?_ _) | (with_reducible refine Row.setCell ?_ ?_ _) | omega | (simp; done) | (simp; omega)))); (focus ((refine Row.more (B := w.heap.size) ?_ (by first | omega | ((try simp only [World.size_setCell]); (try simp only [World.size_drew]); (try simp only [World.size_alloc]); omega))); repeat' (first | with_reducible assumption | (with_reducible refine Row.drew ?_) | (with_reducible refine Row.carry ?_ (by with_reducible assumption) ?_) | (with_reducible refine Row.alloc ?_ ?_ _) | (with_reducible refine Row.setCell ?_ ?_ _) | omega | (simp; done) | (simp; omega)))); intro e wT1 hq; obtain ⟨owE_b1A, owE_b1c, owE_b2A, owE_b2c, owE_b3A, owE_b3c, owE_b4A, owE_b4c, owE_b5A, owE_b5c, owE_b6A, owE_b6c, owE_b7A, owE_b7c, rfl, owE_b1, owE_b2, owE_b3, owE_b4, owE_b5, owE_b6, owE_b7, hbwT1⟩ := hq; obtain ⟨hcwT1, hfwT1⟩ := bcell hbwT1; have hzwT1 := hbwT1.size; (try simp only [World.size_drew] at hcwT1 hfwT1 hzwT1); (try simp only [World.size_alloc] at hcwT1 hfwT1 hzwT1))
              | (go_at_call 41; (with_reducible refine (xeqHinter_any b0 gX1_b1A gX1_b1c b1l gX1_b2A gX1_b2c b2l gX1_b3A gX1_b3c b3l gX1_b4A gX1_b4c b4l gX1_b5A gX1_b5c b5l gX1_b6A gX1_b6c b6l gX1_b7A gX1_b7c b7l b8 b9 b10 b11 b12 owE_b1A owE_b1c owE_b2A owE_b2c owE_b3A owE_b3c owE_b4A owE_b4c owE_b5A owE_b5c owE_b6A owE_b6c owE_b7A owE_b7c _ (Nat.le_trans HT_b.out (by omega)) ?_ ?_ ?_ ?_ ?_ ?_ ?_ ?_ ?_ ?_ ?_ ?_ ?_ ?_).mono ?_); (focus ((refine Row.more (B := wX1.heap.size) ?_ (by first | omega | ((try simp only [World.size_setCell]); (try simp only [World.size_drew]); (try simp only [World.size_alloc]); omega))); repeat' (first | with_reducible assumption | (with_reducible refine Row.drew ?_) | (with_reducible refine Row.carry ?_ (by with_reducible assumption) ?_) | (with_reducible refine Row.alloc ?_ ?_ _) | (with_reducible refine Row.setCell ?_ ?_ _) | omega | (simp; done) | (simp; omega)))); (focus ((refine Row.more (B := wX1.heap.size) ?_ (by first | omega | ((try simp only [World.size_setCell]); (try simp only [World.size_drew]); (try simp only [World.size_alloc]); omega))); repeat' (first | with_reducible assumption | (with_reducible refine Row.drew ?_) | (with_reducible refine Row.carry ?_ (by with_reducible assumption) ?_) | (with_reducible refine Row.alloc ?_ ?_ _) | (with_reducible refine Row.setCell ?_ ?_ _) | omega | (simp; done) | (simp; omega)))); (focus ((refine Row.more (B := wX1.heap.size) ?_ (by first | omega | ((try simp only [World.size_setCell]); (try simp only [World.size_drew]); (try simp only [World.size_alloc]); omega))); repeat' (first | with_reducible assumption | (with_reducible refine Row.drew ?_) | (with_reducible refine Row.carry ?_ (by with_reducible assumption) ?_) | (with_reducible refine Row.alloc ?_ ?_ _) | (with_reducible refine Row.setCell ?_ ?_ _) | omega | (simp; done) | (simp; omega)))); (focus ((refine Row.more (B := wX1.heap.size) ?_ (by first | omega | ((try simp only [World.size_setCell]); (try simp only [World.size_drew]); (try simp only [World.size_alloc]); omega))); repeat' (first | with_reducible assumption | (with_reducible refine Row.drew ?_) | (with_reducible refine Row.carry ?_ (by with_reducible assumption) ?_) | (with_reducible refine Row.alloc ?_ ?_ _) | (with_reducible refine Row.setCell ?_ ?_ _) | omega | (simp; done) | (simp; omega)))); (focus ((refine Row.more (B := wX1.heap.size) ?_ (by first | omega | ((try simp only [World.size_setCell]); (try simp only [World.size_drew]); (try simp only [World.size_alloc]); omega))); repeat' (first | with_reducible assumption | (with_reducible refine Row.drew ?_) | (with_reducible refine Row.carry ?_ (by with_reducible assumption) ?_) | (with_reducible refine Row.alloc ?_ ?_ _) | (with_reducible refine Row.setCell ?_ ?_ _) | omega | (simp; done) | (simp; omega)))); (focus ((refine Row.more (B := wX1.heap.size) ?_ (by first | omega | ((try simp only [World.size_setCell]); (try simp only [World.size_drew]); (try simp only [World.size_alloc]); omega))); repeat' (first | with_reducible assumption | (with_reducible refine Row.drew ?_) | (with_reducible refine Row.carry ?_ (by with_reducible assumption) ?_) | (with_reducible refine Row.alloc ?_ ?_ _) | (with_reducible refine Row.setCell ?_ ?_ _) | omega | (simp; done) | (simp; omega)))); (focus ((refine Row.more (B := wX1.heap.size) ?_ (by first | omega | ((try simp only [World.size_setCell]); (try simp only [World.size_drew]); (try simp only [World.size_alloc]); omega))); repeat' (first | with_reducible assumption | (with_reducible refine Row.drew ?_) | (with_reducible refine Row.carry ?_ (by with_reducible assumption) ?_) | (with_reducible refine Row.alloc ?_ ?_ _) | (with_reducible refine Row.setCell ?_ ?_ _) | omega | (simp; done) | (simp; omega)))); (focus (first | exact owE_b1.here | exact (RowIn.here owE_b1).drew)); (focus (first | exact owE_b2.here | exact (RowIn.here owE_b2).drew)); (focus (first | exact owE_b3.here | exact (RowIn.here owE_b3).drew)); (focus (first | exact owE_b4.here | exact (RowIn.here owE_b4).drew)); (focus (first | exact owE_b5.here | exact (RowIn.here owE_b5).drew)); (focus (first | exact owE_b6.here | exact (RowIn.here owE_b6).drew)); (focus (first | exact owE_b7.here | exact (RowIn.here owE_b7).drew)); rintro e wE1 ⟨rfl, hbwE1⟩; obtain ⟨hcwE1, hfwE1⟩ := bcell hbwE1; have hzwE1 := hbwE1.size; (try simp only [World.size_drew] at hcwE1 hfwE1 hzwE1); (try simp only [World.size_alloc] at hcwE1 hfwE1 hzwE1)))
          clear kat_b0 kat_b1 kat_b2 kat_b3 kat_b4 kat_b5 kat_b6 kat_b7 kat_b8 kat_b9 kat_b10 kat_b11 kat_b12 lat_b
          clear kbx_b0 kbx_b1 kbx_b2 kbx_b3 kbx_b4 kbx_b5 kbx_b6 kbx_b7 kbx_b8 kbx_b9 kbx_b10 kbx_b11 kbx_b12 lbx_b
          all_goals
            have zwE1 := hbwE1.size
            (try simp only [World.size_setCell] at zwE1)
            (try simp only [World.size_drew] at zwE1)
            (try simp only [World.size_alloc] at zwE1)
            have qwE1 : w.heap.size ≤ wE1.heap.size := by omega
            have bx_awE1 : AtL (w.heap.size) [.int .i64 a0, .slice a1A a1l.length a1c, .slice a2A a2l.length a2c, .slice a3A a3l.length a3c, .slice a4A a4l.length a4c, .slice a5A a5l.length a5c, .slice a6A a6l.length a6c, .slice a7A a7l.length a7c, .bool a8, .int .i64 a9, .int .i64 a10, .int .i64 a11, .int .i64 a12] wE1 := by repeat' (first | with_reducible assumption | with_reducible exact AtL.new _ _ _ | ((with_reducible refine AtL.newAt ?_); (first | rfl | (simp; done))) | (with_reducible refine AtL.drew ?_) | (with_reducible refine AtL.below ?_ (by with_reducible assumption)) | (with_reducible refine AtL.alloc ?_ _) | (with_reducible refine AtL.far ?_ ?_ _ _) | omega | (simp; done) | (simp; omega))
            have row_a1wE1 : Row RvPt 2 wE1 (w.heap.size) a1A a1l := by repeat' (first | with_reducible assumption | (with_reducible refine Row.drew ?_) | (with_reducible refine Row.carry ?_ (by with_reducible assumption) ?_) | (with_reducible refine Row.alloc ?_ ?_ _) | (with_reducible refine Row.setCell ?_ ?_ _) | omega | (simp; done) | (simp; omega))
            have row_a2wE1 : Row RvPt 2 wE1 (w.heap.size) a2A a2l := by repeat' (first | with_reducible assumption | (with_reducible refine Row.drew ?_) | (with_reducible refine Row.carry ?_ (by with_reducible assumption) ?_) | (with_reducible refine Row.alloc ?_ ?_ _) | (with_reducible refine Row.setCell ?_ ?_ _) | omega | (simp; done) | (simp; omega))
            have row_a3wE1 : Row RvBool 1 wE1 (w.heap.size) a3A a3l := by repeat' (first | with_reducible assumption | (with_reducible refine Row.drew ?_) | (with_reducible refine Row.carry ?_ (by with_reducible assumption) ?_) | (with_reducible refine Row.alloc ?_ ?_ _) | (with_reducible refine Row.setCell ?_ ?_ _) | omega | (simp; done) | (simp; omega))
            have row_a4wE1 : Row RvBool 1 wE1 (w.heap.size) a4A a4l := by repeat' (first | with_reducible assumption | (with_reducible refine Row.drew ?_) | (with_reducible refine Row.carry ?_ (by with_reducible assumption) ?_) | (with_reducible refine Row.alloc ?_ ?_ _) | (with_reducible refine Row.setCell ?_ ?_ _) | omega | (simp; done) | (simp; omega))
            have row_a5wE1 : Row RvInt64 1 wE1 (w.heap.size) a5A a5l := by repeat' (first | with_reducible assumption | (with_reducible refine Row.drew ?_) | (with_reducible refine Row.carry ?_ (by with_reducible assumption) ?_) | (with_reducible refine Row.alloc ?_ ?_ _) | (with_reducible refine Row.setCell ?_ ?_ _) | omega | (simp; done) | (simp; omega))
            have row_a6wE1 : Row RvInt64 1 wE1 (w.heap.size) a6A a6l := by repeat' (first | with_reducible assumption | (with_reducible refine Row.drew ?_) | (with_reducible refine Row.carry ?_ (by with_reducible assumption) ?_) | (with_reducible refine Row.alloc ?_ ?_ _) | (with_reducible refine Row.setCell ?_ ?_ _) | omega | (simp; done) | (simp; omega))
            have row_a7wE1 : Row RvInt64 1 wE1 (w.heap.size) a7A a7l := by repeat' (first | with_reducible assumption | (with_reducible refine Row.drew ?_) | (with_reducible refine Row.carry ?_ (by with_reducible assumption) ?_) | (with_reducible refine Row.alloc ?_ ?_ _) | (with_reducible refine Row.setCell ?_ ?_ _) | omega | (simp; done) | (simp; omega))
            have bx_bwE1 : AtL (w.heap.size + 1) [.int .i64 b0, .slice b1A b1l.length b1c, .slice b2A b2l.length b2c, .slice b3A b3l.length b3c, .slice b4A b4l.length b4c, .slice b5A b5l.length b5c, .slice b6A b6l.length b6c, .slice b7A b7l.length b7c, .bool b8, .int .i64 b9, .int .i64 b10, .int .i64 b11, .int .i64 b12] wE1 := by repeat' (first | with_reducible assumption | with_reducible exact AtL.new _ _ _ | ((with_reducible refine AtL.newAt ?_); (first | rfl | (simp; done))) | (with_reducible refine AtL.drew ?_) | (with_reducible refine AtL.below ?_ (by with_reducible assumption)) | (with_reducible refine AtL.alloc ?_ _) | (with_reducible refine AtL.far ?_ ?_ _ _) | omega | (simp; done) | (simp; omega))
            have row_b1wE1 : Row RvPt 2 wE1 (w.heap.size) b1A b1l := by repeat' (first | with_reducible assumption | (with_reducible refine Row.drew ?_) | (with_reducible refine Row.carry ?_ (by with_reducible assumption) ?_) | (with_reducible refine Row.alloc ?_ ?_ _) | (with_reducible refine Row.setCell ?_ ?_ _) | omega | (simp; done) | (simp; omega))
            have row_b2wE1 : Row RvPt 2 wE1 (w.heap.size) b2A b2l := by repeat' (first | with_reducible assumption | (with_reducible refine Row.drew ?_) | (with_reducible refine Row.carry ?_ (by with_reducible assumption) ?_) | (with_reducible refine Row.alloc ?_ ?_ _) | (with_reducible refine Row.setCell ?_ ?_ _) | omega | (simp; done) | (simp; omega))
            have row_b3wE1 : Row RvBool 1 wE1 (w.heap.size) b3A b3l := by repeat' (first | with_reducible assumption | (with_reducible refine Row.drew ?_) | (with_reducible refine Row.carry ?_ (by with_reducible assumption) ?_) | (with_reducible refine Row.alloc ?_ ?_ _) | (with_reducible refine Row.setCell ?_ ?_ _) | omega | (simp; done) | (simp; omega))
            have row_b4wE1 : Row RvBool 1 wE1 (w.heap.size) b4A b4l := by repeat' (first | with_reducible assumption | (with_reducible refine Row.drew ?_) | (with_reducible refine Row.carry ?_ (by with_reducible assumption) ?_) | (with_reducible refine Row.alloc ?_ ?_ _) | (with_reducible refine Row.setCell ?_ ?_ _) | omega | (simp; done) | (simp; omega))
            have row_b5wE1 : Row RvInt64 1 wE1 (w.heap.size) b5A b5l := by repeat' (first | with_reducible assumption | (with_reducible refine Row.drew ?_) | (with_reducible refine Row.carry ?_ (by with_reducible assumption) ?_) | (with_reducible refine Row.alloc ?_ ?_ _) | (with_reducible refine Row.setCell ?_ ?_ _) | omega | (simp; done) | (simp; omega))
            have row_b6wE1 : Row RvInt64 1 wE1 (w.heap.size) b6A b6l := by repeat' (first | with_reducible assumption | (with_reducible refine Row.drew ?_) | (with_reducible refine Row.carry ?_ (by with_reducible assumption) ?_) | (with_reducible refine Row.alloc ?_ ?_ _) | (with_reducible refine Row.setCell ?_ ?_ _) | omega | (simp; done) | (simp; omega))
            have row_b7wE1 : Row RvInt64 1 wE1 (w.heap.size) b7A b7l := by repeat' (first | with_reducible assumption | (with_reducible refine Row.drew ?_) | (with_reducible refine Row.carry ?_ (by with_reducible assumption) ?_) | (with_reducible refine Row.alloc ?_ ?_ _) | (with_reducible refine Row.setCell ?_ ?_ _) | omega | (simp; done) | (simp; omega))
            have rx_a1wE1 : Row RvPt 2 wE1 (wX0.heap.size) gX0_a1A a1l := by repeat' (first | with_reducible assumption | (with_reducible refine Row.drew ?_) | (with_reducible refine Row.carry ?_ (by with_reducible assumption) ?_) | (with_reducible refine Row.alloc ?_ ?_ _) | (with_reducible refine Row.setCell ?_ ?_ _) | omega | (simp; done) | (simp; omega))
            have rx_a2wE1 : Row RvPt 2 wE1 (wX0.heap.size) gX0_a2A a2l := by repeat' (first | with_reducible assumption | (with_reducible refine Row.drew ?_) | (with_reducible refine Row.carry ?_ (by with_reducible assumption) ?_) | (with_reducible refine Row.alloc ?_ ?_ _) | (with_reducible refine Row.setCell ?_ ?_ _) | omega | (simp; done) | (simp; omega))
            have rx_a3wE1 : Row RvBool 1 wE1 (wX0.heap.size) gX0_a3A a3l := by repeat' (first | with_reducible assumption | (with_reducible refine Row.drew ?_) | (with_reducible refine Row.carry ?_ (by with_reducible assumption) ?_) | (with_reducible refine Row.alloc ?_ ?_ _) | (with_reducible refine Row.setCell ?_ ?_ _) | omega | (simp; done) | (simp; omega))
            have rx_a4wE1 : Row RvBool 1 wE1 (wX0.heap.size) gX0_a4A a4l := by repeat' (first | with_reducible assumption | (with_reducible refine Row.drew ?_) | (with_reducible refine Row.carry ?_ (by with_reducible assumption) ?_) | (with_reducible refine Row.alloc ?_ ?_ _) | (with_reducible refine Row.setCell ?_ ?_ _) | omega | (simp; done) | (simp; omega))
            have rx_a5wE1 : Row RvInt64 1 wE1 (wX0.heap.size) gX0_a5A a5l := by repeat' (first | with_reducible assumption | (with_reducible refine Row.drew ?_) | (with_reducible refine Row.carry ?_ (by with_reducible assumption) ?_) | (with_reducible refine Row.alloc ?_ ?_ _) | (with_reducible refine Row.setCell ?_ ?_ _) | omega | (simp; done) | (simp; omega))
            have rx_a6wE1 : Row RvInt64 1 wE1 (wX0.heap.size) gX0_a6A a6l := by repeat' (first | with_reducible assumption | (with_reducible refine Row.drew ?_) | (with_reducible refine Row.carry ?_ (by with_reducible assumption) ?_) | (with_reducible refine Row.alloc ?_ ?_ _) | (with_reducible refine Row.setCell ?_ ?_ _) | omega | (simp; done) | (simp; omega))
            have rx_a7wE1 : Row RvInt64 1 wE1 (wX0.heap.size) gX0_a7A a7l := by repeat' (first | with_reducible assumption | (with_reducible refine Row.drew ?_) | (with_reducible refine Row.carry ?_ (by with_reducible assumption) ?_) | (with_reducible refine Row.alloc ?_ ?_ _) | (with_reducible refine Row.setCell ?_ ?_ _) | omega | (simp; done) | (simp; omega))
            have at_awE1 : AtL (wX0.heap.size) [.int .i64 a0, .slice gX0_a1A a1l.length gX0_a1c, .slice gX0_a2A a2l.length gX0_a2c, .slice gX0_a3A a3l.length gX0_a3c, .slice gX0_a4A a4l.length gX0_a4c, .slice gX0_a5A a5l.length gX0_a5c, .slice gX0_a6A a6l.length gX0_a6c, .slice gX0_a7A a7l.length gX0_a7c, .bool a8, .int .i64 a9, .int .i64 a10, .int .i64 a11, .int .i64 a12] wE1 := by repeat' (first | with_reducible assumption | with_reducible exact AtL.new _ _ _ | ((with_reducible refine AtL.newAt ?_); (first | rfl | (simp; done))) | (with_reducible refine AtL.drew ?_) | (with_reducible refine AtL.below ?_ (by with_reducible assumption)) | (with_reducible refine AtL.alloc ?_ _) | (with_reducible refine AtL.far ?_ ?_ _ _) | omega | (simp; done) | (simp; omega))
            have rx_b1wE1 : Row RvPt 2 wE1 (wX1.heap.size) gX1_b1A b1l := by repeat' (first | with_reducible assumption | (with_reducible refine Row.drew ?_) | (with_reducible refine Row.carry ?_ (by with_reducible assumption) ?_) | (with_reducible refine Row.alloc ?_ ?_ _) | (with_reducible refine Row.setCell ?_ ?_ _) | omega | (simp; done) | (simp; omega))
            have rx_b2wE1 : Row RvPt 2 wE1 (wX1.heap.size) gX1_b2A b2l := by repeat' (first | with_reducible assumption | (with_reducible refine Row.drew ?_) | (with_reducible refine Row.carry ?_ (by with_reducible assumption) ?_) | (with_reducible refine Row.alloc ?_ ?_ _) | (with_reducible refine Row.setCell ?_ ?_ _) | omega | (simp; done) | (simp; omega))
            have rx_b3wE1 : Row RvBool 1 wE1 (wX1.heap.size) gX1_b3A b3l := by repeat' (first | with_reducible assumption | (with_reducible refine Row.drew ?_) | (with_reducible refine Row.carry ?_ (by with_reducible assumption) ?_) | (with_reducible refine Row.alloc ?_ ?_ _) | (with_reducible refine Row.setCell ?_ ?_ _) | omega | (simp; done) | (simp; omega))
            have rx_b4wE1 : Row RvBool 1 wE1 (wX1.heap.size) gX1_b4A b4l := by repeat' (first | with_reducible assumption | (with_reducible refine Row.drew ?_) | (with_reducible refine Row.carry ?_ (by with_reducible assumption) ?_) | (with_reducible refine Row.alloc ?_ ?_ _) | (with_reducible refine Row.setCell ?_ ?_ _) | omega | (simp; done) | (simp; omega))
            have rx_b5wE1 : Row RvInt64 1 wE1 (wX1.heap.size) gX1_b5A b5l := by repeat' (first | with_reducible assumption | (with_reducible refine Row.drew ?_) | (with_reducible refine Row.carry ?_ (by with_reducible assumption) ?_) | (with_reducible refine Row.alloc ?_ ?_ _) | (with_reducible refine Row.setCell ?_ ?_ _) | omega | (simp; done) | (simp; omega))
            have rx_b6wE1 : Row RvInt64 1 wE1 (wX1.heap.size) gX1_b6A b6l := by repeat' (first | with_reducible assumption | (with_reducible refine Row.drew ?_) | (with_reducible refine Row.carry ?_ (by with_reducible assumption) ?_) | (with_reducible refine Row.alloc ?_ ?_ _) | (with_reducible refine Row.setCell ?_ ?_ _) | omega | (simp; done) | (simp; omega))
            have rx_b7wE1 : Row RvInt64 1 wE1 (wX1.heap.size) gX1_b7A b7l := by repeat' (first | with_reducible assumption | (with_reducible refine Row.drew ?_) | (with_reducible refine Row.carry ?_ (by with_reducible assumption) ?_) | (with_reducible refine Row.alloc ?_ ?_ _) | (with_reducible refine Row.setCell ?_ ?_ _) | omega | (simp; done) | (simp; omega))
            have at_bwE1 : AtL (wX1.heap.size) [.int .i64 b0, .slice gX1_b1A b1l.length gX1_b1c, .slice gX1_b2A b2l.length gX1_b2c, .slice gX1_b3A b3l.length gX1_b3c, .slice gX1_b4A b4l.length gX1_b4c, .slice gX1_b5A b5l.length gX1_b5c, .slice gX1_b6A b6l.length gX1_b6c, .slice gX1_b7A b7l.length gX1_b7c, .bool b8, .int .i64 b9, .int .i64 b10, .int .i64 b11, .int .i64 b12] wE1 := by repeat' (first | with_reducible assumption | with_reducible exact AtL.new _ _ _ | ((with_reducible refine AtL.newAt ?_); (first | rfl | (simp; done))) | (with_reducible refine AtL.drew ?_) | (with_reducible refine AtL.below ?_ (by with_reducible assumption)) | (with_reducible refine AtL.alloc ?_ _) | (with_reducible refine AtL.far ?_ ?_ _ _) | omega | (simp; done) | (simp; omega))
            have bp := bwE0.out
            have bn : Below w.heap.size w wE1 := by repeat' (first | with_reducible assumption | with_reducible exact Below.refl _ _ | (with_reducible refine Below.setCell ?_ ?_ _) | (with_reducible refine Below.alloc ?_ ?_ _) | (with_reducible refine Below.drew ?_) | (with_reducible refine below_dr ?_ _) | (with_reducible refine Below.trans ?_ (Below.mono (by with_reducible assumption) ?_)) | omega | (simp; done) | (simp; omega))
            have bwE1 := Lib.hid bn
            clear bn
            clear bp bwE0
            clear hbwE1
            clear bx_awE0
            clear row_a1wE0
            clear row_a2wE0
            clear row_a3wE0
            clear row_a4wE0
            clear row_a5wE0
            clear row_a6wE0
            clear row_a7wE0
            clear bx_bwE0
            clear row_b1wE0
            clear row_b2wE0
            clear row_b3wE0
            clear row_b4wE0
            clear row_b5wE0
            clear row_b6wE0
            clear row_b7wE0
            clear rx_a1wE0
            clear rx_a2wE0
            clear rx_a3wE0
            clear rx_a4wE0
            clear rx_a5wE0
            clear rx_a6wE0
            clear rx_a7wE0
            clear at_awE0
            clear rx_b1wE0
            clear rx_b2wE0
            clear rx_b3wE0
            clear rx_b4wE0
            clear rx_b5wE0
            clear rx_b6wE0
            clear rx_b7wE0
            clear at_bwE0
            go_wp2_with fail
            go_ret
            have bp := bwE1.out
            exact ⟨rfl, by repeat' (first | with_reducible assumption | with_reducible exact Below.refl _ _ | (with_reducible refine Below.setCell ?_ ?_ _) | (with_reducible refine Below.alloc ?_ ?_ _) | (with_reducible refine Below.drew ?_) | (with_reducible refine below_dr ?_ _) | (with_reducible refine Below.trans ?_ (Below.mono (by with_reducible assumption) ?_)) | omega | (simp; done) | (simp; omega))⟩
end Go.Proofs.Ytdikenapnncmfaa
