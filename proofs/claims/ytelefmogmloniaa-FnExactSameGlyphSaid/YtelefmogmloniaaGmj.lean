/- Walks: the law on SameGlyph, over contracts of both sides. -/
import Derived.Test.YtelefmogmloniaaGl5
import Derived.Test.YtelefmogmloniaaGmi
namespace Go.Proofs.Ytelefmogmloniaa
open Go.RowKit
set_option linter.unusedVariables false
set_option maxRecDepth 100000 in
set_option maxHeartbeats 12800000 in
theorem walk_SameGlyph (a : AGlyph) (b : AGlyph) (w : World) (k_a : okGlyph w w.heap.size a) (k_b : okGlyph w w.heap.size b) :
    Calls Try.prog 4 #[.agg #[.string a.1, .int .i64 a.2.1, .int .i64 a.2.2.1, .slice a.2.2.2.1.1 a.2.2.2.1.2.2.length a.2.2.2.1.2.1, .slice a.2.2.2.2.1.1 a.2.2.2.2.1.2.2.length a.2.2.2.2.1.2.1, .slice a.2.2.2.2.2.1.1 a.2.2.2.2.2.1.2.2.length a.2.2.2.2.2.1.2.1, .string a.2.2.2.2.2.2], .agg #[.string b.1, .int .i64 b.2.1, .int .i64 b.2.2.1, .slice b.2.2.2.1.1 b.2.2.2.1.2.2.length b.2.2.2.1.2.1, .slice b.2.2.2.2.1.1 b.2.2.2.2.1.2.2.length b.2.2.2.2.1.2.1, .slice b.2.2.2.2.2.1.1 b.2.2.2.2.2.1.2.2.length b.2.2.2.2.2.1.2.1, .string b.2.2.2.2.2.2]] w fun e w' => e = .returned (.bool true) ∧ Below w.heap.size w w' := by
  obtain ⟨a0, a1, a2, ⟨a3A, a3c, a3q⟩, ⟨a4A, a4c, a4q⟩, ⟨a5A, a5c, a5q⟩, a6⟩ := a
  obtain ⟨w_a0, w_a1, w_a2, nc_a3, cm_a3, rd_a3, ok_a3, nc_a4, cm_a4, rd_a4, ok_a4, nc_a5, cm_a5, rd_a5, ok_a5, w_a6⟩ := k_a
  simp only at w_a0 w_a1 w_a2 nc_a3 cm_a3 rd_a3 ok_a3 nc_a4 cm_a4 rd_a4 ok_a4 nc_a5 cm_a5 rd_a5 ok_a5 w_a6 ⊢
  have row_a3 : Row RvLoop 1 w w.heap.size a3A (a3q.map dLoop) := Row.of rd_a3 (fun i b hb => rv_Loop b (ok_a3 i b hb))
  have sz_a3 : szRow SzLoop (a3q.map dLoop) := ⟨Nat.le_trans (Nat.le_of_eq (List.length_map _)) (Nat.le_trans nc_a3 cm_a3), fun i b hb => sz_map sz_Loop ok_a3 i b hb⟩
  have hn_a3 : a3q.length = (a3q.map dLoop).length := (List.length_map _).symm
  rw [hn_a3]
  generalize a3q.map dLoop = a3l at row_a3 sz_a3 ⊢
  have HZ_a3 := Lib.hid sz_a3
  clear nc_a3 cm_a3 rd_a3 ok_a3 hn_a3 sz_a3
  have row_a4 : Row RvPart 3 w w.heap.size a4A (a4q.map dPart) := Row.of rd_a4 (fun i b hb => rv_Part b (ok_a4 i b hb))
  have sz_a4 : szRow SzPart (a4q.map dPart) := ⟨Nat.le_trans (Nat.le_of_eq (List.length_map _)) (Nat.le_trans nc_a4 cm_a4), fun i b hb => sz_map sz_Part ok_a4 i b hb⟩
  have hn_a4 : a4q.length = (a4q.map dPart).length := (List.length_map _).symm
  rw [hn_a4]
  generalize a4q.map dPart = a4l at row_a4 sz_a4 ⊢
  have HZ_a4 := Lib.hid sz_a4
  clear nc_a4 cm_a4 rd_a4 ok_a4 hn_a4 sz_a4
  have row_a5 : Row RvAnchor 3 w w.heap.size a5A (a5q.map dAnchor) := Row.of rd_a5 (fun i b hb => rv_Anchor b (ok_a5 i b hb))
  have sz_a5 : szRow SzAnchor (a5q.map dAnchor) := ⟨Nat.le_trans (Nat.le_of_eq (List.length_map _)) (Nat.le_trans nc_a5 cm_a5), fun i b hb => sz_map sz_Anchor ok_a5 i b hb⟩
  have hn_a5 : a5q.length = (a5q.map dAnchor).length := (List.length_map _).symm
  rw [hn_a5]
  generalize a5q.map dAnchor = a5l at row_a5 sz_a5 ⊢
  have HZ_a5 := Lib.hid sz_a5
  clear nc_a5 cm_a5 rd_a5 ok_a5 hn_a5 sz_a5
  have HZP_a := Lib.hid (show SzGlyph (a0, a1, a2, a3l, a4l, a5l, a6) from ⟨w_a0, HZ_a3.out, HZ_a4.out, HZ_a5.out, w_a6⟩)
  obtain ⟨b0, b1, b2, ⟨b3A, b3c, b3q⟩, ⟨b4A, b4c, b4q⟩, ⟨b5A, b5c, b5q⟩, b6⟩ := b
  obtain ⟨w_b0, w_b1, w_b2, nc_b3, cm_b3, rd_b3, ok_b3, nc_b4, cm_b4, rd_b4, ok_b4, nc_b5, cm_b5, rd_b5, ok_b5, w_b6⟩ := k_b
  simp only at w_b0 w_b1 w_b2 nc_b3 cm_b3 rd_b3 ok_b3 nc_b4 cm_b4 rd_b4 ok_b4 nc_b5 cm_b5 rd_b5 ok_b5 w_b6 ⊢
  have row_b3 : Row RvLoop 1 w w.heap.size b3A (b3q.map dLoop) := Row.of rd_b3 (fun i b hb => rv_Loop b (ok_b3 i b hb))
  have sz_b3 : szRow SzLoop (b3q.map dLoop) := ⟨Nat.le_trans (Nat.le_of_eq (List.length_map _)) (Nat.le_trans nc_b3 cm_b3), fun i b hb => sz_map sz_Loop ok_b3 i b hb⟩
  have hn_b3 : b3q.length = (b3q.map dLoop).length := (List.length_map _).symm
  rw [hn_b3]
  generalize b3q.map dLoop = b3l at row_b3 sz_b3 ⊢
  have HZ_b3 := Lib.hid sz_b3
  clear nc_b3 cm_b3 rd_b3 ok_b3 hn_b3 sz_b3
  have row_b4 : Row RvPart 3 w w.heap.size b4A (b4q.map dPart) := Row.of rd_b4 (fun i b hb => rv_Part b (ok_b4 i b hb))
  have sz_b4 : szRow SzPart (b4q.map dPart) := ⟨Nat.le_trans (Nat.le_of_eq (List.length_map _)) (Nat.le_trans nc_b4 cm_b4), fun i b hb => sz_map sz_Part ok_b4 i b hb⟩
  have hn_b4 : b4q.length = (b4q.map dPart).length := (List.length_map _).symm
  rw [hn_b4]
  generalize b4q.map dPart = b4l at row_b4 sz_b4 ⊢
  have HZ_b4 := Lib.hid sz_b4
  clear nc_b4 cm_b4 rd_b4 ok_b4 hn_b4 sz_b4
  have row_b5 : Row RvAnchor 3 w w.heap.size b5A (b5q.map dAnchor) := Row.of rd_b5 (fun i b hb => rv_Anchor b (ok_b5 i b hb))
  have sz_b5 : szRow SzAnchor (b5q.map dAnchor) := ⟨Nat.le_trans (Nat.le_of_eq (List.length_map _)) (Nat.le_trans nc_b5 cm_b5), fun i b hb => sz_map sz_Anchor ok_b5 i b hb⟩
  have hn_b5 : b5q.length = (b5q.map dAnchor).length := (List.length_map _).symm
  rw [hn_b5]
  generalize b5q.map dAnchor = b5l at row_b5 sz_b5 ⊢
  have HZ_b5 := Lib.hid sz_b5
  clear nc_b5 cm_b5 rd_b5 ok_b5 hn_b5 sz_b5
  have HZP_b := Lib.hid (show SzGlyph (b0, b1, b2, b3l, b4l, b5l, b6) from ⟨w_b0, HZ_b3.out, HZ_b4.out, HZ_b5.out, w_b6⟩)
  have C1 := Lib.hid (fun (ha : totGlyph (a0, a1, a2, a3l, a4l, a5l, a6) ≤ 1048576) (hb : totGlyph (b0, b1, b2, b3l, b4l, b5l, b6) ≤ 1048576) a3A' a3c' a4A' a4c' a5A' a5c' b3A' b3c' b4A' b4c' b5A' b5c' w q_a3 q_a4 q_a5 q_b3 q_b4 q_b5 => specSameGlyph_any a0 a1 a2 a3A' a3c' a3l a4A' a4c' a4l a5A' a5c' a5l a6 b0 b1 b2 b3A' b3c' b3l b4A' b4c' b4l b5A' b5c' b5l b6 w ha hb q_a3 q_a4 q_a5 q_b3 q_b4 q_b5)
  have C2 := Lib.hid (fun (ha : totGlyph (a0, a1, a2, a3l, a4l, a5l, a6) ≤ 1048576) (hb : totGlyph (b0, b1, b2, b3l, b4l, b5l, b6) ≤ 1048576) a3A' a3c' a4A' a4c' a5A' a5c' b3A' b3c' b4A' b4c' b5A' b5c' w q_a3 q_a4 q_a5 q_b3 q_b4 q_b5 => implSameGlyph_any a0 a1 a2 a3A' a3c' a3l a4A' a4c' a4l a5A' a5c' a5l a6 b0 b1 b2 b3A' b3c' b3l b4A' b4c' b4l b5A' b5c' b5l b6 w ha hb q_a3 q_a4 q_a5 q_b3 q_b4 q_b5)
  generalize smG (a0, a1, a2, a3l, a4l, a5l, a6) (b0, b1, b2, b3l, b4l, b5l, b6) = v at C1 C2
  have e_v : (v != v) = false := by simp
  go_enter Try.func4, Try.ntmps4
  go_wp2_with fail
  generalize hW : ((w.alloc (.cells #[.string a0, .int .i64 a1, .int .i64 a2, .slice a3A a3l.length a3c, .slice a4A a4l.length a4c, .slice a5A a5l.length a5c, .string a6] 28)).alloc (.cells #[.string b0, .int .i64 b1, .int .i64 b2, .slice b3A b3l.length b3c, .slice b4A b4l.length b4c, .slice b5A b5l.length b5c, .string b6] 28)) = W0
  have row_a3w : Row RvLoop 1 w (w.heap.size) a3A a3l := row_a3
  have row_a4w : Row RvPart 3 w (w.heap.size) a4A a4l := row_a4
  have row_a5w : Row RvAnchor 3 w (w.heap.size) a5A a5l := row_a5
  have row_b3w : Row RvLoop 1 w (w.heap.size) b3A b3l := row_b3
  have row_b4w : Row RvPart 3 w (w.heap.size) b4A b4l := row_b4
  have row_b5w : Row RvAnchor 3 w (w.heap.size) b5A b5l := row_b5
  have bx_aW0 : AtL (w.heap.size) [.string a0, .int .i64 a1, .int .i64 a2, .slice a3A a3l.length a3c, .slice a4A a4l.length a4c, .slice a5A a5l.length a5c, .string a6] W0 := by rw [← hW]; repeat' (first | with_reducible assumption | with_reducible exact AtL.new _ _ _ | ((with_reducible refine AtL.newAt ?_); (first | rfl | (simp; done))) | (with_reducible refine AtL.drew ?_) | (with_reducible refine AtL.below ?_ (by with_reducible assumption)) | (with_reducible refine AtL.alloc ?_ _) | (with_reducible refine AtL.far ?_ ?_ _ _) | omega | (simp; done) | (simp; omega))
  have row_a3W0 : Row RvLoop 1 W0 (w.heap.size) a3A a3l := by rw [← hW]; repeat' (first | with_reducible assumption | (with_reducible refine Row.drew ?_) | (with_reducible refine Row.carry ?_ (by with_reducible assumption) ?_) | (with_reducible refine Row.alloc ?_ ?_ _) | (with_reducible refine Row.setCell ?_ ?_ _) | omega | (simp; done) | (simp; omega))
  have row_a4W0 : Row RvPart 3 W0 (w.heap.size) a4A a4l := by rw [← hW]; repeat' (first | with_reducible assumption | (with_reducible refine Row.drew ?_) | (with_reducible refine Row.carry ?_ (by with_reducible assumption) ?_) | (with_reducible refine Row.alloc ?_ ?_ _) | (with_reducible refine Row.setCell ?_ ?_ _) | omega | (simp; done) | (simp; omega))
  have row_a5W0 : Row RvAnchor 3 W0 (w.heap.size) a5A a5l := by rw [← hW]; repeat' (first | with_reducible assumption | (with_reducible refine Row.drew ?_) | (with_reducible refine Row.carry ?_ (by with_reducible assumption) ?_) | (with_reducible refine Row.alloc ?_ ?_ _) | (with_reducible refine Row.setCell ?_ ?_ _) | omega | (simp; done) | (simp; omega))
  have bx_bW0 : AtL (w.heap.size + 1) [.string b0, .int .i64 b1, .int .i64 b2, .slice b3A b3l.length b3c, .slice b4A b4l.length b4c, .slice b5A b5l.length b5c, .string b6] W0 := by rw [← hW]; repeat' (first | with_reducible assumption | with_reducible exact AtL.new _ _ _ | ((with_reducible refine AtL.newAt ?_); (first | rfl | (simp; done))) | (with_reducible refine AtL.drew ?_) | (with_reducible refine AtL.below ?_ (by with_reducible assumption)) | (with_reducible refine AtL.alloc ?_ _) | (with_reducible refine AtL.far ?_ ?_ _ _) | omega | (simp; done) | (simp; omega))
  have row_b3W0 : Row RvLoop 1 W0 (w.heap.size) b3A b3l := by rw [← hW]; repeat' (first | with_reducible assumption | (with_reducible refine Row.drew ?_) | (with_reducible refine Row.carry ?_ (by with_reducible assumption) ?_) | (with_reducible refine Row.alloc ?_ ?_ _) | (with_reducible refine Row.setCell ?_ ?_ _) | omega | (simp; done) | (simp; omega))
  have row_b4W0 : Row RvPart 3 W0 (w.heap.size) b4A b4l := by rw [← hW]; repeat' (first | with_reducible assumption | (with_reducible refine Row.drew ?_) | (with_reducible refine Row.carry ?_ (by with_reducible assumption) ?_) | (with_reducible refine Row.alloc ?_ ?_ _) | (with_reducible refine Row.setCell ?_ ?_ _) | omega | (simp; done) | (simp; omega))
  have row_b5W0 : Row RvAnchor 3 W0 (w.heap.size) b5A b5l := by rw [← hW]; repeat' (first | with_reducible assumption | (with_reducible refine Row.drew ?_) | (with_reducible refine Row.carry ?_ (by with_reducible assumption) ?_) | (with_reducible refine Row.alloc ?_ ?_ _) | (with_reducible refine Row.setCell ?_ ?_ _) | omega | (simp; done) | (simp; omega))
  have qW0 : w.heap.size ≤ W0.heap.size := by rw [← hW]; first | (simp; done) | (simp; omega)
  have bn : Below w.heap.size w W0 := by rw [← hW]; repeat' (first | with_reducible assumption | with_reducible exact Below.refl _ _ | (with_reducible refine Below.setCell ?_ ?_ _) | (with_reducible refine Below.alloc ?_ ?_ _) | (with_reducible refine Below.drew ?_) | (with_reducible refine below_dr ?_ _) | (with_reducible refine Below.trans ?_ (Below.mono (by with_reducible assumption) ?_)) | omega | (simp; done) | (simp; omega))
  have bW0 := Lib.hid bn
  clear hW bn
  clear row_a3w row_a3 row_a4w row_a4 row_a5w row_a5 row_b3w row_b3 row_b4w row_b4 row_b5w row_b5
  have kbx_a0 := bx_aW0.cell 0 rfl
  have kbx_a1 := bx_aW0.cell 1 rfl
  have kbx_a2 := bx_aW0.cell 2 rfl
  have kbx_a3 := bx_aW0.cell 3 rfl
  have kbx_a4 := bx_aW0.cell 4 rfl
  have kbx_a5 := bx_aW0.cell 5 rfl
  have kbx_a6 := bx_aW0.cell 6 rfl
  have lbx_a := bx_aW0.lt
  have kbx_b0 := bx_bW0.cell 0 rfl
  have kbx_b1 := bx_bW0.cell 1 rfl
  have kbx_b2 := bx_bW0.cell 2 rfl
  have kbx_b3 := bx_bW0.cell 3 rfl
  have kbx_b4 := bx_bW0.cell 4 rfl
  have kbx_b5 := bx_bW0.cell 5 rfl
  have kbx_b6 := bx_bW0.cell 6 rfl
  have lbx_b := bx_bW0.lt
  go_wp2_with fail
  clear kbx_a0 kbx_a1 kbx_a2 kbx_a3 kbx_a4 kbx_a5 kbx_a6 lbx_a
  clear kbx_b0 kbx_b1 kbx_b2 kbx_b3 kbx_b4 kbx_b5 kbx_b6 lbx_b
  obtain ⟨T0, hT0⟩ : ∃ T, T = totGlyph (a0, a1, a2, a3l, a4l, a5l, a6) := ⟨_, rfl⟩
  have HTT0 := Lib.hid hT0
  refine (szGlyph_any a0 a1 a2 a3A a3c a3l a4A a4c a4l a5A a5c a5l a6 1048576 _ (by omega) (by omega) HZP_a.out ?_ ?_ ?_).mono ?_
  · (refine Row.more (B := w.heap.size) ?_ (by first | omega | ((try simp only [World.size_setCell]); (try simp only [World.size_drew]); (try simp only [World.size_alloc]); omega))); repeat' (first | with_reducible assumption | (with_reducible refine Row.drew ?_) | (with_reducible refine Row.carry ?_ (by with_reducible assumption) ?_) | (with_reducible refine Row.alloc ?_ ?_ _) | (with_reducible refine Row.setCell ?_ ?_ _) | omega | (simp; done) | (simp; omega))
  · (refine Row.more (B := w.heap.size) ?_ (by first | omega | ((try simp only [World.size_setCell]); (try simp only [World.size_drew]); (try simp only [World.size_alloc]); omega))); repeat' (first | with_reducible assumption | (with_reducible refine Row.drew ?_) | (with_reducible refine Row.carry ?_ (by with_reducible assumption) ?_) | (with_reducible refine Row.alloc ?_ ?_ _) | (with_reducible refine Row.setCell ?_ ?_ _) | omega | (simp; done) | (simp; omega))
  · (refine Row.more (B := w.heap.size) ?_ (by first | omega | ((try simp only [World.size_setCell]); (try simp only [World.size_drew]); (try simp only [World.size_alloc]); omega))); repeat' (first | with_reducible assumption | (with_reducible refine Row.drew ?_) | (with_reducible refine Row.carry ?_ (by with_reducible assumption) ?_) | (with_reducible refine Row.alloc ?_ ?_ _) | (with_reducible refine Row.setCell ?_ ?_ _) | omega | (simp; done) | (simp; omega))
  rw [← hT0]
  clear hT0
  by_cases hfit : (T0 : Int) ≤ 1048576
  case neg =>
    rw [szV_no hfit]
    rintro e wN ⟨rfl, hb⟩
    go_wp2_with fail
    go_ret
    have bp := bW0.out
    exact ⟨rfl, by repeat' (first | with_reducible assumption | with_reducible exact Below.refl _ _ | (with_reducible refine Below.setCell ?_ ?_ _) | (with_reducible refine Below.alloc ?_ ?_ _) | (with_reducible refine Below.drew ?_) | (with_reducible refine below_dr ?_ _) | (with_reducible refine Below.trans ?_ (Below.mono (by with_reducible assumption) ?_)) | omega | (simp; done) | (simp; omega))⟩
  case pos =>
    rw [szV_yes hfit]
    have HT_a := Lib.hid (show totGlyph (a0, a1, a2, a3l, a4l, a5l, a6) ≤ 1048576 by rw [← HTT0.out]; omega)
    obtain ⟨V0, hV⟩ : ∃ V : Int, V = 1048576 - T0 := ⟨_, rfl⟩
    have hVV : 0 ≤ V0 ∧ V0 ≤ 1048576 := by omega
    rw [← hV]
    rintro e wS0 ⟨rfl, hbwS0⟩
    clear hV hfit
    obtain ⟨hV0_0, hV1_0⟩ := hVV
    have zwS0 := hbwS0.size
    (try simp only [World.size_setCell] at zwS0)
    (try simp only [World.size_drew] at zwS0)
    (try simp only [World.size_alloc] at zwS0)
    have qwS0 : w.heap.size ≤ wS0.heap.size := by omega
    have bx_awS0 : AtL (w.heap.size) [.string a0, .int .i64 a1, .int .i64 a2, .slice a3A a3l.length a3c, .slice a4A a4l.length a4c, .slice a5A a5l.length a5c, .string a6] wS0 := by repeat' (first | with_reducible assumption | with_reducible exact AtL.new _ _ _ | ((with_reducible refine AtL.newAt ?_); (first | rfl | (simp; done))) | (with_reducible refine AtL.drew ?_) | (with_reducible refine AtL.below ?_ (by with_reducible assumption)) | (with_reducible refine AtL.alloc ?_ _) | (with_reducible refine AtL.far ?_ ?_ _ _) | omega | (simp; done) | (simp; omega))
    have row_a3wS0 : Row RvLoop 1 wS0 (w.heap.size) a3A a3l := by repeat' (first | with_reducible assumption | (with_reducible refine Row.drew ?_) | (with_reducible refine Row.carry ?_ (by with_reducible assumption) ?_) | (with_reducible refine Row.alloc ?_ ?_ _) | (with_reducible refine Row.setCell ?_ ?_ _) | omega | (simp; done) | (simp; omega))
    have row_a4wS0 : Row RvPart 3 wS0 (w.heap.size) a4A a4l := by repeat' (first | with_reducible assumption | (with_reducible refine Row.drew ?_) | (with_reducible refine Row.carry ?_ (by with_reducible assumption) ?_) | (with_reducible refine Row.alloc ?_ ?_ _) | (with_reducible refine Row.setCell ?_ ?_ _) | omega | (simp; done) | (simp; omega))
    have row_a5wS0 : Row RvAnchor 3 wS0 (w.heap.size) a5A a5l := by repeat' (first | with_reducible assumption | (with_reducible refine Row.drew ?_) | (with_reducible refine Row.carry ?_ (by with_reducible assumption) ?_) | (with_reducible refine Row.alloc ?_ ?_ _) | (with_reducible refine Row.setCell ?_ ?_ _) | omega | (simp; done) | (simp; omega))
    have bx_bwS0 : AtL (w.heap.size + 1) [.string b0, .int .i64 b1, .int .i64 b2, .slice b3A b3l.length b3c, .slice b4A b4l.length b4c, .slice b5A b5l.length b5c, .string b6] wS0 := by repeat' (first | with_reducible assumption | with_reducible exact AtL.new _ _ _ | ((with_reducible refine AtL.newAt ?_); (first | rfl | (simp; done))) | (with_reducible refine AtL.drew ?_) | (with_reducible refine AtL.below ?_ (by with_reducible assumption)) | (with_reducible refine AtL.alloc ?_ _) | (with_reducible refine AtL.far ?_ ?_ _ _) | omega | (simp; done) | (simp; omega))
    have row_b3wS0 : Row RvLoop 1 wS0 (w.heap.size) b3A b3l := by repeat' (first | with_reducible assumption | (with_reducible refine Row.drew ?_) | (with_reducible refine Row.carry ?_ (by with_reducible assumption) ?_) | (with_reducible refine Row.alloc ?_ ?_ _) | (with_reducible refine Row.setCell ?_ ?_ _) | omega | (simp; done) | (simp; omega))
    have row_b4wS0 : Row RvPart 3 wS0 (w.heap.size) b4A b4l := by repeat' (first | with_reducible assumption | (with_reducible refine Row.drew ?_) | (with_reducible refine Row.carry ?_ (by with_reducible assumption) ?_) | (with_reducible refine Row.alloc ?_ ?_ _) | (with_reducible refine Row.setCell ?_ ?_ _) | omega | (simp; done) | (simp; omega))
    have row_b5wS0 : Row RvAnchor 3 wS0 (w.heap.size) b5A b5l := by repeat' (first | with_reducible assumption | (with_reducible refine Row.drew ?_) | (with_reducible refine Row.carry ?_ (by with_reducible assumption) ?_) | (with_reducible refine Row.alloc ?_ ?_ _) | (with_reducible refine Row.setCell ?_ ?_ _) | omega | (simp; done) | (simp; omega))
    have bp := bW0.out
    have bn : Below w.heap.size w wS0 := by repeat' (first | with_reducible assumption | with_reducible exact Below.refl _ _ | (with_reducible refine Below.setCell ?_ ?_ _) | (with_reducible refine Below.alloc ?_ ?_ _) | (with_reducible refine Below.drew ?_) | (with_reducible refine below_dr ?_ _) | (with_reducible refine Below.trans ?_ (Below.mono (by with_reducible assumption) ?_)) | omega | (simp; done) | (simp; omega))
    have bwS0 := Lib.hid bn
    clear bn
    clear bp bW0
    clear hbwS0
    clear bx_aW0
    clear row_a3W0
    clear row_a4W0
    clear row_a5W0
    clear bx_bW0
    clear row_b3W0
    clear row_b4W0
    clear row_b5W0
    have kbx_a0 := bx_awS0.cell 0 rfl
    have kbx_a1 := bx_awS0.cell 1 rfl
    have kbx_a2 := bx_awS0.cell 2 rfl
    have kbx_a3 := bx_awS0.cell 3 rfl
    have kbx_a4 := bx_awS0.cell 4 rfl
    have kbx_a5 := bx_awS0.cell 5 rfl
    have kbx_a6 := bx_awS0.cell 6 rfl
    have lbx_a := bx_awS0.lt
    have kbx_b0 := bx_bwS0.cell 0 rfl
    have kbx_b1 := bx_bwS0.cell 1 rfl
    have kbx_b2 := bx_bwS0.cell 2 rfl
    have kbx_b3 := bx_bwS0.cell 3 rfl
    have kbx_b4 := bx_bwS0.cell 4 rfl
    have kbx_b5 := bx_bwS0.cell 5 rfl
    have kbx_b6 := bx_bwS0.cell 6 rfl
    have lbx_b := bx_bwS0.lt
    go_wp2_with fail
    clear kbx_a0 kbx_a1 kbx_a2 kbx_a3 kbx_a4 kbx_a5 kbx_a6 lbx_a
    clear kbx_b0 kbx_b1 kbx_b2 kbx_b3 kbx_b4 kbx_b5 kbx_b6 lbx_b
    obtain ⟨T1, hT1⟩ : ∃ T, T = totGlyph (b0, b1, b2, b3l, b4l, b5l, b6) := ⟨_, rfl⟩
    have HTT1 := Lib.hid hT1
    refine (szGlyph_any b0 b1 b2 b3A b3c b3l b4A b4c b4l b5A b5c b5l b6 V0 _ (by omega) (by omega) HZP_b.out ?_ ?_ ?_).mono ?_
    · (refine Row.more (B := w.heap.size) ?_ (by first | omega | ((try simp only [World.size_setCell]); (try simp only [World.size_drew]); (try simp only [World.size_alloc]); omega))); repeat' (first | with_reducible assumption | (with_reducible refine Row.drew ?_) | (with_reducible refine Row.carry ?_ (by with_reducible assumption) ?_) | (with_reducible refine Row.alloc ?_ ?_ _) | (with_reducible refine Row.setCell ?_ ?_ _) | omega | (simp; done) | (simp; omega))
    · (refine Row.more (B := w.heap.size) ?_ (by first | omega | ((try simp only [World.size_setCell]); (try simp only [World.size_drew]); (try simp only [World.size_alloc]); omega))); repeat' (first | with_reducible assumption | (with_reducible refine Row.drew ?_) | (with_reducible refine Row.carry ?_ (by with_reducible assumption) ?_) | (with_reducible refine Row.alloc ?_ ?_ _) | (with_reducible refine Row.setCell ?_ ?_ _) | omega | (simp; done) | (simp; omega))
    · (refine Row.more (B := w.heap.size) ?_ (by first | omega | ((try simp only [World.size_setCell]); (try simp only [World.size_drew]); (try simp only [World.size_alloc]); omega))); repeat' (first | with_reducible assumption | (with_reducible refine Row.drew ?_) | (with_reducible refine Row.carry ?_ (by with_reducible assumption) ?_) | (with_reducible refine Row.alloc ?_ ?_ _) | (with_reducible refine Row.setCell ?_ ?_ _) | omega | (simp; done) | (simp; omega))
    rw [← hT1]
    clear hT1
    by_cases hfit : (T1 : Int) ≤ V0
    case neg =>
      rw [szV_no hfit]
      rintro e wN ⟨rfl, hb⟩
      go_wp2_with fail
      go_ret
      have bp := bwS0.out
      exact ⟨rfl, by repeat' (first | with_reducible assumption | with_reducible exact Below.refl _ _ | (with_reducible refine Below.setCell ?_ ?_ _) | (with_reducible refine Below.alloc ?_ ?_ _) | (with_reducible refine Below.drew ?_) | (with_reducible refine below_dr ?_ _) | (with_reducible refine Below.trans ?_ (Below.mono (by with_reducible assumption) ?_)) | omega | (simp; done) | (simp; omega))⟩
    case pos =>
      rw [szV_yes hfit]
      have HT_b := Lib.hid (show totGlyph (b0, b1, b2, b3l, b4l, b5l, b6) ≤ 1048576 by rw [← HTT1.out]; omega)
      obtain ⟨V1, hV⟩ : ∃ V : Int, V = V0 - T1 := ⟨_, rfl⟩
      have hVV : 0 ≤ V1 ∧ V1 ≤ 1048576 := by omega
      rw [← hV]
      rintro e wS1 ⟨rfl, hbwS1⟩
      clear hV hfit
      obtain ⟨hV0_1, hV1_1⟩ := hVV
      have zwS1 := hbwS1.size
      (try simp only [World.size_setCell] at zwS1)
      (try simp only [World.size_drew] at zwS1)
      (try simp only [World.size_alloc] at zwS1)
      have qwS1 : w.heap.size ≤ wS1.heap.size := by omega
      have bx_awS1 : AtL (w.heap.size) [.string a0, .int .i64 a1, .int .i64 a2, .slice a3A a3l.length a3c, .slice a4A a4l.length a4c, .slice a5A a5l.length a5c, .string a6] wS1 := by repeat' (first | with_reducible assumption | with_reducible exact AtL.new _ _ _ | ((with_reducible refine AtL.newAt ?_); (first | rfl | (simp; done))) | (with_reducible refine AtL.drew ?_) | (with_reducible refine AtL.below ?_ (by with_reducible assumption)) | (with_reducible refine AtL.alloc ?_ _) | (with_reducible refine AtL.far ?_ ?_ _ _) | omega | (simp; done) | (simp; omega))
      have row_a3wS1 : Row RvLoop 1 wS1 (w.heap.size) a3A a3l := by repeat' (first | with_reducible assumption | (with_reducible refine Row.drew ?_) | (with_reducible refine Row.carry ?_ (by with_reducible assumption) ?_) | (with_reducible refine Row.alloc ?_ ?_ _) | (with_reducible refine Row.setCell ?_ ?_ _) | omega | (simp; done) | (simp; omega))
      have row_a4wS1 : Row RvPart 3 wS1 (w.heap.size) a4A a4l := by repeat' (first | with_reducible assumption | (with_reducible refine Row.drew ?_) | (with_reducible refine Row.carry ?_ (by with_reducible assumption) ?_) | (with_reducible refine Row.alloc ?_ ?_ _) | (with_reducible refine Row.setCell ?_ ?_ _) | omega | (simp; done) | (simp; omega))
      have row_a5wS1 : Row RvAnchor 3 wS1 (w.heap.size) a5A a5l := by repeat' (first | with_reducible assumption | (with_reducible refine Row.drew ?_) | (with_reducible refine Row.carry ?_ (by with_reducible assumption) ?_) | (with_reducible refine Row.alloc ?_ ?_ _) | (with_reducible refine Row.setCell ?_ ?_ _) | omega | (simp; done) | (simp; omega))
      have bx_bwS1 : AtL (w.heap.size + 1) [.string b0, .int .i64 b1, .int .i64 b2, .slice b3A b3l.length b3c, .slice b4A b4l.length b4c, .slice b5A b5l.length b5c, .string b6] wS1 := by repeat' (first | with_reducible assumption | with_reducible exact AtL.new _ _ _ | ((with_reducible refine AtL.newAt ?_); (first | rfl | (simp; done))) | (with_reducible refine AtL.drew ?_) | (with_reducible refine AtL.below ?_ (by with_reducible assumption)) | (with_reducible refine AtL.alloc ?_ _) | (with_reducible refine AtL.far ?_ ?_ _ _) | omega | (simp; done) | (simp; omega))
      have row_b3wS1 : Row RvLoop 1 wS1 (w.heap.size) b3A b3l := by repeat' (first | with_reducible assumption | (with_reducible refine Row.drew ?_) | (with_reducible refine Row.carry ?_ (by with_reducible assumption) ?_) | (with_reducible refine Row.alloc ?_ ?_ _) | (with_reducible refine Row.setCell ?_ ?_ _) | omega | (simp; done) | (simp; omega))
      have row_b4wS1 : Row RvPart 3 wS1 (w.heap.size) b4A b4l := by repeat' (first | with_reducible assumption | (with_reducible refine Row.drew ?_) | (with_reducible refine Row.carry ?_ (by with_reducible assumption) ?_) | (with_reducible refine Row.alloc ?_ ?_ _) | (with_reducible refine Row.setCell ?_ ?_ _) | omega | (simp; done) | (simp; omega))
      have row_b5wS1 : Row RvAnchor 3 wS1 (w.heap.size) b5A b5l := by repeat' (first | with_reducible assumption | (with_reducible refine Row.drew ?_) | (with_reducible refine Row.carry ?_ (by with_reducible assumption) ?_) | (with_reducible refine Row.alloc ?_ ?_ _) | (with_reducible refine Row.setCell ?_ ?_ _) | omega | (simp; done) | (simp; omega))
      have bp := bwS0.out
      have bn : Below w.heap.size w wS1 := by repeat' (first | with_reducible assumption | with_reducible exact Below.refl _ _ | (with_reducible refine Below.setCell ?_ ?_ _) | (with_reducible refine Below.alloc ?_ ?_ _) | (with_reducible refine Below.drew ?_) | (with_reducible refine below_dr ?_ _) | (with_reducible refine Below.trans ?_ (Below.mono (by with_reducible assumption) ?_)) | omega | (simp; done) | (simp; omega))
      have bwS1 := Lib.hid bn
      clear bn
      clear bp bwS0
      clear hbwS1
      clear bx_awS0
      clear row_a3wS0
      clear row_a4wS0
      clear row_a5wS0
      clear bx_bwS0
      clear row_b3wS0
      clear row_b4wS0
      clear row_b5wS0
      have kbx_a0 := bx_awS1.cell 0 rfl
      have kbx_a1 := bx_awS1.cell 1 rfl
      have kbx_a2 := bx_awS1.cell 2 rfl
      have kbx_a3 := bx_awS1.cell 3 rfl
      have kbx_a4 := bx_awS1.cell 4 rfl
      have kbx_a5 := bx_awS1.cell 5 rfl
      have kbx_a6 := bx_awS1.cell 6 rfl
      have lbx_a := bx_awS1.lt
      have kbx_b0 := bx_bwS1.cell 0 rfl
      have kbx_b1 := bx_bwS1.cell 1 rfl
      have kbx_b2 := bx_bwS1.cell 2 rfl
      have kbx_b3 := bx_bwS1.cell 3 rfl
      have kbx_b4 := bx_bwS1.cell 4 rfl
      have kbx_b5 := bx_bwS1.cell 5 rfl
      have kbx_b6 := bx_bwS1.cell 6 rfl
      have lbx_b := bx_bwS1.lt
      go_wp2_with fail
      go_region_held3 (fun w' => (∀ b o, b < wS1.heap.size → w'.cell? ⟨b, o, none⟩ = wS1.cell? ⟨b, o, none⟩) ∧ wS1.heap.size ≤ w'.heap.size)
        (first | ((try dsimp only); exact ⟨fun b o h => (by (repeat (first | with_reducible exact rfl | (with_reducible refine (cell_drew_at _ _).trans ?_) | (with_reducible refine (cell_set_at _ _ (by first | omega | (simp; done) | (simp; omega))).trans ?_) | (with_reducible refine (cell_alloc_at _ _ (by first | omega | (simp; done) | (simp; omega))).trans ?_) | (with_reducible refine (hcwA0 b o (by first | omega | (simp; done) | (simp; omega))).trans ?_) | (with_reducible refine (hcwA1 b o (by first | omega | (simp; done) | (simp; omega))).trans ?_) | (with_reducible refine (hcwB b o (by first | omega | (simp; done) | (simp; omega))).trans ?_)))), (by first | omega | (simp; done) | (simp; omega))⟩) | fail)
        (first
          | (go_at_call 15; (with_reducible refine (xtoGlyph_any a0 a1 a2 a3A a3c a3l a4A a4c a4l a5A a5c a5l a6 _ (HT_a.out) ?_ ?_ ?_).mono ?_); (focus ((refine Row.more (B := w.heap.size) ?_ (by first | omega | ((try simp only [World.size_setCell]); (try simp only [World.size_drew]); (try simp only [World.size_alloc]); omega))); repeat' (first | with_reducible assumption | (with_reducible refine Row.drew ?_) | (with_reducible refine Row.carry ?_ (by with_reducible assumption) ?_) | (with_reducible refine Row.alloc ?_ ?_ _) | (with_reducible refine Row.setCell ?_ ?_ _) | omega | (simp; done) | (simp; omega)))); (focus ((refine Row.more (B := w.heap.size) ?_ (by first | omega | ((try simp only [World.size_setCell]); (try simp only [World.size_drew]); (try simp only [World.size_alloc]); omega))); repeat' (first | with_reducible assumption | (with_reducible refine Row.drew ?_) | (with_reducible refine Row.carry ?_ (by with_reducible assumption) ?_) | (with_reducible refine Row.alloc ?_ ?_ _) | (with_reducible refine Row.setCell ?_ ?_ _) | omega | (simp; done) | (simp; omega)))); (focus ((refine Row.more (B := w.heap.size) ?_ (by first | omega | ((try simp only [World.size_setCell]); (try simp only [World.size_drew]); (try simp only [World.size_alloc]); omega))); repeat' (first | with_reducible assumption | (with_reducible refine Row.drew ?_) | (with_reducible refine Row.carry ?_ (by with_reducible assumption) ?_) | (with_reducible refine Row.alloc ?_ ?_ _) | (with_reducible refine Row.setCell ?_ ?_ _) | omega | (simp; done) | (simp; omega)))); intro e wA0 hq; obtain ⟨owA0_a3A, owA0_a3c, owA0_a4A, owA0_a4c, owA0_a5A, owA0_a5c, rfl, owA0_a3, owA0_a4, owA0_a5, hbwA0⟩ := hq; obtain ⟨hcwA0, hfwA0⟩ := bcell hbwA0; have hzwA0 := hbwA0.size; (try simp only [World.size_drew] at hcwA0 hfwA0 hzwA0); (try simp only [World.size_alloc] at hcwA0 hfwA0 hzwA0))
          | (go_at_call 15; (with_reducible refine (xtoGlyph_any b0 b1 b2 b3A b3c b3l b4A b4c b4l b5A b5c b5l b6 _ (HT_b.out) ?_ ?_ ?_).mono ?_); (focus ((refine Row.more (B := w.heap.size) ?_ (by first | omega | ((try simp only [World.size_setCell]); (try simp only [World.size_drew]); (try simp only [World.size_alloc]); omega))); repeat' (first | with_reducible assumption | (with_reducible refine Row.drew ?_) | (with_reducible refine Row.carry ?_ (by with_reducible assumption) ?_) | (with_reducible refine Row.alloc ?_ ?_ _) | (with_reducible refine Row.setCell ?_ ?_ _) | omega | (simp; done) | (simp; omega)))); (focus ((refine Row.more (B := w.heap.size) ?_ (by first | omega | ((try simp only [World.size_setCell]); (try simp only [World.size_drew]); (try simp only [World.size_alloc]); omega))); repeat' (first | with_reducible assumption | (with_reducible refine Row.drew ?_) | (with_reducible refine Row.carry ?_ (by with_reducible assumption) ?_) | (with_reducible refine Row.alloc ?_ ?_ _) | (with_reducible refine Row.setCell ?_ ?_ _) | omega | (simp; done) | (simp; omega)))); (focus ((refine Row.more (B := w.heap.size) ?_ (by first | omega | ((try simp only [World.size_setCell]); (try simp only [World.size_drew]); (try simp only [World.size_alloc]); omega))); repeat' (first | with_reducible assumption | (with_reducible refine Row.drew ?_) | (with_reducible refine Row.carry ?_ (by with_reducible assumption) ?_) | (with_reducible refine Row.alloc ?_ ?_ _) | (with_reducible refine Row.setCell ?_ ?_ _) | omega | (simp; done) | (simp; omega)))); intro e wA1 hq; obtain ⟨owA1_b3A, owA1_b3c, owA1_b4A, owA1_b4c, owA1_b5A, owA1_b5c, rfl, owA1_b3, owA1_b4, owA1_b5, hbwA1⟩ := hq; obtain ⟨hcwA1, hfwA1⟩ := bcell hbwA1; have hzwA1 := hbwA1.size; (try simp only [World.size_drew] at hcwA1 hfwA1 hzwA1); (try simp only [World.size_alloc] at hcwA1 hfwA1 hzwA1))
          | (go_at_call 18; (with_reducible refine (C1.out HT_a.out HT_b.out owA0_a3A owA0_a3c owA0_a4A owA0_a4c owA0_a5A owA0_a5c owA1_b3A owA1_b3c owA1_b4A owA1_b4c owA1_b5A owA1_b5c _ ?_ ?_ ?_ ?_ ?_ ?_).mono ?_); (focus (refine Row.more (B := wA0.heap.size) ?_ (by first | exact Nat.le_refl _ | omega | ((try simp only [World.size_drew]); omega)))); (focus (first | exact owA0_a3.here | (have h9 := owA0_a3.here; repeat' (first | with_reducible assumption | (with_reducible refine Row.drew ?_) | (with_reducible refine Row.carry ?_ (by with_reducible assumption) ?_) | (with_reducible refine Row.alloc ?_ ?_ _) | (with_reducible refine Row.setCell ?_ ?_ _) | omega | (simp; done) | (simp; omega))))); (focus (refine Row.more (B := wA0.heap.size) ?_ (by first | exact Nat.le_refl _ | omega | ((try simp only [World.size_drew]); omega)))); (focus (first | exact owA0_a4.here | (have h9 := owA0_a4.here; repeat' (first | with_reducible assumption | (with_reducible refine Row.drew ?_) | (with_reducible refine Row.carry ?_ (by with_reducible assumption) ?_) | (with_reducible refine Row.alloc ?_ ?_ _) | (with_reducible refine Row.setCell ?_ ?_ _) | omega | (simp; done) | (simp; omega))))); (focus (refine Row.more (B := wA0.heap.size) ?_ (by first | exact Nat.le_refl _ | omega | ((try simp only [World.size_drew]); omega)))); (focus (first | exact owA0_a5.here | (have h9 := owA0_a5.here; repeat' (first | with_reducible assumption | (with_reducible refine Row.drew ?_) | (with_reducible refine Row.carry ?_ (by with_reducible assumption) ?_) | (with_reducible refine Row.alloc ?_ ?_ _) | (with_reducible refine Row.setCell ?_ ?_ _) | omega | (simp; done) | (simp; omega))))); (focus (refine Row.more (B := wA1.heap.size) ?_ (by first | exact Nat.le_refl _ | omega | ((try simp only [World.size_drew]); omega)))); (focus (first | exact owA1_b3.here | (have h9 := owA1_b3.here; repeat' (first | with_reducible assumption | (with_reducible refine Row.drew ?_) | (with_reducible refine Row.carry ?_ (by with_reducible assumption) ?_) | (with_reducible refine Row.alloc ?_ ?_ _) | (with_reducible refine Row.setCell ?_ ?_ _) | omega | (simp; done) | (simp; omega))))); (focus (refine Row.more (B := wA1.heap.size) ?_ (by first | exact Nat.le_refl _ | omega | ((try simp only [World.size_drew]); omega)))); (focus (first | exact owA1_b4.here | (have h9 := owA1_b4.here; repeat' (first | with_reducible assumption | (with_reducible refine Row.drew ?_) | (with_reducible refine Row.carry ?_ (by with_reducible assumption) ?_) | (with_reducible refine Row.alloc ?_ ?_ _) | (with_reducible refine Row.setCell ?_ ?_ _) | omega | (simp; done) | (simp; omega))))); (focus (refine Row.more (B := wA1.heap.size) ?_ (by first | exact Nat.le_refl _ | omega | ((try simp only [World.size_drew]); omega)))); (focus (first | exact owA1_b5.here | (have h9 := owA1_b5.here; repeat' (first | with_reducible assumption | (with_reducible refine Row.drew ?_) | (with_reducible refine Row.carry ?_ (by with_reducible assumption) ?_) | (with_reducible refine Row.alloc ?_ ?_ _) | (with_reducible refine Row.setCell ?_ ?_ _) | omega | (simp; done) | (simp; omega))))); rintro e wB ⟨rfl, hbwB⟩; obtain ⟨hcwB, hfwB⟩ := bcell hbwB; have hzwB := hbwB.size; (try simp only [World.size_drew] at hcwB hfwB hzwB); (try simp only [World.size_alloc] at hcwB hfwB hzwB)))
      clear kbx_a0 kbx_a1 kbx_a2 kbx_a3 kbx_a4 kbx_a5 kbx_a6 lbx_a
      clear kbx_b0 kbx_b1 kbx_b2 kbx_b3 kbx_b4 kbx_b5 kbx_b6 lbx_b
      all_goals
        have zwB := hbwB.size
        (try simp only [World.size_setCell] at zwB)
        (try simp only [World.size_drew] at zwB)
        (try simp only [World.size_alloc] at zwB)
        have qwB : w.heap.size ≤ wB.heap.size := by omega
        have bx_awB : AtL (w.heap.size) [.string a0, .int .i64 a1, .int .i64 a2, .slice a3A a3l.length a3c, .slice a4A a4l.length a4c, .slice a5A a5l.length a5c, .string a6] wB := by repeat' (first | with_reducible assumption | with_reducible exact AtL.new _ _ _ | ((with_reducible refine AtL.newAt ?_); (first | rfl | (simp; done))) | (with_reducible refine AtL.drew ?_) | (with_reducible refine AtL.below ?_ (by with_reducible assumption)) | (with_reducible refine AtL.alloc ?_ _) | (with_reducible refine AtL.far ?_ ?_ _ _) | omega | (simp; done) | (simp; omega))
        have row_a3wB : Row RvLoop 1 wB (w.heap.size) a3A a3l := by repeat' (first | with_reducible assumption | (with_reducible refine Row.drew ?_) | (with_reducible refine Row.carry ?_ (by with_reducible assumption) ?_) | (with_reducible refine Row.alloc ?_ ?_ _) | (with_reducible refine Row.setCell ?_ ?_ _) | omega | (simp; done) | (simp; omega))
        have row_a4wB : Row RvPart 3 wB (w.heap.size) a4A a4l := by repeat' (first | with_reducible assumption | (with_reducible refine Row.drew ?_) | (with_reducible refine Row.carry ?_ (by with_reducible assumption) ?_) | (with_reducible refine Row.alloc ?_ ?_ _) | (with_reducible refine Row.setCell ?_ ?_ _) | omega | (simp; done) | (simp; omega))
        have row_a5wB : Row RvAnchor 3 wB (w.heap.size) a5A a5l := by repeat' (first | with_reducible assumption | (with_reducible refine Row.drew ?_) | (with_reducible refine Row.carry ?_ (by with_reducible assumption) ?_) | (with_reducible refine Row.alloc ?_ ?_ _) | (with_reducible refine Row.setCell ?_ ?_ _) | omega | (simp; done) | (simp; omega))
        have bx_bwB : AtL (w.heap.size + 1) [.string b0, .int .i64 b1, .int .i64 b2, .slice b3A b3l.length b3c, .slice b4A b4l.length b4c, .slice b5A b5l.length b5c, .string b6] wB := by repeat' (first | with_reducible assumption | with_reducible exact AtL.new _ _ _ | ((with_reducible refine AtL.newAt ?_); (first | rfl | (simp; done))) | (with_reducible refine AtL.drew ?_) | (with_reducible refine AtL.below ?_ (by with_reducible assumption)) | (with_reducible refine AtL.alloc ?_ _) | (with_reducible refine AtL.far ?_ ?_ _ _) | omega | (simp; done) | (simp; omega))
        have row_b3wB : Row RvLoop 1 wB (w.heap.size) b3A b3l := by repeat' (first | with_reducible assumption | (with_reducible refine Row.drew ?_) | (with_reducible refine Row.carry ?_ (by with_reducible assumption) ?_) | (with_reducible refine Row.alloc ?_ ?_ _) | (with_reducible refine Row.setCell ?_ ?_ _) | omega | (simp; done) | (simp; omega))
        have row_b4wB : Row RvPart 3 wB (w.heap.size) b4A b4l := by repeat' (first | with_reducible assumption | (with_reducible refine Row.drew ?_) | (with_reducible refine Row.carry ?_ (by with_reducible assumption) ?_) | (with_reducible refine Row.alloc ?_ ?_ _) | (with_reducible refine Row.setCell ?_ ?_ _) | omega | (simp; done) | (simp; omega))
        have row_b5wB : Row RvAnchor 3 wB (w.heap.size) b5A b5l := by repeat' (first | with_reducible assumption | (with_reducible refine Row.drew ?_) | (with_reducible refine Row.carry ?_ (by with_reducible assumption) ?_) | (with_reducible refine Row.alloc ?_ ?_ _) | (with_reducible refine Row.setCell ?_ ?_ _) | omega | (simp; done) | (simp; omega))
        have bp := bwS1.out
        have bn : Below w.heap.size w wB := by repeat' (first | with_reducible assumption | with_reducible exact Below.refl _ _ | (with_reducible refine Below.setCell ?_ ?_ _) | (with_reducible refine Below.alloc ?_ ?_ _) | (with_reducible refine Below.drew ?_) | (with_reducible refine below_dr ?_ _) | (with_reducible refine Below.trans ?_ (Below.mono (by with_reducible assumption) ?_)) | omega | (simp; done) | (simp; omega))
        have bwB := Lib.hid bn
        clear bn
        clear bp bwS1
        clear hbwB
        clear bx_awS1
        clear row_a3wS1
        clear row_a4wS1
        clear row_a5wS1
        clear bx_bwS1
        clear row_b3wS1
        clear row_b4wS1
        clear row_b5wS1
        clear hbwA0 hcwA0 hfwA0 hbwA1 hcwA1 hfwA1 hcwB hfwB
        have kbx_a0 := bx_awB.cell 0 rfl
        have kbx_a1 := bx_awB.cell 1 rfl
        have kbx_a2 := bx_awB.cell 2 rfl
        have kbx_a3 := bx_awB.cell 3 rfl
        have kbx_a4 := bx_awB.cell 4 rfl
        have kbx_a5 := bx_awB.cell 5 rfl
        have kbx_a6 := bx_awB.cell 6 rfl
        have lbx_a := bx_awB.lt
        go_wp2_with fail
        clear kbx_a0 kbx_a1 kbx_a2 kbx_a3 kbx_a4 kbx_a5 kbx_a6 lbx_a
        refine (xtoGlyph_any a0 a1 a2 a3A a3c a3l a4A a4c a4l a5A a5c a5l a6 _ (HT_a.out) ?_ ?_ ?_).mono ?_
        · (refine Row.more (B := w.heap.size) ?_ (by first | omega | ((try simp only [World.size_setCell]); (try simp only [World.size_drew]); (try simp only [World.size_alloc]); omega))); repeat' (first | with_reducible assumption | (with_reducible refine Row.drew ?_) | (with_reducible refine Row.carry ?_ (by with_reducible assumption) ?_) | (with_reducible refine Row.alloc ?_ ?_ _) | (with_reducible refine Row.setCell ?_ ?_ _) | omega | (simp; done) | (simp; omega))
        · (refine Row.more (B := w.heap.size) ?_ (by first | omega | ((try simp only [World.size_setCell]); (try simp only [World.size_drew]); (try simp only [World.size_alloc]); omega))); repeat' (first | with_reducible assumption | (with_reducible refine Row.drew ?_) | (with_reducible refine Row.carry ?_ (by with_reducible assumption) ?_) | (with_reducible refine Row.alloc ?_ ?_ _) | (with_reducible refine Row.setCell ?_ ?_ _) | omega | (simp; done) | (simp; omega))
        · (refine Row.more (B := w.heap.size) ?_ (by first | omega | ((try simp only [World.size_setCell]); (try simp only [World.size_drew]); (try simp only [World.size_alloc]); omega))); repeat' (first | with_reducible assumption | (with_reducible refine Row.drew ?_) | (with_reducible refine Row.carry ?_ (by with_reducible assumption) ?_) | (with_reducible refine Row.alloc ?_ ?_ _) | (with_reducible refine Row.setCell ?_ ?_ _) | omega | (simp; done) | (simp; omega))
        intro e wX0 hq
        obtain ⟨gX0_a3A, gX0_a3c, gX0_a4A, gX0_a4c, gX0_a5A, gX0_a5c, rfl, owX_a3, owX_a4, owX_a5, hbwX0⟩ := hq
        have zwX0 := hbwX0.size
        (try simp only [World.size_setCell] at zwX0)
        (try simp only [World.size_drew] at zwX0)
        (try simp only [World.size_alloc] at zwX0)
        have qwX0 : w.heap.size ≤ wX0.heap.size := by omega
        have bx_awX0 : AtL (w.heap.size) [.string a0, .int .i64 a1, .int .i64 a2, .slice a3A a3l.length a3c, .slice a4A a4l.length a4c, .slice a5A a5l.length a5c, .string a6] wX0 := by repeat' (first | with_reducible assumption | with_reducible exact AtL.new _ _ _ | ((with_reducible refine AtL.newAt ?_); (first | rfl | (simp; done))) | (with_reducible refine AtL.drew ?_) | (with_reducible refine AtL.below ?_ (by with_reducible assumption)) | (with_reducible refine AtL.alloc ?_ _) | (with_reducible refine AtL.far ?_ ?_ _ _) | omega | (simp; done) | (simp; omega))
        have row_a3wX0 : Row RvLoop 1 wX0 (w.heap.size) a3A a3l := by repeat' (first | with_reducible assumption | (with_reducible refine Row.drew ?_) | (with_reducible refine Row.carry ?_ (by with_reducible assumption) ?_) | (with_reducible refine Row.alloc ?_ ?_ _) | (with_reducible refine Row.setCell ?_ ?_ _) | omega | (simp; done) | (simp; omega))
        have row_a4wX0 : Row RvPart 3 wX0 (w.heap.size) a4A a4l := by repeat' (first | with_reducible assumption | (with_reducible refine Row.drew ?_) | (with_reducible refine Row.carry ?_ (by with_reducible assumption) ?_) | (with_reducible refine Row.alloc ?_ ?_ _) | (with_reducible refine Row.setCell ?_ ?_ _) | omega | (simp; done) | (simp; omega))
        have row_a5wX0 : Row RvAnchor 3 wX0 (w.heap.size) a5A a5l := by repeat' (first | with_reducible assumption | (with_reducible refine Row.drew ?_) | (with_reducible refine Row.carry ?_ (by with_reducible assumption) ?_) | (with_reducible refine Row.alloc ?_ ?_ _) | (with_reducible refine Row.setCell ?_ ?_ _) | omega | (simp; done) | (simp; omega))
        have bx_bwX0 : AtL (w.heap.size + 1) [.string b0, .int .i64 b1, .int .i64 b2, .slice b3A b3l.length b3c, .slice b4A b4l.length b4c, .slice b5A b5l.length b5c, .string b6] wX0 := by repeat' (first | with_reducible assumption | with_reducible exact AtL.new _ _ _ | ((with_reducible refine AtL.newAt ?_); (first | rfl | (simp; done))) | (with_reducible refine AtL.drew ?_) | (with_reducible refine AtL.below ?_ (by with_reducible assumption)) | (with_reducible refine AtL.alloc ?_ _) | (with_reducible refine AtL.far ?_ ?_ _ _) | omega | (simp; done) | (simp; omega))
        have row_b3wX0 : Row RvLoop 1 wX0 (w.heap.size) b3A b3l := by repeat' (first | with_reducible assumption | (with_reducible refine Row.drew ?_) | (with_reducible refine Row.carry ?_ (by with_reducible assumption) ?_) | (with_reducible refine Row.alloc ?_ ?_ _) | (with_reducible refine Row.setCell ?_ ?_ _) | omega | (simp; done) | (simp; omega))
        have row_b4wX0 : Row RvPart 3 wX0 (w.heap.size) b4A b4l := by repeat' (first | with_reducible assumption | (with_reducible refine Row.drew ?_) | (with_reducible refine Row.carry ?_ (by with_reducible assumption) ?_) | (with_reducible refine Row.alloc ?_ ?_ _) | (with_reducible refine Row.setCell ?_ ?_ _) | omega | (simp; done) | (simp; omega))
        have row_b5wX0 : Row RvAnchor 3 wX0 (w.heap.size) b5A b5l := by repeat' (first | with_reducible assumption | (with_reducible refine Row.drew ?_) | (with_reducible refine Row.carry ?_ (by with_reducible assumption) ?_) | (with_reducible refine Row.alloc ?_ ?_ _) | (with_reducible refine Row.setCell ?_ ?_ _) | omega | (simp; done) | (simp; omega))
        have bp := bwB.out
        have bn : Below w.heap.size w wX0 := by repeat' (first | with_reducible assumption | with_reducible exact Below.refl _ _ | (with_reducible refine Below.setCell ?_ ?_ _) | (with_reducible refine Below.alloc ?_ ?_ _) | (with_reducible refine Below.drew ?_) | (with_reducible refine below_dr ?_ _) | (with_reducible refine Below.trans ?_ (Below.mono (by with_reducible assumption) ?_)) | omega | (simp; done) | (simp; omega))
        have bwX0 := Lib.hid bn
        clear bn
        clear bp bwB
        clear hbwX0
        clear bx_awB
        clear row_a3wB
        clear row_a4wB
        clear row_a5wB
        clear bx_bwB
        clear row_b3wB
        clear row_b4wB
        clear row_b5wB
        have rx_a3wX0 : Row RvLoop 1 wX0 (wX0.heap.size) gX0_a3A a3l := owX_a3.here
        clear owX_a3
        have rx_a4wX0 : Row RvPart 3 wX0 (wX0.heap.size) gX0_a4A a4l := owX_a4.here
        clear owX_a4
        have rx_a5wX0 : Row RvAnchor 3 wX0 (wX0.heap.size) gX0_a5A a5l := owX_a5.here
        clear owX_a5
        have kbx_b0 := bx_bwX0.cell 0 rfl
        have kbx_b1 := bx_bwX0.cell 1 rfl
        have kbx_b2 := bx_bwX0.cell 2 rfl
        have kbx_b3 := bx_bwX0.cell 3 rfl
        have kbx_b4 := bx_bwX0.cell 4 rfl
        have kbx_b5 := bx_bwX0.cell 5 rfl
        have kbx_b6 := bx_bwX0.cell 6 rfl
        have lbx_b := bx_bwX0.lt
        go_wp2_with fail
        clear kbx_b0 kbx_b1 kbx_b2 kbx_b3 kbx_b4 kbx_b5 kbx_b6 lbx_b
        generalize hWB : wX0.alloc (.cells #[.string a0, .int .i64 a1, .int .i64 a2, .slice gX0_a3A a3l.length gX0_a3c, .slice gX0_a4A a4l.length gX0_a4c, .slice gX0_a5A a5l.length gX0_a5c, .string a6] 37) = WB0
        have hbWB0 : Below wX0.heap.size wX0 WB0 := by rw [← hWB]; repeat' (first | with_reducible assumption | with_reducible exact Below.refl _ _ | (with_reducible refine Below.setCell ?_ ?_ _) | (with_reducible refine Below.alloc ?_ ?_ _) | (with_reducible refine Below.drew ?_) | (with_reducible refine below_dr ?_ _) | (with_reducible refine Below.trans ?_ (Below.mono (by with_reducible assumption) ?_)) | omega | (simp; done) | (simp; omega))
        have at_aWB0 : AtL (wX0.heap.size) [.string a0, .int .i64 a1, .int .i64 a2, .slice gX0_a3A a3l.length gX0_a3c, .slice gX0_a4A a4l.length gX0_a4c, .slice gX0_a5A a5l.length gX0_a5c, .string a6] WB0 := by rw [← hWB]; exact AtL.new _ _ _
        clear hWB
        have zWB0 := hbWB0.size
        (try simp only [World.size_setCell] at zWB0)
        (try simp only [World.size_drew] at zWB0)
        (try simp only [World.size_alloc] at zWB0)
        have qWB0 : w.heap.size ≤ WB0.heap.size := by omega
        have bx_aWB0 : AtL (w.heap.size) [.string a0, .int .i64 a1, .int .i64 a2, .slice a3A a3l.length a3c, .slice a4A a4l.length a4c, .slice a5A a5l.length a5c, .string a6] WB0 := by repeat' (first | with_reducible assumption | with_reducible exact AtL.new _ _ _ | ((with_reducible refine AtL.newAt ?_); (first | rfl | (simp; done))) | (with_reducible refine AtL.drew ?_) | (with_reducible refine AtL.below ?_ (by with_reducible assumption)) | (with_reducible refine AtL.alloc ?_ _) | (with_reducible refine AtL.far ?_ ?_ _ _) | omega | (simp; done) | (simp; omega))
        have row_a3WB0 : Row RvLoop 1 WB0 (w.heap.size) a3A a3l := by repeat' (first | with_reducible assumption | (with_reducible refine Row.drew ?_) | (with_reducible refine Row.carry ?_ (by with_reducible assumption) ?_) | (with_reducible refine Row.alloc ?_ ?_ _) | (with_reducible refine Row.setCell ?_ ?_ _) | omega | (simp; done) | (simp; omega))
        have row_a4WB0 : Row RvPart 3 WB0 (w.heap.size) a4A a4l := by repeat' (first | with_reducible assumption | (with_reducible refine Row.drew ?_) | (with_reducible refine Row.carry ?_ (by with_reducible assumption) ?_) | (with_reducible refine Row.alloc ?_ ?_ _) | (with_reducible refine Row.setCell ?_ ?_ _) | omega | (simp; done) | (simp; omega))
        have row_a5WB0 : Row RvAnchor 3 WB0 (w.heap.size) a5A a5l := by repeat' (first | with_reducible assumption | (with_reducible refine Row.drew ?_) | (with_reducible refine Row.carry ?_ (by with_reducible assumption) ?_) | (with_reducible refine Row.alloc ?_ ?_ _) | (with_reducible refine Row.setCell ?_ ?_ _) | omega | (simp; done) | (simp; omega))
        have bx_bWB0 : AtL (w.heap.size + 1) [.string b0, .int .i64 b1, .int .i64 b2, .slice b3A b3l.length b3c, .slice b4A b4l.length b4c, .slice b5A b5l.length b5c, .string b6] WB0 := by repeat' (first | with_reducible assumption | with_reducible exact AtL.new _ _ _ | ((with_reducible refine AtL.newAt ?_); (first | rfl | (simp; done))) | (with_reducible refine AtL.drew ?_) | (with_reducible refine AtL.below ?_ (by with_reducible assumption)) | (with_reducible refine AtL.alloc ?_ _) | (with_reducible refine AtL.far ?_ ?_ _ _) | omega | (simp; done) | (simp; omega))
        have row_b3WB0 : Row RvLoop 1 WB0 (w.heap.size) b3A b3l := by repeat' (first | with_reducible assumption | (with_reducible refine Row.drew ?_) | (with_reducible refine Row.carry ?_ (by with_reducible assumption) ?_) | (with_reducible refine Row.alloc ?_ ?_ _) | (with_reducible refine Row.setCell ?_ ?_ _) | omega | (simp; done) | (simp; omega))
        have row_b4WB0 : Row RvPart 3 WB0 (w.heap.size) b4A b4l := by repeat' (first | with_reducible assumption | (with_reducible refine Row.drew ?_) | (with_reducible refine Row.carry ?_ (by with_reducible assumption) ?_) | (with_reducible refine Row.alloc ?_ ?_ _) | (with_reducible refine Row.setCell ?_ ?_ _) | omega | (simp; done) | (simp; omega))
        have row_b5WB0 : Row RvAnchor 3 WB0 (w.heap.size) b5A b5l := by repeat' (first | with_reducible assumption | (with_reducible refine Row.drew ?_) | (with_reducible refine Row.carry ?_ (by with_reducible assumption) ?_) | (with_reducible refine Row.alloc ?_ ?_ _) | (with_reducible refine Row.setCell ?_ ?_ _) | omega | (simp; done) | (simp; omega))
        have rx_a3WB0 : Row RvLoop 1 WB0 (wX0.heap.size) gX0_a3A a3l := by repeat' (first | with_reducible assumption | (with_reducible refine Row.drew ?_) | (with_reducible refine Row.carry ?_ (by with_reducible assumption) ?_) | (with_reducible refine Row.alloc ?_ ?_ _) | (with_reducible refine Row.setCell ?_ ?_ _) | omega | (simp; done) | (simp; omega))
        have rx_a4WB0 : Row RvPart 3 WB0 (wX0.heap.size) gX0_a4A a4l := by repeat' (first | with_reducible assumption | (with_reducible refine Row.drew ?_) | (with_reducible refine Row.carry ?_ (by with_reducible assumption) ?_) | (with_reducible refine Row.alloc ?_ ?_ _) | (with_reducible refine Row.setCell ?_ ?_ _) | omega | (simp; done) | (simp; omega))
        have rx_a5WB0 : Row RvAnchor 3 WB0 (wX0.heap.size) gX0_a5A a5l := by repeat' (first | with_reducible assumption | (with_reducible refine Row.drew ?_) | (with_reducible refine Row.carry ?_ (by with_reducible assumption) ?_) | (with_reducible refine Row.alloc ?_ ?_ _) | (with_reducible refine Row.setCell ?_ ?_ _) | omega | (simp; done) | (simp; omega))
        have bp := bwX0.out
        have bn : Below w.heap.size w WB0 := by repeat' (first | with_reducible assumption | with_reducible exact Below.refl _ _ | (with_reducible refine Below.setCell ?_ ?_ _) | (with_reducible refine Below.alloc ?_ ?_ _) | (with_reducible refine Below.drew ?_) | (with_reducible refine below_dr ?_ _) | (with_reducible refine Below.trans ?_ (Below.mono (by with_reducible assumption) ?_)) | omega | (simp; done) | (simp; omega))
        have bWB0 := Lib.hid bn
        clear bn
        clear bp bwX0
        clear hbWB0
        clear bx_awX0
        clear row_a3wX0
        clear row_a4wX0
        clear row_a5wX0
        clear bx_bwX0
        clear row_b3wX0
        clear row_b4wX0
        clear row_b5wX0
        clear rx_a3wX0
        clear rx_a4wX0
        clear rx_a5wX0
        refine (xtoGlyph_any b0 b1 b2 b3A b3c b3l b4A b4c b4l b5A b5c b5l b6 _ (HT_b.out) ?_ ?_ ?_).mono ?_
        · (refine Row.more (B := w.heap.size) ?_ (by first | omega | ((try simp only [World.size_setCell]); (try simp only [World.size_drew]); (try simp only [World.size_alloc]); omega))); repeat' (first | with_reducible assumption | (with_reducible refine Row.drew ?_) | (with_reducible refine Row.carry ?_ (by with_reducible assumption) ?_) | (with_reducible refine Row.alloc ?_ ?_ _) | (with_reducible refine Row.setCell ?_ ?_ _) | omega | (simp; done) | (simp; omega))
        · (refine Row.more (B := w.heap.size) ?_ (by first | omega | ((try simp only [World.size_setCell]); (try simp only [World.size_drew]); (try simp only [World.size_alloc]); omega))); repeat' (first | with_reducible assumption | (with_reducible refine Row.drew ?_) | (with_reducible refine Row.carry ?_ (by with_reducible assumption) ?_) | (with_reducible refine Row.alloc ?_ ?_ _) | (with_reducible refine Row.setCell ?_ ?_ _) | omega | (simp; done) | (simp; omega))
        · (refine Row.more (B := w.heap.size) ?_ (by first | omega | ((try simp only [World.size_setCell]); (try simp only [World.size_drew]); (try simp only [World.size_alloc]); omega))); repeat' (first | with_reducible assumption | (with_reducible refine Row.drew ?_) | (with_reducible refine Row.carry ?_ (by with_reducible assumption) ?_) | (with_reducible refine Row.alloc ?_ ?_ _) | (with_reducible refine Row.setCell ?_ ?_ _) | omega | (simp; done) | (simp; omega))
        intro e wX1 hq
        obtain ⟨gX1_b3A, gX1_b3c, gX1_b4A, gX1_b4c, gX1_b5A, gX1_b5c, rfl, owX_b3, owX_b4, owX_b5, hbwX1⟩ := hq
        have zwX1 := hbwX1.size
        (try simp only [World.size_setCell] at zwX1)
        (try simp only [World.size_drew] at zwX1)
        (try simp only [World.size_alloc] at zwX1)
        have qwX1 : w.heap.size ≤ wX1.heap.size := by omega
        have bx_awX1 : AtL (w.heap.size) [.string a0, .int .i64 a1, .int .i64 a2, .slice a3A a3l.length a3c, .slice a4A a4l.length a4c, .slice a5A a5l.length a5c, .string a6] wX1 := by repeat' (first | with_reducible assumption | with_reducible exact AtL.new _ _ _ | ((with_reducible refine AtL.newAt ?_); (first | rfl | (simp; done))) | (with_reducible refine AtL.drew ?_) | (with_reducible refine AtL.below ?_ (by with_reducible assumption)) | (with_reducible refine AtL.alloc ?_ _) | (with_reducible refine AtL.far ?_ ?_ _ _) | omega | (simp; done) | (simp; omega))
        have row_a3wX1 : Row RvLoop 1 wX1 (w.heap.size) a3A a3l := by repeat' (first | with_reducible assumption | (with_reducible refine Row.drew ?_) | (with_reducible refine Row.carry ?_ (by with_reducible assumption) ?_) | (with_reducible refine Row.alloc ?_ ?_ _) | (with_reducible refine Row.setCell ?_ ?_ _) | omega | (simp; done) | (simp; omega))
        have row_a4wX1 : Row RvPart 3 wX1 (w.heap.size) a4A a4l := by repeat' (first | with_reducible assumption | (with_reducible refine Row.drew ?_) | (with_reducible refine Row.carry ?_ (by with_reducible assumption) ?_) | (with_reducible refine Row.alloc ?_ ?_ _) | (with_reducible refine Row.setCell ?_ ?_ _) | omega | (simp; done) | (simp; omega))
        have row_a5wX1 : Row RvAnchor 3 wX1 (w.heap.size) a5A a5l := by repeat' (first | with_reducible assumption | (with_reducible refine Row.drew ?_) | (with_reducible refine Row.carry ?_ (by with_reducible assumption) ?_) | (with_reducible refine Row.alloc ?_ ?_ _) | (with_reducible refine Row.setCell ?_ ?_ _) | omega | (simp; done) | (simp; omega))
        have bx_bwX1 : AtL (w.heap.size + 1) [.string b0, .int .i64 b1, .int .i64 b2, .slice b3A b3l.length b3c, .slice b4A b4l.length b4c, .slice b5A b5l.length b5c, .string b6] wX1 := by repeat' (first | with_reducible assumption | with_reducible exact AtL.new _ _ _ | ((with_reducible refine AtL.newAt ?_); (first | rfl | (simp; done))) | (with_reducible refine AtL.drew ?_) | (with_reducible refine AtL.below ?_ (by with_reducible assumption)) | (with_reducible refine AtL.alloc ?_ _) | (with_reducible refine AtL.far ?_ ?_ _ _) | omega | (simp; done) | (simp; omega))
        have row_b3wX1 : Row RvLoop 1 wX1 (w.heap.size) b3A b3l := by repeat' (first | with_reducible assumption | (with_reducible refine Row.drew ?_) | (with_reducible refine Row.carry ?_ (by with_reducible assumption) ?_) | (with_reducible refine Row.alloc ?_ ?_ _) | (with_reducible refine Row.setCell ?_ ?_ _) | omega | (simp; done) | (simp; omega))
        have row_b4wX1 : Row RvPart 3 wX1 (w.heap.size) b4A b4l := by repeat' (first | with_reducible assumption | (with_reducible refine Row.drew ?_) | (with_reducible refine Row.carry ?_ (by with_reducible assumption) ?_) | (with_reducible refine Row.alloc ?_ ?_ _) | (with_reducible refine Row.setCell ?_ ?_ _) | omega | (simp; done) | (simp; omega))
        have row_b5wX1 : Row RvAnchor 3 wX1 (w.heap.size) b5A b5l := by repeat' (first | with_reducible assumption | (with_reducible refine Row.drew ?_) | (with_reducible refine Row.carry ?_ (by with_reducible assumption) ?_) | (with_reducible refine Row.alloc ?_ ?_ _) | (with_reducible refine Row.setCell ?_ ?_ _) | omega | (simp; done) | (simp; omega))
        have rx_a3wX1 : Row RvLoop 1 wX1 (wX0.heap.size) gX0_a3A a3l := by repeat' (first | with_reducible assumption | (with_reducible refine Row.drew ?_) | (with_reducible refine Row.carry ?_ (by with_reducible assumption) ?_) | (with_reducible refine Row.alloc ?_ ?_ _) | (with_reducible refine Row.setCell ?_ ?_ _) | omega | (simp; done) | (simp; omega))
        have rx_a4wX1 : Row RvPart 3 wX1 (wX0.heap.size) gX0_a4A a4l := by repeat' (first | with_reducible assumption | (with_reducible refine Row.drew ?_) | (with_reducible refine Row.carry ?_ (by with_reducible assumption) ?_) | (with_reducible refine Row.alloc ?_ ?_ _) | (with_reducible refine Row.setCell ?_ ?_ _) | omega | (simp; done) | (simp; omega))
        have rx_a5wX1 : Row RvAnchor 3 wX1 (wX0.heap.size) gX0_a5A a5l := by repeat' (first | with_reducible assumption | (with_reducible refine Row.drew ?_) | (with_reducible refine Row.carry ?_ (by with_reducible assumption) ?_) | (with_reducible refine Row.alloc ?_ ?_ _) | (with_reducible refine Row.setCell ?_ ?_ _) | omega | (simp; done) | (simp; omega))
        have at_awX1 : AtL (wX0.heap.size) [.string a0, .int .i64 a1, .int .i64 a2, .slice gX0_a3A a3l.length gX0_a3c, .slice gX0_a4A a4l.length gX0_a4c, .slice gX0_a5A a5l.length gX0_a5c, .string a6] wX1 := by repeat' (first | with_reducible assumption | with_reducible exact AtL.new _ _ _ | ((with_reducible refine AtL.newAt ?_); (first | rfl | (simp; done))) | (with_reducible refine AtL.drew ?_) | (with_reducible refine AtL.below ?_ (by with_reducible assumption)) | (with_reducible refine AtL.alloc ?_ _) | (with_reducible refine AtL.far ?_ ?_ _ _) | omega | (simp; done) | (simp; omega))
        have bp := bWB0.out
        have bn : Below w.heap.size w wX1 := by repeat' (first | with_reducible assumption | with_reducible exact Below.refl _ _ | (with_reducible refine Below.setCell ?_ ?_ _) | (with_reducible refine Below.alloc ?_ ?_ _) | (with_reducible refine Below.drew ?_) | (with_reducible refine below_dr ?_ _) | (with_reducible refine Below.trans ?_ (Below.mono (by with_reducible assumption) ?_)) | omega | (simp; done) | (simp; omega))
        have bwX1 := Lib.hid bn
        clear bn
        clear bp bWB0
        clear hbwX1
        clear bx_aWB0
        clear row_a3WB0
        clear row_a4WB0
        clear row_a5WB0
        clear bx_bWB0
        clear row_b3WB0
        clear row_b4WB0
        clear row_b5WB0
        clear rx_a3WB0
        clear rx_a4WB0
        clear rx_a5WB0
        clear at_aWB0
        have rx_b3wX1 : Row RvLoop 1 wX1 (wX1.heap.size) gX1_b3A b3l := owX_b3.here
        clear owX_b3
        have rx_b4wX1 : Row RvPart 3 wX1 (wX1.heap.size) gX1_b4A b4l := owX_b4.here
        clear owX_b4
        have rx_b5wX1 : Row RvAnchor 3 wX1 (wX1.heap.size) gX1_b5A b5l := owX_b5.here
        clear owX_b5
        have kat_a0 := at_awX1.cell 0 rfl
        have kat_a1 := at_awX1.cell 1 rfl
        have kat_a2 := at_awX1.cell 2 rfl
        have kat_a3 := at_awX1.cell 3 rfl
        have kat_a4 := at_awX1.cell 4 rfl
        have kat_a5 := at_awX1.cell 5 rfl
        have kat_a6 := at_awX1.cell 6 rfl
        have lat_a := at_awX1.lt
        go_wp2_with fail
        clear kat_a0 kat_a1 kat_a2 kat_a3 kat_a4 kat_a5 kat_a6 lat_a
        generalize hWB : wX1.alloc (.cells #[.string b0, .int .i64 b1, .int .i64 b2, .slice gX1_b3A b3l.length gX1_b3c, .slice gX1_b4A b4l.length gX1_b4c, .slice gX1_b5A b5l.length gX1_b5c, .string b6] 37) = WB1
        have hbWB1 : Below wX1.heap.size wX1 WB1 := by rw [← hWB]; repeat' (first | with_reducible assumption | with_reducible exact Below.refl _ _ | (with_reducible refine Below.setCell ?_ ?_ _) | (with_reducible refine Below.alloc ?_ ?_ _) | (with_reducible refine Below.drew ?_) | (with_reducible refine below_dr ?_ _) | (with_reducible refine Below.trans ?_ (Below.mono (by with_reducible assumption) ?_)) | omega | (simp; done) | (simp; omega))
        have at_bWB1 : AtL (wX1.heap.size) [.string b0, .int .i64 b1, .int .i64 b2, .slice gX1_b3A b3l.length gX1_b3c, .slice gX1_b4A b4l.length gX1_b4c, .slice gX1_b5A b5l.length gX1_b5c, .string b6] WB1 := by rw [← hWB]; exact AtL.new _ _ _
        clear hWB
        have zWB1 := hbWB1.size
        (try simp only [World.size_setCell] at zWB1)
        (try simp only [World.size_drew] at zWB1)
        (try simp only [World.size_alloc] at zWB1)
        have qWB1 : w.heap.size ≤ WB1.heap.size := by omega
        have bx_aWB1 : AtL (w.heap.size) [.string a0, .int .i64 a1, .int .i64 a2, .slice a3A a3l.length a3c, .slice a4A a4l.length a4c, .slice a5A a5l.length a5c, .string a6] WB1 := by repeat' (first | with_reducible assumption | with_reducible exact AtL.new _ _ _ | ((with_reducible refine AtL.newAt ?_); (first | rfl | (simp; done))) | (with_reducible refine AtL.drew ?_) | (with_reducible refine AtL.below ?_ (by with_reducible assumption)) | (with_reducible refine AtL.alloc ?_ _) | (with_reducible refine AtL.far ?_ ?_ _ _) | omega | (simp; done) | (simp; omega))
        have row_a3WB1 : Row RvLoop 1 WB1 (w.heap.size) a3A a3l := by repeat' (first | with_reducible assumption | (with_reducible refine Row.drew ?_) | (with_reducible refine Row.carry ?_ (by with_reducible assumption) ?_) | (with_reducible refine Row.alloc ?_ ?_ _) | (with_reducible refine Row.setCell ?_ ?_ _) | omega | (simp; done) | (simp; omega))
        have row_a4WB1 : Row RvPart 3 WB1 (w.heap.size) a4A a4l := by repeat' (first | with_reducible assumption | (with_reducible refine Row.drew ?_) | (with_reducible refine Row.carry ?_ (by with_reducible assumption) ?_) | (with_reducible refine Row.alloc ?_ ?_ _) | (with_reducible refine Row.setCell ?_ ?_ _) | omega | (simp; done) | (simp; omega))
        have row_a5WB1 : Row RvAnchor 3 WB1 (w.heap.size) a5A a5l := by repeat' (first | with_reducible assumption | (with_reducible refine Row.drew ?_) | (with_reducible refine Row.carry ?_ (by with_reducible assumption) ?_) | (with_reducible refine Row.alloc ?_ ?_ _) | (with_reducible refine Row.setCell ?_ ?_ _) | omega | (simp; done) | (simp; omega))
        have bx_bWB1 : AtL (w.heap.size + 1) [.string b0, .int .i64 b1, .int .i64 b2, .slice b3A b3l.length b3c, .slice b4A b4l.length b4c, .slice b5A b5l.length b5c, .string b6] WB1 := by repeat' (first | with_reducible assumption | with_reducible exact AtL.new _ _ _ | ((with_reducible refine AtL.newAt ?_); (first | rfl | (simp; done))) | (with_reducible refine AtL.drew ?_) | (with_reducible refine AtL.below ?_ (by with_reducible assumption)) | (with_reducible refine AtL.alloc ?_ _) | (with_reducible refine AtL.far ?_ ?_ _ _) | omega | (simp; done) | (simp; omega))
        have row_b3WB1 : Row RvLoop 1 WB1 (w.heap.size) b3A b3l := by repeat' (first | with_reducible assumption | (with_reducible refine Row.drew ?_) | (with_reducible refine Row.carry ?_ (by with_reducible assumption) ?_) | (with_reducible refine Row.alloc ?_ ?_ _) | (with_reducible refine Row.setCell ?_ ?_ _) | omega | (simp; done) | (simp; omega))
        have row_b4WB1 : Row RvPart 3 WB1 (w.heap.size) b4A b4l := by repeat' (first | with_reducible assumption | (with_reducible refine Row.drew ?_) | (with_reducible refine Row.carry ?_ (by with_reducible assumption) ?_) | (with_reducible refine Row.alloc ?_ ?_ _) | (with_reducible refine Row.setCell ?_ ?_ _) | omega | (simp; done) | (simp; omega))
        have row_b5WB1 : Row RvAnchor 3 WB1 (w.heap.size) b5A b5l := by repeat' (first | with_reducible assumption | (with_reducible refine Row.drew ?_) | (with_reducible refine Row.carry ?_ (by with_reducible assumption) ?_) | (with_reducible refine Row.alloc ?_ ?_ _) | (with_reducible refine Row.setCell ?_ ?_ _) | omega | (simp; done) | (simp; omega))
        have rx_a3WB1 : Row RvLoop 1 WB1 (wX0.heap.size) gX0_a3A a3l := by repeat' (first | with_reducible assumption | (with_reducible refine Row.drew ?_) | (with_reducible refine Row.carry ?_ (by with_reducible assumption) ?_) | (with_reducible refine Row.alloc ?_ ?_ _) | (with_reducible refine Row.setCell ?_ ?_ _) | omega | (simp; done) | (simp; omega))
        have rx_a4WB1 : Row RvPart 3 WB1 (wX0.heap.size) gX0_a4A a4l := by repeat' (first | with_reducible assumption | (with_reducible refine Row.drew ?_) | (with_reducible refine Row.carry ?_ (by with_reducible assumption) ?_) | (with_reducible refine Row.alloc ?_ ?_ _) | (with_reducible refine Row.setCell ?_ ?_ _) | omega | (simp; done) | (simp; omega))
        have rx_a5WB1 : Row RvAnchor 3 WB1 (wX0.heap.size) gX0_a5A a5l := by repeat' (first | with_reducible assumption | (with_reducible refine Row.drew ?_) | (with_reducible refine Row.carry ?_ (by with_reducible assumption) ?_) | (with_reducible refine Row.alloc ?_ ?_ _) | (with_reducible refine Row.setCell ?_ ?_ _) | omega | (simp; done) | (simp; omega))
        have at_aWB1 : AtL (wX0.heap.size) [.string a0, .int .i64 a1, .int .i64 a2, .slice gX0_a3A a3l.length gX0_a3c, .slice gX0_a4A a4l.length gX0_a4c, .slice gX0_a5A a5l.length gX0_a5c, .string a6] WB1 := by repeat' (first | with_reducible assumption | with_reducible exact AtL.new _ _ _ | ((with_reducible refine AtL.newAt ?_); (first | rfl | (simp; done))) | (with_reducible refine AtL.drew ?_) | (with_reducible refine AtL.below ?_ (by with_reducible assumption)) | (with_reducible refine AtL.alloc ?_ _) | (with_reducible refine AtL.far ?_ ?_ _ _) | omega | (simp; done) | (simp; omega))
        have rx_b3WB1 : Row RvLoop 1 WB1 (wX1.heap.size) gX1_b3A b3l := by repeat' (first | with_reducible assumption | (with_reducible refine Row.drew ?_) | (with_reducible refine Row.carry ?_ (by with_reducible assumption) ?_) | (with_reducible refine Row.alloc ?_ ?_ _) | (with_reducible refine Row.setCell ?_ ?_ _) | omega | (simp; done) | (simp; omega))
        have rx_b4WB1 : Row RvPart 3 WB1 (wX1.heap.size) gX1_b4A b4l := by repeat' (first | with_reducible assumption | (with_reducible refine Row.drew ?_) | (with_reducible refine Row.carry ?_ (by with_reducible assumption) ?_) | (with_reducible refine Row.alloc ?_ ?_ _) | (with_reducible refine Row.setCell ?_ ?_ _) | omega | (simp; done) | (simp; omega))
        have rx_b5WB1 : Row RvAnchor 3 WB1 (wX1.heap.size) gX1_b5A b5l := by repeat' (first | with_reducible assumption | (with_reducible refine Row.drew ?_) | (with_reducible refine Row.carry ?_ (by with_reducible assumption) ?_) | (with_reducible refine Row.alloc ?_ ?_ _) | (with_reducible refine Row.setCell ?_ ?_ _) | omega | (simp; done) | (simp; omega))
        have bp := bwX1.out
        have bn : Below w.heap.size w WB1 := by repeat' (first | with_reducible assumption | with_reducible exact Below.refl _ _ | (with_reducible refine Below.setCell ?_ ?_ _) | (with_reducible refine Below.alloc ?_ ?_ _) | (with_reducible refine Below.drew ?_) | (with_reducible refine below_dr ?_ _) | (with_reducible refine Below.trans ?_ (Below.mono (by with_reducible assumption) ?_)) | omega | (simp; done) | (simp; omega))
        have bWB1 := Lib.hid bn
        clear bn
        clear bp bwX1
        clear hbWB1
        clear bx_awX1
        clear row_a3wX1
        clear row_a4wX1
        clear row_a5wX1
        clear bx_bwX1
        clear row_b3wX1
        clear row_b4wX1
        clear row_b5wX1
        clear rx_a3wX1
        clear rx_a4wX1
        clear rx_a5wX1
        clear at_awX1
        clear rx_b3wX1
        clear rx_b4wX1
        clear rx_b5wX1
        refine (C2.out HT_a.out HT_b.out gX0_a3A gX0_a3c gX0_a4A gX0_a4c gX0_a5A gX0_a5c gX1_b3A gX1_b3c gX1_b4A gX1_b4c gX1_b5A gX1_b5c _ ?_ ?_ ?_ ?_ ?_ ?_).mono ?_
        · (refine Row.more (B := wX0.heap.size) ?_ (by first | omega | ((try simp only [World.size_setCell]); (try simp only [World.size_drew]); (try simp only [World.size_alloc]); omega))); repeat' (first | with_reducible assumption | (with_reducible refine Row.drew ?_) | (with_reducible refine Row.carry ?_ (by with_reducible assumption) ?_) | (with_reducible refine Row.alloc ?_ ?_ _) | (with_reducible refine Row.setCell ?_ ?_ _) | omega | (simp; done) | (simp; omega))
        · (refine Row.more (B := wX0.heap.size) ?_ (by first | omega | ((try simp only [World.size_setCell]); (try simp only [World.size_drew]); (try simp only [World.size_alloc]); omega))); repeat' (first | with_reducible assumption | (with_reducible refine Row.drew ?_) | (with_reducible refine Row.carry ?_ (by with_reducible assumption) ?_) | (with_reducible refine Row.alloc ?_ ?_ _) | (with_reducible refine Row.setCell ?_ ?_ _) | omega | (simp; done) | (simp; omega))
        · (refine Row.more (B := wX0.heap.size) ?_ (by first | omega | ((try simp only [World.size_setCell]); (try simp only [World.size_drew]); (try simp only [World.size_alloc]); omega))); repeat' (first | with_reducible assumption | (with_reducible refine Row.drew ?_) | (with_reducible refine Row.carry ?_ (by with_reducible assumption) ?_) | (with_reducible refine Row.alloc ?_ ?_ _) | (with_reducible refine Row.setCell ?_ ?_ _) | omega | (simp; done) | (simp; omega))
        · (refine Row.more (B := wX1.heap.size) ?_ (by first | omega | ((try simp only [World.size_setCell]); (try simp only [World.size_drew]); (try simp only [World.size_alloc]); omega))); repeat' (first | with_reducible assumption | (with_reducible refine Row.drew ?_) | (with_reducible refine Row.carry ?_ (by with_reducible assumption) ?_) | (with_reducible refine Row.alloc ?_ ?_ _) | (with_reducible refine Row.setCell ?_ ?_ _) | omega | (simp; done) | (simp; omega))
        · (refine Row.more (B := wX1.heap.size) ?_ (by first | omega | ((try simp only [World.size_setCell]); (try simp only [World.size_drew]); (try simp only [World.size_alloc]); omega))); repeat' (first | with_reducible assumption | (with_reducible refine Row.drew ?_) | (with_reducible refine Row.carry ?_ (by with_reducible assumption) ?_) | (with_reducible refine Row.alloc ?_ ?_ _) | (with_reducible refine Row.setCell ?_ ?_ _) | omega | (simp; done) | (simp; omega))
        · (refine Row.more (B := wX1.heap.size) ?_ (by first | omega | ((try simp only [World.size_setCell]); (try simp only [World.size_drew]); (try simp only [World.size_alloc]); omega))); repeat' (first | with_reducible assumption | (with_reducible refine Row.drew ?_) | (with_reducible refine Row.carry ?_ (by with_reducible assumption) ?_) | (with_reducible refine Row.alloc ?_ ?_ _) | (with_reducible refine Row.setCell ?_ ?_ _) | omega | (simp; done) | (simp; omega))
        rintro e wI ⟨rfl, hbwI⟩
        have zwI := hbwI.size
        (try simp only [World.size_setCell] at zwI)
        (try simp only [World.size_drew] at zwI)
        (try simp only [World.size_alloc] at zwI)
        have qwI : w.heap.size ≤ wI.heap.size := by omega
        have bx_awI : AtL (w.heap.size) [.string a0, .int .i64 a1, .int .i64 a2, .slice a3A a3l.length a3c, .slice a4A a4l.length a4c, .slice a5A a5l.length a5c, .string a6] wI := by repeat' (first | with_reducible assumption | with_reducible exact AtL.new _ _ _ | ((with_reducible refine AtL.newAt ?_); (first | rfl | (simp; done))) | (with_reducible refine AtL.drew ?_) | (with_reducible refine AtL.below ?_ (by with_reducible assumption)) | (with_reducible refine AtL.alloc ?_ _) | (with_reducible refine AtL.far ?_ ?_ _ _) | omega | (simp; done) | (simp; omega))
        have row_a3wI : Row RvLoop 1 wI (w.heap.size) a3A a3l := by repeat' (first | with_reducible assumption | (with_reducible refine Row.drew ?_) | (with_reducible refine Row.carry ?_ (by with_reducible assumption) ?_) | (with_reducible refine Row.alloc ?_ ?_ _) | (with_reducible refine Row.setCell ?_ ?_ _) | omega | (simp; done) | (simp; omega))
        have row_a4wI : Row RvPart 3 wI (w.heap.size) a4A a4l := by repeat' (first | with_reducible assumption | (with_reducible refine Row.drew ?_) | (with_reducible refine Row.carry ?_ (by with_reducible assumption) ?_) | (with_reducible refine Row.alloc ?_ ?_ _) | (with_reducible refine Row.setCell ?_ ?_ _) | omega | (simp; done) | (simp; omega))
        have row_a5wI : Row RvAnchor 3 wI (w.heap.size) a5A a5l := by repeat' (first | with_reducible assumption | (with_reducible refine Row.drew ?_) | (with_reducible refine Row.carry ?_ (by with_reducible assumption) ?_) | (with_reducible refine Row.alloc ?_ ?_ _) | (with_reducible refine Row.setCell ?_ ?_ _) | omega | (simp; done) | (simp; omega))
        have bx_bwI : AtL (w.heap.size + 1) [.string b0, .int .i64 b1, .int .i64 b2, .slice b3A b3l.length b3c, .slice b4A b4l.length b4c, .slice b5A b5l.length b5c, .string b6] wI := by repeat' (first | with_reducible assumption | with_reducible exact AtL.new _ _ _ | ((with_reducible refine AtL.newAt ?_); (first | rfl | (simp; done))) | (with_reducible refine AtL.drew ?_) | (with_reducible refine AtL.below ?_ (by with_reducible assumption)) | (with_reducible refine AtL.alloc ?_ _) | (with_reducible refine AtL.far ?_ ?_ _ _) | omega | (simp; done) | (simp; omega))
        have row_b3wI : Row RvLoop 1 wI (w.heap.size) b3A b3l := by repeat' (first | with_reducible assumption | (with_reducible refine Row.drew ?_) | (with_reducible refine Row.carry ?_ (by with_reducible assumption) ?_) | (with_reducible refine Row.alloc ?_ ?_ _) | (with_reducible refine Row.setCell ?_ ?_ _) | omega | (simp; done) | (simp; omega))
        have row_b4wI : Row RvPart 3 wI (w.heap.size) b4A b4l := by repeat' (first | with_reducible assumption | (with_reducible refine Row.drew ?_) | (with_reducible refine Row.carry ?_ (by with_reducible assumption) ?_) | (with_reducible refine Row.alloc ?_ ?_ _) | (with_reducible refine Row.setCell ?_ ?_ _) | omega | (simp; done) | (simp; omega))
        have row_b5wI : Row RvAnchor 3 wI (w.heap.size) b5A b5l := by repeat' (first | with_reducible assumption | (with_reducible refine Row.drew ?_) | (with_reducible refine Row.carry ?_ (by with_reducible assumption) ?_) | (with_reducible refine Row.alloc ?_ ?_ _) | (with_reducible refine Row.setCell ?_ ?_ _) | omega | (simp; done) | (simp; omega))
        have rx_a3wI : Row RvLoop 1 wI (wX0.heap.size) gX0_a3A a3l := by repeat' (first | with_reducible assumption | (with_reducible refine Row.drew ?_) | (with_reducible refine Row.carry ?_ (by with_reducible assumption) ?_) | (with_reducible refine Row.alloc ?_ ?_ _) | (with_reducible refine Row.setCell ?_ ?_ _) | omega | (simp; done) | (simp; omega))
        have rx_a4wI : Row RvPart 3 wI (wX0.heap.size) gX0_a4A a4l := by repeat' (first | with_reducible assumption | (with_reducible refine Row.drew ?_) | (with_reducible refine Row.carry ?_ (by with_reducible assumption) ?_) | (with_reducible refine Row.alloc ?_ ?_ _) | (with_reducible refine Row.setCell ?_ ?_ _) | omega | (simp; done) | (simp; omega))
        have rx_a5wI : Row RvAnchor 3 wI (wX0.heap.size) gX0_a5A a5l := by repeat' (first | with_reducible assumption | (with_reducible refine Row.drew ?_) | (with_reducible refine Row.carry ?_ (by with_reducible assumption) ?_) | (with_reducible refine Row.alloc ?_ ?_ _) | (with_reducible refine Row.setCell ?_ ?_ _) | omega | (simp; done) | (simp; omega))
        have at_awI : AtL (wX0.heap.size) [.string a0, .int .i64 a1, .int .i64 a2, .slice gX0_a3A a3l.length gX0_a3c, .slice gX0_a4A a4l.length gX0_a4c, .slice gX0_a5A a5l.length gX0_a5c, .string a6] wI := by repeat' (first | with_reducible assumption | with_reducible exact AtL.new _ _ _ | ((with_reducible refine AtL.newAt ?_); (first | rfl | (simp; done))) | (with_reducible refine AtL.drew ?_) | (with_reducible refine AtL.below ?_ (by with_reducible assumption)) | (with_reducible refine AtL.alloc ?_ _) | (with_reducible refine AtL.far ?_ ?_ _ _) | omega | (simp; done) | (simp; omega))
        have rx_b3wI : Row RvLoop 1 wI (wX1.heap.size) gX1_b3A b3l := by repeat' (first | with_reducible assumption | (with_reducible refine Row.drew ?_) | (with_reducible refine Row.carry ?_ (by with_reducible assumption) ?_) | (with_reducible refine Row.alloc ?_ ?_ _) | (with_reducible refine Row.setCell ?_ ?_ _) | omega | (simp; done) | (simp; omega))
        have rx_b4wI : Row RvPart 3 wI (wX1.heap.size) gX1_b4A b4l := by repeat' (first | with_reducible assumption | (with_reducible refine Row.drew ?_) | (with_reducible refine Row.carry ?_ (by with_reducible assumption) ?_) | (with_reducible refine Row.alloc ?_ ?_ _) | (with_reducible refine Row.setCell ?_ ?_ _) | omega | (simp; done) | (simp; omega))
        have rx_b5wI : Row RvAnchor 3 wI (wX1.heap.size) gX1_b5A b5l := by repeat' (first | with_reducible assumption | (with_reducible refine Row.drew ?_) | (with_reducible refine Row.carry ?_ (by with_reducible assumption) ?_) | (with_reducible refine Row.alloc ?_ ?_ _) | (with_reducible refine Row.setCell ?_ ?_ _) | omega | (simp; done) | (simp; omega))
        have at_bwI : AtL (wX1.heap.size) [.string b0, .int .i64 b1, .int .i64 b2, .slice gX1_b3A b3l.length gX1_b3c, .slice gX1_b4A b4l.length gX1_b4c, .slice gX1_b5A b5l.length gX1_b5c, .string b6] wI := by repeat' (first | with_reducible assumption | with_reducible exact AtL.new _ _ _ | ((with_reducible refine AtL.newAt ?_); (first | rfl | (simp; done))) | (with_reducible refine AtL.drew ?_) | (with_reducible refine AtL.below ?_ (by with_reducible assumption)) | (with_reducible refine AtL.alloc ?_ _) | (with_reducible refine AtL.far ?_ ?_ _ _) | omega | (simp; done) | (simp; omega))
        have bp := bWB1.out
        have bn : Below w.heap.size w wI := by repeat' (first | with_reducible assumption | with_reducible exact Below.refl _ _ | (with_reducible refine Below.setCell ?_ ?_ _) | (with_reducible refine Below.alloc ?_ ?_ _) | (with_reducible refine Below.drew ?_) | (with_reducible refine below_dr ?_ _) | (with_reducible refine Below.trans ?_ (Below.mono (by with_reducible assumption) ?_)) | omega | (simp; done) | (simp; omega))
        have bwI := Lib.hid bn
        clear bn
        clear bp bWB1
        clear hbwI
        clear bx_aWB1
        clear row_a3WB1
        clear row_a4WB1
        clear row_a5WB1
        clear bx_bWB1
        clear row_b3WB1
        clear row_b4WB1
        clear row_b5WB1
        clear rx_a3WB1
        clear rx_a4WB1
        clear rx_a5WB1
        clear at_aWB1
        clear rx_b3WB1
        clear rx_b4WB1
        clear rx_b5WB1
        clear at_bWB1
        have kat_a0 := at_awI.cell 0 rfl
        have kat_a1 := at_awI.cell 1 rfl
        have kat_a2 := at_awI.cell 2 rfl
        have kat_a3 := at_awI.cell 3 rfl
        have kat_a4 := at_awI.cell 4 rfl
        have kat_a5 := at_awI.cell 5 rfl
        have kat_a6 := at_awI.cell 6 rfl
        have lat_a := at_awI.lt
        have kbx_a0 := bx_awI.cell 0 rfl
        have kbx_a1 := bx_awI.cell 1 rfl
        have kbx_a2 := bx_awI.cell 2 rfl
        have kbx_a3 := bx_awI.cell 3 rfl
        have kbx_a4 := bx_awI.cell 4 rfl
        have kbx_a5 := bx_awI.cell 5 rfl
        have kbx_a6 := bx_awI.cell 6 rfl
        have lbx_a := bx_awI.lt
        go_wp2_with fail
        go_region_held3 (fun w' => (∀ b o, b < wI.heap.size → w'.cell? ⟨b, o, none⟩ = wI.cell? ⟨b, o, none⟩) ∧ wI.heap.size ≤ w'.heap.size)
          (first | ((try dsimp only); exact ⟨fun b o h => (by (repeat (first | with_reducible exact rfl | (with_reducible refine (cell_drew_at _ _).trans ?_) | (with_reducible refine (cell_set_at _ _ (by first | omega | (simp; done) | (simp; omega))).trans ?_) | (with_reducible refine (cell_alloc_at _ _ (by first | omega | (simp; done) | (simp; omega))).trans ?_) | (with_reducible refine (hcwT0 b o (by first | omega | (simp; done) | (simp; omega))).trans ?_) | (with_reducible refine (hcwE0 b o (by first | omega | (simp; done) | (simp; omega))).trans ?_)))), (by first | omega | (simp; done) | (simp; omega))⟩) | fail)
          (first
            | (go_at_call 15; (with_reducible refine (xtoGlyph_any a0 a1 a2 a3A a3c a3l a4A a4c a4l a5A a5c a5l a6 _ (HT_a.out) ?_ ?_ ?_).mono ?_); (focus ((refine Row.more (B := w.heap.size) ?_ (by first | omega | ((try simp only [World.size_setCell]); (try simp only [World.size_drew]); (try simp only [World.size_alloc]); omega))); repeat' (first | with_reducible assumption | (with_reducible refine Row.drew ?_) | (with_reducible refine Row.carry ?_ (by with_reducible assumption) ?_) | (with_reducible refine Row.alloc ?_ ?_ _) | (with_reducible refine Row.setCell ?_ ?_ _) | omega | (simp; done) | (simp; omega)))); (focus ((refine Row.more (B := w.heap.size) ?_ (by first | omega | ((try simp only [World.size_setCell]); (try simp only [World.size_drew]); (try simp only [World.size_alloc]); omega))); repeat' (first | with_reducible assumption | (with_reducible refine Row.drew ?_) | (with_reducible refine Row.carry ?_ (by with_reducible assumption) ?_) | (with_reducible refine Row.alloc ?_ ?_ _) | (with_reducible refine Row.setCell ?_ ?_ _) | omega | (simp; done) | (simp; omega)))); (focus ((refine Row.more (B := w.heap.size) ?_ (by first | omega | ((try simp only [World.size_setCell]); (try simp only [World.size_drew]); (try simp only [World.size_alloc]); omega))); repeat' (first | with_reducible assumption | (with_reducible refine Row.drew ?_) | (with_reducible refine Row.carry ?_ (by with_reducible assumption) ?_) | (with_reducible refine Row.alloc ?_ ?_ _) | (with_reducible refine Row.setCell ?_ ?_ _) | omega | (simp; done) | (simp; omega)))); intro e wT0 hq; obtain ⟨owE_a3A, owE_a3c, owE_a4A, owE_a4c, owE_a5A, owE_a5c, rfl, owE_a3, owE_a4, owE_a5, hbwT0⟩ := hq; obtain ⟨hcwT0, hfwT0⟩ := bcell hbwT0; have hzwT0 := hbwT0.size; (try simp only [World.size_drew] at hcwT0 hfwT0 hzwT0); (try simp only [World.size_alloc] at hcwT0 hfwT0 hzwT0))
            | (go_at_call 17; (with_reducible refine (xeqGlyph_any a0 a1 a2 gX0_a3A gX0_a3c a3l gX0_a4A gX0_a4c a4l gX0_a5A gX0_a5c a5l a6 owE_a3A owE_a3c owE_a4A owE_a4c owE_a5A owE_a5c _ (Nat.le_trans HT_a.out (by omega)) ?_ ?_ ?_ ?_ ?_ ?_).mono ?_); (focus ((refine Row.more (B := wX0.heap.size) ?_ (by first | omega | ((try simp only [World.size_setCell]); (try simp only [World.size_drew]); (try simp only [World.size_alloc]); omega))); repeat' (first | with_reducible assumption | (with_reducible refine Row.drew ?_) | (with_reducible refine Row.carry ?_ (by with_reducible assumption) ?_) | (with_reducible refine Row.alloc ?_ ?_ _) | (with_reducible refine Row.setCell ?_ ?_ _) | omega | (simp; done) | (simp; omega)))); (focus ((refine Row.more (B := wX0.heap.size) ?_ (by first | omega | ((try simp only [World.size_setCell]); (try simp only [World.size_drew]); (try simp only [World.size_alloc]); omega))); repeat' (first | with_reducible assumption | (with_reducible refine Row.drew ?_) | (with_reducible refine Row.carry ?_ (by with_reducible assumption) ?_) | (with_reducible refine Row.alloc ?_ ?_ _) | (with_reducible refine Row.setCell ?_ ?_ _) | omega | (simp; done) | (simp; omega)))); (focus ((refine Row.more (B := wX0.heap.size) ?_ (by first | omega | ((try simp only [World.size_setCell]); (try simp only [World.size_drew]); (try simp only [World.size_alloc]); omega))); repeat' (first | with_reducible assumption | (with_reducible refine Row.drew ?_) | (with_reducible refine Row.carry ?_ (by with_reducible assumption) ?_) | (with_reducible refine Row.alloc ?_ ?_ _) | (with_reducible refine Row.setCell ?_ ?_ _) | omega | (simp; done) | (simp; omega)))); (focus (first | exact owE_a3.here | exact (RowIn.here owE_a3).drew)); (focus (first | exact owE_a4.here | exact (RowIn.here owE_a4).drew)); (focus (first | exact owE_a5.here | exact (RowIn.here owE_a5).drew)); rintro e wE0 ⟨rfl, hbwE0⟩; obtain ⟨hcwE0, hfwE0⟩ := bcell hbwE0; have hzwE0 := hbwE0.size; (try simp only [World.size_drew] at hcwE0 hfwE0 hzwE0); (try simp only [World.size_alloc] at hcwE0 hfwE0 hzwE0)))
        clear kat_a0 kat_a1 kat_a2 kat_a3 kat_a4 kat_a5 kat_a6 lat_a
        clear kbx_a0 kbx_a1 kbx_a2 kbx_a3 kbx_a4 kbx_a5 kbx_a6 lbx_a
        all_goals
          have zwE0 := hbwE0.size
          (try simp only [World.size_setCell] at zwE0)
          (try simp only [World.size_drew] at zwE0)
          (try simp only [World.size_alloc] at zwE0)
          have qwE0 : w.heap.size ≤ wE0.heap.size := by omega
          have bx_awE0 : AtL (w.heap.size) [.string a0, .int .i64 a1, .int .i64 a2, .slice a3A a3l.length a3c, .slice a4A a4l.length a4c, .slice a5A a5l.length a5c, .string a6] wE0 := by repeat' (first | with_reducible assumption | with_reducible exact AtL.new _ _ _ | ((with_reducible refine AtL.newAt ?_); (first | rfl | (simp; done))) | (with_reducible refine AtL.drew ?_) | (with_reducible refine AtL.below ?_ (by with_reducible assumption)) | (with_reducible refine AtL.alloc ?_ _) | (with_reducible refine AtL.far ?_ ?_ _ _) | omega | (simp; done) | (simp; omega))
          have row_a3wE0 : Row RvLoop 1 wE0 (w.heap.size) a3A a3l := by repeat' (first | with_reducible assumption | (with_reducible refine Row.drew ?_) | (with_reducible refine Row.carry ?_ (by with_reducible assumption) ?_) | (with_reducible refine Row.alloc ?_ ?_ _) | (with_reducible refine Row.setCell ?_ ?_ _) | omega | (simp; done) | (simp; omega))
          have row_a4wE0 : Row RvPart 3 wE0 (w.heap.size) a4A a4l := by repeat' (first | with_reducible assumption | (with_reducible refine Row.drew ?_) | (with_reducible refine Row.carry ?_ (by with_reducible assumption) ?_) | (with_reducible refine Row.alloc ?_ ?_ _) | (with_reducible refine Row.setCell ?_ ?_ _) | omega | (simp; done) | (simp; omega))
          have row_a5wE0 : Row RvAnchor 3 wE0 (w.heap.size) a5A a5l := by repeat' (first | with_reducible assumption | (with_reducible refine Row.drew ?_) | (with_reducible refine Row.carry ?_ (by with_reducible assumption) ?_) | (with_reducible refine Row.alloc ?_ ?_ _) | (with_reducible refine Row.setCell ?_ ?_ _) | omega | (simp; done) | (simp; omega))
          have bx_bwE0 : AtL (w.heap.size + 1) [.string b0, .int .i64 b1, .int .i64 b2, .slice b3A b3l.length b3c, .slice b4A b4l.length b4c, .slice b5A b5l.length b5c, .string b6] wE0 := by repeat' (first | with_reducible assumption | with_reducible exact AtL.new _ _ _ | ((with_reducible refine AtL.newAt ?_); (first | rfl | (simp; done))) | (with_reducible refine AtL.drew ?_) | (with_reducible refine AtL.below ?_ (by with_reducible assumption)) | (with_reducible refine AtL.alloc ?_ _) | (with_reducible refine AtL.far ?_ ?_ _ _) | omega | (simp; done) | (simp; omega))
          have row_b3wE0 : Row RvLoop 1 wE0 (w.heap.size) b3A b3l := by repeat' (first | with_reducible assumption | (with_reducible refine Row.drew ?_) | (with_reducible refine Row.carry ?_ (by with_reducible assumption) ?_) | (with_reducible refine Row.alloc ?_ ?_ _) | (with_reducible refine Row.setCell ?_ ?_ _) | omega | (simp; done) | (simp; omega))
          have row_b4wE0 : Row RvPart 3 wE0 (w.heap.size) b4A b4l := by repeat' (first | with_reducible assumption | (with_reducible refine Row.drew ?_) | (with_reducible refine Row.carry ?_ (by with_reducible assumption) ?_) | (with_reducible refine Row.alloc ?_ ?_ _) | (with_reducible refine Row.setCell ?_ ?_ _) | omega | (simp; done) | (simp; omega))
          have row_b5wE0 : Row RvAnchor 3 wE0 (w.heap.size) b5A b5l := by repeat' (first | with_reducible assumption | (with_reducible refine Row.drew ?_) | (with_reducible refine Row.carry ?_ (by with_reducible assumption) ?_) | (with_reducible refine Row.alloc ?_ ?_ _) | (with_reducible refine Row.setCell ?_ ?_ _) | omega | (simp; done) | (simp; omega))
          have rx_a3wE0 : Row RvLoop 1 wE0 (wX0.heap.size) gX0_a3A a3l := by repeat' (first | with_reducible assumption | (with_reducible refine Row.drew ?_) | (with_reducible refine Row.carry ?_ (by with_reducible assumption) ?_) | (with_reducible refine Row.alloc ?_ ?_ _) | (with_reducible refine Row.setCell ?_ ?_ _) | omega | (simp; done) | (simp; omega))
          have rx_a4wE0 : Row RvPart 3 wE0 (wX0.heap.size) gX0_a4A a4l := by repeat' (first | with_reducible assumption | (with_reducible refine Row.drew ?_) | (with_reducible refine Row.carry ?_ (by with_reducible assumption) ?_) | (with_reducible refine Row.alloc ?_ ?_ _) | (with_reducible refine Row.setCell ?_ ?_ _) | omega | (simp; done) | (simp; omega))
          have rx_a5wE0 : Row RvAnchor 3 wE0 (wX0.heap.size) gX0_a5A a5l := by repeat' (first | with_reducible assumption | (with_reducible refine Row.drew ?_) | (with_reducible refine Row.carry ?_ (by with_reducible assumption) ?_) | (with_reducible refine Row.alloc ?_ ?_ _) | (with_reducible refine Row.setCell ?_ ?_ _) | omega | (simp; done) | (simp; omega))
          have at_awE0 : AtL (wX0.heap.size) [.string a0, .int .i64 a1, .int .i64 a2, .slice gX0_a3A a3l.length gX0_a3c, .slice gX0_a4A a4l.length gX0_a4c, .slice gX0_a5A a5l.length gX0_a5c, .string a6] wE0 := by repeat' (first | with_reducible assumption | with_reducible exact AtL.new _ _ _ | ((with_reducible refine AtL.newAt ?_); (first | rfl | (simp; done))) | (with_reducible refine AtL.drew ?_) | (with_reducible refine AtL.below ?_ (by with_reducible assumption)) | (with_reducible refine AtL.alloc ?_ _) | (with_reducible refine AtL.far ?_ ?_ _ _) | omega | (simp; done) | (simp; omega))
          have rx_b3wE0 : Row RvLoop 1 wE0 (wX1.heap.size) gX1_b3A b3l := by repeat' (first | with_reducible assumption | (with_reducible refine Row.drew ?_) | (with_reducible refine Row.carry ?_ (by with_reducible assumption) ?_) | (with_reducible refine Row.alloc ?_ ?_ _) | (with_reducible refine Row.setCell ?_ ?_ _) | omega | (simp; done) | (simp; omega))
          have rx_b4wE0 : Row RvPart 3 wE0 (wX1.heap.size) gX1_b4A b4l := by repeat' (first | with_reducible assumption | (with_reducible refine Row.drew ?_) | (with_reducible refine Row.carry ?_ (by with_reducible assumption) ?_) | (with_reducible refine Row.alloc ?_ ?_ _) | (with_reducible refine Row.setCell ?_ ?_ _) | omega | (simp; done) | (simp; omega))
          have rx_b5wE0 : Row RvAnchor 3 wE0 (wX1.heap.size) gX1_b5A b5l := by repeat' (first | with_reducible assumption | (with_reducible refine Row.drew ?_) | (with_reducible refine Row.carry ?_ (by with_reducible assumption) ?_) | (with_reducible refine Row.alloc ?_ ?_ _) | (with_reducible refine Row.setCell ?_ ?_ _) | omega | (simp; done) | (simp; omega))
          have at_bwE0 : AtL (wX1.heap.size) [.string b0, .int .i64 b1, .int .i64 b2, .slice gX1_b3A b3l.length gX1_b3c, .slice gX1_b4A b4l.length gX1_b4c, .slice gX1_b5A b5l.length gX1_b5c, .string b6] wE0 := by repeat' (first | with_reducible assumption | with_reducible exact AtL.new _ _ _ | ((with_reducible refine AtL.newAt ?_); (first | rfl | (simp; done))) | (with_reducible refine AtL.drew ?_) | (with_reducible refine AtL.below ?_ (by with_reducible assumption)) | (with_reducible refine AtL.alloc ?_ _) | (with_reducible refine AtL.far ?_ ?_ _ _) | omega | (simp; done) | (simp; omega))
          have bp := bwI.out
          have bn : Below w.heap.size w wE0 := by repeat' (first | with_reducible assumption | with_reducible exact Below.refl _ _ | (with_reducible refine Below.setCell ?_ ?_ _) | (with_reducible refine Below.alloc ?_ ?_ _) | (with_reducible refine Below.drew ?_) | (with_reducible refine below_dr ?_ _) | (with_reducible refine Below.trans ?_ (Below.mono (by with_reducible assumption) ?_)) | omega | (simp; done) | (simp; omega))
          have bwE0 := Lib.hid bn
          clear bn
          clear bp bwI
          clear hbwE0
          clear bx_awI
          clear row_a3wI
          clear row_a4wI
          clear row_a5wI
          clear bx_bwI
          clear row_b3wI
          clear row_b4wI
          clear row_b5wI
          clear rx_a3wI
          clear rx_a4wI
          clear rx_a5wI
          clear at_awI
          clear rx_b3wI
          clear rx_b4wI
          clear rx_b5wI
          clear at_bwI
          have kat_b0 := at_bwE0.cell 0 rfl
          have kat_b1 := at_bwE0.cell 1 rfl
          have kat_b2 := at_bwE0.cell 2 rfl
          have kat_b3 := at_bwE0.cell 3 rfl
          have kat_b4 := at_bwE0.cell 4 rfl
          have kat_b5 := at_bwE0.cell 5 rfl
          have kat_b6 := at_bwE0.cell 6 rfl
          have lat_b := at_bwE0.lt
          have kbx_b0 := bx_bwE0.cell 0 rfl
          have kbx_b1 := bx_bwE0.cell 1 rfl
          have kbx_b2 := bx_bwE0.cell 2 rfl
          have kbx_b3 := bx_bwE0.cell 3 rfl
          have kbx_b4 := bx_bwE0.cell 4 rfl
          have kbx_b5 := bx_bwE0.cell 5 rfl
          have kbx_b6 := bx_bwE0.cell 6 rfl
          have lbx_b := bx_bwE0.lt
          go_wp2_with fail
          go_region_held3 (fun w' => (∀ b o, b < wE0.heap.size → w'.cell? ⟨b, o, none⟩ = wE0.cell? ⟨b, o, none⟩) ∧ wE0.heap.size ≤ w'.heap.size)
            (first | ((try dsimp only); exact ⟨fun b o h => (by (repeat (first | with_reducible exact rfl | (with_reducible refine (cell_drew_at _ _).trans ?_) | (with_reducible refine (cell_set_at _ _ (by first | omega | (simp; done) | (simp; omega))).trans ?_) | (with_reducible refine (cell_alloc_at _ _ (by first | omega | (simp; done) | (simp; omega))).trans ?_) | (with_reducible refine (hcwT1 b o (by first | omega | (simp; done) | (simp; omega))).trans ?_) | (with_reducible refine (hcwE1 b o (by first | omega | (simp; done) | (simp; omega))).trans ?_)))), (by first | omega | (simp; done) | (simp; omega))⟩) | fail)
            (first
              | (go_at_call 15; (with_reducible refine (xtoGlyph_any b0 b1 b2 b3A b3c b3l b4A b4c b4l b5A b5c b5l b6 _ (HT_b.out) ?_ ?_ ?_).mono ?_); (focus ((refine Row.more (B := w.heap.size) ?_ (by first | omega | ((try simp only [World.size_setCell]); (try simp only [World.size_drew]); (try simp only [World.size_alloc]); omega))); repeat' (first | with_reducible assumption | (with_reducible refine Row.drew ?_) | (with_reducible refine Row.carry ?_ (by with_reducible assumption) ?_) | (with_reducible refine Row.alloc ?_ ?_ _) | (with_reducible refine Row.setCell ?_ ?_ _) | omega | (simp; done) | (simp; omega)))); (focus ((refine Row.more (B := w.heap.size) ?_ (by first | omega | ((try simp only [World.size_setCell]); (try simp only [World.size_drew]); (try simp only [World.size_alloc]); omega))); repeat' (first | with_reducible assumption | (with_reducible refine Row.drew ?_) | (with_reducible refine Row.carry ?_ (by with_reducible assumption) ?_) | (with_reducible refine Row.alloc ?_ ?_ _) | (with_reducible refine Row.setCell ?_ ?_ _) | omega | (simp; done) | (simp; omega)))); (focus ((refine Row.more (B := w.heap.size) ?_ (by first | omega | ((try simp only [World.size_setCell]); (try simp only [World.size_drew]); (try simp only [World.size_alloc]); omega))); repeat' (first | with_reducible assumption | (with_reducible refine Row.drew ?_) | (with_reducible refine Row.carry ?_ (by with_reducible assumption) ?_) | (with_reducible refine Row.alloc ?_ ?_ _) | (with_reducible refine Row.setCell ?_ ?_ _) | omega | (simp; done) | (simp; omega)))); intro e wT1 hq; obtain ⟨owE_b3A, owE_b3c, owE_b4A, owE_b4c, owE_b5A, owE_b5c, rfl, owE_b3, owE_b4, owE_b5, hbwT1⟩ := hq; obtain ⟨hcwT1, hfwT1⟩ := bcell hbwT1; have hzwT1 := hbwT1.size; (try simp only [World.size_drew] at hcwT1 hfwT1 hzwT1); (try simp only [World.size_alloc] at hcwT1 hfwT1 hzwT1))
              | (go_at_call 17; (with_reducible refine (xeqGlyph_any b0 b1 b2 gX1_b3A gX1_b3c b3l gX1_b4A gX1_b4c b4l gX1_b5A gX1_b5c b5l b6 owE_b3A owE_b3c owE_b4A owE_b4c owE_b5A owE_b5c _ (Nat.le_trans HT_b.out (by omega)) ?_ ?_ ?_ ?_ ?_ ?_).mono ?_); (focus ((refine Row.more (B := wX1.heap.size) ?_ (by first | omega | ((try simp only [World.size_setCell]); (try simp only [World.size_drew]); (try simp only [World.size_alloc]); omega))); repeat' (first | with_reducible assumption | (with_reducible refine Row.drew ?_) | (with_reducible refine Row.carry ?_ (by with_reducible assumption) ?_) | (with_reducible refine Row.alloc ?_ ?_ _) | (with_reducible refine Row.setCell ?_ ?_ _) | omega | (simp; done) | (simp; omega)))); (focus ((refine Row.more (B := wX1.heap.size) ?_ (by first | omega | ((try simp only [World.size_setCell]); (try simp only [World.size_drew]); (try simp only [World.size_alloc]); omega))); repeat' (first | with_reducible assumption | (with_reducible refine Row.drew ?_) | (with_reducible refine Row.carry ?_ (by with_reducible assumption) ?_) | (with_reducible refine Row.alloc ?_ ?_ _) | (with_reducible refine Row.setCell ?_ ?_ _) | omega | (simp; done) | (simp; omega)))); (focus ((refine Row.more (B := wX1.heap.size) ?_ (by first | omega | ((try simp only [World.size_setCell]); (try simp only [World.size_drew]); (try simp only [World.size_alloc]); omega))); repeat' (first | with_reducible assumption | (with_reducible refine Row.drew ?_) | (with_reducible refine Row.carry ?_ (by with_reducible assumption) ?_) | (with_reducible refine Row.alloc ?_ ?_ _) | (with_reducible refine Row.setCell ?_ ?_ _) | omega | (simp; done) | (simp; omega)))); (focus (first | exact owE_b3.here | exact (RowIn.here owE_b3).drew)); (focus (first | exact owE_b4.here | exact (RowIn.here owE_b4).drew)); (focus (first | exact owE_b5.here | exact (RowIn.here owE_b5).drew)); rintro e wE1 ⟨rfl, hbwE1⟩; obtain ⟨hcwE1, hfwE1⟩ := bcell hbwE1; have hzwE1 := hbwE1.size; (try simp only [World.size_drew] at hcwE1 hfwE1 hzwE1); (try simp only [World.size_alloc] at hcwE1 hfwE1 hzwE1)))
          clear kat_b0 kat_b1 kat_b2 kat_b3 kat_b4 kat_b5 kat_b6 lat_b
          clear kbx_b0 kbx_b1 kbx_b2 kbx_b3 kbx_b4 kbx_b5 kbx_b6 lbx_b
          all_goals
            have zwE1 := hbwE1.size
            (try simp only [World.size_setCell] at zwE1)
            (try simp only [World.size_drew] at zwE1)
            (try simp only [World.size_alloc] at zwE1)
            have qwE1 : w.heap.size ≤ wE1.heap.size := by omega
            have bx_awE1 : AtL (w.heap.size) [.string a0, .int .i64 a1, .int .i64 a2, .slice a3A a3l.length a3c, .slice a4A a4l.length a4c, .slice a5A a5l.length a5c, .string a6] wE1 := by repeat' (first | with_reducible assumption | with_reducible exact AtL.new _ _ _ | ((with_reducible refine AtL.newAt ?_); (first | rfl | (simp; done))) | (with_reducible refine AtL.drew ?_) | (with_reducible refine AtL.below ?_ (by with_reducible assumption)) | (with_reducible refine AtL.alloc ?_ _) | (with_reducible refine AtL.far ?_ ?_ _ _) | omega | (simp; done) | (simp; omega))
            have row_a3wE1 : Row RvLoop 1 wE1 (w.heap.size) a3A a3l := by repeat' (first | with_reducible assumption | (with_reducible refine Row.drew ?_) | (with_reducible refine Row.carry ?_ (by with_reducible assumption) ?_) | (with_reducible refine Row.alloc ?_ ?_ _) | (with_reducible refine Row.setCell ?_ ?_ _) | omega | (simp; done) | (simp; omega))
            have row_a4wE1 : Row RvPart 3 wE1 (w.heap.size) a4A a4l := by repeat' (first | with_reducible assumption | (with_reducible refine Row.drew ?_) | (with_reducible refine Row.carry ?_ (by with_reducible assumption) ?_) | (with_reducible refine Row.alloc ?_ ?_ _) | (with_reducible refine Row.setCell ?_ ?_ _) | omega | (simp; done) | (simp; omega))
            have row_a5wE1 : Row RvAnchor 3 wE1 (w.heap.size) a5A a5l := by repeat' (first | with_reducible assumption | (with_reducible refine Row.drew ?_) | (with_reducible refine Row.carry ?_ (by with_reducible assumption) ?_) | (with_reducible refine Row.alloc ?_ ?_ _) | (with_reducible refine Row.setCell ?_ ?_ _) | omega | (simp; done) | (simp; omega))
            have bx_bwE1 : AtL (w.heap.size + 1) [.string b0, .int .i64 b1, .int .i64 b2, .slice b3A b3l.length b3c, .slice b4A b4l.length b4c, .slice b5A b5l.length b5c, .string b6] wE1 := by repeat' (first | with_reducible assumption | with_reducible exact AtL.new _ _ _ | ((with_reducible refine AtL.newAt ?_); (first | rfl | (simp; done))) | (with_reducible refine AtL.drew ?_) | (with_reducible refine AtL.below ?_ (by with_reducible assumption)) | (with_reducible refine AtL.alloc ?_ _) | (with_reducible refine AtL.far ?_ ?_ _ _) | omega | (simp; done) | (simp; omega))
            have row_b3wE1 : Row RvLoop 1 wE1 (w.heap.size) b3A b3l := by repeat' (first | with_reducible assumption | (with_reducible refine Row.drew ?_) | (with_reducible refine Row.carry ?_ (by with_reducible assumption) ?_) | (with_reducible refine Row.alloc ?_ ?_ _) | (with_reducible refine Row.setCell ?_ ?_ _) | omega | (simp; done) | (simp; omega))
            have row_b4wE1 : Row RvPart 3 wE1 (w.heap.size) b4A b4l := by repeat' (first | with_reducible assumption | (with_reducible refine Row.drew ?_) | (with_reducible refine Row.carry ?_ (by with_reducible assumption) ?_) | (with_reducible refine Row.alloc ?_ ?_ _) | (with_reducible refine Row.setCell ?_ ?_ _) | omega | (simp; done) | (simp; omega))
            have row_b5wE1 : Row RvAnchor 3 wE1 (w.heap.size) b5A b5l := by repeat' (first | with_reducible assumption | (with_reducible refine Row.drew ?_) | (with_reducible refine Row.carry ?_ (by with_reducible assumption) ?_) | (with_reducible refine Row.alloc ?_ ?_ _) | (with_reducible refine Row.setCell ?_ ?_ _) | omega | (simp; done) | (simp; omega))
            have rx_a3wE1 : Row RvLoop 1 wE1 (wX0.heap.size) gX0_a3A a3l := by repeat' (first | with_reducible assumption | (with_reducible refine Row.drew ?_) | (with_reducible refine Row.carry ?_ (by with_reducible assumption) ?_) | (with_reducible refine Row.alloc ?_ ?_ _) | (with_reducible refine Row.setCell ?_ ?_ _) | omega | (simp; done) | (simp; omega))
            have rx_a4wE1 : Row RvPart 3 wE1 (wX0.heap.size) gX0_a4A a4l := by repeat' (first | with_reducible assumption | (with_reducible refine Row.drew ?_) | (with_reducible refine Row.carry ?_ (by with_reducible assumption) ?_) | (with_reducible refine Row.alloc ?_ ?_ _) | (with_reducible refine Row.setCell ?_ ?_ _) | omega | (simp; done) | (simp; omega))
            have rx_a5wE1 : Row RvAnchor 3 wE1 (wX0.heap.size) gX0_a5A a5l := by repeat' (first | with_reducible assumption | (with_reducible refine Row.drew ?_) | (with_reducible refine Row.carry ?_ (by with_reducible assumption) ?_) | (with_reducible refine Row.alloc ?_ ?_ _) | (with_reducible refine Row.setCell ?_ ?_ _) | omega | (simp; done) | (simp; omega))
            have at_awE1 : AtL (wX0.heap.size) [.string a0, .int .i64 a1, .int .i64 a2, .slice gX0_a3A a3l.length gX0_a3c, .slice gX0_a4A a4l.length gX0_a4c, .slice gX0_a5A a5l.length gX0_a5c, .string a6] wE1 := by repeat' (first | with_reducible assumption | with_reducible exact AtL.new _ _ _ | ((with_reducible refine AtL.newAt ?_); (first | rfl | (simp; done))) | (with_reducible refine AtL.drew ?_) | (with_reducible refine AtL.below ?_ (by with_reducible assumption)) | (with_reducible refine AtL.alloc ?_ _) | (with_reducible refine AtL.far ?_ ?_ _ _) | omega | (simp; done) | (simp; omega))
            have rx_b3wE1 : Row RvLoop 1 wE1 (wX1.heap.size) gX1_b3A b3l := by repeat' (first | with_reducible assumption | (with_reducible refine Row.drew ?_) | (with_reducible refine Row.carry ?_ (by with_reducible assumption) ?_) | (with_reducible refine Row.alloc ?_ ?_ _) | (with_reducible refine Row.setCell ?_ ?_ _) | omega | (simp; done) | (simp; omega))
            have rx_b4wE1 : Row RvPart 3 wE1 (wX1.heap.size) gX1_b4A b4l := by repeat' (first | with_reducible assumption | (with_reducible refine Row.drew ?_) | (with_reducible refine Row.carry ?_ (by with_reducible assumption) ?_) | (with_reducible refine Row.alloc ?_ ?_ _) | (with_reducible refine Row.setCell ?_ ?_ _) | omega | (simp; done) | (simp; omega))
            have rx_b5wE1 : Row RvAnchor 3 wE1 (wX1.heap.size) gX1_b5A b5l := by repeat' (first | with_reducible assumption | (with_reducible refine Row.drew ?_) | (with_reducible refine Row.carry ?_ (by with_reducible assumption) ?_) | (with_reducible refine Row.alloc ?_ ?_ _) | (with_reducible refine Row.setCell ?_ ?_ _) | omega | (simp; done) | (simp; omega))
            have at_bwE1 : AtL (wX1.heap.size) [.string b0, .int .i64 b1, .int .i64 b2, .slice gX1_b3A b3l.length gX1_b3c, .slice gX1_b4A b4l.length gX1_b4c, .slice gX1_b5A b5l.length gX1_b5c, .string b6] wE1 := by repeat' (first | with_reducible assumption | with_reducible exact AtL.new _ _ _ | ((with_reducible refine AtL.newAt ?_); (first | rfl | (simp; done))) | (with_reducible refine AtL.drew ?_) | (with_reducible refine AtL.below ?_ (by with_reducible assumption)) | (with_reducible refine AtL.alloc ?_ _) | (with_reducible refine AtL.far ?_ ?_ _ _) | omega | (simp; done) | (simp; omega))
            have bp := bwE0.out
            have bn : Below w.heap.size w wE1 := by repeat' (first | with_reducible assumption | with_reducible exact Below.refl _ _ | (with_reducible refine Below.setCell ?_ ?_ _) | (with_reducible refine Below.alloc ?_ ?_ _) | (with_reducible refine Below.drew ?_) | (with_reducible refine below_dr ?_ _) | (with_reducible refine Below.trans ?_ (Below.mono (by with_reducible assumption) ?_)) | omega | (simp; done) | (simp; omega))
            have bwE1 := Lib.hid bn
            clear bn
            clear bp bwE0
            clear hbwE1
            clear bx_awE0
            clear row_a3wE0
            clear row_a4wE0
            clear row_a5wE0
            clear bx_bwE0
            clear row_b3wE0
            clear row_b4wE0
            clear row_b5wE0
            clear rx_a3wE0
            clear rx_a4wE0
            clear rx_a5wE0
            clear at_awE0
            clear rx_b3wE0
            clear rx_b4wE0
            clear rx_b5wE0
            clear at_bwE0
            go_wp2_with fail
            go_ret
            have bp := bwE1.out
            exact ⟨rfl, by repeat' (first | with_reducible assumption | with_reducible exact Below.refl _ _ | (with_reducible refine Below.setCell ?_ ?_ _) | (with_reducible refine Below.alloc ?_ ?_ _) | (with_reducible refine Below.drew ?_) | (with_reducible refine below_dr ?_ _) | (with_reducible refine Below.trans ?_ (Below.mono (by with_reducible assumption) ?_)) | omega | (simp; done) | (simp; omega))⟩
end Go.Proofs.Ytelefmogmloniaa
