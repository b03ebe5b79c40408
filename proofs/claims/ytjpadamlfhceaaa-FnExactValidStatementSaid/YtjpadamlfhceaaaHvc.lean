/- Walks: the law on ValidStatement: it returns true. -/
import Derived.Test.YtjpadamlfhceaaaHva
import Derived.Test.YtjpadamlfhceaaaHvb
namespace Go.Proofs.Ytjpadamlfhceaaa
open Go.RowKit
set_option linter.unusedVariables false
theorem implVSt_any (a0 : Int) (a1 : ByteArray) (a2 : ByteArray) (a3 : Int) (a4 : Int) (a5A : Option Addr) (a5c : Nat) (a5l : List DTerm) (a6 : Int) (a7 : Int) (a8A : Option Addr) (a8c : Nat) (a8l : List DTerm) (a9A : Option Addr) (a9c : Nat) (a9l : List DString) (a10A : Option Addr) (a10c : Nat) (a10l : List DInt64) (a11 : Bool) (a12 : Bool) (w : World) (h_a : totStatement (a0, a1, a2, a3, a4, a5l, a6, a7, a8l, a9l, a10l, a11, a12) ≤ 1048576) (i_a3 : (-9223372036854775808 ≤ a3 ∧ a3 ≤ 9223372036854775807)) (i_a4 : (-9223372036854775808 ≤ a4 ∧ a4 ≤ 9223372036854775807)) (i_a6 : (-9223372036854775808 ≤ a6 ∧ a6 ≤ 9223372036854775807)) (i_a7 : (-9223372036854775808 ≤ a7 ∧ a7 ≤ 9223372036854775807)) (r_a5 : Row RvTerm 3 w w.heap.size a5A a5l) (r_a8 : Row RvTerm 3 w w.heap.size a8A a8l) (r_a9 : Row RvString 1 w w.heap.size a9A a9l) (r_a10 : Row RvInt64 1 w w.heap.size a10A a10l) (ok_a5 : (∀ (w2 : World) (B : Nat) (i : Nat) (b : ATerm), a5l[i]? = some b → okTerm w2 B b)) (ok_a8 : (∀ (w2 : World) (B : Nat) (i : Nat) (b : ATerm), a8l[i]? = some b → okTerm w2 B b)) (hz_a9 : ∀ (k : Nat) (s : DString), a9l[k]? = some s → s.size ≤ 4611686018427387904) (h1 : a1.size ≤ 9223372036854775807) (h2 : a2.size ≤ 9223372036854775807) : Calls Try.prog 7 #[.agg #[.int .i64 a0, .string a1, .string a2, .int .i64 a3, .int .i64 a4, .slice a5A a5l.length a5c, .int .i64 a6, .int .i64 a7, .slice a8A a8l.length a8c, .slice a9A a9l.length a9c, .slice a10A a10l.length a10c, .bool a11, .bool a12]] w fun e w' => e = .returned (.bool (vStB a0 a1 a2 a3 a4 a5A a5c a5l a6 a7 a8A a8c a8l a9A a9c a9l a10A a10c a10l a11 a12)) ∧ Below w.heap.size w w' := by
  rcases kind_cases a0 with rfl | rfl | rfl | rfl | rfl | rfl | rfl | rfl | rfl | rfl | rfl | h
  · exact implValid_1 a1 a2 a3 a4 a5A a5c a5l a6 a7 a8A a8c a8l a9A a9c a9l a10A a10c a10l a11 a12 w h_a i_a3 i_a4 i_a6 i_a7 r_a5 r_a8 r_a9 r_a10 ok_a5 ok_a8 hz_a9 h1 h2
  · exact implValid_2 a1 a2 a3 a4 a5A a5c a5l a6 a7 a8A a8c a8l a9A a9c a9l a10A a10c a10l a11 a12 w h_a i_a3 i_a4 i_a6 i_a7 r_a5 r_a8 r_a9 r_a10 ok_a5 ok_a8 hz_a9 h1 h2
  · exact implValid_3 a1 a2 a3 a4 a5A a5c a5l a6 a7 a8A a8c a8l a9A a9c a9l a10A a10c a10l a11 a12 w h_a i_a3 i_a4 i_a6 i_a7 r_a5 r_a8 r_a9 r_a10 ok_a5 ok_a8 hz_a9 h1 h2
  · exact implValid_4 a1 a2 a3 a4 a5A a5c a5l a6 a7 a8A a8c a8l a9A a9c a9l a10A a10c a10l a11 a12 w h_a i_a3 i_a4 i_a6 i_a7 r_a5 r_a8 r_a9 r_a10 ok_a5 ok_a8 hz_a9 h1 h2
  · exact implValid_5 a1 a2 a3 a4 a5A a5c a5l a6 a7 a8A a8c a8l a9A a9c a9l a10A a10c a10l a11 a12 w h_a i_a3 i_a4 i_a6 i_a7 r_a5 r_a8 r_a9 r_a10 ok_a5 ok_a8 hz_a9 h1 h2
  · exact implValid_6 a1 a2 a3 a4 a5A a5c a5l a6 a7 a8A a8c a8l a9A a9c a9l a10A a10c a10l a11 a12 w h_a i_a3 i_a4 i_a6 i_a7 r_a5 r_a8 r_a9 r_a10 ok_a5 ok_a8 hz_a9 h1 h2
  · exact implValid_7 a1 a2 a3 a4 a5A a5c a5l a6 a7 a8A a8c a8l a9A a9c a9l a10A a10c a10l a11 a12 w h_a i_a3 i_a4 i_a6 i_a7 r_a5 r_a8 r_a9 r_a10 ok_a5 ok_a8 hz_a9 h1 h2
  · exact implValid_8 a1 a2 a3 a4 a5A a5c a5l a6 a7 a8A a8c a8l a9A a9c a9l a10A a10c a10l a11 a12 w h_a i_a3 i_a4 i_a6 i_a7 r_a5 r_a8 r_a9 r_a10 ok_a5 ok_a8 hz_a9 h1 h2
  · exact implValid_9 a1 a2 a3 a4 a5A a5c a5l a6 a7 a8A a8c a8l a9A a9c a9l a10A a10c a10l a11 a12 w h_a i_a3 i_a4 i_a6 i_a7 r_a5 r_a8 r_a9 r_a10 ok_a5 ok_a8 hz_a9 h1 h2
  · exact implValid_10 a1 a2 a3 a4 a5A a5c a5l a6 a7 a8A a8c a8l a9A a9c a9l a10A a10c a10l a11 a12 w h_a i_a3 i_a4 i_a6 i_a7 r_a5 r_a8 r_a9 r_a10 ok_a5 ok_a8 hz_a9 h1 h2
  · exact implValid_11 a1 a2 a3 a4 a5A a5c a5l a6 a7 a8A a8c a8l a9A a9c a9l a10A a10c a10l a11 a12 w h_a i_a3 i_a4 i_a6 i_a7 r_a5 r_a8 r_a9 r_a10 ok_a5 ok_a8 hz_a9 h1 h2
  · exact implValid_0 a0 a1 a2 a3 a4 a5A a5c a5l a6 a7 a8A a8c a8l a9A a9c a9l a10A a10c a10l a11 a12 w h h_a i_a3 i_a4 i_a6 i_a7 r_a5 r_a8 r_a9 r_a10 ok_a5 ok_a8 hz_a9 h1 h2
set_option maxHeartbeats 6400000 in
theorem specVSt_any (a0 : Int) (a1 : ByteArray) (a2 : ByteArray) (a3 : Int) (a4 : Int) (a5A : Option Addr) (a5c : Nat) (a5l : List DTerm) (a6 : Int) (a7 : Int) (a8A : Option Addr) (a8c : Nat) (a8l : List DTerm) (a9A : Option Addr) (a9c : Nat) (a9l : List DString) (a10A : Option Addr) (a10c : Nat) (a10l : List DInt64) (a11 : Bool) (a12 : Bool) (w : World) (h_a : totStatement (a0, a1, a2, a3, a4, a5l, a6, a7, a8l, a9l, a10l, a11, a12) ≤ 1048576) (i_a3 : (-9223372036854775808 ≤ a3 ∧ a3 ≤ 9223372036854775807)) (i_a4 : (-9223372036854775808 ≤ a4 ∧ a4 ≤ 9223372036854775807)) (i_a6 : (-9223372036854775808 ≤ a6 ∧ a6 ≤ 9223372036854775807)) (i_a7 : (-9223372036854775808 ≤ a7 ∧ a7 ≤ 9223372036854775807)) (r_a5 : Row RvTerm 3 w w.heap.size a5A a5l) (r_a8 : Row RvTerm 3 w w.heap.size a8A a8l) (r_a9 : Row RvString 1 w w.heap.size a9A a9l) (r_a10 : Row RvInt64 1 w w.heap.size a10A a10l) (ok_a5 : (∀ (w2 : World) (B : Nat) (i : Nat) (b : ATerm), a5l[i]? = some b → okTerm w2 B b)) (ok_a8 : (∀ (w2 : World) (B : Nat) (i : Nat) (b : ATerm), a8l[i]? = some b → okTerm w2 B b)) (hz_a9 : ∀ (k : Nat) (s : DString), a9l[k]? = some s → s.size ≤ 4611686018427387904) (h1 : a1.size ≤ 9223372036854775807) (h2 : a2.size ≤ 9223372036854775807) : Calls Try.prog 5 #[.agg #[.int .i64 a0, .string a1, .string a2, .int .i64 a3, .int .i64 a4, .slice a5A a5l.length a5c, .int .i64 a6, .int .i64 a7, .slice a8A a8l.length a8c, .slice a9A a9l.length a9c, .slice a10A a10l.length a10c, .bool a11, .bool a12]] w fun e w' => e = .returned (.bool (vStB a0 a1 a2 a3 a4 a5A a5c a5l a6 a7 a8A a8c a8l a9A a9c a9l a10A a10c a10l a11 a12)) ∧ Below w.heap.size w w' := by
  simp only [totStatement] at h_a
  have hl_a5 : a5l.length ≤ 1048576 := Nat.le_trans (totRow_len totTerm _) (by omega)
  have hl_a8 : a8l.length ≤ 1048576 := Nat.le_trans (totRow_len totTerm _) (by omega)
  have hl_a9 : a9l.length ≤ 1048576 := Nat.le_trans (totRow_len totString _) (by omega)
  have hl_a10 : a10l.length ≤ 1048576 := Nat.le_trans (totRow_len totInt64 _) (by omega)
  clear h_a
  have C := Lib.hid (fun (w1 : World) (hb : Below w.heap.size w w1) (at0 : AtL w.heap.size [.int .i64 a0, .string a1, .string a2, .int .i64 a3, .int .i64 a4, .slice a5A a5l.length a5c, .int .i64 a6, .int .i64 a7, .slice a8A a8l.length a8c, .slice a9A a9l.length a9c, .slice a10A a10l.length a10c, .bool a11, .bool a12] w1) => l07Ok_st a0 a1 a2 a3 a4 a5A a5c a5l a6 a7 a8A a8c a8l a9A a9c a9l a10A a10c a10l a11 a12 w.heap.size w1 at0 i_a3 i_a4 i_a6 i_a7 hl_a5 hl_a8 ((r_a5.carry (w' := w1) hb (Nat.le_refl _)).more hb.size) ((r_a8.carry (w' := w1) hb (Nat.le_refl _)).more hb.size) ok_a5 ok_a8 hl_a9 hl_a10 ((r_a9.carry (w' := w1) hb (Nat.le_refl _)).more hb.size) ((r_a10.carry (w' := w1) hb (Nat.le_refl _)).more hb.size) hz_a9 h1 h2)
  clear i_a3 i_a4 i_a6 i_a7 ok_a5 ok_a8 hz_a9 h1 h2
  generalize vStB a0 a1 a2 a3 a4 a5A a5c a5l a6 a7 a8A a8c a8l a9A a9c a9l a10A a10c a10l a11 a12 = v at C ⊢
  go_enter Try.func5, Try.ntmps5
  go_wp2_with fail
  refine (C.out _ ?_ ?_).mono ?_
  · repeat' (first | with_reducible assumption | with_reducible exact Below.refl _ _ | (with_reducible refine Below.setCell ?_ ?_ _) | (with_reducible refine Below.alloc ?_ ?_ _) | (with_reducible refine Below.drew ?_) | (with_reducible refine below_dr ?_ _) | (with_reducible refine Below.trans ?_ (Below.mono (by with_reducible assumption) ?_)) | omega | (simp; done) | (simp; omega))
  · exact AtL.new _ _ _
  rintro e w1 ⟨rfl, hb1⟩
  go_wp2_with fail
  go_ret
  exact ⟨rfl, by repeat' (first | with_reducible assumption | with_reducible exact Below.refl _ _ | (with_reducible refine Below.setCell ?_ ?_ _) | (with_reducible refine Below.alloc ?_ ?_ _) | (with_reducible refine Below.drew ?_) | (with_reducible refine below_dr ?_ _) | (with_reducible refine Below.trans ?_ (Below.mono (by with_reducible assumption) ?_)) | omega | (simp; done) | (simp; omega))⟩
set_option maxRecDepth 100000 in
set_option maxHeartbeats 12800000 in
theorem walk_ValidStatement (a : AStatement) (w : World) (k_a : okStatement w w.heap.size a) :
    Calls Try.prog 3 #[.agg #[.int .i64 a.1, .string a.2.1, .string a.2.2.1, .int .i64 a.2.2.2.1, .int .i64 a.2.2.2.2.1, .slice a.2.2.2.2.2.1.1 a.2.2.2.2.2.1.2.2.length a.2.2.2.2.2.1.2.1, .int .i64 a.2.2.2.2.2.2.1, .int .i64 a.2.2.2.2.2.2.2.1, .slice a.2.2.2.2.2.2.2.2.1.1 a.2.2.2.2.2.2.2.2.1.2.2.length a.2.2.2.2.2.2.2.2.1.2.1, .slice a.2.2.2.2.2.2.2.2.2.1.1 a.2.2.2.2.2.2.2.2.2.1.2.2.length a.2.2.2.2.2.2.2.2.2.1.2.1, .slice a.2.2.2.2.2.2.2.2.2.2.1.1 a.2.2.2.2.2.2.2.2.2.2.1.2.2.length a.2.2.2.2.2.2.2.2.2.2.1.2.1, .bool a.2.2.2.2.2.2.2.2.2.2.2.1, .bool a.2.2.2.2.2.2.2.2.2.2.2.2]] w fun e w' => e = .returned (.bool true) ∧ Below w.heap.size w w' := by
  obtain ⟨a0, a1, a2, a3, a4, ⟨a5A, a5c, a5q⟩, a6, a7, ⟨a8A, a8c, a8q⟩, ⟨a9A, a9c, a9q⟩, ⟨a10A, a10c, a10q⟩, a11, a12⟩ := a
  obtain ⟨w_a0, w_a1, w_a2, w_a3, w_a4, nc_a5, cm_a5, rd_a5, ok_a5, w_a6, w_a7, nc_a8, cm_a8, rd_a8, ok_a8, nc_a9, cm_a9, rd_a9, ok_a9, nc_a10, cm_a10, rd_a10, ok_a10⟩ := k_a
  simp only at w_a0 w_a1 w_a2 w_a3 w_a4 nc_a5 cm_a5 rd_a5 ok_a5 w_a6 w_a7 nc_a8 cm_a8 rd_a8 ok_a8 nc_a9 cm_a9 rd_a9 ok_a9 nc_a10 cm_a10 rd_a10 ok_a10 ⊢
  have row_a5 : Row RvTerm 3 w w.heap.size a5A (a5q.map dTerm) := Row.of rd_a5 (fun i b hb => rv_Term b (ok_a5 i b hb))
  have sz_a5 : szRow SzTerm (a5q.map dTerm) := ⟨Nat.le_trans (Nat.le_of_eq (List.length_map _)) (Nat.le_trans nc_a5 cm_a5), fun i b hb => sz_map sz_Term ok_a5 i b hb⟩
  have hn_a5 : a5q.length = (a5q.map dTerm).length := (List.length_map _).symm
  rw [hn_a5]
  have OK_a5 := Lib.hid (fun (w2 : World) (B : Nat) (i : Nat) (b : ATerm) (hb : (a5q.map dTerm)[i]? = some b) => (sz_map (g := dTerm) (P := fun b => okTerm w2 B b) (fun a h => h) ok_a5 i b hb : okTerm w2 B b))
  generalize a5q.map dTerm = a5l at row_a5 sz_a5 OK_a5 ⊢
  have HZ_a5 := Lib.hid sz_a5
  clear nc_a5 cm_a5 rd_a5 ok_a5 hn_a5 sz_a5
  have row_a8 : Row RvTerm 3 w w.heap.size a8A (a8q.map dTerm) := Row.of rd_a8 (fun i b hb => rv_Term b (ok_a8 i b hb))
  have sz_a8 : szRow SzTerm (a8q.map dTerm) := ⟨Nat.le_trans (Nat.le_of_eq (List.length_map _)) (Nat.le_trans nc_a8 cm_a8), fun i b hb => sz_map sz_Term ok_a8 i b hb⟩
  have hn_a8 : a8q.length = (a8q.map dTerm).length := (List.length_map _).symm
  rw [hn_a8]
  have OK_a8 := Lib.hid (fun (w2 : World) (B : Nat) (i : Nat) (b : ATerm) (hb : (a8q.map dTerm)[i]? = some b) => (sz_map (g := dTerm) (P := fun b => okTerm w2 B b) (fun a h => h) ok_a8 i b hb : okTerm w2 B b))
  generalize a8q.map dTerm = a8l at row_a8 sz_a8 OK_a8 ⊢
  have HZ_a8 := Lib.hid sz_a8
  clear nc_a8 cm_a8 rd_a8 ok_a8 hn_a8 sz_a8
  have row_a9 : Row RvString 1 w w.heap.size a9A (a9q.map dString) := Row.of rd_a9 (fun i b hb => rv_String b (ok_a9 i b hb))
  have sz_a9 : szRow SzString (a9q.map dString) := ⟨Nat.le_trans (Nat.le_of_eq (List.length_map _)) (Nat.le_trans nc_a9 cm_a9), fun i b hb => sz_map sz_String ok_a9 i b hb⟩
  have hn_a9 : a9q.length = (a9q.map dString).length := (List.length_map _).symm
  rw [hn_a9]
  generalize a9q.map dString = a9l at row_a9 sz_a9 ⊢
  have HZ_a9 := Lib.hid sz_a9
  clear nc_a9 cm_a9 rd_a9 ok_a9 hn_a9 sz_a9
  have row_a10 : Row RvInt64 1 w w.heap.size a10A (a10q.map dInt64) := Row.of rd_a10 (fun i b hb => rv_Int64 b (ok_a10 i b hb))
  have sz_a10 : szRow SzInt64 (a10q.map dInt64) := ⟨Nat.le_trans (Nat.le_of_eq (List.length_map _)) (Nat.le_trans nc_a10 cm_a10), fun i b hb => sz_map sz_Int64 ok_a10 i b hb⟩
  have hn_a10 : a10q.length = (a10q.map dInt64).length := (List.length_map _).symm
  rw [hn_a10]
  generalize a10q.map dInt64 = a10l at row_a10 sz_a10 ⊢
  have HZ_a10 := Lib.hid sz_a10
  clear nc_a10 cm_a10 rd_a10 ok_a10 hn_a10 sz_a10
  have HZP_a := Lib.hid (show SzStatement (a0, a1, a2, a3, a4, a5l, a6, a7, a8l, a9l, a10l, a11, a12) from ⟨w_a1, w_a2, HZ_a5.out, HZ_a8.out, HZ_a9.out, HZ_a10.out⟩)
  have hs1 : a1.size ≤ 9223372036854775807 := by have h9 := w_a1; unfold maxLen at h9; omega
  have hs2 : a2.size ≤ 9223372036854775807 := by have h9 := w_a2; unfold maxLen at h9; omega
  have C1 := Lib.hid (fun (ha : totStatement (a0, a1, a2, a3, a4, a5l, a6, a7, a8l, a9l, a10l, a11, a12) ≤ 1048576) a5A' a5c' a8A' a8c' a9A' a9c' a10A' a10c' w q_a5 q_a8 q_a9 q_a10 => specVSt_any a0 a1 a2 a3 a4 a5A' a5c' a5l a6 a7 a8A' a8c' a8l a9A' a9c' a9l a10A' a10c' a10l a11 a12 w ha (i64_bounds w_a3) (i64_bounds w_a4) (i64_bounds w_a6) (i64_bounds w_a7) q_a5 q_a8 q_a9 q_a10 OK_a5.out OK_a8.out (fun k s h => by have h9 : s.size ≤ totRow totString a9l := totRow_at (f := totString) h; simp only [totStatement] at ha; omega) hs1 hs2)
  have C2 := Lib.hid (fun (ha : totStatement (a0, a1, a2, a3, a4, a5l, a6, a7, a8l, a9l, a10l, a11, a12) ≤ 1048576) a5A' a5c' a8A' a8c' a9A' a9c' a10A' a10c' w q_a5 q_a8 q_a9 q_a10 => implVSt_any a0 a1 a2 a3 a4 a5A' a5c' a5l a6 a7 a8A' a8c' a8l a9A' a9c' a9l a10A' a10c' a10l a11 a12 w ha (i64_bounds w_a3) (i64_bounds w_a4) (i64_bounds w_a6) (i64_bounds w_a7) q_a5 q_a8 q_a9 q_a10 OK_a5.out OK_a8.out (fun k s h => by have h9 : s.size ≤ totRow totString a9l := totRow_at (f := totString) h; simp only [totStatement] at ha; omega) hs1 hs2)
  simp only [vStB] at C1 C2
  generalize shOk a0 a1 a2 (sidesB a0 a3 a4 a5l a6 a7 a8l) a9l a10l (tailB a0 a9l.length a11 a12) (shp a0) = v at C1 C2
  have e_v : (v != v) = false := by simp
  go_enter Try.func3, Try.ntmps3
  go_wp2_with fail
  generalize hW : (w.alloc (.cells #[.int .i64 a0, .string a1, .string a2, .int .i64 a3, .int .i64 a4, .slice a5A a5l.length a5c, .int .i64 a6, .int .i64 a7, .slice a8A a8l.length a8c, .slice a9A a9l.length a9c, .slice a10A a10l.length a10c, .bool a11, .bool a12] 30)) = W0
  have row_a5w : Row RvTerm 3 w (w.heap.size) a5A a5l := row_a5
  have row_a8w : Row RvTerm 3 w (w.heap.size) a8A a8l := row_a8
  have row_a9w : Row RvString 1 w (w.heap.size) a9A a9l := row_a9
  have row_a10w : Row RvInt64 1 w (w.heap.size) a10A a10l := row_a10
  have bx_aW0 : AtL (w.heap.size) [.int .i64 a0, .string a1, .string a2, .int .i64 a3, .int .i64 a4, .slice a5A a5l.length a5c, .int .i64 a6, .int .i64 a7, .slice a8A a8l.length a8c, .slice a9A a9l.length a9c, .slice a10A a10l.length a10c, .bool a11, .bool a12] W0 := by rw [← hW]; repeat' (first | with_reducible assumption | with_reducible exact AtL.new _ _ _ | ((with_reducible refine AtL.newAt ?_); (first | rfl | (simp; done))) | (with_reducible refine AtL.drew ?_) | (with_reducible refine AtL.below ?_ (by with_reducible assumption)) | (with_reducible refine AtL.alloc ?_ _) | (with_reducible refine AtL.far ?_ ?_ _ _) | omega | (simp; done) | (simp; omega))
  have row_a5W0 : Row RvTerm 3 W0 (w.heap.size) a5A a5l := by rw [← hW]; repeat' (first | with_reducible assumption | (with_reducible refine Row.drew ?_) | (with_reducible refine Row.carry ?_ (by with_reducible assumption) ?_) | (with_reducible refine Row.alloc ?_ ?_ _) | (with_reducible refine Row.setCell ?_ ?_ _) | omega | (simp; done) | (simp; omega))
  have row_a8W0 : Row RvTerm 3 W0 (w.heap.size) a8A a8l := by rw [← hW]; repeat' (first | with_reducible assumption | (with_reducible refine Row.drew ?_) | (with_reducible refine Row.carry ?_ (by with_reducible assumption) ?_) | (with_reducible refine Row.alloc ?_ ?_ _) | (with_reducible refine Row.setCell ?_ ?_ _) | omega | (simp; done) | (simp; omega))
  have row_a9W0 : Row RvString 1 W0 (w.heap.size) a9A a9l := by rw [← hW]; repeat' (first | with_reducible assumption | (with_reducible refine Row.drew ?_) | (with_reducible refine Row.carry ?_ (by with_reducible assumption) ?_) | (with_reducible refine Row.alloc ?_ ?_ _) | (with_reducible refine Row.setCell ?_ ?_ _) | omega | (simp; done) | (simp; omega))
  have row_a10W0 : Row RvInt64 1 W0 (w.heap.size) a10A a10l := by rw [← hW]; repeat' (first | with_reducible assumption | (with_reducible refine Row.drew ?_) | (with_reducible refine Row.carry ?_ (by with_reducible assumption) ?_) | (with_reducible refine Row.alloc ?_ ?_ _) | (with_reducible refine Row.setCell ?_ ?_ _) | omega | (simp; done) | (simp; omega))
  have qW0 : w.heap.size ≤ W0.heap.size := by rw [← hW]; first | (simp; done) | (simp; omega)
  have bn : Below w.heap.size w W0 := by rw [← hW]; repeat' (first | with_reducible assumption | with_reducible exact Below.refl _ _ | (with_reducible refine Below.setCell ?_ ?_ _) | (with_reducible refine Below.alloc ?_ ?_ _) | (with_reducible refine Below.drew ?_) | (with_reducible refine below_dr ?_ _) | (with_reducible refine Below.trans ?_ (Below.mono (by with_reducible assumption) ?_)) | omega | (simp; done) | (simp; omega))
  have bW0 := Lib.hid bn
  clear hW bn
  clear row_a5w row_a5 row_a8w row_a8 row_a9w row_a9 row_a10w row_a10
  have kbx_a0 := bx_aW0.cell 0 rfl
  have kbx_a1 := bx_aW0.cell 1 rfl
  have kbx_a2 := bx_aW0.cell 2 rfl
  have kbx_a3 := bx_aW0.cell 3 rfl
  have kbx_a4 := bx_aW0.cell 4 rfl
  have kbx_a5 := bx_aW0.cell 5 rfl
  have kbx_a6 := bx_aW0.cell 6 rfl
  have kbx_a7 := bx_aW0.cell 7 rfl
  have kbx_a8 := bx_aW0.cell 8 rfl
  have kbx_a9 := bx_aW0.cell 9 rfl
  have kbx_a10 := bx_aW0.cell 10 rfl
  have kbx_a11 := bx_aW0.cell 11 rfl
  have kbx_a12 := bx_aW0.cell 12 rfl
  have lbx_a := bx_aW0.lt
  go_wp2_with fail
  clear kbx_a0 kbx_a1 kbx_a2 kbx_a3 kbx_a4 kbx_a5 kbx_a6 kbx_a7 kbx_a8 kbx_a9 kbx_a10 kbx_a11 kbx_a12 lbx_a
  obtain ⟨T0, hT0⟩ : ∃ T, T = totStatement (a0, a1, a2, a3, a4, a5l, a6, a7, a8l, a9l, a10l, a11, a12) := ⟨_, rfl⟩
  have HTT0 := Lib.hid hT0
  refine (szStatement_any a0 a1 a2 a3 a4 a5A a5c a5l a6 a7 a8A a8c a8l a9A a9c a9l a10A a10c a10l a11 a12 1048576 _ (by omega) (by omega) HZP_a.out ?_ ?_ ?_ ?_).mono ?_
  · (refine Row.more (B := w.heap.size) ?_ (by first | omega | ((try simp only [World.size_setCell]); (try simp only [World.size_drew]); (try simp only [World.size_alloc]); omega))); repeat' (first | with_reducible assumption | (with_reducible refine Row.drew ?_) | (with_reducible refine Row.carry ?_ (by with_reducible assumption) ?_) | (with_reducible refine Row.alloc ?_ ?_ _) | (with_reducible refine Row.setCell ?_ ?_ _) | omega | (simp; done) | (simp; omega))
  · (refine Row.more (B := w.heap.size) ?_ (by first | omega | ((try simp only [World.size_setCell]); (try simp only [World.size_drew]); (try simp only [World.size_alloc]); omega))); repeat' (first | with_reducible assumption | (with_reducible refine Row.drew ?_) | (with_reducible refine Row.carry ?_ (by with_reducible assumption) ?_) | (with_reducible refine Row.alloc ?_ ?_ _) | (with_reducible refine Row.setCell ?_ ?_ _) | omega | (simp; done) | (simp; omega))
  · (refine Row.more (B := w.heap.size) ?_ (by first | omega | ((try simp only [World.size_setCell]); (try simp only [World.size_drew]); (try simp only [World.size_alloc]); omega))); repeat' (first | with_reducible assumption | (with_reducible refine Row.drew ?_) | (with_reducible refine Row.carry ?_ (by with_reducible assumption) ?_) | (with_reducible refine Row.alloc ?_ ?_ _) | (with_reducible refine Row.setCell ?_ ?_ _) | omega | (simp; done) | (simp; omega))
  · (refine Row.more (B := w.heap.size) ?_ (by first | omega | ((try simp only [World.size_setCell]); (try simp only [World.size_drew]); (try simp only [World.size_alloc]); omega))); repeat' (first | with_reducible assumption | (with_reducible refine Row.drew ?_) | (with_reducible refine Row.carry ?_ (by with_reducible assumption) ?_) | (with_reducible refine Row.alloc ?_ ?_ _) | (with_reducible refine Row.setCell ?_ ?_ _) | omega | (simp; done) | (simp; omega))
  rw [← hT0]
  clear hT0
  by_cases hfit : (T0 : Int) ≤ 1048576
  case neg =>
    rw [szV_no hfit]
    rintro e wN ⟨rfl, hb⟩
    go_wp2_with fail
    go_ret
    have bp := bW0.out
    exact ⟨rfl, by repeat' (first | with_reducible assumption | with_reducible exact Below.refl _ _ | (with_reducible refine Below.setCell ?_ ?_ _) | (with_reducible refine Below.alloc ?_ ?_ _) | (with_reducible refine Below.drew ?_) | (with_reducible refine below_dr ?_ _) | (with_reducible refine Below.trans ?_ (Below.mono (by with_reducible assumption) ?_)) | omega | (simp; done) | (simp; omega))⟩
  case pos =>
    rw [szV_yes hfit]
    have HT_a := Lib.hid (show totStatement (a0, a1, a2, a3, a4, a5l, a6, a7, a8l, a9l, a10l, a11, a12) ≤ 1048576 by rw [← HTT0.out]; omega)
    obtain ⟨V0, hV⟩ : ∃ V : Int, V = 1048576 - T0 := ⟨_, rfl⟩
    have hVV : 0 ≤ V0 ∧ V0 ≤ 1048576 := by omega
    rw [← hV]
    rintro e wS0 ⟨rfl, hbwS0⟩
    clear hV hfit
    obtain ⟨hV0_0, hV1_0⟩ := hVV
    have zwS0 := hbwS0.size
    (try simp only [World.size_setCell] at zwS0)
    (try simp only [World.size_drew] at zwS0)
    (try simp only [World.size_alloc] at zwS0)
    have qwS0 : w.heap.size ≤ wS0.heap.size := by omega
    have bx_awS0 : AtL (w.heap.size) [.int .i64 a0, .string a1, .string a2, .int .i64 a3, .int .i64 a4, .slice a5A a5l.length a5c, .int .i64 a6, .int .i64 a7, .slice a8A a8l.length a8c, .slice a9A a9l.length a9c, .slice a10A a10l.length a10c, .bool a11, .bool a12] wS0 := by repeat' (first | with_reducible assumption | with_reducible exact AtL.new _ _ _ | ((with_reducible refine AtL.newAt ?_); (first | rfl | (simp; done))) | (with_reducible refine AtL.drew ?_) | (with_reducible refine AtL.below ?_ (by with_reducible assumption)) | (with_reducible refine AtL.alloc ?_ _) | (with_reducible refine AtL.far ?_ ?_ _ _) | omega | (simp; done) | (simp; omega))
    have row_a5wS0 : Row RvTerm 3 wS0 (w.heap.size) a5A a5l := by repeat' (first | with_reducible assumption | (with_reducible refine Row.drew ?_) | (with_reducible refine Row.carry ?_ (by with_reducible assumption) ?_) | (with_reducible refine Row.alloc ?_ ?_ _) | (with_reducible refine Row.setCell ?_ ?_ _) | omega | (simp; done) | (simp; omega))
    have row_a8wS0 : Row RvTerm 3 wS0 (w.heap.size) a8A a8l := by repeat' (first | with_reducible assumption | (with_reducible refine Row.drew ?_) | (with_reducible refine Row.carry ?_ (by with_reducible assumption) ?_) | (with_reducible refine Row.alloc ?_ ?_ _) | (with_reducible refine Row.setCell ?_ ?_ _) | omega | (simp; done) | (simp; omega))
    have row_a9wS0 : Row RvString 1 wS0 (w.heap.size) a9A a9l := by repeat' (first | with_reducible assumption | (with_reducible refine Row.drew ?_) | (with_reducible refine Row.carry ?_ (by with_reducible assumption) ?_) | (with_reducible refine Row.alloc ?_ ?_ _) | (with_reducible refine Row.setCell ?_ ?_ _) | omega | (simp; done) | (simp; omega))
    have row_a10wS0 : Row RvInt64 1 wS0 (w.heap.size) a10A a10l := by repeat' (first | with_reducible assumption | (with_reducible refine Row.drew ?_) | (with_reducible refine Row.carry ?_ (by with_reducible assumption) ?_) | (with_reducible refine Row.alloc ?_ ?_ _) | (with_reducible refine Row.setCell ?_ ?_ _) | omega | (simp; done) | (simp; omega))
    have bp := bW0.out
    have bn : Below w.heap.size w wS0 := by repeat' (first | with_reducible assumption | with_reducible exact Below.refl _ _ | (with_reducible refine Below.setCell ?_ ?_ _) | (with_reducible refine Below.alloc ?_ ?_ _) | (with_reducible refine Below.drew ?_) | (with_reducible refine below_dr ?_ _) | (with_reducible refine Below.trans ?_ (Below.mono (by with_reducible assumption) ?_)) | omega | (simp; done) | (simp; omega))
    have bwS0 := Lib.hid bn
    clear bn
    clear bp bW0
    clear hbwS0
    clear bx_aW0
    clear row_a5W0
    clear row_a8W0
    clear row_a9W0
    clear row_a10W0
    have kbx_a0 := bx_awS0.cell 0 rfl
    have kbx_a1 := bx_awS0.cell 1 rfl
    have kbx_a2 := bx_awS0.cell 2 rfl
    have kbx_a3 := bx_awS0.cell 3 rfl
    have kbx_a4 := bx_awS0.cell 4 rfl
    have kbx_a5 := bx_awS0.cell 5 rfl
    have kbx_a6 := bx_awS0.cell 6 rfl
    have kbx_a7 := bx_awS0.cell 7 rfl
    have kbx_a8 := bx_awS0.cell 8 rfl
    have kbx_a9 := bx_awS0.cell 9 rfl
    have kbx_a10 := bx_awS0.cell 10 rfl
    have kbx_a11 := bx_awS0.cell 11 rfl
    have kbx_a12 := bx_awS0.cell 12 rfl
    have lbx_a := bx_awS0.lt
    go_wp2_with fail
    refine (xtoStatement_any a0 a1 a2 a3 a4 a5A a5c a5l a6 a7 a8A a8c a8l a9A a9c a9l a10A a10c a10l a11 a12 _ (HT_a.out) ?_ ?_ ?_ ?_).mono ?_
    · (refine Row.more (B := w.heap.size) ?_ (by first | omega | ((try simp only [World.size_setCell]); (try simp only [World.size_drew]); (try simp only [World.size_alloc]); omega))); repeat' (first | with_reducible assumption | (with_reducible refine Row.drew ?_) | (with_reducible refine Row.carry ?_ (by with_reducible assumption) ?_) | (with_reducible refine Row.alloc ?_ ?_ _) | (with_reducible refine Row.setCell ?_ ?_ _) | omega | (simp; done) | (simp; omega))
    · (refine Row.more (B := w.heap.size) ?_ (by first | omega | ((try simp only [World.size_setCell]); (try simp only [World.size_drew]); (try simp only [World.size_alloc]); omega))); repeat' (first | with_reducible assumption | (with_reducible refine Row.drew ?_) | (with_reducible refine Row.carry ?_ (by with_reducible assumption) ?_) | (with_reducible refine Row.alloc ?_ ?_ _) | (with_reducible refine Row.setCell ?_ ?_ _) | omega | (simp; done) | (simp; omega))
    · (refine Row.more (B := w.heap.size) ?_ (by first | omega | ((try simp only [World.size_setCell]); (try simp only [World.size_drew]); (try simp only [World.size_alloc]); omega))); repeat' (first | with_reducible assumption | (with_reducible refine Row.drew ?_) | (with_reducible refine Row.carry ?_ (by with_reducible assumption) ?_) | (with_reducible refine Row.alloc ?_ ?_ _) | (with_reducible refine Row.setCell ?_ ?_ _) | omega | (simp; done) | (simp; omega))
    · (refine Row.more (B := w.heap.size) ?_ (by first | omega | ((try simp only [World.size_setCell]); (try simp only [World.size_drew]); (try simp only [World.size_alloc]); omega))); repeat' (first | with_reducible assumption | (with_reducible refine Row.drew ?_) | (with_reducible refine Row.carry ?_ (by with_reducible assumption) ?_) | (with_reducible refine Row.alloc ?_ ?_ _) | (with_reducible refine Row.setCell ?_ ?_ _) | omega | (simp; done) | (simp; omega))
    intro e wA0 hq
    obtain ⟨owA0_a5A, owA0_a5c, owA0_a8A, owA0_a8c, owA0_a9A, owA0_a9c, owA0_a10A, owA0_a10c, rfl, owA0_a5, owA0_a8, owA0_a9, owA0_a10, hbwA0⟩ := hq
    clear kbx_a0 kbx_a1 kbx_a2 kbx_a3 kbx_a4 kbx_a5 kbx_a6 kbx_a7 kbx_a8 kbx_a9 kbx_a10 kbx_a11 kbx_a12 lbx_a
    have zwA0 := hbwA0.size
    (try simp only [World.size_setCell] at zwA0)
    (try simp only [World.size_drew] at zwA0)
    (try simp only [World.size_alloc] at zwA0)
    have qwA0 : w.heap.size ≤ wA0.heap.size := by omega
    have bx_awA0 : AtL (w.heap.size) [.int .i64 a0, .string a1, .string a2, .int .i64 a3, .int .i64 a4, .slice a5A a5l.length a5c, .int .i64 a6, .int .i64 a7, .slice a8A a8l.length a8c, .slice a9A a9l.length a9c, .slice a10A a10l.length a10c, .bool a11, .bool a12] wA0 := by repeat' (first | with_reducible assumption | with_reducible exact AtL.new _ _ _ | ((with_reducible refine AtL.newAt ?_); (first | rfl | (simp; done))) | (with_reducible refine AtL.drew ?_) | (with_reducible refine AtL.below ?_ (by with_reducible assumption)) | (with_reducible refine AtL.alloc ?_ _) | (with_reducible refine AtL.far ?_ ?_ _ _) | omega | (simp; done) | (simp; omega))
    have row_a5wA0 : Row RvTerm 3 wA0 (w.heap.size) a5A a5l := by repeat' (first | with_reducible assumption | (with_reducible refine Row.drew ?_) | (with_reducible refine Row.carry ?_ (by with_reducible assumption) ?_) | (with_reducible refine Row.alloc ?_ ?_ _) | (with_reducible refine Row.setCell ?_ ?_ _) | omega | (simp; done) | (simp; omega))
    have row_a8wA0 : Row RvTerm 3 wA0 (w.heap.size) a8A a8l := by repeat' (first | with_reducible assumption | (with_reducible refine Row.drew ?_) | (with_reducible refine Row.carry ?_ (by with_reducible assumption) ?_) | (with_reducible refine Row.alloc ?_ ?_ _) | (with_reducible refine Row.setCell ?_ ?_ _) | omega | (simp; done) | (simp; omega))
    have row_a9wA0 : Row RvString 1 wA0 (w.heap.size) a9A a9l := by repeat' (first | with_reducible assumption | (with_reducible refine Row.drew ?_) | (with_reducible refine Row.carry ?_ (by with_reducible assumption) ?_) | (with_reducible refine Row.alloc ?_ ?_ _) | (with_reducible refine Row.setCell ?_ ?_ _) | omega | (simp; done) | (simp; omega))
    have row_a10wA0 : Row RvInt64 1 wA0 (w.heap.size) a10A a10l := by repeat' (first | with_reducible assumption | (with_reducible refine Row.drew ?_) | (with_reducible refine Row.carry ?_ (by with_reducible assumption) ?_) | (with_reducible refine Row.alloc ?_ ?_ _) | (with_reducible refine Row.setCell ?_ ?_ _) | omega | (simp; done) | (simp; omega))
    have bp := bwS0.out
    have bn : Below w.heap.size w wA0 := by repeat' (first | with_reducible assumption | with_reducible exact Below.refl _ _ | (with_reducible refine Below.setCell ?_ ?_ _) | (with_reducible refine Below.alloc ?_ ?_ _) | (with_reducible refine Below.drew ?_) | (with_reducible refine below_dr ?_ _) | (with_reducible refine Below.trans ?_ (Below.mono (by with_reducible assumption) ?_)) | omega | (simp; done) | (simp; omega))
    have bwA0 := Lib.hid bn
    clear bn
    clear bp bwS0
    clear hbwA0
    clear bx_awS0
    clear row_a5wS0
    clear row_a8wS0
    clear row_a9wS0
    clear row_a10wS0
    go_wp2_with fail
    refine (C1.out HT_a.out owA0_a5A owA0_a5c owA0_a8A owA0_a8c owA0_a9A owA0_a9c owA0_a10A owA0_a10c _ ?_ ?_ ?_ ?_).mono ?_
    · exact Row.more (B := wA0.heap.size) owA0_a5.here (by first | exact Nat.le_refl _ | omega)
    · exact Row.more (B := wA0.heap.size) owA0_a8.here (by first | exact Nat.le_refl _ | omega)
    · exact Row.more (B := wA0.heap.size) owA0_a9.here (by first | exact Nat.le_refl _ | omega)
    · exact Row.more (B := wA0.heap.size) owA0_a10.here (by first | exact Nat.le_refl _ | omega)
    rintro e wB ⟨rfl, hbwB⟩
    clear owA0_a5
    clear owA0_a8
    clear owA0_a9
    clear owA0_a10
    have zwB := hbwB.size
    (try simp only [World.size_setCell] at zwB)
    (try simp only [World.size_drew] at zwB)
    (try simp only [World.size_alloc] at zwB)
    have qwB : w.heap.size ≤ wB.heap.size := by omega
    have bx_awB : AtL (w.heap.size) [.int .i64 a0, .string a1, .string a2, .int .i64 a3, .int .i64 a4, .slice a5A a5l.length a5c, .int .i64 a6, .int .i64 a7, .slice a8A a8l.length a8c, .slice a9A a9l.length a9c, .slice a10A a10l.length a10c, .bool a11, .bool a12] wB := by repeat' (first | with_reducible assumption | with_reducible exact AtL.new _ _ _ | ((with_reducible refine AtL.newAt ?_); (first | rfl | (simp; done))) | (with_reducible refine AtL.drew ?_) | (with_reducible refine AtL.below ?_ (by with_reducible assumption)) | (with_reducible refine AtL.alloc ?_ _) | (with_reducible refine AtL.far ?_ ?_ _ _) | omega | (simp; done) | (simp; omega))
    have row_a5wB : Row RvTerm 3 wB (w.heap.size) a5A a5l := by repeat' (first | with_reducible assumption | (with_reducible refine Row.drew ?_) | (with_reducible refine Row.carry ?_ (by with_reducible assumption) ?_) | (with_reducible refine Row.alloc ?_ ?_ _) | (with_reducible refine Row.setCell ?_ ?_ _) | omega | (simp; done) | (simp; omega))
    have row_a8wB : Row RvTerm 3 wB (w.heap.size) a8A a8l := by repeat' (first | with_reducible assumption | (with_reducible refine Row.drew ?_) | (with_reducible refine Row.carry ?_ (by with_reducible assumption) ?_) | (with_reducible refine Row.alloc ?_ ?_ _) | (with_reducible refine Row.setCell ?_ ?_ _) | omega | (simp; done) | (simp; omega))
    have row_a9wB : Row RvString 1 wB (w.heap.size) a9A a9l := by repeat' (first | with_reducible assumption | (with_reducible refine Row.drew ?_) | (with_reducible refine Row.carry ?_ (by with_reducible assumption) ?_) | (with_reducible refine Row.alloc ?_ ?_ _) | (with_reducible refine Row.setCell ?_ ?_ _) | omega | (simp; done) | (simp; omega))
    have row_a10wB : Row RvInt64 1 wB (w.heap.size) a10A a10l := by repeat' (first | with_reducible assumption | (with_reducible refine Row.drew ?_) | (with_reducible refine Row.carry ?_ (by with_reducible assumption) ?_) | (with_reducible refine Row.alloc ?_ ?_ _) | (with_reducible refine Row.setCell ?_ ?_ _) | omega | (simp; done) | (simp; omega))
    have bp := bwA0.out
    have bn : Below w.heap.size w wB := by repeat' (first | with_reducible assumption | with_reducible exact Below.refl _ _ | (with_reducible refine Below.setCell ?_ ?_ _) | (with_reducible refine Below.alloc ?_ ?_ _) | (with_reducible refine Below.drew ?_) | (with_reducible refine below_dr ?_ _) | (with_reducible refine Below.trans ?_ (Below.mono (by with_reducible assumption) ?_)) | omega | (simp; done) | (simp; omega))
    have bwB := Lib.hid bn
    clear bn
    clear bp bwA0
    clear hbwB
    clear bx_awA0
    clear row_a5wA0
    clear row_a8wA0
    clear row_a9wA0
    clear row_a10wA0
    have kbx_a0 := bx_awB.cell 0 rfl
    have kbx_a1 := bx_awB.cell 1 rfl
    have kbx_a2 := bx_awB.cell 2 rfl
    have kbx_a3 := bx_awB.cell 3 rfl
    have kbx_a4 := bx_awB.cell 4 rfl
    have kbx_a5 := bx_awB.cell 5 rfl
    have kbx_a6 := bx_awB.cell 6 rfl
    have kbx_a7 := bx_awB.cell 7 rfl
    have kbx_a8 := bx_awB.cell 8 rfl
    have kbx_a9 := bx_awB.cell 9 rfl
    have kbx_a10 := bx_awB.cell 10 rfl
    have kbx_a11 := bx_awB.cell 11 rfl
    have kbx_a12 := bx_awB.cell 12 rfl
    have lbx_a := bx_awB.lt
    go_wp2_with fail
    clear kbx_a0 kbx_a1 kbx_a2 kbx_a3 kbx_a4 kbx_a5 kbx_a6 kbx_a7 kbx_a8 kbx_a9 kbx_a10 kbx_a11 kbx_a12 lbx_a
    refine (xtoStatement_any a0 a1 a2 a3 a4 a5A a5c a5l a6 a7 a8A a8c a8l a9A a9c a9l a10A a10c a10l a11 a12 _ (HT_a.out) ?_ ?_ ?_ ?_).mono ?_
    · (refine Row.more (B := w.heap.size) ?_ (by first | omega | ((try simp only [World.size_setCell]); (try simp only [World.size_drew]); (try simp only [World.size_alloc]); omega))); repeat' (first | with_reducible assumption | (with_reducible refine Row.drew ?_) | (with_reducible refine Row.carry ?_ (by with_reducible assumption) ?_) | (with_reducible refine Row.alloc ?_ ?_ _) | (with_reducible refine Row.setCell ?_ ?_ _) | omega | (simp; done) | (simp; omega))
    · (refine Row.more (B := w.heap.size) ?_ (by first | omega | ((try simp only [World.size_setCell]); (try simp only [World.size_drew]); (try simp only [World.size_alloc]); omega))); repeat' (first | with_reducible assumption | (with_reducible refine Row.drew ?_) | (with_reducible refine Row.carry ?_ (by with_reducible assumption) ?_) | (with_reducible refine Row.alloc ?_ ?_ _) | (with_reducible refine Row.setCell ?_ ?_ _) | omega | (simp; done) | (simp; omega))
    · (refine Row.more (B := w.heap.size) ?_ (by first | omega | ((try simp only [World.size_setCell]); (try simp only [World.size_drew]); (try simp only [World.size_alloc]); omega))); repeat' (first | with_reducible assumption | (with_reducible refine Row.drew ?_) | (with_reducible refine Row.carry ?_ (by with_reducible assumption) ?_) | (with_reducible refine Row.alloc ?_ ?_ _) | (with_reducible refine Row.setCell ?_ ?_ _) | omega | (simp; done) | (simp; omega))
    · (refine Row.more (B := w.heap.size) ?_ (by first | omega | ((try simp only [World.size_setCell]); (try simp only [World.size_drew]); (try simp only [World.size_alloc]); omega))); repeat' (first | with_reducible assumption | (with_reducible refine Row.drew ?_) | (with_reducible refine Row.carry ?_ (by with_reducible assumption) ?_) | (with_reducible refine Row.alloc ?_ ?_ _) | (with_reducible refine Row.setCell ?_ ?_ _) | omega | (simp; done) | (simp; omega))
    intro e wX0 hq
    obtain ⟨gX0_a5A, gX0_a5c, gX0_a8A, gX0_a8c, gX0_a9A, gX0_a9c, gX0_a10A, gX0_a10c, rfl, owX_a5, owX_a8, owX_a9, owX_a10, hbwX0⟩ := hq
    have zwX0 := hbwX0.size
    (try simp only [World.size_setCell] at zwX0)
    (try simp only [World.size_drew] at zwX0)
    (try simp only [World.size_alloc] at zwX0)
    have qwX0 : w.heap.size ≤ wX0.heap.size := by omega
    have bx_awX0 : AtL (w.heap.size) [.int .i64 a0, .string a1, .string a2, .int .i64 a3, .int .i64 a4, .slice a5A a5l.length a5c, .int .i64 a6, .int .i64 a7, .slice a8A a8l.length a8c, .slice a9A a9l.length a9c, .slice a10A a10l.length a10c, .bool a11, .bool a12] wX0 := by repeat' (first | with_reducible assumption | with_reducible exact AtL.new _ _ _ | ((with_reducible refine AtL.newAt ?_); (first | rfl | (simp; done))) | (with_reducible refine AtL.drew ?_) | (with_reducible refine AtL.below ?_ (by with_reducible assumption)) | (with_reducible refine AtL.alloc ?_ _) | (with_reducible refine AtL.far ?_ ?_ _ _) | omega | (simp; done) | (simp; omega))
    have row_a5wX0 : Row RvTerm 3 wX0 (w.heap.size) a5A a5l := by repeat' (first | with_reducible assumption | (with_reducible refine Row.drew ?_) | (with_reducible refine Row.carry ?_ (by with_reducible assumption) ?_) | (with_reducible refine Row.alloc ?_ ?_ _) | (with_reducible refine Row.setCell ?_ ?_ _) | omega | (simp; done) | (simp; omega))
    have row_a8wX0 : Row RvTerm 3 wX0 (w.heap.size) a8A a8l := by repeat' (first | with_reducible assumption | (with_reducible refine Row.drew ?_) | (with_reducible refine Row.carry ?_ (by with_reducible assumption) ?_) | (with_reducible refine Row.alloc ?_ ?_ _) | (with_reducible refine Row.setCell ?_ ?_ _) | omega | (simp; done) | (simp; omega))
    have row_a9wX0 : Row RvString 1 wX0 (w.heap.size) a9A a9l := by repeat' (first | with_reducible assumption | (with_reducible refine Row.drew ?_) | (with_reducible refine Row.carry ?_ (by with_reducible assumption) ?_) | (with_reducible refine Row.alloc ?_ ?_ _) | (with_reducible refine Row.setCell ?_ ?_ _) | omega | (simp; done) | (simp; omega))
    have row_a10wX0 : Row RvInt64 1 wX0 (w.heap.size) a10A a10l := by repeat' (first | with_reducible assumption | (with_reducible refine Row.drew ?_) | (with_reducible refine Row.carry ?_ (by with_reducible assumption) ?_) | (with_reducible refine Row.alloc ?_ ?_ _) | (with_reducible refine Row.setCell ?_ ?_ _) | omega | (simp; done) | (simp; omega))
    have bp := bwB.out
    have bn : Below w.heap.size w wX0 := by repeat' (first | with_reducible assumption | with_reducible exact Below.refl _ _ | (with_reducible refine Below.setCell ?_ ?_ _) | (with_reducible refine Below.alloc ?_ ?_ _) | (with_reducible refine Below.drew ?_) | (with_reducible refine below_dr ?_ _) | (with_reducible refine Below.trans ?_ (Below.mono (by with_reducible assumption) ?_)) | omega | (simp; done) | (simp; omega))
    have bwX0 := Lib.hid bn
    clear bn
    clear bp bwB
    clear hbwX0
    clear bx_awB
    clear row_a5wB
    clear row_a8wB
    clear row_a9wB
    clear row_a10wB
    have rx_a5wX0 : Row RvTerm 3 wX0 (wX0.heap.size) gX0_a5A a5l := owX_a5.here
    clear owX_a5
    have rx_a8wX0 : Row RvTerm 3 wX0 (wX0.heap.size) gX0_a8A a8l := owX_a8.here
    clear owX_a8
    have rx_a9wX0 : Row RvString 1 wX0 (wX0.heap.size) gX0_a9A a9l := owX_a9.here
    clear owX_a9
    have rx_a10wX0 : Row RvInt64 1 wX0 (wX0.heap.size) gX0_a10A a10l := owX_a10.here
    clear owX_a10
    go_wp2_with fail
    generalize hWB : wX0.alloc (.cells #[.int .i64 a0, .string a1, .string a2, .int .i64 a3, .int .i64 a4, .slice gX0_a5A a5l.length gX0_a5c, .int .i64 a6, .int .i64 a7, .slice gX0_a8A a8l.length gX0_a8c, .slice gX0_a9A a9l.length gX0_a9c, .slice gX0_a10A a10l.length gX0_a10c, .bool a11, .bool a12] 38) = WB0
    have hbWB0 : Below wX0.heap.size wX0 WB0 := by rw [← hWB]; repeat' (first | with_reducible assumption | with_reducible exact Below.refl _ _ | (with_reducible refine Below.setCell ?_ ?_ _) | (with_reducible refine Below.alloc ?_ ?_ _) | (with_reducible refine Below.drew ?_) | (with_reducible refine below_dr ?_ _) | (with_reducible refine Below.trans ?_ (Below.mono (by with_reducible assumption) ?_)) | omega | (simp; done) | (simp; omega))
    have at_aWB0 : AtL (wX0.heap.size) [.int .i64 a0, .string a1, .string a2, .int .i64 a3, .int .i64 a4, .slice gX0_a5A a5l.length gX0_a5c, .int .i64 a6, .int .i64 a7, .slice gX0_a8A a8l.length gX0_a8c, .slice gX0_a9A a9l.length gX0_a9c, .slice gX0_a10A a10l.length gX0_a10c, .bool a11, .bool a12] WB0 := by rw [← hWB]; exact AtL.new _ _ _
    clear hWB
    have zWB0 := hbWB0.size
    (try simp only [World.size_setCell] at zWB0)
    (try simp only [World.size_drew] at zWB0)
    (try simp only [World.size_alloc] at zWB0)
    have qWB0 : w.heap.size ≤ WB0.heap.size := by omega
    have bx_aWB0 : AtL (w.heap.size) [.int .i64 a0, .string a1, .string a2, .int .i64 a3, .int .i64 a4, .slice a5A a5l.length a5c, .int .i64 a6, .int .i64 a7, .slice a8A a8l.length a8c, .slice a9A a9l.length a9c, .slice a10A a10l.length a10c, .bool a11, .bool a12] WB0 := by repeat' (first | with_reducible assumption | with_reducible exact AtL.new _ _ _ | ((with_reducible refine AtL.newAt ?_); (first | rfl | (simp; done))) | (with_reducible refine AtL.drew ?_) | (with_reducible refine AtL.below ?_ (by with_reducible assumption)) | (with_reducible refine AtL.alloc ?_ _) | (with_reducible refine AtL.far ?_ ?_ _ _) | omega | (simp; done) | (simp; omega))
    have row_a5WB0 : Row RvTerm 3 WB0 (w.heap.size) a5A a5l := by repeat' (first | with_reducible assumption | (with_reducible refine Row.drew ?_) | (with_reducible refine Row.carry ?_ (by with_reducible assumption) ?_) | (with_reducible refine Row.alloc ?_ ?_ _) | (with_reducible refine Row.setCell ?_ ?_ _) | omega | (simp; done) | (simp; omega))
    have row_a8WB0 : Row RvTerm 3 WB0 (w.heap.size) a8A a8l := by repeat' (first | with_reducible assumption | (with_reducible refine Row.drew ?_) | (with_reducible refine Row.carry ?_ (by with_reducible assumption) ?_) | (with_reducible refine Row.alloc ?_ ?_ _) | (with_reducible refine Row.setCell ?_ ?_ _) | omega | (simp; done) | (simp; omega))
    have row_a9WB0 : Row RvString 1 WB0 (w.heap.size) a9A a9l := by repeat' (first | with_reducible assumption | (with_reducible refine Row.drew ?_) | (with_reducible refine Row.carry ?_ (by with_reducible assumption) ?_) | (with_reducible refine Row.alloc ?_ ?_ _) | (with_reducible refine Row.setCell ?_ ?_ _) | omega | (simp; done) | (simp; omega))
    have row_a10WB0 : Row RvInt64 1 WB0 (w.heap.size) a10A a10l := by repeat' (first | with_reducible assumption | (with_reducible refine Row.drew ?_) | (with_reducible refine Row.carry ?_ (by with_reducible assumption) ?_) | (with_reducible refine Row.alloc ?_ ?_ _) | (with_reducible refine Row.setCell ?_ ?_ _) | omega | (simp; done) | (simp; omega))
    have rx_a5WB0 : Row RvTerm 3 WB0 (wX0.heap.size) gX0_a5A a5l := by repeat' (first | with_reducible assumption | (with_reducible refine Row.drew ?_) | (with_reducible refine Row.carry ?_ (by with_reducible assumption) ?_) | (with_reducible refine Row.alloc ?_ ?_ _) | (with_reducible refine Row.setCell ?_ ?_ _) | omega | (simp; done) | (simp; omega))
    have rx_a8WB0 : Row RvTerm 3 WB0 (wX0.heap.size) gX0_a8A a8l := by repeat' (first | with_reducible assumption | (with_reducible refine Row.drew ?_) | (with_reducible refine Row.carry ?_ (by with_reducible assumption) ?_) | (with_reducible refine Row.alloc ?_ ?_ _) | (with_reducible refine Row.setCell ?_ ?_ _) | omega | (simp; done) | (simp; omega))
    have rx_a9WB0 : Row RvString 1 WB0 (wX0.heap.size) gX0_a9A a9l := by repeat' (first | with_reducible assumption | (with_reducible refine Row.drew ?_) | (with_reducible refine Row.carry ?_ (by with_reducible assumption) ?_) | (with_reducible refine Row.alloc ?_ ?_ _) | (with_reducible refine Row.setCell ?_ ?_ _) | omega | (simp; done) | (simp; omega))
    have rx_a10WB0 : Row RvInt64 1 WB0 (wX0.heap.size) gX0_a10A a10l := by repeat' (first | with_reducible assumption | (with_reducible refine Row.drew ?_) | (with_reducible refine Row.carry ?_ (by with_reducible assumption) ?_) | (with_reducible refine Row.alloc ?_ ?_ _) | (with_reducible refine Row.setCell ?_ ?_ _) | omega | (simp; done) | (simp; omega))
    have bp := bwX0.out
    have bn : Below w.heap.size w WB0 := by repeat' (first | with_reducible assumption | with_reducible exact Below.refl _ _ | (with_reducible refine Below.setCell ?_ ?_ _) | (with_reducible refine Below.alloc ?_ ?_ _) | (with_reducible refine Below.drew ?_) | (with_reducible refine below_dr ?_ _) | (with_reducible refine Below.trans ?_ (Below.mono (by with_reducible assumption) ?_)) | omega | (simp; done) | (simp; omega))
    have bWB0 := Lib.hid bn
    clear bn
    clear bp bwX0
    clear hbWB0
    clear bx_awX0
    clear row_a5wX0
    clear row_a8wX0
    clear row_a9wX0
    clear row_a10wX0
    clear rx_a5wX0
    clear rx_a8wX0
    clear rx_a9wX0
    clear rx_a10wX0
    refine (C2.out HT_a.out gX0_a5A gX0_a5c gX0_a8A gX0_a8c gX0_a9A gX0_a9c gX0_a10A gX0_a10c _ ?_ ?_ ?_ ?_).mono ?_
    · (refine Row.more (B := wX0.heap.size) ?_ (by first | omega | ((try simp only [World.size_setCell]); (try simp only [World.size_drew]); (try simp only [World.size_alloc]); omega))); repeat' (first | with_reducible assumption | (with_reducible refine Row.drew ?_) | (with_reducible refine Row.carry ?_ (by with_reducible assumption) ?_) | (with_reducible refine Row.alloc ?_ ?_ _) | (with_reducible refine Row.setCell ?_ ?_ _) | omega | (simp; done) | (simp; omega))
    · (refine Row.more (B := wX0.heap.size) ?_ (by first | omega | ((try simp only [World.size_setCell]); (try simp only [World.size_drew]); (try simp only [World.size_alloc]); omega))); repeat' (first | with_reducible assumption | (with_reducible refine Row.drew ?_) | (with_reducible refine Row.carry ?_ (by with_reducible assumption) ?_) | (with_reducible refine Row.alloc ?_ ?_ _) | (with_reducible refine Row.setCell ?_ ?_ _) | omega | (simp; done) | (simp; omega))
    · (refine Row.more (B := wX0.heap.size) ?_ (by first | omega | ((try simp only [World.size_setCell]); (try simp only [World.size_drew]); (try simp only [World.size_alloc]); omega))); repeat' (first | with_reducible assumption | (with_reducible refine Row.drew ?_) | (with_reducible refine Row.carry ?_ (by with_reducible assumption) ?_) | (with_reducible refine Row.alloc ?_ ?_ _) | (with_reducible refine Row.setCell ?_ ?_ _) | omega | (simp; done) | (simp; omega))
    · (refine Row.more (B := wX0.heap.size) ?_ (by first | omega | ((try simp only [World.size_setCell]); (try simp only [World.size_drew]); (try simp only [World.size_alloc]); omega))); repeat' (first | with_reducible assumption | (with_reducible refine Row.drew ?_) | (with_reducible refine Row.carry ?_ (by with_reducible assumption) ?_) | (with_reducible refine Row.alloc ?_ ?_ _) | (with_reducible refine Row.setCell ?_ ?_ _) | omega | (simp; done) | (simp; omega))
    rintro e wI ⟨rfl, hbwI⟩
    have zwI := hbwI.size
    (try simp only [World.size_setCell] at zwI)
    (try simp only [World.size_drew] at zwI)
    (try simp only [World.size_alloc] at zwI)
    have qwI : w.heap.size ≤ wI.heap.size := by omega
    have bx_awI : AtL (w.heap.size) [.int .i64 a0, .string a1, .string a2, .int .i64 a3, .int .i64 a4, .slice a5A a5l.length a5c, .int .i64 a6, .int .i64 a7, .slice a8A a8l.length a8c, .slice a9A a9l.length a9c, .slice a10A a10l.length a10c, .bool a11, .bool a12] wI := by repeat' (first | with_reducible assumption | with_reducible exact AtL.new _ _ _ | ((with_reducible refine AtL.newAt ?_); (first | rfl | (simp; done))) | (with_reducible refine AtL.drew ?_) | (with_reducible refine AtL.below ?_ (by with_reducible assumption)) | (with_reducible refine AtL.alloc ?_ _) | (with_reducible refine AtL.far ?_ ?_ _ _) | omega | (simp; done) | (simp; omega))
    have row_a5wI : Row RvTerm 3 wI (w.heap.size) a5A a5l := by repeat' (first | with_reducible assumption | (with_reducible refine Row.drew ?_) | (with_reducible refine Row.carry ?_ (by with_reducible assumption) ?_) | (with_reducible refine Row.alloc ?_ ?_ _) | (with_reducible refine Row.setCell ?_ ?_ _) | omega | (simp; done) | (simp; omega))
    have row_a8wI : Row RvTerm 3 wI (w.heap.size) a8A a8l := by repeat' (first | with_reducible assumption | (with_reducible refine Row.drew ?_) | (with_reducible refine Row.carry ?_ (by with_reducible assumption) ?_) | (with_reducible refine Row.alloc ?_ ?_ _) | (with_reducible refine Row.setCell ?_ ?_ _) | omega | (simp; done) | (simp; omega))
    have row_a9wI : Row RvString 1 wI (w.heap.size) a9A a9l := by repeat' (first | with_reducible assumption | (with_reducible refine Row.drew ?_) | (with_reducible refine Row.carry ?_ (by with_reducible assumption) ?_) | (with_reducible refine Row.alloc ?_ ?_ _) | (with_reducible refine Row.setCell ?_ ?_ _) | omega | (simp; done) | (simp; omega))
    have row_a10wI : Row RvInt64 1 wI (w.heap.size) a10A a10l := by repeat' (first | with_reducible assumption | (with_reducible refine Row.drew ?_) | (with_reducible refine Row.carry ?_ (by with_reducible assumption) ?_) | (with_reducible refine Row.alloc ?_ ?_ _) | (with_reducible refine Row.setCell ?_ ?_ _) | omega | (simp; done) | (simp; omega))
    have rx_a5wI : Row RvTerm 3 wI (wX0.heap.size) gX0_a5A a5l := by repeat' (first | with_reducible assumption | (with_reducible refine Row.drew ?_) | (with_reducible refine Row.carry ?_ (by with_reducible assumption) ?_) | (with_reducible refine Row.alloc ?_ ?_ _) | (with_reducible refine Row.setCell ?_ ?_ _) | omega | (simp; done) | (simp; omega))
    have rx_a8wI : Row RvTerm 3 wI (wX0.heap.size) gX0_a8A a8l := by repeat' (first | with_reducible assumption | (with_reducible refine Row.drew ?_) | (with_reducible refine Row.carry ?_ (by with_reducible assumption) ?_) | (with_reducible refine Row.alloc ?_ ?_ _) | (with_reducible refine Row.setCell ?_ ?_ _) | omega | (simp; done) | (simp; omega))
    have rx_a9wI : Row RvString 1 wI (wX0.heap.size) gX0_a9A a9l := by repeat' (first | with_reducible assumption | (with_reducible refine Row.drew ?_) | (with_reducible refine Row.carry ?_ (by with_reducible assumption) ?_) | (with_reducible refine Row.alloc ?_ ?_ _) | (with_reducible refine Row.setCell ?_ ?_ _) | omega | (simp; done) | (simp; omega))
    have rx_a10wI : Row RvInt64 1 wI (wX0.heap.size) gX0_a10A a10l := by repeat' (first | with_reducible assumption | (with_reducible refine Row.drew ?_) | (with_reducible refine Row.carry ?_ (by with_reducible assumption) ?_) | (with_reducible refine Row.alloc ?_ ?_ _) | (with_reducible refine Row.setCell ?_ ?_ _) | omega | (simp; done) | (simp; omega))
    have at_awI : AtL (wX0.heap.size) [.int .i64 a0, .string a1, .string a2, .int .i64 a3, .int .i64 a4, .slice gX0_a5A a5l.length gX0_a5c, .int .i64 a6, .int .i64 a7, .slice gX0_a8A a8l.length gX0_a8c, .slice gX0_a9A a9l.length gX0_a9c, .slice gX0_a10A a10l.length gX0_a10c, .bool a11, .bool a12] wI := by repeat' (first | with_reducible assumption | with_reducible exact AtL.new _ _ _ | ((with_reducible refine AtL.newAt ?_); (first | rfl | (simp; done))) | (with_reducible refine AtL.drew ?_) | (with_reducible refine AtL.below ?_ (by with_reducible assumption)) | (with_reducible refine AtL.alloc ?_ _) | (with_reducible refine AtL.far ?_ ?_ _ _) | omega | (simp; done) | (simp; omega))
    have bp := bWB0.out
    have bn : Below w.heap.size w wI := by repeat' (first | with_reducible assumption | with_reducible exact Below.refl _ _ | (with_reducible refine Below.setCell ?_ ?_ _) | (with_reducible refine Below.alloc ?_ ?_ _) | (with_reducible refine Below.drew ?_) | (with_reducible refine below_dr ?_ _) | (with_reducible refine Below.trans ?_ (Below.mono (by with_reducible assumption) ?_)) | omega | (simp; done) | (simp; omega))
    have bwI := Lib.hid bn
    clear bn
    clear bp bWB0
    clear hbwI
    clear bx_aWB0
    clear row_a5WB0
    clear row_a8WB0
    clear row_a9WB0
    clear row_a10WB0
    clear rx_a5WB0
    clear rx_a8WB0
    clear rx_a9WB0
    clear rx_a10WB0
    clear at_aWB0
    have kat_a0 := at_awI.cell 0 rfl
    have kat_a1 := at_awI.cell 1 rfl
    have kat_a2 := at_awI.cell 2 rfl
    have kat_a3 := at_awI.cell 3 rfl
    have kat_a4 := at_awI.cell 4 rfl
    have kat_a5 := at_awI.cell 5 rfl
    have kat_a6 := at_awI.cell 6 rfl
    have kat_a7 := at_awI.cell 7 rfl
    have kat_a8 := at_awI.cell 8 rfl
    have kat_a9 := at_awI.cell 9 rfl
    have kat_a10 := at_awI.cell 10 rfl
    have kat_a11 := at_awI.cell 11 rfl
    have kat_a12 := at_awI.cell 12 rfl
    have lat_a := at_awI.lt
    have kbx_a0 := bx_awI.cell 0 rfl
    have kbx_a1 := bx_awI.cell 1 rfl
    have kbx_a2 := bx_awI.cell 2 rfl
    have kbx_a3 := bx_awI.cell 3 rfl
    have kbx_a4 := bx_awI.cell 4 rfl
    have kbx_a5 := bx_awI.cell 5 rfl
    have kbx_a6 := bx_awI.cell 6 rfl
    have kbx_a7 := bx_awI.cell 7 rfl
    have kbx_a8 := bx_awI.cell 8 rfl
    have kbx_a9 := bx_awI.cell 9 rfl
    have kbx_a10 := bx_awI.cell 10 rfl
    have kbx_a11 := bx_awI.cell 11 rfl
    have kbx_a12 := bx_awI.cell 12 rfl
    have lbx_a := bx_awI.lt
    go_wp2_with fail
    go_region_held3 (fun w' => (∀ b o, b < wI.heap.size → w'.cell? ⟨b, o, none⟩ = wI.cell? ⟨b, o, none⟩) ∧ wI.heap.size ≤ w'.heap.size)
      (first | ((try dsimp only); exact ⟨fun b o h => (by (repeat (first | with_reducible exact rfl | (with_reducible refine (cell_drew_at _ _).trans ?_) | (with_reducible refine (cell_set_at _ _ (by first | omega | (simp; done) | (simp; omega))).trans ?_) | (with_reducible refine (cell_alloc_at _ _ (by first | omega | (simp; done) | (simp; omega))).trans ?_) | (with_reducible refine (hcwT0 b o (by first | omega | (simp; done) | (simp; omega))).trans ?_) | (with_reducible refine (hcwE0 b o (by first | omega | (simp; done) | (simp; omega))).trans ?_)))), (by first | omega | (simp; done) | (simp; omega))⟩) | fail)
      (first
        | (go_at_call 6; (with_reducible refine (xtoStatement_any a0 a1 a2 a3 a4 a5A a5c a5l a6 a7 a8A a8c a8l a9A a9c a9l a10A a10c a10l a11 a12 _ (HT_a.out) ?_ ?_ ?_ ?_).mono ?_); (focus ((refine Row.more (B := w.heap.size) ?_ (by first | omega | ((try simp only [World.size_setCell]); (try simp only [World.size_drew]); (try simp only [World.size_alloc]); omega))); repeat' (first | with_reducible assumption | (with_reducible refine Row.drew ?_) | (with_reducible refine Row.carry ?_ (by with_reducible assumption) ?_) | (with_reducible refine Row.alloc ?_ ?_ _) | (with_reducible refine Row.setCell ?_ ?_ _) | omega | (simp; done) | (simp; omega)))); (focus ((refine Row.more (B := w.heap.size) ?_ (by first | omega | ((try simp only [World.size_setCell]); (try simp only [World.size_drew]); (try simp only [World.size_alloc]); omega))); repeat' (first | with_reducible assumption | (with_reducible refine Row.drew ?_) | (with_reducible refine Row.carry ?_ (by with_reducible assumption) ?_) | (with_reducible refine Row.alloc ?_ ?_ _) | (with_reducible refine Row.setCell ?_ ?_ _) | omega | (simp; done) | (simp; omega)))); (focus ((refine Row.more (B := w.heap.size) ?_ (by first | omega | ((try simp only [World.size_setCell]); (try simp only [World.size_drew]); (try simp only [World.size_alloc]); omega))); repeat' (first | with_reducible assumption | (with_reducible refine Row.drew ?_) | (with_reducible refine Row.carry ?_ (by with_reducible assumption) ?_) | (with_reducible refine Row.alloc ?_ ?_ _) | (with_reducible refine Row.setCell ?_ ?_ _) | omega | (simp; done) | (simp; omega)))); (focus ((refine Row.more (B := w.heap.size) ?_ (by first | omega | ((try simp only [World.size_setCell]); (try simp only [World.size_drew]); (try simp only [World.size_alloc]); omega))); repeat' (first | with_reducible assumption | (with_reducible refine Row.drew ?_) | (with_reducible refine Row.carry ?_ (by with_reducible assumption) ?_) | (with_reducible refine Row.alloc ?_ ?_ _) | (with_reducible refine Row.setCell ?_ ?_ _) | omega | (simp; done) | (simp; omega)))); intro e wT0 hq; obtain ⟨owE_a5A, owE_a5c, owE_a8A, owE_a8c, owE_a9A, owE_a9c, owE_a10A, owE_a10c, rfl, owE_a5, owE_a8, owE_a9, owE_a10, hbwT0⟩ := hq; obtain ⟨hcwT0, hfwT0⟩ := bcell hbwT0; have hzwT0 := hbwT0.size; (try simp only [World.size_drew] at hcwT0 hfwT0 hzwT0); (try simp only [World.size_alloc] at hcwT0 hfwT0 hzwT0))
        | (go_at_call 8; (with_reducible refine (xeqStatement_any a0 a1 a2 a3 a4 gX0_a5A gX0_a5c a5l a6 a7 gX0_a8A gX0_a8c a8l gX0_a9A gX0_a9c a9l gX0_a10A gX0_a10c a10l a11 a12 owE_a5A owE_a5c owE_a8A owE_a8c owE_a9A owE_a9c owE_a10A owE_a10c _ (Nat.le_trans HT_a.out (by omega)) ?_ ?_ ?_ ?_ ?_ ?_ ?_ ?_).mono ?_); (focus ((refine Row.more (B := wX0.heap.size) ?_ (by first | omega | ((try simp only [World.size_setCell]); (try simp only [World.size_drew]); (try simp only [World.size_alloc]); omega))); repeat' (first | with_reducible assumption | (with_reducible refine Row.drew ?_) | (with_reducible refine Row.carry ?_ (by with_reducible assumption) ?_) | (with_reducible refine Row.alloc ?_ ?_ _) | (with_reducible refine Row.setCell ?_ ?_ _) | omega | (simp; done) | (simp; omega)))); (focus ((refine Row.more (B := wX0.heap.size) ?_ (by first | omega | ((try simp only [World.size_setCell]); (try simp only [World.size_drew]); (try simp only [World.size_alloc]); omega))); repeat' (first | with_reducible assumption | (with_reducible refine Row.drew ?_) | (with_reducible refine Row.carry ?_ (by with_reducible assumption) ?_) | (with_reducible refine Row.alloc ?_ ?_ _) | (with_reducible refine Row.setCell ?_ ?_ _) | omega | (simp; done) | (simp; omega)))); (focus ((refine Row.more (B := wX0.heap.size) ?_ (by first | omega | ((try simp only [World.size_setCell]); (try simp only [World.size_drew]); (try simp only [World.size_alloc]); omega))); repeat' (first | with_reducible assumption | (with_reducible refine Row.drew ?_) | (with_reducible refine Row.carry ?_ (by with_reducible assumption) ?_) | (with_reducible refine Row.alloc ?_ ?_ _) | (with_reducible refine Row.setCell ?_ ?_ _) | omega | (simp; done) | (simp; omega)))); (focus ((refine Row.more (B := wX0.heap.size) ?_ (by first | omega | ((try simp only [World.size_setCell]); (try simp only [World.size_drew]); (try simp only [World.size_alloc]); omega))); repeat' (first | with_reducible assumption | (with_reducible refine Row.drew ?_) | (with_reducible refine Row.carry ?_ (by with_reducible assumption) ?_) | (with_reducible refine Row.alloc ?_ ?_ _) | (with_reducible refine Row.setCell ?_ ?_ _) | omega | (simp; done) | (simp; omega)))); (focus (first | exact owE_a5.here | exact (RowIn.here owE_a5).drew)); (focus (first | exact owE_a8.here | exact (RowIn.here owE_a8).drew)); (focus (first | exact owE_a9.here | exact (RowIn.here owE_a9).drew)); (focus (first | exact owE_a10.here | exact (RowIn.here owE_a10).drew)); rintro e wE0 ⟨rfl, hbwE0⟩; obtain ⟨hcwE0, hfwE0⟩ := bcell hbwE0; have hzwE0 := hbwE0.size; (try simp only [World.size_drew] at hcwE0 hfwE0 hzwE0); (try simp only [World.size_alloc] at hcwE0 hfwE0 hzwE0)))
    clear kat_a0 kat_a1 kat_a2 kat_a3 kat_a4 kat_a5 kat_a6 kat_a7 kat_a8 kat_a9 kat_a10 kat_a11 kat_a12 lat_a
    clear kbx_a0 kbx_a1 kbx_a2 kbx_a3 kbx_a4 kbx_a5 kbx_a6 kbx_a7 kbx_a8 kbx_a9 kbx_a10 kbx_a11 kbx_a12 lbx_a
    all_goals
      have zwE0 := hbwE0.size
      (try simp only [World.size_setCell] at zwE0)
      (try simp only [World.size_drew] at zwE0)
      (try simp only [World.size_alloc] at zwE0)
      have qwE0 : w.heap.size ≤ wE0.heap.size := by omega
      have bx_awE0 : AtL (w.heap.size) [.int .i64 a0, .string a1, .string a2, .int .i64 a3, .int .i64 a4, .slice a5A a5l.length a5c, .int .i64 a6, .int .i64 a7, .slice a8A a8l.length a8c, .slice a9A a9l.length a9c, .slice a10A a10l.length a10c, .bool a11, .bool a12] wE0 := by repeat' (first | with_reducible assumption | with_reducible exact AtL.new _ _ _ | ((with_reducible refine AtL.newAt ?_); (first | rfl | (simp; done))) | (with_reducible refine AtL.drew ?_) | (with_reducible refine AtL.below ?_ (by with_reducible assumption)) | (with_reducible refine AtL.alloc ?_ _) | (with_reducible refine AtL.far ?_ ?_ _ _) | omega | (simp; done) | (simp; omega))
      have row_a5wE0 : Row RvTerm 3 wE0 (w.heap.size) a5A a5l := by repeat' (first | with_reducible assumption | (with_reducible refine Row.drew ?_) | (with_reducible refine Row.carry ?_ (by with_reducible assumption) ?_) | (with_reducible refine Row.alloc ?_ ?_ _) | (with_reducible refine Row.setCell ?_ ?_ _) | omega | (simp; done) | (simp; omega))
      have row_a8wE0 : Row RvTerm 3 wE0 (w.heap.size) a8A a8l := by repeat' (first | with_reducible assumption | (with_reducible refine Row.drew ?_) | (with_reducible refine Row.carry ?_ (by with_reducible assumption) ?_) | (with_reducible refine Row.alloc ?_ ?_ _) | (with_reducible refine Row.setCell ?_ ?_ _) | omega | (simp; done) | (simp; omega))
      have row_a9wE0 : Row RvString 1 wE0 (w.heap.size) a9A a9l := by repeat' (first | with_reducible assumption | (with_reducible refine Row.drew ?_) | (with_reducible refine Row.carry ?_ (by with_reducible assumption) ?_) | (with_reducible refine Row.alloc ?_ ?_ _) | (with_reducible refine Row.setCell ?_ ?_ _) | omega | (simp; done) | (simp; omega))
      have row_a10wE0 : Row RvInt64 1 wE0 (w.heap.size) a10A a10l := by repeat' (first | with_reducible assumption | (with_reducible refine Row.drew ?_) | (with_reducible refine Row.carry ?_ (by with_reducible assumption) ?_) | (with_reducible refine Row.alloc ?_ ?_ _) | (with_reducible refine Row.setCell ?_ ?_ _) | omega | (simp; done) | (simp; omega))
      have rx_a5wE0 : Row RvTerm 3 wE0 (wX0.heap.size) gX0_a5A a5l := by repeat' (first | with_reducible assumption | (with_reducible refine Row.drew ?_) | (with_reducible refine Row.carry ?_ (by with_reducible assumption) ?_) | (with_reducible refine Row.alloc ?_ ?_ _) | (with_reducible refine Row.setCell ?_ ?_ _) | omega | (simp; done) | (simp; omega))
      have rx_a8wE0 : Row RvTerm 3 wE0 (wX0.heap.size) gX0_a8A a8l := by repeat' (first | with_reducible assumption | (with_reducible refine Row.drew ?_) | (with_reducible refine Row.carry ?_ (by with_reducible assumption) ?_) | (with_reducible refine Row.alloc ?_ ?_ _) | (with_reducible refine Row.setCell ?_ ?_ _) | omega | (simp; done) | (simp; omega))
      have rx_a9wE0 : Row RvString 1 wE0 (wX0.heap.size) gX0_a9A a9l := by repeat' (first | with_reducible assumption | (with_reducible refine Row.drew ?_) | (with_reducible refine Row.carry ?_ (by with_reducible assumption) ?_) | (with_reducible refine Row.alloc ?_ ?_ _) | (with_reducible refine Row.setCell ?_ ?_ _) | omega | (simp; done) | (simp; omega))
      have rx_a10wE0 : Row RvInt64 1 wE0 (wX0.heap.size) gX0_a10A a10l := by repeat' (first | with_reducible assumption | (with_reducible refine Row.drew ?_) | (with_reducible refine Row.carry ?_ (by with_reducible assumption) ?_) | (with_reducible refine Row.alloc ?_ ?_ _) | (with_reducible refine Row.setCell ?_ ?_ _) | omega | (simp; done) | (simp; omega))
      have at_awE0 : AtL (wX0.heap.size) [.int .i64 a0, .string a1, .string a2, .int .i64 a3, .int .i64 a4, .slice gX0_a5A a5l.length gX0_a5c, .int .i64 a6, .int .i64 a7, .slice gX0_a8A a8l.length gX0_a8c, .slice gX0_a9A a9l.length gX0_a9c, .slice gX0_a10A a10l.length gX0_a10c, .bool a11, .bool a12] wE0 := by repeat' (first | with_reducible assumption | with_reducible exact AtL.new _ _ _ | ((with_reducible refine AtL.newAt ?_); (first | rfl | (simp; done))) | (with_reducible refine AtL.drew ?_) | (with_reducible refine AtL.below ?_ (by with_reducible assumption)) | (with_reducible refine AtL.alloc ?_ _) | (with_reducible refine AtL.far ?_ ?_ _ _) | omega | (simp; done) | (simp; omega))
      have bp := bwI.out
      have bn : Below w.heap.size w wE0 := by repeat' (first | with_reducible assumption | with_reducible exact Below.refl _ _ | (with_reducible refine Below.setCell ?_ ?_ _) | (with_reducible refine Below.alloc ?_ ?_ _) | (with_reducible refine Below.drew ?_) | (with_reducible refine below_dr ?_ _) | (with_reducible refine Below.trans ?_ (Below.mono (by with_reducible assumption) ?_)) | omega | (simp; done) | (simp; omega))
      have bwE0 := Lib.hid bn
      clear bn
      clear bp bwI
      clear hbwE0
      clear bx_awI
      clear row_a5wI
      clear row_a8wI
      clear row_a9wI
      clear row_a10wI
      clear rx_a5wI
      clear rx_a8wI
      clear rx_a9wI
      clear rx_a10wI
      clear at_awI
      go_wp2_with fail
      go_ret
      have bp := bwE0.out
      exact ⟨rfl, by repeat' (first | with_reducible assumption | with_reducible exact Below.refl _ _ | (with_reducible refine Below.setCell ?_ ?_ _) | (with_reducible refine Below.alloc ?_ ?_ _) | (with_reducible refine Below.drew ?_) | (with_reducible refine below_dr ?_ _) | (with_reducible refine Below.trans ?_ (Below.mono (by with_reducible assumption) ?_)) | omega | (simp; done) | (simp; omega))⟩
end Go.Proofs.Ytjpadamlfhceaaa
