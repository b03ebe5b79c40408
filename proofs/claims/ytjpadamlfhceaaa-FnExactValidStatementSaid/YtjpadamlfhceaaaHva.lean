/- Walks: which statements are valid, the program's side. -/
import Derived.Test.YtjpadamlfhceaaaHv8
import Derived.Test.YtjpadamlfhceaaaHv9
import Derived.Deep.RegionHeld3
namespace Go.Proofs.Ytjpadamlfhceaaa
open Go.RowKit
set_option linter.unusedVariables false
set_option maxRecDepth 100000 in
set_option maxHeartbeats 12800000 in
theorem implValid_0 (a0 : Int) (a1 : ByteArray) (a2 : ByteArray) (a3 : Int) (a4 : Int) (a5A : Option Addr) (a5c : Nat) (a5l : List DTerm) (a6 : Int) (a7 : Int) (a8A : Option Addr) (a8c : Nat) (a8l : List DTerm) (a9A : Option Addr) (a9c : Nat) (a9l : List DString) (a10A : Option Addr) (a10c : Nat) (a10l : List DInt64) (a11 : Bool) (a12 : Bool) (w : World) (h : ¬ a0 = 1 ∧ ¬ a0 = 2 ∧ ¬ a0 = 3 ∧ ¬ a0 = 4 ∧ ¬ a0 = 5 ∧ ¬ a0 = 6 ∧ ¬ a0 = 7 ∧ ¬ a0 = 8 ∧ ¬ a0 = 9 ∧ ¬ a0 = 10 ∧ ¬ a0 = 11) (h_a : totStatement (a0, a1, a2, a3, a4, a5l, a6, a7, a8l, a9l, a10l, a11, a12) ≤ 1048576) (i_a3 : (-9223372036854775808 ≤ a3 ∧ a3 ≤ 9223372036854775807)) (i_a4 : (-9223372036854775808 ≤ a4 ∧ a4 ≤ 9223372036854775807)) (i_a6 : (-9223372036854775808 ≤ a6 ∧ a6 ≤ 9223372036854775807)) (i_a7 : (-9223372036854775808 ≤ a7 ∧ a7 ≤ 9223372036854775807)) (r_a5 : Row RvTerm 3 w w.heap.size a5A a5l) (r_a8 : Row RvTerm 3 w w.heap.size a8A a8l) (r_a9 : Row RvString 1 w w.heap.size a9A a9l) (r_a10 : Row RvInt64 1 w w.heap.size a10A a10l) (ok_a5 : (∀ (w2 : World) (B : Nat) (i : Nat) (b : ATerm), a5l[i]? = some b → okTerm w2 B b)) (ok_a8 : (∀ (w2 : World) (B : Nat) (i : Nat) (b : ATerm), a8l[i]? = some b → okTerm w2 B b)) (hz_a9 : ∀ (k : Nat) (s : DString), a9l[k]? = some s → s.size ≤ 4611686018427387904) (h1 : a1.size ≤ 9223372036854775807) (h2 : a2.size ≤ 9223372036854775807) : Calls Try.prog 7 #[.agg #[.int .i64 a0, .string a1, .string a2, .int .i64 a3, .int .i64 a4, .slice a5A a5l.length a5c, .int .i64 a6, .int .i64 a7, .slice a8A a8l.length a8c, .slice a9A a9l.length a9c, .slice a10A a10l.length a10c, .bool a11, .bool a12]] w fun e w' => e = .returned (.bool (vStB a0 a1 a2 a3 a4 a5A a5c a5l a6 a7 a8A a8c a8l a9A a9c a9l a10A a10c a10l a11 a12)) ∧ Below w.heap.size w w' := by
  have HE := Lib.hid (same_0 a0 a1 a2 a3 a4 a5A a5c a5l a6 a7 a8A a8c a8l a9A a9c a9l a10A a10c a10l a11 a12 h)
  have CW := Lib.hid (fun w => without_0 a0 a1 a2 a3 a4 a5A a5c a5l a6 a7 a8A a8c a8l a9A a9c a9l a10A a10c a10l a11 a12 w h.1 h.2.1 h.2.2.1 h.2.2.2.1 h.2.2.2.2.1 h.2.2.2.2.2.1 h.2.2.2.2.2.2.1 h.2.2.2.2.2.2.2.1 h.2.2.2.2.2.2.2.2.1 h.2.2.2.2.2.2.2.2.2.1 h.2.2.2.2.2.2.2.2.2.2)
  have htb : totStatement (a0, a1, (ByteArray.mk #[]), 0, 0, [], 0, 0, [], [], [], false, false) ≤ 1048576 := by simp only [totStatement] at h_a ⊢; simp [totRow] at h_a ⊢; have ez : (ByteArray.mk #[]).size = 0 := rfl; omega
  have CM := Lib.hid (fun w (r_a5 : Row RvTerm 3 w w.heap.size a5A a5l) (r_a8 : Row RvTerm 3 w w.heap.size a8A a8l) (r_a9 : Row RvString 1 w w.heap.size a9A a9l) (r_a10 : Row RvInt64 1 w w.heap.size a10A a10l) => implSame_any a0 a1 a2 a3 a4 a5A a5c a5l a6 a7 a8A a8c a8l a9A a9c a9l a10A a10c a10l a11 a12 a0 a1 (ByteArray.mk #[]) 0 0 none 0 [] 0 0 none 0 [] none 0 [] none 0 [] false false w h_a htb r_a5 r_a8 r_a9 r_a10 (.inl rfl) (.inl rfl) (.inl rfl) (.inl rfl))
  simp only [List.length_nil] at CM
  simp only [totStatement] at h_a
  have hl_a5 : a5l.length ≤ 1048576 := Nat.le_trans (totRow_len totTerm _) (by omega)
  have hl_a8 : a8l.length ≤ 1048576 := Nat.le_trans (totRow_len totTerm _) (by omega)
  have hl_a9 : a9l.length ≤ 1048576 := Nat.le_trans (totRow_len totString _) (by omega)
  have hl_a10 : a10l.length ≤ 1048576 := Nat.le_trans (totRow_len totInt64 _) (by omega)
  clear h_a htb
  generalize hv0 : smV (a0, a1, a2, a3, a4, a5l, a6, a7, a8l, a9l, a10l, a11, a12) (a0, a1, (ByteArray.mk #[]), 0, 0, [], 0, 0, [], [], [], false, false) = v0 at CM HE
  obtain ⟨n1, n2, n3, n4, n5, n6, n7, n8, n9, n10, n11⟩ := h
  have e1 : ((a0 : Int) == 1) = false := by simpa using n1
  have e2 : ((a0 : Int) == 2) = false := by simpa using n2
  have e3 : ((a0 : Int) == 3) = false := by simpa using n3
  have e4 : ((a0 : Int) == 4) = false := by simpa using n4
  have e5 : ((a0 : Int) == 5) = false := by simpa using n5
  have e6 : ((a0 : Int) == 6) = false := by simpa using n6
  have e7 : ((a0 : Int) == 7) = false := by simpa using n7
  have e8 : ((a0 : Int) == 8) = false := by simpa using n8
  have e9 : ((a0 : Int) == 9) = false := by simpa using n9
  have e10 : ((a0 : Int) == 10) = false := by simpa using n10
  have e11 : ((a0 : Int) == 11) = false := by simpa using n11
  clear n1 n2 n3 n4 n5 n6 n7 n8 n9 n10 n11
  clear i_a3 i_a4 i_a6 i_a7 ok_a5 ok_a8 hz_a9 h1 h2
  go_enter Try.func7, Try.ntmps7
  go_upto_region 1 with fail
  generalize hW : w.alloc (.cells #[.int .i64 a0, .string a1, .string a2, .int .i64 a3, .int .i64 a4, .slice a5A a5l.length a5c, .int .i64 a6, .int .i64 a7, .slice a8A a8l.length a8c, .slice a9A a9l.length a9c, .slice a10A a10l.length a10c, .bool a11, .bool a12] 38) = W0
  have at0 : AtL w.heap.size [.int .i64 a0, .string a1, .string a2, .int .i64 a3, .int .i64 a4, .slice a5A a5l.length a5c, .int .i64 a6, .int .i64 a7, .slice a8A a8l.length a8c, .slice a9A a9l.length a9c, .slice a10A a10l.length a10c, .bool a11, .bool a12] W0 := by rw [← hW]; exact AtL.new _ _ _
  have b0 : Below w.heap.size w W0 := by rw [← hW]; repeat' (first | with_reducible assumption | with_reducible exact Below.refl _ _ | (with_reducible refine Below.setCell ?_ ?_ _) | (with_reducible refine Below.alloc ?_ ?_ _) | (with_reducible refine Below.drew ?_) | (with_reducible refine below_dr ?_ _) | (with_reducible refine Below.trans ?_ (Below.mono (by with_reducible assumption) ?_)) | omega | (simp; done) | (simp; omega))
  have z0 : W0.heap.size = w.heap.size + 1 := by rw [← hW]; simp
  clear hW
  have sa5 : Row RvTerm 3 W0 w.heap.size a5A a5l := (r_a5.carry b0 (Nat.le_refl _))
  have sa8 : Row RvTerm 3 W0 w.heap.size a8A a8l := (r_a8.carry b0 (Nat.le_refl _))
  have sa9 : Row RvString 1 W0 w.heap.size a9A a9l := (r_a9.carry b0 (Nat.le_refl _))
  have sa10 : Row RvInt64 1 W0 w.heap.size a10A a10l := (r_a10.carry b0 (Nat.le_refl _))
  have k0 := at0.cell 0 rfl
  have k1 := at0.cell 1 rfl
  have k2 := at0.cell 2 rfl
  have k3 := at0.cell 3 rfl
  have k4 := at0.cell 4 rfl
  have k5 := at0.cell 5 rfl
  have k6 := at0.cell 6 rfl
  have k7 := at0.cell 7 rfl
  have k8 := at0.cell 8 rfl
  have k9 := at0.cell 9 rfl
  have k10 := at0.cell 10 rfl
  have k11 := at0.cell 11 rfl
  have k12 := at0.cell 12 rfl
  have l0 := at0.lt
  go_region_held3 (fun w' => (∀ b o, b < W0.heap.size → w'.cell? ⟨b, o, none⟩ = W0.cell? ⟨b, o, none⟩) ∧ W0.heap.size ≤ w'.heap.size)
    (first | ((try dsimp only); exact ⟨fun b o h => (by (repeat (first | with_reducible exact rfl | (with_reducible refine (cell_drew_at _ _).trans ?_) | (with_reducible refine (cell_set_at _ _ (by first | omega | (simp; done) | (simp; omega))).trans ?_) | (with_reducible refine (cell_alloc_at _ _ (by first | omega | (simp; done) | (simp; omega))).trans ?_) | (with_reducible refine (hcwA b o (by first | omega | (simp; done) | (simp; omega))).trans ?_) | (with_reducible refine (hcwB b o (by first | omega | (simp; done) | (simp; omega))).trans ?_)))), (by first | omega | (simp; done) | (simp; omega))⟩) | fail)
    (first
      | (go_at_call 17; (with_reducible refine (CW.out _).mono ?_); rintro e wA ⟨rfl, hbwA⟩; obtain ⟨hcwA, hfwA⟩ := bcell hbwA; have hzwA := hbwA.size; (try simp only [World.size_drew] at hcwA hfwA hzwA); (try simp only [World.size_alloc] at hcwA hfwA hzwA))
      | (go_at_call 16; (with_reducible refine (CM.out _ ?_ ?_ ?_ ?_).mono ?_); (focus ((refine Row.more (B := w.heap.size) ?_ (by first | omega | ((try simp only [World.size_drew]); (try simp only [World.size_alloc]); omega))); repeat' (first | with_reducible assumption | (with_reducible refine Row.drew ?_) | (with_reducible refine Row.carry ?_ (by with_reducible assumption) ?_) | (with_reducible refine Row.alloc ?_ ?_ _) | (with_reducible refine Row.setCell ?_ ?_ _) | omega | (simp; done) | (simp; omega)))); (focus ((refine Row.more (B := w.heap.size) ?_ (by first | omega | ((try simp only [World.size_drew]); (try simp only [World.size_alloc]); omega))); repeat' (first | with_reducible assumption | (with_reducible refine Row.drew ?_) | (with_reducible refine Row.carry ?_ (by with_reducible assumption) ?_) | (with_reducible refine Row.alloc ?_ ?_ _) | (with_reducible refine Row.setCell ?_ ?_ _) | omega | (simp; done) | (simp; omega)))); (focus ((refine Row.more (B := w.heap.size) ?_ (by first | omega | ((try simp only [World.size_drew]); (try simp only [World.size_alloc]); omega))); repeat' (first | with_reducible assumption | (with_reducible refine Row.drew ?_) | (with_reducible refine Row.carry ?_ (by with_reducible assumption) ?_) | (with_reducible refine Row.alloc ?_ ?_ _) | (with_reducible refine Row.setCell ?_ ?_ _) | omega | (simp; done) | (simp; omega)))); (focus ((refine Row.more (B := w.heap.size) ?_ (by first | omega | ((try simp only [World.size_drew]); (try simp only [World.size_alloc]); omega))); repeat' (first | with_reducible assumption | (with_reducible refine Row.drew ?_) | (with_reducible refine Row.carry ?_ (by with_reducible assumption) ?_) | (with_reducible refine Row.alloc ?_ ?_ _) | (with_reducible refine Row.setCell ?_ ?_ _) | omega | (simp; done) | (simp; omega)))); rintro e wB ⟨rfl, hbwB⟩; obtain ⟨hcwB, hfwB⟩ := bcell hbwB; have hzwB := hbwB.size; (try simp only [World.size_drew] at hcwB hfwB hzwB); (try simp only [World.size_alloc] at hcwB hfwB hzwB)))
  all_goals
    have zA : W0.heap.size ≤ wA.heap.size := by omega
    have gB : Below w.heap.size w wB := by repeat' (first | with_reducible assumption | with_reducible exact Below.refl _ _ | (with_reducible refine Below.setCell ?_ ?_ _) | (with_reducible refine Below.alloc ?_ ?_ _) | (with_reducible refine Below.drew ?_) | (with_reducible refine below_dr ?_ _) | (with_reducible refine Below.trans ?_ (Below.mono (by with_reducible assumption) ?_)) | omega | (simp; done) | (simp; omega))
    have g0B : Below W0.heap.size W0 wB := by clear b0 gB; repeat' (first | with_reducible assumption | with_reducible exact Below.refl _ _ | (with_reducible refine Below.setCell ?_ ?_ _) | (with_reducible refine Below.alloc ?_ ?_ _) | (with_reducible refine Below.drew ?_) | (with_reducible refine below_dr ?_ _) | (with_reducible refine Below.trans ?_ (Below.mono (by with_reducible assumption) ?_)) | omega | (simp; done) | (simp; omega))
    have atB := at0.below g0B
    have HB := Lib.hid (fun (wr : World) (hb : Below wB.heap.size wB wr) => atB.below hb)
    clear at0 sa5 sa8 sa9 sa10 hcwA hfwA hcwB hfwB hbwA hbwB
    have lB := atB.lt
    clear atB
    cases v0
    case false =>
      go_wp2_with fail
      go_ret
      exact ⟨ret_bool (by rw [← HE.out]; simp), by repeat' (first | with_reducible assumption | with_reducible exact Below.refl _ _ | (with_reducible refine Below.setCell ?_ ?_ _) | (with_reducible refine Below.alloc ?_ ?_ _) | (with_reducible refine Below.drew ?_) | (with_reducible refine below_dr ?_ _) | (with_reducible refine Below.trans ?_ (Below.mono (by with_reducible assumption) ?_)) | omega | (simp; done) | (simp; omega))⟩
    case true =>
      go_wp2_with fail
      go_ret
      exact ⟨ret_bool (by rw [← HE.out]; simp), by repeat' (first | with_reducible assumption | with_reducible exact Below.refl _ _ | (with_reducible refine Below.setCell ?_ ?_ _) | (with_reducible refine Below.alloc ?_ ?_ _) | (with_reducible refine Below.drew ?_) | (with_reducible refine below_dr ?_ _) | (with_reducible refine Below.trans ?_ (Below.mono (by with_reducible assumption) ?_)) | omega | (simp; done) | (simp; omega))⟩
set_option maxRecDepth 100000 in
set_option maxHeartbeats 12800000 in
theorem implValid_1 (a1 : ByteArray) (a2 : ByteArray) (a3 : Int) (a4 : Int) (a5A : Option Addr) (a5c : Nat) (a5l : List DTerm) (a6 : Int) (a7 : Int) (a8A : Option Addr) (a8c : Nat) (a8l : List DTerm) (a9A : Option Addr) (a9c : Nat) (a9l : List DString) (a10A : Option Addr) (a10c : Nat) (a10l : List DInt64) (a11 : Bool) (a12 : Bool) (w : World) (h_a : totStatement ((1 : Int), a1, a2, a3, a4, a5l, a6, a7, a8l, a9l, a10l, a11, a12) ≤ 1048576) (i_a3 : (-9223372036854775808 ≤ a3 ∧ a3 ≤ 9223372036854775807)) (i_a4 : (-9223372036854775808 ≤ a4 ∧ a4 ≤ 9223372036854775807)) (i_a6 : (-9223372036854775808 ≤ a6 ∧ a6 ≤ 9223372036854775807)) (i_a7 : (-9223372036854775808 ≤ a7 ∧ a7 ≤ 9223372036854775807)) (r_a5 : Row RvTerm 3 w w.heap.size a5A a5l) (r_a8 : Row RvTerm 3 w w.heap.size a8A a8l) (r_a9 : Row RvString 1 w w.heap.size a9A a9l) (r_a10 : Row RvInt64 1 w w.heap.size a10A a10l) (ok_a5 : (∀ (w2 : World) (B : Nat) (i : Nat) (b : ATerm), a5l[i]? = some b → okTerm w2 B b)) (ok_a8 : (∀ (w2 : World) (B : Nat) (i : Nat) (b : ATerm), a8l[i]? = some b → okTerm w2 B b)) (hz_a9 : ∀ (k : Nat) (s : DString), a9l[k]? = some s → s.size ≤ 4611686018427387904) (h1 : a1.size ≤ 9223372036854775807) (h2 : a2.size ≤ 9223372036854775807) : Calls Try.prog 7 #[.agg #[.int .i64 1, .string a1, .string a2, .int .i64 a3, .int .i64 a4, .slice a5A a5l.length a5c, .int .i64 a6, .int .i64 a7, .slice a8A a8l.length a8c, .slice a9A a9l.length a9c, .slice a10A a10l.length a10c, .bool a11, .bool a12]] w fun e w' => e = .returned (.bool (vStB 1 a1 a2 a3 a4 a5A a5c a5l a6 a7 a8A a8c a8l a9A a9c a9l a10A a10c a10l a11 a12)) ∧ Below w.heap.size w w' := by
  have HE := Lib.hid (same_1 a1 a2 a3 a4 a5A a5c a5l a6 a7 a8A a8c a8l a9A a9c a9l a10A a10c a10l a11 a12)
  have CW := Lib.hid (fun w => without_1 a1 a2 a3 a4 a5A a5c a5l a6 a7 a8A a8c a8l a9A a9c a9l a10A a10c a10l a11 a12 w)
  have htb : totStatement ((1 : Int), a1, (ByteArray.mk #[]), a3, a4, a5l, 0, 0, [], [], [], false, false) ≤ 1048576 := by simp only [totStatement] at h_a ⊢; simp [totRow] at h_a ⊢; have ez : (ByteArray.mk #[]).size = 0 := rfl; omega
  have CM := Lib.hid (fun w (r_a5 : Row RvTerm 3 w w.heap.size a5A a5l) (r_a8 : Row RvTerm 3 w w.heap.size a8A a8l) (r_a9 : Row RvString 1 w w.heap.size a9A a9l) (r_a10 : Row RvInt64 1 w w.heap.size a10A a10l) => implSame_any 1 a1 a2 a3 a4 a5A a5c a5l a6 a7 a8A a8c a8l a9A a9c a9l a10A a10c a10l a11 a12 1 a1 (ByteArray.mk #[]) a3 a4 a5A a5c a5l 0 0 none 0 [] none 0 [] none 0 [] false false w h_a htb r_a5 r_a8 r_a9 r_a10 r_a5 (.inl rfl) (.inl rfl) (.inl rfl))
  simp only [List.length_nil] at CM
  simp only [totStatement] at h_a
  have hl_a5 : a5l.length ≤ 1048576 := Nat.le_trans (totRow_len totTerm _) (by omega)
  have hl_a8 : a8l.length ≤ 1048576 := Nat.le_trans (totRow_len totTerm _) (by omega)
  have hl_a9 : a9l.length ≤ 1048576 := Nat.le_trans (totRow_len totString _) (by omega)
  have hl_a10 : a10l.length ≤ 1048576 := Nat.le_trans (totRow_len totInt64 _) (by omega)
  clear h_a htb
  have CF := Lib.hid (fun w => impl_free a1 w h1)
  have CL := Lib.hid (fun w r => implFree_any a3 a4 a5A a5c a5l w i_a3 i_a4 hl_a5 r ok_a5)
  generalize hv0 : smV ((1 : Int), a1, a2, a3, a4, a5l, a6, a7, a8l, a9l, a10l, a11, a12) ((1 : Int), a1, (ByteArray.mk #[]), a3, a4, a5l, 0, 0, [], [], [], false, false) = v0 at CM HE
  generalize hvu1 : fnB a1 = u1 at CF HE
  generalize hvu2 : frLin a3 a4 a5l = u2 at CL HE
  have FE := beq_dec (a5l.length : Int) 0
  generalize decide ((a5l.length : Int) = 0) = u3 at FE HE
  clear i_a3 i_a4 i_a6 i_a7 ok_a5 ok_a8 hz_a9 h1 h2
  go_enter Try.func7, Try.ntmps7
  go_upto_region 1 with fail
  generalize hW : w.alloc (.cells #[.int .i64 1, .string a1, .string a2, .int .i64 a3, .int .i64 a4, .slice a5A a5l.length a5c, .int .i64 a6, .int .i64 a7, .slice a8A a8l.length a8c, .slice a9A a9l.length a9c, .slice a10A a10l.length a10c, .bool a11, .bool a12] 38) = W0
  have at0 : AtL w.heap.size [.int .i64 1, .string a1, .string a2, .int .i64 a3, .int .i64 a4, .slice a5A a5l.length a5c, .int .i64 a6, .int .i64 a7, .slice a8A a8l.length a8c, .slice a9A a9l.length a9c, .slice a10A a10l.length a10c, .bool a11, .bool a12] W0 := by rw [← hW]; exact AtL.new _ _ _
  have b0 : Below w.heap.size w W0 := by rw [← hW]; repeat' (first | with_reducible assumption | with_reducible exact Below.refl _ _ | (with_reducible refine Below.setCell ?_ ?_ _) | (with_reducible refine Below.alloc ?_ ?_ _) | (with_reducible refine Below.drew ?_) | (with_reducible refine below_dr ?_ _) | (with_reducible refine Below.trans ?_ (Below.mono (by with_reducible assumption) ?_)) | omega | (simp; done) | (simp; omega))
  have z0 : W0.heap.size = w.heap.size + 1 := by rw [← hW]; simp
  clear hW
  have sa5 : Row RvTerm 3 W0 w.heap.size a5A a5l := (r_a5.carry b0 (Nat.le_refl _))
  have sa8 : Row RvTerm 3 W0 w.heap.size a8A a8l := (r_a8.carry b0 (Nat.le_refl _))
  have sa9 : Row RvString 1 W0 w.heap.size a9A a9l := (r_a9.carry b0 (Nat.le_refl _))
  have sa10 : Row RvInt64 1 W0 w.heap.size a10A a10l := (r_a10.carry b0 (Nat.le_refl _))
  have k0 := at0.cell 0 rfl
  have k1 := at0.cell 1 rfl
  have k2 := at0.cell 2 rfl
  have k3 := at0.cell 3 rfl
  have k4 := at0.cell 4 rfl
  have k5 := at0.cell 5 rfl
  have k6 := at0.cell 6 rfl
  have k7 := at0.cell 7 rfl
  have k8 := at0.cell 8 rfl
  have k9 := at0.cell 9 rfl
  have k10 := at0.cell 10 rfl
  have k11 := at0.cell 11 rfl
  have k12 := at0.cell 12 rfl
  have l0 := at0.lt
  go_region_held3 (fun w' => (∀ b o, b < W0.heap.size → w'.cell? ⟨b, o, none⟩ = W0.cell? ⟨b, o, none⟩) ∧ W0.heap.size ≤ w'.heap.size)
    (first | ((try dsimp only); exact ⟨fun b o h => (by (repeat (first | with_reducible exact rfl | (with_reducible refine (cell_drew_at _ _).trans ?_) | (with_reducible refine (cell_set_at _ _ (by first | omega | (simp; done) | (simp; omega))).trans ?_) | (with_reducible refine (cell_alloc_at _ _ (by first | omega | (simp; done) | (simp; omega))).trans ?_) | (with_reducible refine (hcwA b o (by first | omega | (simp; done) | (simp; omega))).trans ?_) | (with_reducible refine (hcwB b o (by first | omega | (simp; done) | (simp; omega))).trans ?_)))), (by first | omega | (simp; done) | (simp; omega))⟩) | fail)
    (first
      | (go_at_call 17; (with_reducible refine (CW.out _).mono ?_); rintro e wA ⟨rfl, hbwA⟩; obtain ⟨hcwA, hfwA⟩ := bcell hbwA; have hzwA := hbwA.size; (try simp only [World.size_drew] at hcwA hfwA hzwA); (try simp only [World.size_alloc] at hcwA hfwA hzwA))
      | (go_at_call 16; (with_reducible refine (CM.out _ ?_ ?_ ?_ ?_).mono ?_); (focus ((refine Row.more (B := w.heap.size) ?_ (by first | omega | ((try simp only [World.size_drew]); (try simp only [World.size_alloc]); omega))); repeat' (first | with_reducible assumption | (with_reducible refine Row.drew ?_) | (with_reducible refine Row.carry ?_ (by with_reducible assumption) ?_) | (with_reducible refine Row.alloc ?_ ?_ _) | (with_reducible refine Row.setCell ?_ ?_ _) | omega | (simp; done) | (simp; omega)))); (focus ((refine Row.more (B := w.heap.size) ?_ (by first | omega | ((try simp only [World.size_drew]); (try simp only [World.size_alloc]); omega))); repeat' (first | with_reducible assumption | (with_reducible refine Row.drew ?_) | (with_reducible refine Row.carry ?_ (by with_reducible assumption) ?_) | (with_reducible refine Row.alloc ?_ ?_ _) | (with_reducible refine Row.setCell ?_ ?_ _) | omega | (simp; done) | (simp; omega)))); (focus ((refine Row.more (B := w.heap.size) ?_ (by first | omega | ((try simp only [World.size_drew]); (try simp only [World.size_alloc]); omega))); repeat' (first | with_reducible assumption | (with_reducible refine Row.drew ?_) | (with_reducible refine Row.carry ?_ (by with_reducible assumption) ?_) | (with_reducible refine Row.alloc ?_ ?_ _) | (with_reducible refine Row.setCell ?_ ?_ _) | omega | (simp; done) | (simp; omega)))); (focus ((refine Row.more (B := w.heap.size) ?_ (by first | omega | ((try simp only [World.size_drew]); (try simp only [World.size_alloc]); omega))); repeat' (first | with_reducible assumption | (with_reducible refine Row.drew ?_) | (with_reducible refine Row.carry ?_ (by with_reducible assumption) ?_) | (with_reducible refine Row.alloc ?_ ?_ _) | (with_reducible refine Row.setCell ?_ ?_ _) | omega | (simp; done) | (simp; omega)))); rintro e wB ⟨rfl, hbwB⟩; obtain ⟨hcwB, hfwB⟩ := bcell hbwB; have hzwB := hbwB.size; (try simp only [World.size_drew] at hcwB hfwB hzwB); (try simp only [World.size_alloc] at hcwB hfwB hzwB)))
  all_goals
    have zA : W0.heap.size ≤ wA.heap.size := by omega
    have gB : Below w.heap.size w wB := by repeat' (first | with_reducible assumption | with_reducible exact Below.refl _ _ | (with_reducible refine Below.setCell ?_ ?_ _) | (with_reducible refine Below.alloc ?_ ?_ _) | (with_reducible refine Below.drew ?_) | (with_reducible refine below_dr ?_ _) | (with_reducible refine Below.trans ?_ (Below.mono (by with_reducible assumption) ?_)) | omega | (simp; done) | (simp; omega))
    have g0B : Below W0.heap.size W0 wB := by clear b0 gB; repeat' (first | with_reducible assumption | with_reducible exact Below.refl _ _ | (with_reducible refine Below.setCell ?_ ?_ _) | (with_reducible refine Below.alloc ?_ ?_ _) | (with_reducible refine Below.drew ?_) | (with_reducible refine below_dr ?_ _) | (with_reducible refine Below.trans ?_ (Below.mono (by with_reducible assumption) ?_)) | omega | (simp; done) | (simp; omega))
    have atB := at0.below g0B
    have HB := Lib.hid (fun (wr : World) (hb : Below wB.heap.size wB wr) => atB.below hb)
    clear at0 sa5 sa8 sa9 sa10 hcwA hfwA hcwB hfwB hbwA hbwB
    have lB := atB.lt
    clear atB
    cases v0
    case false =>
      go_wp2_with fail
      go_ret
      exact ⟨ret_bool (by rw [← HE.out]; simp), by repeat' (first | with_reducible assumption | with_reducible exact Below.refl _ _ | (with_reducible refine Below.setCell ?_ ?_ _) | (with_reducible refine Below.alloc ?_ ?_ _) | (with_reducible refine Below.drew ?_) | (with_reducible refine below_dr ?_ _) | (with_reducible refine Below.trans ?_ (Below.mono (by with_reducible assumption) ?_)) | omega | (simp; done) | (simp; omega))⟩
    case true =>
      go_wp2_with fail
      refine (CF.out _).mono ?_
      rintro e wC1 ⟨rfl, hbwC1⟩
      have zwC1 := hbwC1.size
      have gwC1 : Below w.heap.size w wC1 := by repeat' (first | with_reducible assumption | with_reducible exact Below.refl _ _ | (with_reducible refine Below.setCell ?_ ?_ _) | (with_reducible refine Below.alloc ?_ ?_ _) | (with_reducible refine Below.drew ?_) | (with_reducible refine below_dr ?_ _) | (with_reducible refine Below.trans ?_ (Below.mono (by with_reducible assumption) ?_)) | omega | (simp; done) | (simp; omega))
      have xwC1 : Below wB.heap.size wB wC1 := by clear b0 gB gwC1; repeat' (first | with_reducible assumption | with_reducible exact Below.refl _ _ | (with_reducible refine Below.setCell ?_ ?_ _) | (with_reducible refine Below.alloc ?_ ?_ _) | (with_reducible refine Below.drew ?_) | (with_reducible refine below_dr ?_ _) | (with_reducible refine Below.trans ?_ (Below.mono (by with_reducible assumption) ?_)) | omega | (simp; done) | (simp; omega))
      have atwC1 := HB.out _ xwC1
      have j13 := atwC1.cell 3 rfl
      have j14 := atwC1.cell 4 rfl
      have j15 := atwC1.cell 5 rfl
      have lwC1 := atwC1.lt
      clear atwC1
      cases u1
      case false =>
        go_wp2_with fail
        go_ret
        exact ⟨ret_bool (by rw [← HE.out]; simp), by repeat' (first | with_reducible assumption | with_reducible exact Below.refl _ _ | (with_reducible refine Below.setCell ?_ ?_ _) | (with_reducible refine Below.alloc ?_ ?_ _) | (with_reducible refine Below.drew ?_) | (with_reducible refine below_dr ?_ _) | (with_reducible refine Below.trans ?_ (Below.mono (by with_reducible assumption) ?_)) | omega | (simp; done) | (simp; omega))⟩
      case true =>
        go_wp2_with fail
        refine (CL.out _ ?_).mono ?_
        · exact (Row.carry (w' := _) r_a5 (by repeat' (first | with_reducible assumption | with_reducible exact Below.refl _ _ | (with_reducible refine Below.setCell ?_ ?_ _) | (with_reducible refine Below.alloc ?_ ?_ _) | (with_reducible refine Below.drew ?_) | (with_reducible refine below_dr ?_ _) | (with_reducible refine Below.trans ?_ (Below.mono (by with_reducible assumption) ?_)) | omega | (simp; done) | (simp; omega))) (Nat.le_refl _)).more (by first | omega | (simp; omega))
        rintro e wC2 ⟨rfl, hbwC2⟩
        have zwC2 := hbwC2.size
        have gwC2 : Below w.heap.size w wC2 := by repeat' (first | with_reducible assumption | with_reducible exact Below.refl _ _ | (with_reducible refine Below.setCell ?_ ?_ _) | (with_reducible refine Below.alloc ?_ ?_ _) | (with_reducible refine Below.drew ?_) | (with_reducible refine below_dr ?_ _) | (with_reducible refine Below.trans ?_ (Below.mono (by with_reducible assumption) ?_)) | omega | (simp; done) | (simp; omega))
        have xwC2 : Below wB.heap.size wB wC2 := xwC1.trans (hbwC2.mono (by omega))
        have atwC2 := HB.out _ xwC2
        have j25 := atwC2.cell 5 rfl
        have lwC2 := atwC2.lt
        clear atwC2
        cases u2
        case false =>
          go_wp2_with fail
          go_ret
          exact ⟨ret_bool (by rw [← HE.out]; simp), by repeat' (first | with_reducible assumption | with_reducible exact Below.refl _ _ | (with_reducible refine Below.setCell ?_ ?_ _) | (with_reducible refine Below.alloc ?_ ?_ _) | (with_reducible refine Below.drew ?_) | (with_reducible refine below_dr ?_ _) | (with_reducible refine Below.trans ?_ (Below.mono (by with_reducible assumption) ?_)) | omega | (simp; done) | (simp; omega))⟩
        case true =>
          cases u3
          case false =>
            go_wp2_with fail
            go_ret
            exact ⟨ret_bool (by rw [← HE.out]; simp), by repeat' (first | with_reducible assumption | with_reducible exact Below.refl _ _ | (with_reducible refine Below.setCell ?_ ?_ _) | (with_reducible refine Below.alloc ?_ ?_ _) | (with_reducible refine Below.drew ?_) | (with_reducible refine below_dr ?_ _) | (with_reducible refine Below.trans ?_ (Below.mono (by with_reducible assumption) ?_)) | omega | (simp; done) | (simp; omega))⟩
          case true =>
            go_wp2_with fail
            go_ret
            exact ⟨ret_bool (by rw [← HE.out]; simp), by repeat' (first | with_reducible assumption | with_reducible exact Below.refl _ _ | (with_reducible refine Below.setCell ?_ ?_ _) | (with_reducible refine Below.alloc ?_ ?_ _) | (with_reducible refine Below.drew ?_) | (with_reducible refine below_dr ?_ _) | (with_reducible refine Below.trans ?_ (Below.mono (by with_reducible assumption) ?_)) | omega | (simp; done) | (simp; omega))⟩
set_option maxRecDepth 100000 in
set_option maxHeartbeats 12800000 in
theorem implValid_2 (a1 : ByteArray) (a2 : ByteArray) (a3 : Int) (a4 : Int) (a5A : Option Addr) (a5c : Nat) (a5l : List DTerm) (a6 : Int) (a7 : Int) (a8A : Option Addr) (a8c : Nat) (a8l : List DTerm) (a9A : Option Addr) (a9c : Nat) (a9l : List DString) (a10A : Option Addr) (a10c : Nat) (a10l : List DInt64) (a11 : Bool) (a12 : Bool) (w : World) (h_a : totStatement ((2 : Int), a1, a2, a3, a4, a5l, a6, a7, a8l, a9l, a10l, a11, a12) ≤ 1048576) (i_a3 : (-9223372036854775808 ≤ a3 ∧ a3 ≤ 9223372036854775807)) (i_a4 : (-9223372036854775808 ≤ a4 ∧ a4 ≤ 9223372036854775807)) (i_a6 : (-9223372036854775808 ≤ a6 ∧ a6 ≤ 9223372036854775807)) (i_a7 : (-9223372036854775808 ≤ a7 ∧ a7 ≤ 9223372036854775807)) (r_a5 : Row RvTerm 3 w w.heap.size a5A a5l) (r_a8 : Row RvTerm 3 w w.heap.size a8A a8l) (r_a9 : Row RvString 1 w w.heap.size a9A a9l) (r_a10 : Row RvInt64 1 w w.heap.size a10A a10l) (ok_a5 : (∀ (w2 : World) (B : Nat) (i : Nat) (b : ATerm), a5l[i]? = some b → okTerm w2 B b)) (ok_a8 : (∀ (w2 : World) (B : Nat) (i : Nat) (b : ATerm), a8l[i]? = some b → okTerm w2 B b)) (hz_a9 : ∀ (k : Nat) (s : DString), a9l[k]? = some s → s.size ≤ 4611686018427387904) (h1 : a1.size ≤ 9223372036854775807) (h2 : a2.size ≤ 9223372036854775807) : Calls Try.prog 7 #[.agg #[.int .i64 2, .string a1, .string a2, .int .i64 a3, .int .i64 a4, .slice a5A a5l.length a5c, .int .i64 a6, .int .i64 a7, .slice a8A a8l.length a8c, .slice a9A a9l.length a9c, .slice a10A a10l.length a10c, .bool a11, .bool a12]] w fun e w' => e = .returned (.bool (vStB 2 a1 a2 a3 a4 a5A a5c a5l a6 a7 a8A a8c a8l a9A a9c a9l a10A a10c a10l a11 a12)) ∧ Below w.heap.size w w' := by
  have HE := Lib.hid (same_2 a1 a2 a3 a4 a5A a5c a5l a6 a7 a8A a8c a8l a9A a9c a9l a10A a10c a10l a11 a12)
  have CW := Lib.hid (fun w => without_2 a1 a2 a3 a4 a5A a5c a5l a6 a7 a8A a8c a8l a9A a9c a9l a10A a10c a10l a11 a12 w)
  have htb : totStatement ((2 : Int), (ByteArray.mk #[]), (ByteArray.mk #[]), a3, a4, a5l, a6, a7, a8l, [], [], false, false) ≤ 1048576 := by simp only [totStatement] at h_a ⊢; simp [totRow] at h_a ⊢; have ez : (ByteArray.mk #[]).size = 0 := rfl; omega
  have CM := Lib.hid (fun w (r_a5 : Row RvTerm 3 w w.heap.size a5A a5l) (r_a8 : Row RvTerm 3 w w.heap.size a8A a8l) (r_a9 : Row RvString 1 w w.heap.size a9A a9l) (r_a10 : Row RvInt64 1 w w.heap.size a10A a10l) => implSame_any 2 a1 a2 a3 a4 a5A a5c a5l a6 a7 a8A a8c a8l a9A a9c a9l a10A a10c a10l a11 a12 2 (ByteArray.mk #[]) (ByteArray.mk #[]) a3 a4 a5A a5c a5l a6 a7 a8A a8c a8l none 0 [] none 0 [] false false w h_a htb r_a5 r_a8 r_a9 r_a10 r_a5 r_a8 (.inl rfl) (.inl rfl))
  simp only [List.length_nil] at CM
  simp only [totStatement] at h_a
  have hl_a5 : a5l.length ≤ 1048576 := Nat.le_trans (totRow_len totTerm _) (by omega)
  have hl_a8 : a8l.length ≤ 1048576 := Nat.le_trans (totRow_len totTerm _) (by omega)
  have hl_a9 : a9l.length ≤ 1048576 := Nat.le_trans (totRow_len totString _) (by omega)
  have hl_a10 : a10l.length ≤ 1048576 := Nat.le_trans (totRow_len totInt64 _) (by omega)
  clear h_a htb
  have CL := Lib.hid (fun w r => implFree_any a3 a4 a5A a5c a5l w i_a3 i_a4 hl_a5 r ok_a5)
  have CR := Lib.hid (fun w r => implFree_any a6 a7 a8A a8c a8l w i_a6 i_a7 hl_a8 r ok_a8)
  generalize hv0 : smV ((2 : Int), a1, a2, a3, a4, a5l, a6, a7, a8l, a9l, a10l, a11, a12) ((2 : Int), (ByteArray.mk #[]), (ByteArray.mk #[]), a3, a4, a5l, a6, a7, a8l, [], [], false, false) = v0 at CM HE
  generalize hvu2 : frLin a3 a4 a5l = u2 at CL HE
  generalize hvu3 : frLin a6 a7 a8l = u3 at CR HE
  clear i_a3 i_a4 i_a6 i_a7 ok_a5 ok_a8 hz_a9 h1 h2
  go_enter Try.func7, Try.ntmps7
  go_upto_region 1 with fail
  generalize hW : w.alloc (.cells #[.int .i64 2, .string a1, .string a2, .int .i64 a3, .int .i64 a4, .slice a5A a5l.length a5c, .int .i64 a6, .int .i64 a7, .slice a8A a8l.length a8c, .slice a9A a9l.length a9c, .slice a10A a10l.length a10c, .bool a11, .bool a12] 38) = W0
  have at0 : AtL w.heap.size [.int .i64 2, .string a1, .string a2, .int .i64 a3, .int .i64 a4, .slice a5A a5l.length a5c, .int .i64 a6, .int .i64 a7, .slice a8A a8l.length a8c, .slice a9A a9l.length a9c, .slice a10A a10l.length a10c, .bool a11, .bool a12] W0 := by rw [← hW]; exact AtL.new _ _ _
  have b0 : Below w.heap.size w W0 := by rw [← hW]; repeat' (first | with_reducible assumption | with_reducible exact Below.refl _ _ | (with_reducible refine Below.setCell ?_ ?_ _) | (with_reducible refine Below.alloc ?_ ?_ _) | (with_reducible refine Below.drew ?_) | (with_reducible refine below_dr ?_ _) | (with_reducible refine Below.trans ?_ (Below.mono (by with_reducible assumption) ?_)) | omega | (simp; done) | (simp; omega))
  have z0 : W0.heap.size = w.heap.size + 1 := by rw [← hW]; simp
  clear hW
  have sa5 : Row RvTerm 3 W0 w.heap.size a5A a5l := (r_a5.carry b0 (Nat.le_refl _))
  have sa8 : Row RvTerm 3 W0 w.heap.size a8A a8l := (r_a8.carry b0 (Nat.le_refl _))
  have sa9 : Row RvString 1 W0 w.heap.size a9A a9l := (r_a9.carry b0 (Nat.le_refl _))
  have sa10 : Row RvInt64 1 W0 w.heap.size a10A a10l := (r_a10.carry b0 (Nat.le_refl _))
  have k0 := at0.cell 0 rfl
  have k1 := at0.cell 1 rfl
  have k2 := at0.cell 2 rfl
  have k3 := at0.cell 3 rfl
  have k4 := at0.cell 4 rfl
  have k5 := at0.cell 5 rfl
  have k6 := at0.cell 6 rfl
  have k7 := at0.cell 7 rfl
  have k8 := at0.cell 8 rfl
  have k9 := at0.cell 9 rfl
  have k10 := at0.cell 10 rfl
  have k11 := at0.cell 11 rfl
  have k12 := at0.cell 12 rfl
  have l0 := at0.lt
  go_region_held3 (fun w' => (∀ b o, b < W0.heap.size → w'.cell? ⟨b, o, none⟩ = W0.cell? ⟨b, o, none⟩) ∧ W0.heap.size ≤ w'.heap.size)
    (first | ((try dsimp only); exact ⟨fun b o h => (by (repeat (first | with_reducible exact rfl | (with_reducible refine (cell_drew_at _ _).trans ?_) | (with_reducible refine (cell_set_at _ _ (by first | omega | (simp; done) | (simp; omega))).trans ?_) | (with_reducible refine (cell_alloc_at _ _ (by first | omega | (simp; done) | (simp; omega))).trans ?_) | (with_reducible refine (hcwA b o (by first | omega | (simp; done) | (simp; omega))).trans ?_) | (with_reducible refine (hcwB b o (by first | omega | (simp; done) | (simp; omega))).trans ?_)))), (by first | omega | (simp; done) | (simp; omega))⟩) | fail)
    (first
      | (go_at_call 17; (with_reducible refine (CW.out _).mono ?_); rintro e wA ⟨rfl, hbwA⟩; obtain ⟨hcwA, hfwA⟩ := bcell hbwA; have hzwA := hbwA.size; (try simp only [World.size_drew] at hcwA hfwA hzwA); (try simp only [World.size_alloc] at hcwA hfwA hzwA))
      | (go_at_call 16; (with_reducible refine (CM.out _ ?_ ?_ ?_ ?_).mono ?_); (focus ((refine Row.more (B := w.heap.size) ?_ (by first | omega | ((try simp only [World.size_drew]); (try simp only [World.size_alloc]); omega))); repeat' (first | with_reducible assumption | (with_reducible refine Row.drew ?_) | (with_reducible refine Row.carry ?_ (by with_reducible assumption) ?_) | (with_reducible refine Row.alloc ?_ ?_ _) | (with_reducible refine Row.setCell ?_ ?_ _) | omega | (simp; done) | (simp; omega)))); (focus ((refine Row.more (B := w.heap.size) ?_ (by first | omega | ((try simp only [World.size_drew]); (try simp only [World.size_alloc]); omega))); repeat' (first | with_reducible assumption | (with_reducible refine Row.drew ?_) | (with_reducible refine Row.carry ?_ (by with_reducible assumption) ?_) | (with_reducible refine Row.alloc ?_ ?_ _) | (with_reducible refine Row.setCell ?_ ?_ _) | omega | (simp; done) | (simp; omega)))); (focus ((refine Row.more (B := w.heap.size) ?_ (by first | omega | ((try simp only [World.size_drew]); (try simp only [World.size_alloc]); omega))); repeat' (first | with_reducible assumption | (with_reducible refine Row.drew ?_) | (with_reducible refine Row.carry ?_ (by with_reducible assumption) ?_) | (with_reducible refine Row.alloc ?_ ?_ _) | (with_reducible refine Row.setCell ?_ ?_ _) | omega | (simp; done) | (simp; omega)))); (focus ((refine Row.more (B := w.heap.size) ?_ (by first | omega | ((try simp only [World.size_drew]); (try simp only [World.size_alloc]); omega))); repeat' (first | with_reducible assumption | (with_reducible refine Row.drew ?_) | (with_reducible refine Row.carry ?_ (by with_reducible assumption) ?_) | (with_reducible refine Row.alloc ?_ ?_ _) | (with_reducible refine Row.setCell ?_ ?_ _) | omega | (simp; done) | (simp; omega)))); rintro e wB ⟨rfl, hbwB⟩; obtain ⟨hcwB, hfwB⟩ := bcell hbwB; have hzwB := hbwB.size; (try simp only [World.size_drew] at hcwB hfwB hzwB); (try simp only [World.size_alloc] at hcwB hfwB hzwB)))
  all_goals
    have zA : W0.heap.size ≤ wA.heap.size := by omega
    have gB : Below w.heap.size w wB := by repeat' (first | with_reducible assumption | with_reducible exact Below.refl _ _ | (with_reducible refine Below.setCell ?_ ?_ _) | (with_reducible refine Below.alloc ?_ ?_ _) | (with_reducible refine Below.drew ?_) | (with_reducible refine below_dr ?_ _) | (with_reducible refine Below.trans ?_ (Below.mono (by with_reducible assumption) ?_)) | omega | (simp; done) | (simp; omega))
    have g0B : Below W0.heap.size W0 wB := by clear b0 gB; repeat' (first | with_reducible assumption | with_reducible exact Below.refl _ _ | (with_reducible refine Below.setCell ?_ ?_ _) | (with_reducible refine Below.alloc ?_ ?_ _) | (with_reducible refine Below.drew ?_) | (with_reducible refine below_dr ?_ _) | (with_reducible refine Below.trans ?_ (Below.mono (by with_reducible assumption) ?_)) | omega | (simp; done) | (simp; omega))
    have atB := at0.below g0B
    have HB := Lib.hid (fun (wr : World) (hb : Below wB.heap.size wB wr) => atB.below hb)
    clear at0 sa5 sa8 sa9 sa10 hcwA hfwA hcwB hfwB hbwA hbwB
    have lB := atB.lt
    clear atB
    cases v0
    case false =>
      go_wp2_with fail
      go_ret
      exact ⟨ret_bool (by rw [← HE.out]; simp), by repeat' (first | with_reducible assumption | with_reducible exact Below.refl _ _ | (with_reducible refine Below.setCell ?_ ?_ _) | (with_reducible refine Below.alloc ?_ ?_ _) | (with_reducible refine Below.drew ?_) | (with_reducible refine below_dr ?_ _) | (with_reducible refine Below.trans ?_ (Below.mono (by with_reducible assumption) ?_)) | omega | (simp; done) | (simp; omega))⟩
    case true =>
      go_wp2_with fail
      refine (CL.out _ ?_).mono ?_
      · exact (Row.carry (w' := _) r_a5 (by repeat' (first | with_reducible assumption | with_reducible exact Below.refl _ _ | (with_reducible refine Below.setCell ?_ ?_ _) | (with_reducible refine Below.alloc ?_ ?_ _) | (with_reducible refine Below.drew ?_) | (with_reducible refine below_dr ?_ _) | (with_reducible refine Below.trans ?_ (Below.mono (by with_reducible assumption) ?_)) | omega | (simp; done) | (simp; omega))) (Nat.le_refl _)).more (by first | omega | (simp; omega))
      rintro e wC1 ⟨rfl, hbwC1⟩
      have zwC1 := hbwC1.size
      have gwC1 : Below w.heap.size w wC1 := by repeat' (first | with_reducible assumption | with_reducible exact Below.refl _ _ | (with_reducible refine Below.setCell ?_ ?_ _) | (with_reducible refine Below.alloc ?_ ?_ _) | (with_reducible refine Below.drew ?_) | (with_reducible refine below_dr ?_ _) | (with_reducible refine Below.trans ?_ (Below.mono (by with_reducible assumption) ?_)) | omega | (simp; done) | (simp; omega))
      have xwC1 : Below wB.heap.size wB wC1 := by clear b0 gB gwC1; repeat' (first | with_reducible assumption | with_reducible exact Below.refl _ _ | (with_reducible refine Below.setCell ?_ ?_ _) | (with_reducible refine Below.alloc ?_ ?_ _) | (with_reducible refine Below.drew ?_) | (with_reducible refine below_dr ?_ _) | (with_reducible refine Below.trans ?_ (Below.mono (by with_reducible assumption) ?_)) | omega | (simp; done) | (simp; omega))
      have atwC1 := HB.out _ xwC1
      have j16 := atwC1.cell 6 rfl
      have j17 := atwC1.cell 7 rfl
      have j18 := atwC1.cell 8 rfl
      have lwC1 := atwC1.lt
      clear atwC1
      cases u2
      case false =>
        go_wp2_with fail
        go_ret
        exact ⟨ret_bool (by rw [← HE.out]; simp), by repeat' (first | with_reducible assumption | with_reducible exact Below.refl _ _ | (with_reducible refine Below.setCell ?_ ?_ _) | (with_reducible refine Below.alloc ?_ ?_ _) | (with_reducible refine Below.drew ?_) | (with_reducible refine below_dr ?_ _) | (with_reducible refine Below.trans ?_ (Below.mono (by with_reducible assumption) ?_)) | omega | (simp; done) | (simp; omega))⟩
      case true =>
        go_wp2_with fail
        refine (CR.out _ ?_).mono ?_
        · exact (Row.carry (w' := _) r_a8 (by repeat' (first | with_reducible assumption | with_reducible exact Below.refl _ _ | (with_reducible refine Below.setCell ?_ ?_ _) | (with_reducible refine Below.alloc ?_ ?_ _) | (with_reducible refine Below.drew ?_) | (with_reducible refine below_dr ?_ _) | (with_reducible refine Below.trans ?_ (Below.mono (by with_reducible assumption) ?_)) | omega | (simp; done) | (simp; omega))) (Nat.le_refl _)).more (by first | omega | (simp; omega))
        rintro e wC2 ⟨rfl, hbwC2⟩
        have zwC2 := hbwC2.size
        have gwC2 : Below w.heap.size w wC2 := by repeat' (first | with_reducible assumption | with_reducible exact Below.refl _ _ | (with_reducible refine Below.setCell ?_ ?_ _) | (with_reducible refine Below.alloc ?_ ?_ _) | (with_reducible refine Below.drew ?_) | (with_reducible refine below_dr ?_ _) | (with_reducible refine Below.trans ?_ (Below.mono (by with_reducible assumption) ?_)) | omega | (simp; done) | (simp; omega))
        have xwC2 : Below wB.heap.size wB wC2 := xwC1.trans (hbwC2.mono (by omega))
        have atwC2 := HB.out _ xwC2
        have lwC2 := atwC2.lt
        clear atwC2
        go_wp2_with fail
        go_ret
        exact ⟨ret_bool (by rw [← HE.out]; simp), by repeat' (first | with_reducible assumption | with_reducible exact Below.refl _ _ | (with_reducible refine Below.setCell ?_ ?_ _) | (with_reducible refine Below.alloc ?_ ?_ _) | (with_reducible refine Below.drew ?_) | (with_reducible refine below_dr ?_ _) | (with_reducible refine Below.trans ?_ (Below.mono (by with_reducible assumption) ?_)) | omega | (simp; done) | (simp; omega))⟩
set_option maxRecDepth 100000 in
set_option maxHeartbeats 12800000 in
theorem implValid_3 (a1 : ByteArray) (a2 : ByteArray) (a3 : Int) (a4 : Int) (a5A : Option Addr) (a5c : Nat) (a5l : List DTerm) (a6 : Int) (a7 : Int) (a8A : Option Addr) (a8c : Nat) (a8l : List DTerm) (a9A : Option Addr) (a9c : Nat) (a9l : List DString) (a10A : Option Addr) (a10c : Nat) (a10l : List DInt64) (a11 : Bool) (a12 : Bool) (w : World) (h_a : totStatement ((3 : Int), a1, a2, a3, a4, a5l, a6, a7, a8l, a9l, a10l, a11, a12) ≤ 1048576) (i_a3 : (-9223372036854775808 ≤ a3 ∧ a3 ≤ 9223372036854775807)) (i_a4 : (-9223372036854775808 ≤ a4 ∧ a4 ≤ 9223372036854775807)) (i_a6 : (-9223372036854775808 ≤ a6 ∧ a6 ≤ 9223372036854775807)) (i_a7 : (-9223372036854775808 ≤ a7 ∧ a7 ≤ 9223372036854775807)) (r_a5 : Row RvTerm 3 w w.heap.size a5A a5l) (r_a8 : Row RvTerm 3 w w.heap.size a8A a8l) (r_a9 : Row RvString 1 w w.heap.size a9A a9l) (r_a10 : Row RvInt64 1 w w.heap.size a10A a10l) (ok_a5 : (∀ (w2 : World) (B : Nat) (i : Nat) (b : ATerm), a5l[i]? = some b → okTerm w2 B b)) (ok_a8 : (∀ (w2 : World) (B : Nat) (i : Nat) (b : ATerm), a8l[i]? = some b → okTerm w2 B b)) (hz_a9 : ∀ (k : Nat) (s : DString), a9l[k]? = some s → s.size ≤ 4611686018427387904) (h1 : a1.size ≤ 9223372036854775807) (h2 : a2.size ≤ 9223372036854775807) : Calls Try.prog 7 #[.agg #[.int .i64 3, .string a1, .string a2, .int .i64 a3, .int .i64 a4, .slice a5A a5l.length a5c, .int .i64 a6, .int .i64 a7, .slice a8A a8l.length a8c, .slice a9A a9l.length a9c, .slice a10A a10l.length a10c, .bool a11, .bool a12]] w fun e w' => e = .returned (.bool (vStB 3 a1 a2 a3 a4 a5A a5c a5l a6 a7 a8A a8c a8l a9A a9c a9l a10A a10c a10l a11 a12)) ∧ Below w.heap.size w w' := by
  have HE := Lib.hid (same_3 a1 a2 a3 a4 a5A a5c a5l a6 a7 a8A a8c a8l a9A a9c a9l a10A a10c a10l a11 a12)
  have CW := Lib.hid (fun w => without_3 a1 a2 a3 a4 a5A a5c a5l a6 a7 a8A a8c a8l a9A a9c a9l a10A a10c a10l a11 a12 w)
  have htb : totStatement ((3 : Int), a1, (ByteArray.mk #[]), 0, 0, [], 0, 0, [], [], a10l, false, false) ≤ 1048576 := by simp only [totStatement] at h_a ⊢; simp [totRow] at h_a ⊢; have ez : (ByteArray.mk #[]).size = 0 := rfl; omega
  have CM := Lib.hid (fun w (r_a5 : Row RvTerm 3 w w.heap.size a5A a5l) (r_a8 : Row RvTerm 3 w w.heap.size a8A a8l) (r_a9 : Row RvString 1 w w.heap.size a9A a9l) (r_a10 : Row RvInt64 1 w w.heap.size a10A a10l) => implSame_any 3 a1 a2 a3 a4 a5A a5c a5l a6 a7 a8A a8c a8l a9A a9c a9l a10A a10c a10l a11 a12 3 a1 (ByteArray.mk #[]) 0 0 none 0 [] 0 0 none 0 [] none 0 [] a10A a10c a10l false false w h_a htb r_a5 r_a8 r_a9 r_a10 (.inl rfl) (.inl rfl) (.inl rfl) r_a10)
  simp only [List.length_nil] at CM
  simp only [totStatement] at h_a
  have hl_a5 : a5l.length ≤ 1048576 := Nat.le_trans (totRow_len totTerm _) (by omega)
  have hl_a8 : a8l.length ≤ 1048576 := Nat.le_trans (totRow_len totTerm _) (by omega)
  have hl_a9 : a9l.length ≤ 1048576 := Nat.le_trans (totRow_len totString _) (by omega)
  have hl_a10 : a10l.length ≤ 1048576 := Nat.le_trans (totRow_len totInt64 _) (by omega)
  clear h_a htb
  have CF := Lib.hid (fun w => impl_free a1 w h1)
  have CN := Lib.hid (fun w r => hasNumbers_any 3 a1 a2 a3 a4 a5A a5c a5l a6 a7 a8A a8c a8l a9A a9c a9l a10A a10c a10l a11 a12 1 2 w hl_a10 r)
  generalize hv0 : smV ((3 : Int), a1, a2, a3, a4, a5l, a6, a7, a8l, a9l, a10l, a11, a12) ((3 : Int), a1, (ByteArray.mk #[]), 0, 0, [], 0, 0, [], [], a10l, false, false) = v0 at CM HE
  generalize hvu1 : fnB a1 = u1 at CF HE
  generalize hvu2 : (inB a10l.length 1 2 && a10l.all numB) = u2 at CN HE
  clear i_a3 i_a4 i_a6 i_a7 ok_a5 ok_a8 hz_a9 h1 h2
  go_enter Try.func7, Try.ntmps7
  go_upto_region 1 with fail
  generalize hW : w.alloc (.cells #[.int .i64 3, .string a1, .string a2, .int .i64 a3, .int .i64 a4, .slice a5A a5l.length a5c, .int .i64 a6, .int .i64 a7, .slice a8A a8l.length a8c, .slice a9A a9l.length a9c, .slice a10A a10l.length a10c, .bool a11, .bool a12] 38) = W0
  have at0 : AtL w.heap.size [.int .i64 3, .string a1, .string a2, .int .i64 a3, .int .i64 a4, .slice a5A a5l.length a5c, .int .i64 a6, .int .i64 a7, .slice a8A a8l.length a8c, .slice a9A a9l.length a9c, .slice a10A a10l.length a10c, .bool a11, .bool a12] W0 := by rw [← hW]; exact AtL.new _ _ _
  have b0 : Below w.heap.size w W0 := by rw [← hW]; repeat' (first | with_reducible assumption | with_reducible exact Below.refl _ _ | (with_reducible refine Below.setCell ?_ ?_ _) | (with_reducible refine Below.alloc ?_ ?_ _) | (with_reducible refine Below.drew ?_) | (with_reducible refine below_dr ?_ _) | (with_reducible refine Below.trans ?_ (Below.mono (by with_reducible assumption) ?_)) | omega | (simp; done) | (simp; omega))
  have z0 : W0.heap.size = w.heap.size + 1 := by rw [← hW]; simp
  clear hW
  have sa5 : Row RvTerm 3 W0 w.heap.size a5A a5l := (r_a5.carry b0 (Nat.le_refl _))
  have sa8 : Row RvTerm 3 W0 w.heap.size a8A a8l := (r_a8.carry b0 (Nat.le_refl _))
  have sa9 : Row RvString 1 W0 w.heap.size a9A a9l := (r_a9.carry b0 (Nat.le_refl _))
  have sa10 : Row RvInt64 1 W0 w.heap.size a10A a10l := (r_a10.carry b0 (Nat.le_refl _))
  have k0 := at0.cell 0 rfl
  have k1 := at0.cell 1 rfl
  have k2 := at0.cell 2 rfl
  have k3 := at0.cell 3 rfl
  have k4 := at0.cell 4 rfl
  have k5 := at0.cell 5 rfl
  have k6 := at0.cell 6 rfl
  have k7 := at0.cell 7 rfl
  have k8 := at0.cell 8 rfl
  have k9 := at0.cell 9 rfl
  have k10 := at0.cell 10 rfl
  have k11 := at0.cell 11 rfl
  have k12 := at0.cell 12 rfl
  have l0 := at0.lt
  go_region_held3 (fun w' => (∀ b o, b < W0.heap.size → w'.cell? ⟨b, o, none⟩ = W0.cell? ⟨b, o, none⟩) ∧ W0.heap.size ≤ w'.heap.size)
    (first | ((try dsimp only); exact ⟨fun b o h => (by (repeat (first | with_reducible exact rfl | (with_reducible refine (cell_drew_at _ _).trans ?_) | (with_reducible refine (cell_set_at _ _ (by first | omega | (simp; done) | (simp; omega))).trans ?_) | (with_reducible refine (cell_alloc_at _ _ (by first | omega | (simp; done) | (simp; omega))).trans ?_) | (with_reducible refine (hcwA b o (by first | omega | (simp; done) | (simp; omega))).trans ?_) | (with_reducible refine (hcwB b o (by first | omega | (simp; done) | (simp; omega))).trans ?_)))), (by first | omega | (simp; done) | (simp; omega))⟩) | fail)
    (first
      | (go_at_call 17; (with_reducible refine (CW.out _).mono ?_); rintro e wA ⟨rfl, hbwA⟩; obtain ⟨hcwA, hfwA⟩ := bcell hbwA; have hzwA := hbwA.size; (try simp only [World.size_drew] at hcwA hfwA hzwA); (try simp only [World.size_alloc] at hcwA hfwA hzwA))
      | (go_at_call 16; (with_reducible refine (CM.out _ ?_ ?_ ?_ ?_).mono ?_); (focus ((refine Row.more (B := w.heap.size) ?_ (by first | omega | ((try simp only [World.size_drew]); (try simp only [World.size_alloc]); omega))); repeat' (first | with_reducible assumption | (with_reducible refine Row.drew ?_) | (with_reducible refine Row.carry ?_ (by with_reducible assumption) ?_) | (with_reducible refine Row.alloc ?_ ?_ _) | (with_reducible refine Row.setCell ?_ ?_ _) | omega | (simp; done) | (simp; omega)))); (focus ((refine Row.more (B := w.heap.size) ?_ (by first | omega | ((try simp only [World.size_drew]); (try simp only [World.size_alloc]); omega))); repeat' (first | with_reducible assumption | (with_reducible refine Row.drew ?_) | (with_reducible refine Row.carry ?_ (by with_reducible assumption) ?_) | (with_reducible refine Row.alloc ?_ ?_ _) | (with_reducible refine Row.setCell ?_ ?_ _) | omega | (simp; done) | (simp; omega)))); (focus ((refine Row.more (B := w.heap.size) ?_ (by first | omega | ((try simp only [World.size_drew]); (try simp only [World.size_alloc]); omega))); repeat' (first | with_reducible assumption | (with_reducible refine Row.drew ?_) | (with_reducible refine Row.carry ?_ (by with_reducible assumption) ?_) | (with_reducible refine Row.alloc ?_ ?_ _) | (with_reducible refine Row.setCell ?_ ?_ _) | omega | (simp; done) | (simp; omega)))); (focus ((refine Row.more (B := w.heap.size) ?_ (by first | omega | ((try simp only [World.size_drew]); (try simp only [World.size_alloc]); omega))); repeat' (first | with_reducible assumption | (with_reducible refine Row.drew ?_) | (with_reducible refine Row.carry ?_ (by with_reducible assumption) ?_) | (with_reducible refine Row.alloc ?_ ?_ _) | (with_reducible refine Row.setCell ?_ ?_ _) | omega | (simp; done) | (simp; omega)))); rintro e wB ⟨rfl, hbwB⟩; obtain ⟨hcwB, hfwB⟩ := bcell hbwB; have hzwB := hbwB.size; (try simp only [World.size_drew] at hcwB hfwB hzwB); (try simp only [World.size_alloc] at hcwB hfwB hzwB)))
  all_goals
    have zA : W0.heap.size ≤ wA.heap.size := by omega
    have gB : Below w.heap.size w wB := by repeat' (first | with_reducible assumption | with_reducible exact Below.refl _ _ | (with_reducible refine Below.setCell ?_ ?_ _) | (with_reducible refine Below.alloc ?_ ?_ _) | (with_reducible refine Below.drew ?_) | (with_reducible refine below_dr ?_ _) | (with_reducible refine Below.trans ?_ (Below.mono (by with_reducible assumption) ?_)) | omega | (simp; done) | (simp; omega))
    have g0B : Below W0.heap.size W0 wB := by clear b0 gB; repeat' (first | with_reducible assumption | with_reducible exact Below.refl _ _ | (with_reducible refine Below.setCell ?_ ?_ _) | (with_reducible refine Below.alloc ?_ ?_ _) | (with_reducible refine Below.drew ?_) | (with_reducible refine below_dr ?_ _) | (with_reducible refine Below.trans ?_ (Below.mono (by with_reducible assumption) ?_)) | omega | (simp; done) | (simp; omega))
    have atB := at0.below g0B
    have HB := Lib.hid (fun (wr : World) (hb : Below wB.heap.size wB wr) => atB.below hb)
    clear at0 sa5 sa8 sa9 sa10 hcwA hfwA hcwB hfwB hbwA hbwB
    have lB := atB.lt
    clear atB
    cases v0
    case false =>
      go_wp2_with fail
      go_ret
      exact ⟨ret_bool (by rw [← HE.out]; simp), by repeat' (first | with_reducible assumption | with_reducible exact Below.refl _ _ | (with_reducible refine Below.setCell ?_ ?_ _) | (with_reducible refine Below.alloc ?_ ?_ _) | (with_reducible refine Below.drew ?_) | (with_reducible refine below_dr ?_ _) | (with_reducible refine Below.trans ?_ (Below.mono (by with_reducible assumption) ?_)) | omega | (simp; done) | (simp; omega))⟩
    case true =>
      go_wp2_with fail
      refine (CF.out _).mono ?_
      rintro e wC1 ⟨rfl, hbwC1⟩
      have zwC1 := hbwC1.size
      have gwC1 : Below w.heap.size w wC1 := by repeat' (first | with_reducible assumption | with_reducible exact Below.refl _ _ | (with_reducible refine Below.setCell ?_ ?_ _) | (with_reducible refine Below.alloc ?_ ?_ _) | (with_reducible refine Below.drew ?_) | (with_reducible refine below_dr ?_ _) | (with_reducible refine Below.trans ?_ (Below.mono (by with_reducible assumption) ?_)) | omega | (simp; done) | (simp; omega))
      have xwC1 : Below wB.heap.size wB wC1 := by clear b0 gB gwC1; repeat' (first | with_reducible assumption | with_reducible exact Below.refl _ _ | (with_reducible refine Below.setCell ?_ ?_ _) | (with_reducible refine Below.alloc ?_ ?_ _) | (with_reducible refine Below.drew ?_) | (with_reducible refine below_dr ?_ _) | (with_reducible refine Below.trans ?_ (Below.mono (by with_reducible assumption) ?_)) | omega | (simp; done) | (simp; omega))
      have atwC1 := HB.out _ xwC1
      have j10 := atwC1.cell 0 rfl
      have j11 := atwC1.cell 1 rfl
      have j12 := atwC1.cell 2 rfl
      have j13 := atwC1.cell 3 rfl
      have j14 := atwC1.cell 4 rfl
      have j15 := atwC1.cell 5 rfl
      have j16 := atwC1.cell 6 rfl
      have j17 := atwC1.cell 7 rfl
      have j18 := atwC1.cell 8 rfl
      have j19 := atwC1.cell 9 rfl
      have j110 := atwC1.cell 10 rfl
      have j111 := atwC1.cell 11 rfl
      have j112 := atwC1.cell 12 rfl
      have lwC1 := atwC1.lt
      clear atwC1
      cases u1
      case false =>
        go_wp2_with fail
        go_ret
        exact ⟨ret_bool (by rw [← HE.out]; simp), by repeat' (first | with_reducible assumption | with_reducible exact Below.refl _ _ | (with_reducible refine Below.setCell ?_ ?_ _) | (with_reducible refine Below.alloc ?_ ?_ _) | (with_reducible refine Below.drew ?_) | (with_reducible refine below_dr ?_ _) | (with_reducible refine Below.trans ?_ (Below.mono (by with_reducible assumption) ?_)) | omega | (simp; done) | (simp; omega))⟩
      case true =>
        go_wp2_with fail
        refine (CN.out _ ?_).mono ?_
        · exact (Row.carry (w' := _) r_a10 (by repeat' (first | with_reducible assumption | with_reducible exact Below.refl _ _ | (with_reducible refine Below.setCell ?_ ?_ _) | (with_reducible refine Below.alloc ?_ ?_ _) | (with_reducible refine Below.drew ?_) | (with_reducible refine below_dr ?_ _) | (with_reducible refine Below.trans ?_ (Below.mono (by with_reducible assumption) ?_)) | omega | (simp; done) | (simp; omega))) (Nat.le_refl _)).more (by first | omega | (simp; omega))
        rintro e wC2 ⟨rfl, hbwC2⟩
        have zwC2 := hbwC2.size
        have gwC2 : Below w.heap.size w wC2 := by repeat' (first | with_reducible assumption | with_reducible exact Below.refl _ _ | (with_reducible refine Below.setCell ?_ ?_ _) | (with_reducible refine Below.alloc ?_ ?_ _) | (with_reducible refine Below.drew ?_) | (with_reducible refine below_dr ?_ _) | (with_reducible refine Below.trans ?_ (Below.mono (by with_reducible assumption) ?_)) | omega | (simp; done) | (simp; omega))
        have xwC2 : Below wB.heap.size wB wC2 := xwC1.trans (hbwC2.mono (by omega))
        have atwC2 := HB.out _ xwC2
        have lwC2 := atwC2.lt
        clear atwC2
        go_wp2_with fail
        go_ret
        exact ⟨ret_bool (by rw [← HE.out]; simp), by repeat' (first | with_reducible assumption | with_reducible exact Below.refl _ _ | (with_reducible refine Below.setCell ?_ ?_ _) | (with_reducible refine Below.alloc ?_ ?_ _) | (with_reducible refine Below.drew ?_) | (with_reducible refine below_dr ?_ _) | (with_reducible refine Below.trans ?_ (Below.mono (by with_reducible assumption) ?_)) | omega | (simp; done) | (simp; omega))⟩
set_option maxRecDepth 100000 in
set_option maxHeartbeats 12800000 in
theorem implValid_5 (a1 : ByteArray) (a2 : ByteArray) (a3 : Int) (a4 : Int) (a5A : Option Addr) (a5c : Nat) (a5l : List DTerm) (a6 : Int) (a7 : Int) (a8A : Option Addr) (a8c : Nat) (a8l : List DTerm) (a9A : Option Addr) (a9c : Nat) (a9l : List DString) (a10A : Option Addr) (a10c : Nat) (a10l : List DInt64) (a11 : Bool) (a12 : Bool) (w : World) (h_a : totStatement ((5 : Int), a1, a2, a3, a4, a5l, a6, a7, a8l, a9l, a10l, a11, a12) ≤ 1048576) (i_a3 : (-9223372036854775808 ≤ a3 ∧ a3 ≤ 9223372036854775807)) (i_a4 : (-9223372036854775808 ≤ a4 ∧ a4 ≤ 9223372036854775807)) (i_a6 : (-9223372036854775808 ≤ a6 ∧ a6 ≤ 9223372036854775807)) (i_a7 : (-9223372036854775808 ≤ a7 ∧ a7 ≤ 9223372036854775807)) (r_a5 : Row RvTerm 3 w w.heap.size a5A a5l) (r_a8 : Row RvTerm 3 w w.heap.size a8A a8l) (r_a9 : Row RvString 1 w w.heap.size a9A a9l) (r_a10 : Row RvInt64 1 w w.heap.size a10A a10l) (ok_a5 : (∀ (w2 : World) (B : Nat) (i : Nat) (b : ATerm), a5l[i]? = some b → okTerm w2 B b)) (ok_a8 : (∀ (w2 : World) (B : Nat) (i : Nat) (b : ATerm), a8l[i]? = some b → okTerm w2 B b)) (hz_a9 : ∀ (k : Nat) (s : DString), a9l[k]? = some s → s.size ≤ 4611686018427387904) (h1 : a1.size ≤ 9223372036854775807) (h2 : a2.size ≤ 9223372036854775807) : Calls Try.prog 7 #[.agg #[.int .i64 5, .string a1, .string a2, .int .i64 a3, .int .i64 a4, .slice a5A a5l.length a5c, .int .i64 a6, .int .i64 a7, .slice a8A a8l.length a8c, .slice a9A a9l.length a9c, .slice a10A a10l.length a10c, .bool a11, .bool a12]] w fun e w' => e = .returned (.bool (vStB 5 a1 a2 a3 a4 a5A a5c a5l a6 a7 a8A a8c a8l a9A a9c a9l a10A a10c a10l a11 a12)) ∧ Below w.heap.size w w' := by
  have HE := Lib.hid (same_5 a1 a2 a3 a4 a5A a5c a5l a6 a7 a8A a8c a8l a9A a9c a9l a10A a10c a10l a11 a12)
  have CW := Lib.hid (fun w => without_5 a1 a2 a3 a4 a5A a5c a5l a6 a7 a8A a8c a8l a9A a9c a9l a10A a10c a10l a11 a12 w)
  have htb : totStatement ((5 : Int), a1, (ByteArray.mk #[]), 0, 0, [], 0, 0, [], [], [], false, false) ≤ 1048576 := by simp only [totStatement] at h_a ⊢; simp [totRow] at h_a ⊢; have ez : (ByteArray.mk #[]).size = 0 := rfl; omega
  have CM := Lib.hid (fun w (r_a5 : Row RvTerm 3 w w.heap.size a5A a5l) (r_a8 : Row RvTerm 3 w w.heap.size a8A a8l) (r_a9 : Row RvString 1 w w.heap.size a9A a9l) (r_a10 : Row RvInt64 1 w w.heap.size a10A a10l) => implSame_any 5 a1 a2 a3 a4 a5A a5c a5l a6 a7 a8A a8c a8l a9A a9c a9l a10A a10c a10l a11 a12 5 a1 (ByteArray.mk #[]) 0 0 none 0 [] 0 0 none 0 [] none 0 [] none 0 [] false false w h_a htb r_a5 r_a8 r_a9 r_a10 (.inl rfl) (.inl rfl) (.inl rfl) (.inl rfl))
  simp only [List.length_nil] at CM
  simp only [totStatement] at h_a
  have hl_a5 : a5l.length ≤ 1048576 := Nat.le_trans (totRow_len totTerm _) (by omega)
  have hl_a8 : a8l.length ≤ 1048576 := Nat.le_trans (totRow_len totTerm _) (by omega)
  have hl_a9 : a9l.length ≤ 1048576 := Nat.le_trans (totRow_len totString _) (by omega)
  have hl_a10 : a10l.length ≤ 1048576 := Nat.le_trans (totRow_len totInt64 _) (by omega)
  clear h_a htb
  have CF := Lib.hid (fun w => impl_free a1 w h1)
  generalize hv0 : smV ((5 : Int), a1, a2, a3, a4, a5l, a6, a7, a8l, a9l, a10l, a11, a12) ((5 : Int), a1, (ByteArray.mk #[]), 0, 0, [], 0, 0, [], [], [], false, false) = v0 at CM HE
  generalize hvu1 : fnB a1 = u1 at CF HE
  clear i_a3 i_a4 i_a6 i_a7 ok_a5 ok_a8 hz_a9 h1 h2
  go_enter Try.func7, Try.ntmps7
  go_upto_region 1 with fail
  generalize hW : w.alloc (.cells #[.int .i64 5, .string a1, .string a2, .int .i64 a3, .int .i64 a4, .slice a5A a5l.length a5c, .int .i64 a6, .int .i64 a7, .slice a8A a8l.length a8c, .slice a9A a9l.length a9c, .slice a10A a10l.length a10c, .bool a11, .bool a12] 38) = W0
  have at0 : AtL w.heap.size [.int .i64 5, .string a1, .string a2, .int .i64 a3, .int .i64 a4, .slice a5A a5l.length a5c, .int .i64 a6, .int .i64 a7, .slice a8A a8l.length a8c, .slice a9A a9l.length a9c, .slice a10A a10l.length a10c, .bool a11, .bool a12] W0 := by rw [← hW]; exact AtL.new _ _ _
  have b0 : Below w.heap.size w W0 := by rw [← hW]; repeat' (first | with_reducible assumption | with_reducible exact Below.refl _ _ | (with_reducible refine Below.setCell ?_ ?_ _) | (with_reducible refine Below.alloc ?_ ?_ _) | (with_reducible refine Below.drew ?_) | (with_reducible refine below_dr ?_ _) | (with_reducible refine Below.trans ?_ (Below.mono (by with_reducible assumption) ?_)) | omega | (simp; done) | (simp; omega))
  have z0 : W0.heap.size = w.heap.size + 1 := by rw [← hW]; simp
  clear hW
  have sa5 : Row RvTerm 3 W0 w.heap.size a5A a5l := (r_a5.carry b0 (Nat.le_refl _))
  have sa8 : Row RvTerm 3 W0 w.heap.size a8A a8l := (r_a8.carry b0 (Nat.le_refl _))
  have sa9 : Row RvString 1 W0 w.heap.size a9A a9l := (r_a9.carry b0 (Nat.le_refl _))
  have sa10 : Row RvInt64 1 W0 w.heap.size a10A a10l := (r_a10.carry b0 (Nat.le_refl _))
  have k0 := at0.cell 0 rfl
  have k1 := at0.cell 1 rfl
  have k2 := at0.cell 2 rfl
  have k3 := at0.cell 3 rfl
  have k4 := at0.cell 4 rfl
  have k5 := at0.cell 5 rfl
  have k6 := at0.cell 6 rfl
  have k7 := at0.cell 7 rfl
  have k8 := at0.cell 8 rfl
  have k9 := at0.cell 9 rfl
  have k10 := at0.cell 10 rfl
  have k11 := at0.cell 11 rfl
  have k12 := at0.cell 12 rfl
  have l0 := at0.lt
  go_region_held3 (fun w' => (∀ b o, b < W0.heap.size → w'.cell? ⟨b, o, none⟩ = W0.cell? ⟨b, o, none⟩) ∧ W0.heap.size ≤ w'.heap.size)
    (first | ((try dsimp only); exact ⟨fun b o h => (by (repeat (first | with_reducible exact rfl | (with_reducible refine (cell_drew_at _ _).trans ?_) | (with_reducible refine (cell_set_at _ _ (by first | omega | (simp; done) | (simp; omega))).trans ?_) | (with_reducible refine (cell_alloc_at _ _ (by first | omega | (simp; done) | (simp; omega))).trans ?_) | (with_reducible refine (hcwA b o (by first | omega | (simp; done) | (simp; omega))).trans ?_) | (with_reducible refine (hcwB b o (by first | omega | (simp; done) | (simp; omega))).trans ?_)))), (by first | omega | (simp; done) | (simp; omega))⟩) | fail)
    (first
      | (go_at_call 17; (with_reducible refine (CW.out _).mono ?_); rintro e wA ⟨rfl, hbwA⟩; obtain ⟨hcwA, hfwA⟩ := bcell hbwA; have hzwA := hbwA.size; (try simp only [World.size_drew] at hcwA hfwA hzwA); (try simp only [World.size_alloc] at hcwA hfwA hzwA))
      | (go_at_call 16; (with_reducible refine (CM.out _ ?_ ?_ ?_ ?_).mono ?_); (focus ((refine Row.more (B := w.heap.size) ?_ (by first | omega | ((try simp only [World.size_drew]); (try simp only [World.size_alloc]); omega))); repeat' (first | with_reducible assumption | (with_reducible refine Row.drew ?_) | (with_reducible refine Row.carry ?_ (by with_reducible assumption) ?_) | (with_reducible refine Row.alloc ?_ ?_ _) | (with_reducible refine Row.setCell ?_ ?_ _) | omega | (simp; done) | (simp; omega)))); (focus ((refine Row.more (B := w.heap.size) ?_ (by first | omega | ((try simp only [World.size_drew]); (try simp only [World.size_alloc]); omega))); repeat' (first | with_reducible assumption | (with_reducible refine Row.drew ?_) | (with_reducible refine Row.carry ?_ (by with_reducible assumption) ?_) | (with_reducible refine Row.alloc ?_ ?_ _) | (with_reducible refine Row.setCell ?_ ?_ _) | omega | (simp; done) | (simp; omega)))); (focus ((refine Row.more (B := w.heap.size) ?_ (by first | omega | ((try simp only [World.size_drew]); (try simp only [World.size_alloc]); omega))); repeat' (first | with_reducible assumption | (with_reducible refine Row.drew ?_) | (with_reducible refine Row.carry ?_ (by with_reducible assumption) ?_) | (with_reducible refine Row.alloc ?_ ?_ _) | (with_reducible refine Row.setCell ?_ ?_ _) | omega | (simp; done) | (simp; omega)))); (focus ((refine Row.more (B := w.heap.size) ?_ (by first | omega | ((try simp only [World.size_drew]); (try simp only [World.size_alloc]); omega))); repeat' (first | with_reducible assumption | (with_reducible refine Row.drew ?_) | (with_reducible refine Row.carry ?_ (by with_reducible assumption) ?_) | (with_reducible refine Row.alloc ?_ ?_ _) | (with_reducible refine Row.setCell ?_ ?_ _) | omega | (simp; done) | (simp; omega)))); rintro e wB ⟨rfl, hbwB⟩; obtain ⟨hcwB, hfwB⟩ := bcell hbwB; have hzwB := hbwB.size; (try simp only [World.size_drew] at hcwB hfwB hzwB); (try simp only [World.size_alloc] at hcwB hfwB hzwB)))
  all_goals
    have zA : W0.heap.size ≤ wA.heap.size := by omega
    have gB : Below w.heap.size w wB := by repeat' (first | with_reducible assumption | with_reducible exact Below.refl _ _ | (with_reducible refine Below.setCell ?_ ?_ _) | (with_reducible refine Below.alloc ?_ ?_ _) | (with_reducible refine Below.drew ?_) | (with_reducible refine below_dr ?_ _) | (with_reducible refine Below.trans ?_ (Below.mono (by with_reducible assumption) ?_)) | omega | (simp; done) | (simp; omega))
    have g0B : Below W0.heap.size W0 wB := by clear b0 gB; repeat' (first | with_reducible assumption | with_reducible exact Below.refl _ _ | (with_reducible refine Below.setCell ?_ ?_ _) | (with_reducible refine Below.alloc ?_ ?_ _) | (with_reducible refine Below.drew ?_) | (with_reducible refine below_dr ?_ _) | (with_reducible refine Below.trans ?_ (Below.mono (by with_reducible assumption) ?_)) | omega | (simp; done) | (simp; omega))
    have atB := at0.below g0B
    have HB := Lib.hid (fun (wr : World) (hb : Below wB.heap.size wB wr) => atB.below hb)
    clear at0 sa5 sa8 sa9 sa10 hcwA hfwA hcwB hfwB hbwA hbwB
    have lB := atB.lt
    clear atB
    cases v0
    case false =>
      go_wp2_with fail
      go_ret
      exact ⟨ret_bool (by rw [← HE.out]; simp), by repeat' (first | with_reducible assumption | with_reducible exact Below.refl _ _ | (with_reducible refine Below.setCell ?_ ?_ _) | (with_reducible refine Below.alloc ?_ ?_ _) | (with_reducible refine Below.drew ?_) | (with_reducible refine below_dr ?_ _) | (with_reducible refine Below.trans ?_ (Below.mono (by with_reducible assumption) ?_)) | omega | (simp; done) | (simp; omega))⟩
    case true =>
      go_wp2_with fail
      refine (CF.out _).mono ?_
      rintro e wC1 ⟨rfl, hbwC1⟩
      have zwC1 := hbwC1.size
      have gwC1 : Below w.heap.size w wC1 := by repeat' (first | with_reducible assumption | with_reducible exact Below.refl _ _ | (with_reducible refine Below.setCell ?_ ?_ _) | (with_reducible refine Below.alloc ?_ ?_ _) | (with_reducible refine Below.drew ?_) | (with_reducible refine below_dr ?_ _) | (with_reducible refine Below.trans ?_ (Below.mono (by with_reducible assumption) ?_)) | omega | (simp; done) | (simp; omega))
      have xwC1 : Below wB.heap.size wB wC1 := by clear b0 gB gwC1; repeat' (first | with_reducible assumption | with_reducible exact Below.refl _ _ | (with_reducible refine Below.setCell ?_ ?_ _) | (with_reducible refine Below.alloc ?_ ?_ _) | (with_reducible refine Below.drew ?_) | (with_reducible refine below_dr ?_ _) | (with_reducible refine Below.trans ?_ (Below.mono (by with_reducible assumption) ?_)) | omega | (simp; done) | (simp; omega))
      have atwC1 := HB.out _ xwC1
      have lwC1 := atwC1.lt
      clear atwC1
      go_wp2_with fail
      go_ret
      exact ⟨ret_bool (by rw [← HE.out]; simp), by repeat' (first | with_reducible assumption | with_reducible exact Below.refl _ _ | (with_reducible refine Below.setCell ?_ ?_ _) | (with_reducible refine Below.alloc ?_ ?_ _) | (with_reducible refine Below.drew ?_) | (with_reducible refine below_dr ?_ _) | (with_reducible refine Below.trans ?_ (Below.mono (by with_reducible assumption) ?_)) | omega | (simp; done) | (simp; omega))⟩
set_option maxRecDepth 100000 in
set_option maxHeartbeats 12800000 in
theorem implValid_6 (a1 : ByteArray) (a2 : ByteArray) (a3 : Int) (a4 : Int) (a5A : Option Addr) (a5c : Nat) (a5l : List DTerm) (a6 : Int) (a7 : Int) (a8A : Option Addr) (a8c : Nat) (a8l : List DTerm) (a9A : Option Addr) (a9c : Nat) (a9l : List DString) (a10A : Option Addr) (a10c : Nat) (a10l : List DInt64) (a11 : Bool) (a12 : Bool) (w : World) (h_a : totStatement ((6 : Int), a1, a2, a3, a4, a5l, a6, a7, a8l, a9l, a10l, a11, a12) ≤ 1048576) (i_a3 : (-9223372036854775808 ≤ a3 ∧ a3 ≤ 9223372036854775807)) (i_a4 : (-9223372036854775808 ≤ a4 ∧ a4 ≤ 9223372036854775807)) (i_a6 : (-9223372036854775808 ≤ a6 ∧ a6 ≤ 9223372036854775807)) (i_a7 : (-9223372036854775808 ≤ a7 ∧ a7 ≤ 9223372036854775807)) (r_a5 : Row RvTerm 3 w w.heap.size a5A a5l) (r_a8 : Row RvTerm 3 w w.heap.size a8A a8l) (r_a9 : Row RvString 1 w w.heap.size a9A a9l) (r_a10 : Row RvInt64 1 w w.heap.size a10A a10l) (ok_a5 : (∀ (w2 : World) (B : Nat) (i : Nat) (b : ATerm), a5l[i]? = some b → okTerm w2 B b)) (ok_a8 : (∀ (w2 : World) (B : Nat) (i : Nat) (b : ATerm), a8l[i]? = some b → okTerm w2 B b)) (hz_a9 : ∀ (k : Nat) (s : DString), a9l[k]? = some s → s.size ≤ 4611686018427387904) (h1 : a1.size ≤ 9223372036854775807) (h2 : a2.size ≤ 9223372036854775807) : Calls Try.prog 7 #[.agg #[.int .i64 6, .string a1, .string a2, .int .i64 a3, .int .i64 a4, .slice a5A a5l.length a5c, .int .i64 a6, .int .i64 a7, .slice a8A a8l.length a8c, .slice a9A a9l.length a9c, .slice a10A a10l.length a10c, .bool a11, .bool a12]] w fun e w' => e = .returned (.bool (vStB 6 a1 a2 a3 a4 a5A a5c a5l a6 a7 a8A a8c a8l a9A a9c a9l a10A a10c a10l a11 a12)) ∧ Below w.heap.size w w' := by
  have HE := Lib.hid (same_6 a1 a2 a3 a4 a5A a5c a5l a6 a7 a8A a8c a8l a9A a9c a9l a10A a10c a10l a11 a12)
  have CW := Lib.hid (fun w => without_6 a1 a2 a3 a4 a5A a5c a5l a6 a7 a8A a8c a8l a9A a9c a9l a10A a10c a10l a11 a12 w)
  have htb : totStatement ((6 : Int), a1, (ByteArray.mk #[]), 0, 0, [], 0, 0, [], [], [], false, false) ≤ 1048576 := by simp only [totStatement] at h_a ⊢; simp [totRow] at h_a ⊢; have ez : (ByteArray.mk #[]).size = 0 := rfl; omega
  have CM := Lib.hid (fun w (r_a5 : Row RvTerm 3 w w.heap.size a5A a5l) (r_a8 : Row RvTerm 3 w w.heap.size a8A a8l) (r_a9 : Row RvString 1 w w.heap.size a9A a9l) (r_a10 : Row RvInt64 1 w w.heap.size a10A a10l) => implSame_any 6 a1 a2 a3 a4 a5A a5c a5l a6 a7 a8A a8c a8l a9A a9c a9l a10A a10c a10l a11 a12 6 a1 (ByteArray.mk #[]) 0 0 none 0 [] 0 0 none 0 [] none 0 [] none 0 [] false false w h_a htb r_a5 r_a8 r_a9 r_a10 (.inl rfl) (.inl rfl) (.inl rfl) (.inl rfl))
  simp only [List.length_nil] at CM
  simp only [totStatement] at h_a
  have hl_a5 : a5l.length ≤ 1048576 := Nat.le_trans (totRow_len totTerm _) (by omega)
  have hl_a8 : a8l.length ≤ 1048576 := Nat.le_trans (totRow_len totTerm _) (by omega)
  have hl_a9 : a9l.length ≤ 1048576 := Nat.le_trans (totRow_len totString _) (by omega)
  have hl_a10 : a10l.length ≤ 1048576 := Nat.le_trans (totRow_len totInt64 _) (by omega)
  clear h_a htb
  have CF := Lib.hid (fun w => impl_free a1 w h1)
  generalize hv0 : smV ((6 : Int), a1, a2, a3, a4, a5l, a6, a7, a8l, a9l, a10l, a11, a12) ((6 : Int), a1, (ByteArray.mk #[]), 0, 0, [], 0, 0, [], [], [], false, false) = v0 at CM HE
  generalize hvu1 : fnB a1 = u1 at CF HE
  clear i_a3 i_a4 i_a6 i_a7 ok_a5 ok_a8 hz_a9 h1 h2
  go_enter Try.func7, Try.ntmps7
  go_upto_region 1 with fail
  generalize hW : w.alloc (.cells #[.int .i64 6, .string a1, .string a2, .int .i64 a3, .int .i64 a4, .slice a5A a5l.length a5c, .int .i64 a6, .int .i64 a7, .slice a8A a8l.length a8c, .slice a9A a9l.length a9c, .slice a10A a10l.length a10c, .bool a11, .bool a12] 38) = W0
  have at0 : AtL w.heap.size [.int .i64 6, .string a1, .string a2, .int .i64 a3, .int .i64 a4, .slice a5A a5l.length a5c, .int .i64 a6, .int .i64 a7, .slice a8A a8l.length a8c, .slice a9A a9l.length a9c, .slice a10A a10l.length a10c, .bool a11, .bool a12] W0 := by rw [← hW]; exact AtL.new _ _ _
  have b0 : Below w.heap.size w W0 := by rw [← hW]; repeat' (first | with_reducible assumption | with_reducible exact Below.refl _ _ | (with_reducible refine Below.setCell ?_ ?_ _) | (with_reducible refine Below.alloc ?_ ?_ _) | (with_reducible refine Below.drew ?_) | (with_reducible refine below_dr ?_ _) | (with_reducible refine Below.trans ?_ (Below.mono (by with_reducible assumption) ?_)) | omega | (simp; done) | (simp; omega))
  have z0 : W0.heap.size = w.heap.size + 1 := by rw [← hW]; simp
  clear hW
  have sa5 : Row RvTerm 3 W0 w.heap.size a5A a5l := (r_a5.carry b0 (Nat.le_refl _))
  have sa8 : Row RvTerm 3 W0 w.heap.size a8A a8l := (r_a8.carry b0 (Nat.le_refl _))
  have sa9 : Row RvString 1 W0 w.heap.size a9A a9l := (r_a9.carry b0 (Nat.le_refl _))
  have sa10 : Row RvInt64 1 W0 w.heap.size a10A a10l := (r_a10.carry b0 (Nat.le_refl _))
  have k0 := at0.cell 0 rfl
  have k1 := at0.cell 1 rfl
  have k2 := at0.cell 2 rfl
  have k3 := at0.cell 3 rfl
  have k4 := at0.cell 4 rfl
  have k5 := at0.cell 5 rfl
  have k6 := at0.cell 6 rfl
  have k7 := at0.cell 7 rfl
  have k8 := at0.cell 8 rfl
  have k9 := at0.cell 9 rfl
  have k10 := at0.cell 10 rfl
  have k11 := at0.cell 11 rfl
  have k12 := at0.cell 12 rfl
  have l0 := at0.lt
  go_region_held3 (fun w' => (∀ b o, b < W0.heap.size → w'.cell? ⟨b, o, none⟩ = W0.cell? ⟨b, o, none⟩) ∧ W0.heap.size ≤ w'.heap.size)
    (first | ((try dsimp only); exact ⟨fun b o h => (by (repeat (first | with_reducible exact rfl | (with_reducible refine (cell_drew_at _ _).trans ?_) | (with_reducible refine (cell_set_at _ _ (by first | omega | (simp; done) | (simp; omega))).trans ?_) | (with_reducible refine (cell_alloc_at _ _ (by first | omega | (simp; done) | (simp; omega))).trans ?_) | (with_reducible refine (hcwA b o (by first | omega | (simp; done) | (simp; omega))).trans ?_) | (with_reducible refine (hcwB b o (by first | omega | (simp; done) | (simp; omega))).trans ?_)))), (by first | omega | (simp; done) | (simp; omega))⟩) | fail)
    (first
      | (go_at_call 17; (with_reducible refine (CW.out _).mono ?_); rintro e wA ⟨rfl, hbwA⟩; obtain ⟨hcwA, hfwA⟩ := bcell hbwA; have hzwA := hbwA.size; (try simp only [World.size_drew] at hcwA hfwA hzwA); (try simp only [World.size_alloc] at hcwA hfwA hzwA))
      | (go_at_call 16; (with_reducible refine (CM.out _ ?_ ?_ ?_ ?_).mono ?_); (focus ((refine Row.more (B := w.heap.size) ?_ (by first | omega | ((try simp only [World.size_drew]); (try simp only [World.size_alloc]); omega))); repeat' (first | with_reducible assumption | (with_reducible refine Row.drew ?_) | (with_reducible refine Row.carry ?_ (by with_reducible assumption) ?_) | (with_reducible refine Row.alloc ?_ ?_ _) | (with_reducible refine Row.setCell ?_ ?_ _) | omega | (simp; done) | (simp; omega)))); (focus ((refine Row.more (B := w.heap.size) ?_ (by first | omega | ((try simp only [World.size_drew]); (try simp only [World.size_alloc]); omega))); repeat' (first | with_reducible assumption | (with_reducible refine Row.drew ?_) | (with_reducible refine Row.carry ?_ (by with_reducible assumption) ?_) | (with_reducible refine Row.alloc ?_ ?_ _) | (with_reducible refine Row.setCell ?_ ?_ _) | omega | (simp; done) | (simp; omega)))); (focus ((refine Row.more (B := w.heap.size) ?_ (by first | omega | ((try simp only [World.size_drew]); (try simp only [World.size_alloc]); omega))); repeat' (first | with_reducible assumption | (with_reducible refine Row.drew ?_) | (with_reducible refine Row.carry ?_ (by with_reducible assumption) ?_) | (with_reducible refine Row.alloc ?_ ?_ _) | (with_reducible refine Row.setCell ?_ ?_ _) | omega | (simp; done) | (simp; omega)))); (focus ((refine Row.more (B := w.heap.size) ?_ (by first | omega | ((try simp only [World.size_drew]); (try simp only [World.size_alloc]); omega))); repeat' (first | with_reducible assumption | (with_reducible refine Row.drew ?_) | (with_reducible refine Row.carry ?_ (by with_reducible assumption) ?_) | (with_reducible refine Row.alloc ?_ ?_ _) | (with_reducible refine Row.setCell ?_ ?_ _) | omega | (simp; done) | (simp; omega)))); rintro e wB ⟨rfl, hbwB⟩; obtain ⟨hcwB, hfwB⟩ := bcell hbwB; have hzwB := hbwB.size; (try simp only [World.size_drew] at hcwB hfwB hzwB); (try simp only [World.size_alloc] at hcwB hfwB hzwB)))
  all_goals
    have zA : W0.heap.size ≤ wA.heap.size := by omega
    have gB : Below w.heap.size w wB := by repeat' (first | with_reducible assumption | with_reducible exact Below.refl _ _ | (with_reducible refine Below.setCell ?_ ?_ _) | (with_reducible refine Below.alloc ?_ ?_ _) | (with_reducible refine Below.drew ?_) | (with_reducible refine below_dr ?_ _) | (with_reducible refine Below.trans ?_ (Below.mono (by with_reducible assumption) ?_)) | omega | (simp; done) | (simp; omega))
    have g0B : Below W0.heap.size W0 wB := by clear b0 gB; repeat' (first | with_reducible assumption | with_reducible exact Below.refl _ _ | (with_reducible refine Below.setCell ?_ ?_ _) | (with_reducible refine Below.alloc ?_ ?_ _) | (with_reducible refine Below.drew ?_) | (with_reducible refine below_dr ?_ _) | (with_reducible refine Below.trans ?_ (Below.mono (by with_reducible assumption) ?_)) | omega | (simp; done) | (simp; omega))
    have atB := at0.below g0B
    have HB := Lib.hid (fun (wr : World) (hb : Below wB.heap.size wB wr) => atB.below hb)
    clear at0 sa5 sa8 sa9 sa10 hcwA hfwA hcwB hfwB hbwA hbwB
    have lB := atB.lt
    clear atB
    cases v0
    case false =>
      go_wp2_with fail
      go_ret
      exact ⟨ret_bool (by rw [← HE.out]; simp), by repeat' (first | with_reducible assumption | with_reducible exact Below.refl _ _ | (with_reducible refine Below.setCell ?_ ?_ _) | (with_reducible refine Below.alloc ?_ ?_ _) | (with_reducible refine Below.drew ?_) | (with_reducible refine below_dr ?_ _) | (with_reducible refine Below.trans ?_ (Below.mono (by with_reducible assumption) ?_)) | omega | (simp; done) | (simp; omega))⟩
    case true =>
      go_wp2_with fail
      refine (CF.out _).mono ?_
      rintro e wC1 ⟨rfl, hbwC1⟩
      have zwC1 := hbwC1.size
      have gwC1 : Below w.heap.size w wC1 := by repeat' (first | with_reducible assumption | with_reducible exact Below.refl _ _ | (with_reducible refine Below.setCell ?_ ?_ _) | (with_reducible refine Below.alloc ?_ ?_ _) | (with_reducible refine Below.drew ?_) | (with_reducible refine below_dr ?_ _) | (with_reducible refine Below.trans ?_ (Below.mono (by with_reducible assumption) ?_)) | omega | (simp; done) | (simp; omega))
      have xwC1 : Below wB.heap.size wB wC1 := by clear b0 gB gwC1; repeat' (first | with_reducible assumption | with_reducible exact Below.refl _ _ | (with_reducible refine Below.setCell ?_ ?_ _) | (with_reducible refine Below.alloc ?_ ?_ _) | (with_reducible refine Below.drew ?_) | (with_reducible refine below_dr ?_ _) | (with_reducible refine Below.trans ?_ (Below.mono (by with_reducible assumption) ?_)) | omega | (simp; done) | (simp; omega))
      have atwC1 := HB.out _ xwC1
      have lwC1 := atwC1.lt
      clear atwC1
      go_wp2_with fail
      go_ret
      exact ⟨ret_bool (by rw [← HE.out]; simp), by repeat' (first | with_reducible assumption | with_reducible exact Below.refl _ _ | (with_reducible refine Below.setCell ?_ ?_ _) | (with_reducible refine Below.alloc ?_ ?_ _) | (with_reducible refine Below.drew ?_) | (with_reducible refine below_dr ?_ _) | (with_reducible refine Below.trans ?_ (Below.mono (by with_reducible assumption) ?_)) | omega | (simp; done) | (simp; omega))⟩
set_option maxRecDepth 100000 in
set_option maxHeartbeats 12800000 in
theorem implValid_7 (a1 : ByteArray) (a2 : ByteArray) (a3 : Int) (a4 : Int) (a5A : Option Addr) (a5c : Nat) (a5l : List DTerm) (a6 : Int) (a7 : Int) (a8A : Option Addr) (a8c : Nat) (a8l : List DTerm) (a9A : Option Addr) (a9c : Nat) (a9l : List DString) (a10A : Option Addr) (a10c : Nat) (a10l : List DInt64) (a11 : Bool) (a12 : Bool) (w : World) (h_a : totStatement ((7 : Int), a1, a2, a3, a4, a5l, a6, a7, a8l, a9l, a10l, a11, a12) ≤ 1048576) (i_a3 : (-9223372036854775808 ≤ a3 ∧ a3 ≤ 9223372036854775807)) (i_a4 : (-9223372036854775808 ≤ a4 ∧ a4 ≤ 9223372036854775807)) (i_a6 : (-9223372036854775808 ≤ a6 ∧ a6 ≤ 9223372036854775807)) (i_a7 : (-9223372036854775808 ≤ a7 ∧ a7 ≤ 9223372036854775807)) (r_a5 : Row RvTerm 3 w w.heap.size a5A a5l) (r_a8 : Row RvTerm 3 w w.heap.size a8A a8l) (r_a9 : Row RvString 1 w w.heap.size a9A a9l) (r_a10 : Row RvInt64 1 w w.heap.size a10A a10l) (ok_a5 : (∀ (w2 : World) (B : Nat) (i : Nat) (b : ATerm), a5l[i]? = some b → okTerm w2 B b)) (ok_a8 : (∀ (w2 : World) (B : Nat) (i : Nat) (b : ATerm), a8l[i]? = some b → okTerm w2 B b)) (hz_a9 : ∀ (k : Nat) (s : DString), a9l[k]? = some s → s.size ≤ 4611686018427387904) (h1 : a1.size ≤ 9223372036854775807) (h2 : a2.size ≤ 9223372036854775807) : Calls Try.prog 7 #[.agg #[.int .i64 7, .string a1, .string a2, .int .i64 a3, .int .i64 a4, .slice a5A a5l.length a5c, .int .i64 a6, .int .i64 a7, .slice a8A a8l.length a8c, .slice a9A a9l.length a9c, .slice a10A a10l.length a10c, .bool a11, .bool a12]] w fun e w' => e = .returned (.bool (vStB 7 a1 a2 a3 a4 a5A a5c a5l a6 a7 a8A a8c a8l a9A a9c a9l a10A a10c a10l a11 a12)) ∧ Below w.heap.size w w' := by
  have HE := Lib.hid (same_7 a1 a2 a3 a4 a5A a5c a5l a6 a7 a8A a8c a8l a9A a9c a9l a10A a10c a10l a11 a12)
  have CW := Lib.hid (fun w => without_7 a1 a2 a3 a4 a5A a5c a5l a6 a7 a8A a8c a8l a9A a9c a9l a10A a10c a10l a11 a12 w)
  have htb : totStatement ((7 : Int), a1, a2, 0, 0, [], 0, 0, [], [], [], false, false) ≤ 1048576 := by simp only [totStatement] at h_a ⊢; simp [totRow] at h_a ⊢; have ez : (ByteArray.mk #[]).size = 0 := rfl; omega
  have CM := Lib.hid (fun w (r_a5 : Row RvTerm 3 w w.heap.size a5A a5l) (r_a8 : Row RvTerm 3 w w.heap.size a8A a8l) (r_a9 : Row RvString 1 w w.heap.size a9A a9l) (r_a10 : Row RvInt64 1 w w.heap.size a10A a10l) => implSame_any 7 a1 a2 a3 a4 a5A a5c a5l a6 a7 a8A a8c a8l a9A a9c a9l a10A a10c a10l a11 a12 7 a1 a2 0 0 none 0 [] 0 0 none 0 [] none 0 [] none 0 [] false false w h_a htb r_a5 r_a8 r_a9 r_a10 (.inl rfl) (.inl rfl) (.inl rfl) (.inl rfl))
  simp only [List.length_nil] at CM
  simp only [totStatement] at h_a
  have hl_a5 : a5l.length ≤ 1048576 := Nat.le_trans (totRow_len totTerm _) (by omega)
  have hl_a8 : a8l.length ≤ 1048576 := Nat.le_trans (totRow_len totTerm _) (by omega)
  have hl_a9 : a9l.length ≤ 1048576 := Nat.le_trans (totRow_len totString _) (by omega)
  have hl_a10 : a10l.length ≤ 1048576 := Nat.le_trans (totRow_len totInt64 _) (by omega)
  clear h_a htb
  have CF := Lib.hid (fun w => impl_free a1 w h1)
  have CO := Lib.hid (fun w => impl_free a2 w h2)
  generalize hv0 : smV ((7 : Int), a1, a2, a3, a4, a5l, a6, a7, a8l, a9l, a10l, a11, a12) ((7 : Int), a1, a2, 0, 0, [], 0, 0, [], [], [], false, false) = v0 at CM HE
  generalize hvu1 : fnB a1 = u1 at CF HE
  generalize hvu2 : fnB a2 = u2 at CO HE
  clear i_a3 i_a4 i_a6 i_a7 ok_a5 ok_a8 hz_a9 h1 h2
  go_enter Try.func7, Try.ntmps7
  go_upto_region 1 with fail
  generalize hW : w.alloc (.cells #[.int .i64 7, .string a1, .string a2, .int .i64 a3, .int .i64 a4, .slice a5A a5l.length a5c, .int .i64 a6, .int .i64 a7, .slice a8A a8l.length a8c, .slice a9A a9l.length a9c, .slice a10A a10l.length a10c, .bool a11, .bool a12] 38) = W0
  have at0 : AtL w.heap.size [.int .i64 7, .string a1, .string a2, .int .i64 a3, .int .i64 a4, .slice a5A a5l.length a5c, .int .i64 a6, .int .i64 a7, .slice a8A a8l.length a8c, .slice a9A a9l.length a9c, .slice a10A a10l.length a10c, .bool a11, .bool a12] W0 := by rw [← hW]; exact AtL.new _ _ _
  have b0 : Below w.heap.size w W0 := by rw [← hW]; repeat' (first | with_reducible assumption | with_reducible exact Below.refl _ _ | (with_reducible refine Below.setCell ?_ ?_ _) | (with_reducible refine Below.alloc ?_ ?_ _) | (with_reducible refine Below.drew ?_) | (with_reducible refine below_dr ?_ _) | (with_reducible refine Below.trans ?_ (Below.mono (by with_reducible assumption) ?_)) | omega | (simp; done) | (simp; omega))
  have z0 : W0.heap.size = w.heap.size + 1 := by rw [← hW]; simp
  clear hW
  have sa5 : Row RvTerm 3 W0 w.heap.size a5A a5l := (r_a5.carry b0 (Nat.le_refl _))
  have sa8 : Row RvTerm 3 W0 w.heap.size a8A a8l := (r_a8.carry b0 (Nat.le_refl _))
  have sa9 : Row RvString 1 W0 w.heap.size a9A a9l := (r_a9.carry b0 (Nat.le_refl _))
  have sa10 : Row RvInt64 1 W0 w.heap.size a10A a10l := (r_a10.carry b0 (Nat.le_refl _))
  have k0 := at0.cell 0 rfl
  have k1 := at0.cell 1 rfl
  have k2 := at0.cell 2 rfl
  have k3 := at0.cell 3 rfl
  have k4 := at0.cell 4 rfl
  have k5 := at0.cell 5 rfl
  have k6 := at0.cell 6 rfl
  have k7 := at0.cell 7 rfl
  have k8 := at0.cell 8 rfl
  have k9 := at0.cell 9 rfl
  have k10 := at0.cell 10 rfl
  have k11 := at0.cell 11 rfl
  have k12 := at0.cell 12 rfl
  have l0 := at0.lt
  go_region_held3 (fun w' => (∀ b o, b < W0.heap.size → w'.cell? ⟨b, o, none⟩ = W0.cell? ⟨b, o, none⟩) ∧ W0.heap.size ≤ w'.heap.size)
    (first | ((try dsimp only); exact ⟨fun b o h => (by (repeat (first | with_reducible exact rfl | (with_reducible refine (cell_drew_at _ _).trans ?_) | (with_reducible refine (cell_set_at _ _ (by first | omega | (simp; done) | (simp; omega))).trans ?_) | (with_reducible refine (cell_alloc_at _ _ (by first | omega | (simp; done) | (simp; omega))).trans ?_) | (with_reducible refine (hcwA b o (by first | omega | (simp; done) | (simp; omega))).trans ?_) | (with_reducible refine (hcwB b o (by first | omega | (simp; done) | (simp; omega))).trans ?_)))), (by first | omega | (simp; done) | (simp; omega))⟩) | fail)
    (first
      | (go_at_call 17; (with_reducible refine (CW.out _).mono ?_); rintro e wA ⟨rfl, hbwA⟩; obtain ⟨hcwA, hfwA⟩ := bcell hbwA; have hzwA := hbwA.size; (try simp only [World.size_drew] at hcwA hfwA hzwA); (try simp only [World.size_alloc] at hcwA hfwA hzwA))
      | (go_at_call 16; (with_reducible refine (CM.out _ ?_ ?_ ?_ ?_).mono ?_); (focus ((refine Row.more (B := w.heap.size) ?_ (by first | omega | ((try simp only [World.size_drew]); (try simp only [World.size_alloc]); omega))); repeat' (first | with_reducible assumption | (with_reducible refine Row.drew ?_) | (with_reducible refine Row.carry ?_ (by with_reducible assumption) ?_) | (with_reducible refine Row.alloc ?_ ?_ _) | (with_reducible refine Row.setCell ?_ ?_ _) | omega | (simp; done) | (simp; omega)))); (focus ((refine Row.more (B := w.heap.size) ?_ (by first | omega | ((try simp only [World.size_drew]); (try simp only [World.size_alloc]); omega))); repeat' (first | with_reducible assumption | (with_reducible refine Row.drew ?_) | (with_reducible refine Row.carry ?_ (by with_reducible assumption) ?_) | (with_reducible refine Row.alloc ?_ ?_ _) | (with_reducible refine Row.setCell ?_ ?_ _) | omega | (simp; done) | (simp; omega)))); (focus ((refine Row.more (B := w.heap.size) ?_ (by first | omega | ((try simp only [World.size_drew]); (try simp only [World.size_alloc]); omega))); repeat' (first | with_reducible assumption | (with_reducible refine Row.drew ?_) | (with_reducible refine Row.carry ?_ (by with_reducible assumption) ?_) | (with_reducible refine Row.alloc ?_ ?_ _) | (with_reducible refine Row.setCell ?_ ?_ _) | omega | (simp; done) | (simp; omega)))); (focus ((refine Row.more (B := w.heap.size) ?_ (by first | omega | ((try simp only [World.size_drew]); (try simp only [World.size_alloc]); omega))); repeat' (first | with_reducible assumption | (with_reducible refine Row.drew ?_) | (with_reducible refine Row.carry ?_ (by with_reducible assumption) ?_) | (with_reducible refine Row.alloc ?_ ?_ _) | (with_reducible refine Row.setCell ?_ ?_ _) | omega | (simp; done) | (simp; omega)))); rintro e wB ⟨rfl, hbwB⟩; obtain ⟨hcwB, hfwB⟩ := bcell hbwB; have hzwB := hbwB.size; (try simp only [World.size_drew] at hcwB hfwB hzwB); (try simp only [World.size_alloc] at hcwB hfwB hzwB)))
  all_goals
    have zA : W0.heap.size ≤ wA.heap.size := by omega
    have gB : Below w.heap.size w wB := by repeat' (first | with_reducible assumption | with_reducible exact Below.refl _ _ | (with_reducible refine Below.setCell ?_ ?_ _) | (with_reducible refine Below.alloc ?_ ?_ _) | (with_reducible refine Below.drew ?_) | (with_reducible refine below_dr ?_ _) | (with_reducible refine Below.trans ?_ (Below.mono (by with_reducible assumption) ?_)) | omega | (simp; done) | (simp; omega))
    have g0B : Below W0.heap.size W0 wB := by clear b0 gB; repeat' (first | with_reducible assumption | with_reducible exact Below.refl _ _ | (with_reducible refine Below.setCell ?_ ?_ _) | (with_reducible refine Below.alloc ?_ ?_ _) | (with_reducible refine Below.drew ?_) | (with_reducible refine below_dr ?_ _) | (with_reducible refine Below.trans ?_ (Below.mono (by with_reducible assumption) ?_)) | omega | (simp; done) | (simp; omega))
    have atB := at0.below g0B
    have HB := Lib.hid (fun (wr : World) (hb : Below wB.heap.size wB wr) => atB.below hb)
    clear at0 sa5 sa8 sa9 sa10 hcwA hfwA hcwB hfwB hbwA hbwB
    have lB := atB.lt
    clear atB
    cases v0
    case false =>
      go_wp2_with fail
      go_ret
      exact ⟨ret_bool (by rw [← HE.out]; simp), by repeat' (first | with_reducible assumption | with_reducible exact Below.refl _ _ | (with_reducible refine Below.setCell ?_ ?_ _) | (with_reducible refine Below.alloc ?_ ?_ _) | (with_reducible refine Below.drew ?_) | (with_reducible refine below_dr ?_ _) | (with_reducible refine Below.trans ?_ (Below.mono (by with_reducible assumption) ?_)) | omega | (simp; done) | (simp; omega))⟩
    case true =>
      go_wp2_with fail
      refine (CF.out _).mono ?_
      rintro e wC1 ⟨rfl, hbwC1⟩
      have zwC1 := hbwC1.size
      have gwC1 : Below w.heap.size w wC1 := by repeat' (first | with_reducible assumption | with_reducible exact Below.refl _ _ | (with_reducible refine Below.setCell ?_ ?_ _) | (with_reducible refine Below.alloc ?_ ?_ _) | (with_reducible refine Below.drew ?_) | (with_reducible refine below_dr ?_ _) | (with_reducible refine Below.trans ?_ (Below.mono (by with_reducible assumption) ?_)) | omega | (simp; done) | (simp; omega))
      have xwC1 : Below wB.heap.size wB wC1 := by clear b0 gB gwC1; repeat' (first | with_reducible assumption | with_reducible exact Below.refl _ _ | (with_reducible refine Below.setCell ?_ ?_ _) | (with_reducible refine Below.alloc ?_ ?_ _) | (with_reducible refine Below.drew ?_) | (with_reducible refine below_dr ?_ _) | (with_reducible refine Below.trans ?_ (Below.mono (by with_reducible assumption) ?_)) | omega | (simp; done) | (simp; omega))
      have atwC1 := HB.out _ xwC1
      have j12 := atwC1.cell 2 rfl
      have lwC1 := atwC1.lt
      clear atwC1
      cases u1
      case false =>
        go_wp2_with fail
        go_ret
        exact ⟨ret_bool (by rw [← HE.out]; simp), by repeat' (first | with_reducible assumption | with_reducible exact Below.refl _ _ | (with_reducible refine Below.setCell ?_ ?_ _) | (with_reducible refine Below.alloc ?_ ?_ _) | (with_reducible refine Below.drew ?_) | (with_reducible refine below_dr ?_ _) | (with_reducible refine Below.trans ?_ (Below.mono (by with_reducible assumption) ?_)) | omega | (simp; done) | (simp; omega))⟩
      case true =>
        go_wp2_with fail
        refine (CO.out _).mono ?_
        rintro e wC2 ⟨rfl, hbwC2⟩
        have zwC2 := hbwC2.size
        have gwC2 : Below w.heap.size w wC2 := by repeat' (first | with_reducible assumption | with_reducible exact Below.refl _ _ | (with_reducible refine Below.setCell ?_ ?_ _) | (with_reducible refine Below.alloc ?_ ?_ _) | (with_reducible refine Below.drew ?_) | (with_reducible refine below_dr ?_ _) | (with_reducible refine Below.trans ?_ (Below.mono (by with_reducible assumption) ?_)) | omega | (simp; done) | (simp; omega))
        have xwC2 : Below wB.heap.size wB wC2 := xwC1.trans (hbwC2.mono (by omega))
        have atwC2 := HB.out _ xwC2
        have lwC2 := atwC2.lt
        clear atwC2
        go_wp2_with fail
        go_ret
        exact ⟨ret_bool (by rw [← HE.out]; simp), by repeat' (first | with_reducible assumption | with_reducible exact Below.refl _ _ | (with_reducible refine Below.setCell ?_ ?_ _) | (with_reducible refine Below.alloc ?_ ?_ _) | (with_reducible refine Below.drew ?_) | (with_reducible refine below_dr ?_ _) | (with_reducible refine Below.trans ?_ (Below.mono (by with_reducible assumption) ?_)) | omega | (simp; done) | (simp; omega))⟩
set_option maxRecDepth 100000 in
set_option maxHeartbeats 12800000 in
theorem implValid_8 (a1 : ByteArray) (a2 : ByteArray) (a3 : Int) (a4 : Int) (a5A : Option Addr) (a5c : Nat) (a5l : List DTerm) (a6 : Int) (a7 : Int) (a8A : Option Addr) (a8c : Nat) (a8l : List DTerm) (a9A : Option Addr) (a9c : Nat) (a9l : List DString) (a10A : Option Addr) (a10c : Nat) (a10l : List DInt64) (a11 : Bool) (a12 : Bool) (w : World) (h_a : totStatement ((8 : Int), a1, a2, a3, a4, a5l, a6, a7, a8l, a9l, a10l, a11, a12) ≤ 1048576) (i_a3 : (-9223372036854775808 ≤ a3 ∧ a3 ≤ 9223372036854775807)) (i_a4 : (-9223372036854775808 ≤ a4 ∧ a4 ≤ 9223372036854775807)) (i_a6 : (-9223372036854775808 ≤ a6 ∧ a6 ≤ 9223372036854775807)) (i_a7 : (-9223372036854775808 ≤ a7 ∧ a7 ≤ 9223372036854775807)) (r_a5 : Row RvTerm 3 w w.heap.size a5A a5l) (r_a8 : Row RvTerm 3 w w.heap.size a8A a8l) (r_a9 : Row RvString 1 w w.heap.size a9A a9l) (r_a10 : Row RvInt64 1 w w.heap.size a10A a10l) (ok_a5 : (∀ (w2 : World) (B : Nat) (i : Nat) (b : ATerm), a5l[i]? = some b → okTerm w2 B b)) (ok_a8 : (∀ (w2 : World) (B : Nat) (i : Nat) (b : ATerm), a8l[i]? = some b → okTerm w2 B b)) (hz_a9 : ∀ (k : Nat) (s : DString), a9l[k]? = some s → s.size ≤ 4611686018427387904) (h1 : a1.size ≤ 9223372036854775807) (h2 : a2.size ≤ 9223372036854775807) : Calls Try.prog 7 #[.agg #[.int .i64 8, .string a1, .string a2, .int .i64 a3, .int .i64 a4, .slice a5A a5l.length a5c, .int .i64 a6, .int .i64 a7, .slice a8A a8l.length a8c, .slice a9A a9l.length a9c, .slice a10A a10l.length a10c, .bool a11, .bool a12]] w fun e w' => e = .returned (.bool (vStB 8 a1 a2 a3 a4 a5A a5c a5l a6 a7 a8A a8c a8l a9A a9c a9l a10A a10c a10l a11 a12)) ∧ Below w.heap.size w w' := by
  have HE := Lib.hid (same_8 a1 a2 a3 a4 a5A a5c a5l a6 a7 a8A a8c a8l a9A a9c a9l a10A a10c a10l a11 a12)
  have CW := Lib.hid (fun w => without_8 a1 a2 a3 a4 a5A a5c a5l a6 a7 a8A a8c a8l a9A a9c a9l a10A a10c a10l a11 a12 w)
  have htb : totStatement ((8 : Int), a1, (ByteArray.mk #[]), 0, 0, [], 0, 0, [], [], a10l, false, false) ≤ 1048576 := by simp only [totStatement] at h_a ⊢; simp [totRow] at h_a ⊢; have ez : (ByteArray.mk #[]).size = 0 := rfl; omega
  have CM := Lib.hid (fun w (r_a5 : Row RvTerm 3 w w.heap.size a5A a5l) (r_a8 : Row RvTerm 3 w w.heap.size a8A a8l) (r_a9 : Row RvString 1 w w.heap.size a9A a9l) (r_a10 : Row RvInt64 1 w w.heap.size a10A a10l) => implSame_any 8 a1 a2 a3 a4 a5A a5c a5l a6 a7 a8A a8c a8l a9A a9c a9l a10A a10c a10l a11 a12 8 a1 (ByteArray.mk #[]) 0 0 none 0 [] 0 0 none 0 [] none 0 [] a10A a10c a10l false false w h_a htb r_a5 r_a8 r_a9 r_a10 (.inl rfl) (.inl rfl) (.inl rfl) r_a10)
  simp only [List.length_nil] at CM
  simp only [totStatement] at h_a
  have hl_a5 : a5l.length ≤ 1048576 := Nat.le_trans (totRow_len totTerm _) (by omega)
  have hl_a8 : a8l.length ≤ 1048576 := Nat.le_trans (totRow_len totTerm _) (by omega)
  have hl_a9 : a9l.length ≤ 1048576 := Nat.le_trans (totRow_len totString _) (by omega)
  have hl_a10 : a10l.length ≤ 1048576 := Nat.le_trans (totRow_len totInt64 _) (by omega)
  clear h_a htb
  have CF := Lib.hid (fun w => impl_free a1 w h1)
  have CN := Lib.hid (fun w r => hasNumbers_any 8 a1 a2 a3 a4 a5A a5c a5l a6 a7 a8A a8c a8l a9A a9c a9l a10A a10c a10l a11 a12 2 2 w hl_a10 r)
  generalize hv0 : smV ((8 : Int), a1, a2, a3, a4, a5l, a6, a7, a8l, a9l, a10l, a11, a12) ((8 : Int), a1, (ByteArray.mk #[]), 0, 0, [], 0, 0, [], [], a10l, false, false) = v0 at CM HE
  generalize hvu1 : fnB a1 = u1 at CF HE
  generalize hvu2 : (inB a10l.length 2 2 && a10l.all numB) = u2 at CN HE
  clear i_a3 i_a4 i_a6 i_a7 ok_a5 ok_a8 hz_a9 h1 h2
  go_enter Try.func7, Try.ntmps7
  go_upto_region 1 with fail
  generalize hW : w.alloc (.cells #[.int .i64 8, .string a1, .string a2, .int .i64 a3, .int .i64 a4, .slice a5A a5l.length a5c, .int .i64 a6, .int .i64 a7, .slice a8A a8l.length a8c, .slice a9A a9l.length a9c, .slice a10A a10l.length a10c, .bool a11, .bool a12] 38) = W0
  have at0 : AtL w.heap.size [.int .i64 8, .string a1, .string a2, .int .i64 a3, .int .i64 a4, .slice a5A a5l.length a5c, .int .i64 a6, .int .i64 a7, .slice a8A a8l.length a8c, .slice a9A a9l.length a9c, .slice a10A a10l.length a10c, .bool a11, .bool a12] W0 := by rw [← hW]; exact AtL.new _ _ _
  have b0 : Below w.heap.size w W0 := by rw [← hW]; repeat' (first | with_reducible assumption | with_reducible exact Below.refl _ _ | (with_reducible refine Below.setCell ?_ ?_ _) | (with_reducible refine Below.alloc ?_ ?_ _) | (with_reducible refine Below.drew ?_) | (with_reducible refine below_dr ?_ _) | (with_reducible refine Below.trans ?_ (Below.mono (by with_reducible assumption) ?_)) | omega | (simp; done) | (simp; omega))
  have z0 : W0.heap.size = w.heap.size + 1 := by rw [← hW]; simp
  clear hW
  have sa5 : Row RvTerm 3 W0 w.heap.size a5A a5l := (r_a5.carry b0 (Nat.le_refl _))
  have sa8 : Row RvTerm 3 W0 w.heap.size a8A a8l := (r_a8.carry b0 (Nat.le_refl _))
  have sa9 : Row RvString 1 W0 w.heap.size a9A a9l := (r_a9.carry b0 (Nat.le_refl _))
  have sa10 : Row RvInt64 1 W0 w.heap.size a10A a10l := (r_a10.carry b0 (Nat.le_refl _))
  have k0 := at0.cell 0 rfl
  have k1 := at0.cell 1 rfl
  have k2 := at0.cell 2 rfl
  have k3 := at0.cell 3 rfl
  have k4 := at0.cell 4 rfl
  have k5 := at0.cell 5 rfl
  have k6 := at0.cell 6 rfl
  have k7 := at0.cell 7 rfl
  have k8 := at0.cell 8 rfl
  have k9 := at0.cell 9 rfl
  have k10 := at0.cell 10 rfl
  have k11 := at0.cell 11 rfl
  have k12 := at0.cell 12 rfl
  have l0 := at0.lt
  go_region_held3 (fun w' => (∀ b o, b < W0.heap.size → w'.cell? ⟨b, o, none⟩ = W0.cell? ⟨b, o, none⟩) ∧ W0.heap.size ≤ w'.heap.size)
    (first | ((try dsimp only); exact ⟨fun b o h => (by (repeat (first | with_reducible exact rfl | (with_reducible refine (cell_drew_at _ _).trans ?_) | (with_reducible refine (cell_set_at _ _ (by first | omega | (simp; done) | (simp; omega))).trans ?_) | (with_reducible refine (cell_alloc_at _ _ (by first | omega | (simp; done) | (simp; omega))).trans ?_) | (with_reducible refine (hcwA b o (by first | omega | (simp; done) | (simp; omega))).trans ?_) | (with_reducible refine (hcwB b o (by first | omega | (simp; done) | (simp; omega))).trans ?_)))), (by first | omega | (simp; done) | (simp; omega))⟩) | fail)
    (first
      | (go_at_call 17; (with_reducible refine (CW.out _).mono ?_); rintro e wA ⟨rfl, hbwA⟩; obtain ⟨hcwA, hfwA⟩ := bcell hbwA; have hzwA := hbwA.size; (try simp only [World.size_drew] at hcwA hfwA hzwA); (try simp only [World.size_alloc] at hcwA hfwA hzwA))
      | (go_at_call 16; (with_reducible refine (CM.out _ ?_ ?_ ?_ ?_).mono ?_); (focus ((refine Row.more (B := w.heap.size) ?_ (by first | omega | ((try simp only [World.size_drew]); (try simp only [World.size_alloc]); omega))); repeat' (first | with_reducible assumption | (with_reducible refine Row.drew ?_) | (with_reducible refine Row.carry ?_ (by with_reducible assumption) ?_) | (with_reducible refine Row.alloc ?_ ?_ _) | (with_reducible refine Row.setCell ?_ ?_ _) | omega | (simp; done) | (simp; omega)))); (focus ((refine Row.more (B := w.heap.size) ?_ (by first | omega | ((try simp only [World.size_drew]); (try simp only [World.size_alloc]); omega))); repeat' (first | with_reducible assumption | (with_reducible refine Row.drew ?_) | (with_reducible refine Row.carry ?_ (by with_reducible assumption) ?_) | (with_reducible refine Row.alloc ?_ ?_ _) | (with_reducible refine Row.setCell ?_ ?_ _) | omega | (simp; done) | (simp; omega)))); (focus ((refine Row.more (B := w.heap.size) ?_ (by first | omega | ((try simp only [World.size_drew]); (try simp only [World.size_alloc]); omega))); repeat' (first | with_reducible assumption | (with_reducible refine Row.drew ?_) | (with_reducible refine Row.carry ?_ (by with_reducible assumption) ?_) | (with_reducible refine Row.alloc ?_ ?_ _) | (with_reducible refine Row.setCell ?_ ?_ _) | omega | (simp; done) | (simp; omega)))); (focus ((refine Row.more (B := w.heap.size) ?_ (by first | omega | ((try simp only [World.size_drew]); (try simp only [World.size_alloc]); omega))); repeat' (first | with_reducible assumption | (with_reducible refine Row.drew ?_) | (with_reducible refine Row.carry ?_ (by with_reducible assumption) ?_) | (with_reducible refine Row.alloc ?_ ?_ _) | (with_reducible refine Row.setCell ?_ ?_ _) | omega | (simp; done) | (simp; omega)))); rintro e wB ⟨rfl, hbwB⟩; obtain ⟨hcwB, hfwB⟩ := bcell hbwB; have hzwB := hbwB.size; (try simp only [World.size_drew] at hcwB hfwB hzwB); (try simp only [World.size_alloc] at hcwB hfwB hzwB)))
  all_goals
    have zA : W0.heap.size ≤ wA.heap.size := by omega
    have gB : Below w.heap.size w wB := by repeat' (first | with_reducible assumption | with_reducible exact Below.refl _ _ | (with_reducible refine Below.setCell ?_ ?_ _) | (with_reducible refine Below.alloc ?_ ?_ _) | (with_reducible refine Below.drew ?_) | (with_reducible refine below_dr ?_ _) | (with_reducible refine Below.trans ?_ (Below.mono (by with_reducible assumption) ?_)) | omega | (simp; done) | (simp; omega))
    have g0B : Below W0.heap.size W0 wB := by clear b0 gB; repeat' (first | with_reducible assumption | with_reducible exact Below.refl _ _ | (with_reducible refine Below.setCell ?_ ?_ _) | (with_reducible refine Below.alloc ?_ ?_ _) | (with_reducible refine Below.drew ?_) | (with_reducible refine below_dr ?_ _) | (with_reducible refine Below.trans ?_ (Below.mono (by with_reducible assumption) ?_)) | omega | (simp; done) | (simp; omega))
    have atB := at0.below g0B
    have HB := Lib.hid (fun (wr : World) (hb : Below wB.heap.size wB wr) => atB.below hb)
    clear at0 sa5 sa8 sa9 sa10 hcwA hfwA hcwB hfwB hbwA hbwB
    have lB := atB.lt
    clear atB
    cases v0
    case false =>
      go_wp2_with fail
      go_ret
      exact ⟨ret_bool (by rw [← HE.out]; simp), by repeat' (first | with_reducible assumption | with_reducible exact Below.refl _ _ | (with_reducible refine Below.setCell ?_ ?_ _) | (with_reducible refine Below.alloc ?_ ?_ _) | (with_reducible refine Below.drew ?_) | (with_reducible refine below_dr ?_ _) | (with_reducible refine Below.trans ?_ (Below.mono (by with_reducible assumption) ?_)) | omega | (simp; done) | (simp; omega))⟩
    case true =>
      go_wp2_with fail
      refine (CF.out _).mono ?_
      rintro e wC1 ⟨rfl, hbwC1⟩
      have zwC1 := hbwC1.size
      have gwC1 : Below w.heap.size w wC1 := by repeat' (first | with_reducible assumption | with_reducible exact Below.refl _ _ | (with_reducible refine Below.setCell ?_ ?_ _) | (with_reducible refine Below.alloc ?_ ?_ _) | (with_reducible refine Below.drew ?_) | (with_reducible refine below_dr ?_ _) | (with_reducible refine Below.trans ?_ (Below.mono (by with_reducible assumption) ?_)) | omega | (simp; done) | (simp; omega))
      have xwC1 : Below wB.heap.size wB wC1 := by clear b0 gB gwC1; repeat' (first | with_reducible assumption | with_reducible exact Below.refl _ _ | (with_reducible refine Below.setCell ?_ ?_ _) | (with_reducible refine Below.alloc ?_ ?_ _) | (with_reducible refine Below.drew ?_) | (with_reducible refine below_dr ?_ _) | (with_reducible refine Below.trans ?_ (Below.mono (by with_reducible assumption) ?_)) | omega | (simp; done) | (simp; omega))
      have atwC1 := HB.out _ xwC1
      have j10 := atwC1.cell 0 rfl
      have j11 := atwC1.cell 1 rfl
      have j12 := atwC1.cell 2 rfl
      have j13 := atwC1.cell 3 rfl
      have j14 := atwC1.cell 4 rfl
      have j15 := atwC1.cell 5 rfl
      have j16 := atwC1.cell 6 rfl
      have j17 := atwC1.cell 7 rfl
      have j18 := atwC1.cell 8 rfl
      have j19 := atwC1.cell 9 rfl
      have j110 := atwC1.cell 10 rfl
      have j111 := atwC1.cell 11 rfl
      have j112 := atwC1.cell 12 rfl
      have lwC1 := atwC1.lt
      clear atwC1
      cases u1
      case false =>
        go_wp2_with fail
        go_ret
        exact ⟨ret_bool (by rw [← HE.out]; simp), by repeat' (first | with_reducible assumption | with_reducible exact Below.refl _ _ | (with_reducible refine Below.setCell ?_ ?_ _) | (with_reducible refine Below.alloc ?_ ?_ _) | (with_reducible refine Below.drew ?_) | (with_reducible refine below_dr ?_ _) | (with_reducible refine Below.trans ?_ (Below.mono (by with_reducible assumption) ?_)) | omega | (simp; done) | (simp; omega))⟩
      case true =>
        go_wp2_with fail
        refine (CN.out _ ?_).mono ?_
        · exact (Row.carry (w' := _) r_a10 (by repeat' (first | with_reducible assumption | with_reducible exact Below.refl _ _ | (with_reducible refine Below.setCell ?_ ?_ _) | (with_reducible refine Below.alloc ?_ ?_ _) | (with_reducible refine Below.drew ?_) | (with_reducible refine below_dr ?_ _) | (with_reducible refine Below.trans ?_ (Below.mono (by with_reducible assumption) ?_)) | omega | (simp; done) | (simp; omega))) (Nat.le_refl _)).more (by first | omega | (simp; omega))
        rintro e wC2 ⟨rfl, hbwC2⟩
        have zwC2 := hbwC2.size
        have gwC2 : Below w.heap.size w wC2 := by repeat' (first | with_reducible assumption | with_reducible exact Below.refl _ _ | (with_reducible refine Below.setCell ?_ ?_ _) | (with_reducible refine Below.alloc ?_ ?_ _) | (with_reducible refine Below.drew ?_) | (with_reducible refine below_dr ?_ _) | (with_reducible refine Below.trans ?_ (Below.mono (by with_reducible assumption) ?_)) | omega | (simp; done) | (simp; omega))
        have xwC2 : Below wB.heap.size wB wC2 := xwC1.trans (hbwC2.mono (by omega))
        have atwC2 := HB.out _ xwC2
        have lwC2 := atwC2.lt
        clear atwC2
        go_wp2_with fail
        go_ret
        exact ⟨ret_bool (by rw [← HE.out]; simp), by repeat' (first | with_reducible assumption | with_reducible exact Below.refl _ _ | (with_reducible refine Below.setCell ?_ ?_ _) | (with_reducible refine Below.alloc ?_ ?_ _) | (with_reducible refine Below.drew ?_) | (with_reducible refine below_dr ?_ _) | (with_reducible refine Below.trans ?_ (Below.mono (by with_reducible assumption) ?_)) | omega | (simp; done) | (simp; omega))⟩
set_option maxRecDepth 100000 in
set_option maxHeartbeats 12800000 in
theorem implValid_9 (a1 : ByteArray) (a2 : ByteArray) (a3 : Int) (a4 : Int) (a5A : Option Addr) (a5c : Nat) (a5l : List DTerm) (a6 : Int) (a7 : Int) (a8A : Option Addr) (a8c : Nat) (a8l : List DTerm) (a9A : Option Addr) (a9c : Nat) (a9l : List DString) (a10A : Option Addr) (a10c : Nat) (a10l : List DInt64) (a11 : Bool) (a12 : Bool) (w : World) (h_a : totStatement ((9 : Int), a1, a2, a3, a4, a5l, a6, a7, a8l, a9l, a10l, a11, a12) ≤ 1048576) (i_a3 : (-9223372036854775808 ≤ a3 ∧ a3 ≤ 9223372036854775807)) (i_a4 : (-9223372036854775808 ≤ a4 ∧ a4 ≤ 9223372036854775807)) (i_a6 : (-9223372036854775808 ≤ a6 ∧ a6 ≤ 9223372036854775807)) (i_a7 : (-9223372036854775808 ≤ a7 ∧ a7 ≤ 9223372036854775807)) (r_a5 : Row RvTerm 3 w w.heap.size a5A a5l) (r_a8 : Row RvTerm 3 w w.heap.size a8A a8l) (r_a9 : Row RvString 1 w w.heap.size a9A a9l) (r_a10 : Row RvInt64 1 w w.heap.size a10A a10l) (ok_a5 : (∀ (w2 : World) (B : Nat) (i : Nat) (b : ATerm), a5l[i]? = some b → okTerm w2 B b)) (ok_a8 : (∀ (w2 : World) (B : Nat) (i : Nat) (b : ATerm), a8l[i]? = some b → okTerm w2 B b)) (hz_a9 : ∀ (k : Nat) (s : DString), a9l[k]? = some s → s.size ≤ 4611686018427387904) (h1 : a1.size ≤ 9223372036854775807) (h2 : a2.size ≤ 9223372036854775807) : Calls Try.prog 7 #[.agg #[.int .i64 9, .string a1, .string a2, .int .i64 a3, .int .i64 a4, .slice a5A a5l.length a5c, .int .i64 a6, .int .i64 a7, .slice a8A a8l.length a8c, .slice a9A a9l.length a9c, .slice a10A a10l.length a10c, .bool a11, .bool a12]] w fun e w' => e = .returned (.bool (vStB 9 a1 a2 a3 a4 a5A a5c a5l a6 a7 a8A a8c a8l a9A a9c a9l a10A a10c a10l a11 a12)) ∧ Below w.heap.size w w' := by
  have HE := Lib.hid (same_9 a1 a2 a3 a4 a5A a5c a5l a6 a7 a8A a8c a8l a9A a9c a9l a10A a10c a10l a11 a12)
  have CW := Lib.hid (fun w => without_9 a1 a2 a3 a4 a5A a5c a5l a6 a7 a8A a8c a8l a9A a9c a9l a10A a10c a10l a11 a12 w)
  have htb : totStatement ((9 : Int), a1, (ByteArray.mk #[]), 0, 0, [], 0, 0, [], a9l, [], false, false) ≤ 1048576 := by simp only [totStatement] at h_a ⊢; simp [totRow] at h_a ⊢; have ez : (ByteArray.mk #[]).size = 0 := rfl; omega
  have CM := Lib.hid (fun w (r_a5 : Row RvTerm 3 w w.heap.size a5A a5l) (r_a8 : Row RvTerm 3 w w.heap.size a8A a8l) (r_a9 : Row RvString 1 w w.heap.size a9A a9l) (r_a10 : Row RvInt64 1 w w.heap.size a10A a10l) => implSame_any 9 a1 a2 a3 a4 a5A a5c a5l a6 a7 a8A a8c a8l a9A a9c a9l a10A a10c a10l a11 a12 9 a1 (ByteArray.mk #[]) 0 0 none 0 [] 0 0 none 0 [] a9A a9c a9l none 0 [] false false w h_a htb r_a5 r_a8 r_a9 r_a10 (.inl rfl) (.inl rfl) r_a9 (.inl rfl))
  simp only [List.length_nil] at CM
  simp only [totStatement] at h_a
  have hl_a5 : a5l.length ≤ 1048576 := Nat.le_trans (totRow_len totTerm _) (by omega)
  have hl_a8 : a8l.length ≤ 1048576 := Nat.le_trans (totRow_len totTerm _) (by omega)
  have hl_a9 : a9l.length ≤ 1048576 := Nat.le_trans (totRow_len totString _) (by omega)
  have hl_a10 : a10l.length ≤ 1048576 := Nat.le_trans (totRow_len totInt64 _) (by omega)
  clear h_a htb
  have CF := Lib.hid (fun w => impl_free a1 w h1)
  have CP := Lib.hid (fun w r => hasPoints_any 9 a1 a2 a3 a4 a5A a5c a5l a6 a7 a8A a8c a8l a9A a9c a9l a10A a10c a10l a11 a12 1 1 w hl_a9 r hz_a9)
  generalize hv0 : smV ((9 : Int), a1, a2, a3, a4, a5l, a6, a7, a8l, a9l, a10l, a11, a12) ((9 : Int), a1, (ByteArray.mk #[]), 0, 0, [], 0, 0, [], a9l, [], false, false) = v0 at CM HE
  generalize hvu1 : fnB a1 = u1 at CF HE
  generalize hvu2 : (inB a9l.length 1 1 && a9l.all ptB) = u2 at CP HE
  clear i_a3 i_a4 i_a6 i_a7 ok_a5 ok_a8 hz_a9 h1 h2
  go_enter Try.func7, Try.ntmps7
  go_upto_region 1 with fail
  generalize hW : w.alloc (.cells #[.int .i64 9, .string a1, .string a2, .int .i64 a3, .int .i64 a4, .slice a5A a5l.length a5c, .int .i64 a6, .int .i64 a7, .slice a8A a8l.length a8c, .slice a9A a9l.length a9c, .slice a10A a10l.length a10c, .bool a11, .bool a12] 38) = W0
  have at0 : AtL w.heap.size [.int .i64 9, .string a1, .string a2, .int .i64 a3, .int .i64 a4, .slice a5A a5l.length a5c, .int .i64 a6, .int .i64 a7, .slice a8A a8l.length a8c, .slice a9A a9l.length a9c, .slice a10A a10l.length a10c, .bool a11, .bool a12] W0 := by rw [← hW]; exact AtL.new _ _ _
  have b0 : Below w.heap.size w W0 := by rw [← hW]; repeat' (first | with_reducible assumption | with_reducible exact Below.refl _ _ | (with_reducible refine Below.setCell ?_ ?_ _) | (with_reducible refine Below.alloc ?_ ?_ _) | (with_reducible refine Below.drew ?_) | (with_reducible refine below_dr ?_ _) | (with_reducible refine Below.trans ?_ (Below.mono (by with_reducible assumption) ?_)) | omega | (simp; done) | (simp; omega))
  have z0 : W0.heap.size = w.heap.size + 1 := by rw [← hW]; simp
  clear hW
  have sa5 : Row RvTerm 3 W0 w.heap.size a5A a5l := (r_a5.carry b0 (Nat.le_refl _))
  have sa8 : Row RvTerm 3 W0 w.heap.size a8A a8l := (r_a8.carry b0 (Nat.le_refl _))
  have sa9 : Row RvString 1 W0 w.heap.size a9A a9l := (r_a9.carry b0 (Nat.le_refl _))
  have sa10 : Row RvInt64 1 W0 w.heap.size a10A a10l := (r_a10.carry b0 (Nat.le_refl _))
  have k0 := at0.cell 0 rfl
  have k1 := at0.cell 1 rfl
  have k2 := at0.cell 2 rfl
  have k3 := at0.cell 3 rfl
  have k4 := at0.cell 4 rfl
  have k5 := at0.cell 5 rfl
  have k6 := at0.cell 6 rfl
  have k7 := at0.cell 7 rfl
  have k8 := at0.cell 8 rfl
  have k9 := at0.cell 9 rfl
  have k10 := at0.cell 10 rfl
  have k11 := at0.cell 11 rfl
  have k12 := at0.cell 12 rfl
  have l0 := at0.lt
  go_region_held3 (fun w' => (∀ b o, b < W0.heap.size → w'.cell? ⟨b, o, none⟩ = W0.cell? ⟨b, o, none⟩) ∧ W0.heap.size ≤ w'.heap.size)
    (first | ((try dsimp only); exact ⟨fun b o h => (by (repeat (first | with_reducible exact rfl | (with_reducible refine (cell_drew_at _ _).trans ?_) | (with_reducible refine (cell_set_at _ _ (by first | omega | (simp; done) | (simp; omega))).trans ?_) | (with_reducible refine (cell_alloc_at _ _ (by first | omega | (simp; done) | (simp; omega))).trans ?_) | (with_reducible refine (hcwA b o (by first | omega | (simp; done) | (simp; omega))).trans ?_) | (with_reducible refine (hcwB b o (by first | omega | (simp; done) | (simp; omega))).trans ?_)))), (by first | omega | (simp; done) | (simp; omega))⟩) | fail)
    (first
      | (go_at_call 17; (with_reducible refine (CW.out _).mono ?_); rintro e wA ⟨rfl, hbwA⟩; obtain ⟨hcwA, hfwA⟩ := bcell hbwA; have hzwA := hbwA.size; (try simp only [World.size_drew] at hcwA hfwA hzwA); (try simp only [World.size_alloc] at hcwA hfwA hzwA))
      | (go_at_call 16; (with_reducible refine (CM.out _ ?_ ?_ ?_ ?_).mono ?_); (focus ((refine Row.more (B := w.heap.size) ?_ (by first | omega | ((try simp only [World.size_drew]); (try simp only [World.size_alloc]); omega))); repeat' (first | with_reducible assumption | (with_reducible refine Row.drew ?_) | (with_reducible refine Row.carry ?_ (by with_reducible assumption) ?_) | (with_reducible refine Row.alloc ?_ ?_ _) | (with_reducible refine Row.setCell ?_ ?_ _) | omega | (simp; done) | (simp; omega)))); (focus ((refine Row.more (B := w.heap.size) ?_ (by first | omega | ((try simp only [World.size_drew]); (try simp only [World.size_alloc]); omega))); repeat' (first | with_reducible assumption | (with_reducible refine Row.drew ?_) | (with_reducible refine Row.carry ?_ (by with_reducible assumption) ?_) | (with_reducible refine Row.alloc ?_ ?_ _) | (with_reducible refine Row.setCell ?_ ?_ _) | omega | (simp; done) | (simp; omega)))); (focus ((refine Row.more (B := w.heap.size) ?_ (by first | omega | ((try simp only [World.size_drew]); (try simp only [World.size_alloc]); omega))); repeat' (first | with_reducible assumption | (with_reducible refine Row.drew ?_) | (with_reducible refine Row.carry ?_ (by with_reducible assumption) ?_) | (with_reducible refine Row.alloc ?_ ?_ _) | (with_reducible refine Row.setCell ?_ ?_ _) | omega | (simp; done) | (simp; omega)))); (focus ((refine Row.more (B := w.heap.size) ?_ (by first | omega | ((try simp only [World.size_drew]); (try simp only [World.size_alloc]); omega))); repeat' (first | with_reducible assumption | (with_reducible refine Row.drew ?_) | (with_reducible refine Row.carry ?_ (by with_reducible assumption) ?_) | (with_reducible refine Row.alloc ?_ ?_ _) | (with_reducible refine Row.setCell ?_ ?_ _) | omega | (simp; done) | (simp; omega)))); rintro e wB ⟨rfl, hbwB⟩; obtain ⟨hcwB, hfwB⟩ := bcell hbwB; have hzwB := hbwB.size; (try simp only [World.size_drew] at hcwB hfwB hzwB); (try simp only [World.size_alloc] at hcwB hfwB hzwB)))
  all_goals
    have zA : W0.heap.size ≤ wA.heap.size := by omega
    have gB : Below w.heap.size w wB := by repeat' (first | with_reducible assumption | with_reducible exact Below.refl _ _ | (with_reducible refine Below.setCell ?_ ?_ _) | (with_reducible refine Below.alloc ?_ ?_ _) | (with_reducible refine Below.drew ?_) | (with_reducible refine below_dr ?_ _) | (with_reducible refine Below.trans ?_ (Below.mono (by with_reducible assumption) ?_)) | omega | (simp; done) | (simp; omega))
    have g0B : Below W0.heap.size W0 wB := by clear b0 gB; repeat' (first | with_reducible assumption | with_reducible exact Below.refl _ _ | (with_reducible refine Below.setCell ?_ ?_ _) | (with_reducible refine Below.alloc ?_ ?_ _) | (with_reducible refine Below.drew ?_) | (with_reducible refine below_dr ?_ _) | (with_reducible refine Below.trans ?_ (Below.mono (by with_reducible assumption) ?_)) | omega | (simp; done) | (simp; omega))
    have atB := at0.below g0B
    have HB := Lib.hid (fun (wr : World) (hb : Below wB.heap.size wB wr) => atB.below hb)
    clear at0 sa5 sa8 sa9 sa10 hcwA hfwA hcwB hfwB hbwA hbwB
    have lB := atB.lt
    clear atB
    cases v0
    case false =>
      go_wp2_with fail
      go_ret
      exact ⟨ret_bool (by rw [← HE.out]; simp), by repeat' (first | with_reducible assumption | with_reducible exact Below.refl _ _ | (with_reducible refine Below.setCell ?_ ?_ _) | (with_reducible refine Below.alloc ?_ ?_ _) | (with_reducible refine Below.drew ?_) | (with_reducible refine below_dr ?_ _) | (with_reducible refine Below.trans ?_ (Below.mono (by with_reducible assumption) ?_)) | omega | (simp; done) | (simp; omega))⟩
    case true =>
      go_wp2_with fail
      refine (CF.out _).mono ?_
      rintro e wC1 ⟨rfl, hbwC1⟩
      have zwC1 := hbwC1.size
      have gwC1 : Below w.heap.size w wC1 := by repeat' (first | with_reducible assumption | with_reducible exact Below.refl _ _ | (with_reducible refine Below.setCell ?_ ?_ _) | (with_reducible refine Below.alloc ?_ ?_ _) | (with_reducible refine Below.drew ?_) | (with_reducible refine below_dr ?_ _) | (with_reducible refine Below.trans ?_ (Below.mono (by with_reducible assumption) ?_)) | omega | (simp; done) | (simp; omega))
      have xwC1 : Below wB.heap.size wB wC1 := by clear b0 gB gwC1; repeat' (first | with_reducible assumption | with_reducible exact Below.refl _ _ | (with_reducible refine Below.setCell ?_ ?_ _) | (with_reducible refine Below.alloc ?_ ?_ _) | (with_reducible refine Below.drew ?_) | (with_reducible refine below_dr ?_ _) | (with_reducible refine Below.trans ?_ (Below.mono (by with_reducible assumption) ?_)) | omega | (simp; done) | (simp; omega))
      have atwC1 := HB.out _ xwC1
      have j10 := atwC1.cell 0 rfl
      have j11 := atwC1.cell 1 rfl
      have j12 := atwC1.cell 2 rfl
      have j13 := atwC1.cell 3 rfl
      have j14 := atwC1.cell 4 rfl
      have j15 := atwC1.cell 5 rfl
      have j16 := atwC1.cell 6 rfl
      have j17 := atwC1.cell 7 rfl
      have j18 := atwC1.cell 8 rfl
      have j19 := atwC1.cell 9 rfl
      have j110 := atwC1.cell 10 rfl
      have j111 := atwC1.cell 11 rfl
      have j112 := atwC1.cell 12 rfl
      have lwC1 := atwC1.lt
      clear atwC1
      cases u1
      case false =>
        go_wp2_with fail
        go_ret
        exact ⟨ret_bool (by rw [← HE.out]; simp), by repeat' (first | with_reducible assumption | with_reducible exact Below.refl _ _ | (with_reducible refine Below.setCell ?_ ?_ _) | (with_reducible refine Below.alloc ?_ ?_ _) | (with_reducible refine Below.drew ?_) | (with_reducible refine below_dr ?_ _) | (with_reducible refine Below.trans ?_ (Below.mono (by with_reducible assumption) ?_)) | omega | (simp; done) | (simp; omega))⟩
      case true =>
        go_wp2_with fail
        refine (CP.out _ ?_).mono ?_
        · exact (Row.carry (w' := _) r_a9 (by repeat' (first | with_reducible assumption | with_reducible exact Below.refl _ _ | (with_reducible refine Below.setCell ?_ ?_ _) | (with_reducible refine Below.alloc ?_ ?_ _) | (with_reducible refine Below.drew ?_) | (with_reducible refine below_dr ?_ _) | (with_reducible refine Below.trans ?_ (Below.mono (by with_reducible assumption) ?_)) | omega | (simp; done) | (simp; omega))) (Nat.le_refl _)).more (by first | omega | (simp; omega))
        rintro e wC2 ⟨rfl, hbwC2⟩
        have zwC2 := hbwC2.size
        have gwC2 : Below w.heap.size w wC2 := by repeat' (first | with_reducible assumption | with_reducible exact Below.refl _ _ | (with_reducible refine Below.setCell ?_ ?_ _) | (with_reducible refine Below.alloc ?_ ?_ _) | (with_reducible refine Below.drew ?_) | (with_reducible refine below_dr ?_ _) | (with_reducible refine Below.trans ?_ (Below.mono (by with_reducible assumption) ?_)) | omega | (simp; done) | (simp; omega))
        have xwC2 : Below wB.heap.size wB wC2 := xwC1.trans (hbwC2.mono (by omega))
        have atwC2 := HB.out _ xwC2
        have lwC2 := atwC2.lt
        clear atwC2
        go_wp2_with fail
        go_ret
        exact ⟨ret_bool (by rw [← HE.out]; simp), by repeat' (first | with_reducible assumption | with_reducible exact Below.refl _ _ | (with_reducible refine Below.setCell ?_ ?_ _) | (with_reducible refine Below.alloc ?_ ?_ _) | (with_reducible refine Below.drew ?_) | (with_reducible refine below_dr ?_ _) | (with_reducible refine Below.trans ?_ (Below.mono (by with_reducible assumption) ?_)) | omega | (simp; done) | (simp; omega))⟩
set_option maxRecDepth 100000 in
set_option maxHeartbeats 12800000 in
theorem implValid_10 (a1 : ByteArray) (a2 : ByteArray) (a3 : Int) (a4 : Int) (a5A : Option Addr) (a5c : Nat) (a5l : List DTerm) (a6 : Int) (a7 : Int) (a8A : Option Addr) (a8c : Nat) (a8l : List DTerm) (a9A : Option Addr) (a9c : Nat) (a9l : List DString) (a10A : Option Addr) (a10c : Nat) (a10l : List DInt64) (a11 : Bool) (a12 : Bool) (w : World) (h_a : totStatement ((10 : Int), a1, a2, a3, a4, a5l, a6, a7, a8l, a9l, a10l, a11, a12) ≤ 1048576) (i_a3 : (-9223372036854775808 ≤ a3 ∧ a3 ≤ 9223372036854775807)) (i_a4 : (-9223372036854775808 ≤ a4 ∧ a4 ≤ 9223372036854775807)) (i_a6 : (-9223372036854775808 ≤ a6 ∧ a6 ≤ 9223372036854775807)) (i_a7 : (-9223372036854775808 ≤ a7 ∧ a7 ≤ 9223372036854775807)) (r_a5 : Row RvTerm 3 w w.heap.size a5A a5l) (r_a8 : Row RvTerm 3 w w.heap.size a8A a8l) (r_a9 : Row RvString 1 w w.heap.size a9A a9l) (r_a10 : Row RvInt64 1 w w.heap.size a10A a10l) (ok_a5 : (∀ (w2 : World) (B : Nat) (i : Nat) (b : ATerm), a5l[i]? = some b → okTerm w2 B b)) (ok_a8 : (∀ (w2 : World) (B : Nat) (i : Nat) (b : ATerm), a8l[i]? = some b → okTerm w2 B b)) (hz_a9 : ∀ (k : Nat) (s : DString), a9l[k]? = some s → s.size ≤ 4611686018427387904) (h1 : a1.size ≤ 9223372036854775807) (h2 : a2.size ≤ 9223372036854775807) : Calls Try.prog 7 #[.agg #[.int .i64 10, .string a1, .string a2, .int .i64 a3, .int .i64 a4, .slice a5A a5l.length a5c, .int .i64 a6, .int .i64 a7, .slice a8A a8l.length a8c, .slice a9A a9l.length a9c, .slice a10A a10l.length a10c, .bool a11, .bool a12]] w fun e w' => e = .returned (.bool (vStB 10 a1 a2 a3 a4 a5A a5c a5l a6 a7 a8A a8c a8l a9A a9c a9l a10A a10c a10l a11 a12)) ∧ Below w.heap.size w w' := by
  have HE := Lib.hid (same_10 a1 a2 a3 a4 a5A a5c a5l a6 a7 a8A a8c a8l a9A a9c a9l a10A a10c a10l a11 a12)
  have CW := Lib.hid (fun w => without_10 a1 a2 a3 a4 a5A a5c a5l a6 a7 a8A a8c a8l a9A a9c a9l a10A a10c a10l a11 a12 w)
  have htb : totStatement ((10 : Int), a1, (ByteArray.mk #[]), 0, 0, [], 0, 0, [], [], a10l, false, false) ≤ 1048576 := by simp only [totStatement] at h_a ⊢; simp [totRow] at h_a ⊢; have ez : (ByteArray.mk #[]).size = 0 := rfl; omega
  have CM := Lib.hid (fun w (r_a5 : Row RvTerm 3 w w.heap.size a5A a5l) (r_a8 : Row RvTerm 3 w w.heap.size a8A a8l) (r_a9 : Row RvString 1 w w.heap.size a9A a9l) (r_a10 : Row RvInt64 1 w w.heap.size a10A a10l) => implSame_any 10 a1 a2 a3 a4 a5A a5c a5l a6 a7 a8A a8c a8l a9A a9c a9l a10A a10c a10l a11 a12 10 a1 (ByteArray.mk #[]) 0 0 none 0 [] 0 0 none 0 [] none 0 [] a10A a10c a10l false false w h_a htb r_a5 r_a8 r_a9 r_a10 (.inl rfl) (.inl rfl) (.inl rfl) r_a10)
  simp only [List.length_nil] at CM
  simp only [totStatement] at h_a
  have hl_a5 : a5l.length ≤ 1048576 := Nat.le_trans (totRow_len totTerm _) (by omega)
  have hl_a8 : a8l.length ≤ 1048576 := Nat.le_trans (totRow_len totTerm _) (by omega)
  have hl_a9 : a9l.length ≤ 1048576 := Nat.le_trans (totRow_len totString _) (by omega)
  have hl_a10 : a10l.length ≤ 1048576 := Nat.le_trans (totRow_len totInt64 _) (by omega)
  clear h_a htb
  have CF := Lib.hid (fun w => impl_free a1 w h1)
  have CN := Lib.hid (fun w r => hasNumbers_any 10 a1 a2 a3 a4 a5A a5c a5l a6 a7 a8A a8c a8l a9A a9c a9l a10A a10c a10l a11 a12 2 2 w hl_a10 r)
  generalize hv0 : smV ((10 : Int), a1, a2, a3, a4, a5l, a6, a7, a8l, a9l, a10l, a11, a12) ((10 : Int), a1, (ByteArray.mk #[]), 0, 0, [], 0, 0, [], [], a10l, false, false) = v0 at CM HE
  generalize hvu1 : fnB a1 = u1 at CF HE
  generalize hvu2 : (inB a10l.length 2 2 && a10l.all numB) = u2 at CN HE
  clear i_a3 i_a4 i_a6 i_a7 ok_a5 ok_a8 hz_a9 h1 h2
  go_enter Try.func7, Try.ntmps7
  go_upto_region 1 with fail
  generalize hW : w.alloc (.cells #[.int .i64 10, .string a1, .string a2, .int .i64 a3, .int .i64 a4, .slice a5A a5l.length a5c, .int .i64 a6, .int .i64 a7, .slice a8A a8l.length a8c, .slice a9A a9l.length a9c, .slice a10A a10l.length a10c, .bool a11, .bool a12] 38) = W0
  have at0 : AtL w.heap.size [.int .i64 10, .string a1, .string a2, .int .i64 a3, .int .i64 a4, .slice a5A a5l.length a5c, .int .i64 a6, .int .i64 a7, .slice a8A a8l.length a8c, .slice a9A a9l.length a9c, .slice a10A a10l.length a10c, .bool a11, .bool a12] W0 := by rw [← hW]; exact AtL.new _ _ _
  have b0 : Below w.heap.size w W0 := by rw [← hW]; repeat' (first | with_reducible assumption | with_reducible exact Below.refl _ _ | (with_reducible refine Below.setCell ?_ ?_ _) | (with_reducible refine Below.alloc ?_ ?_ _) | (with_reducible refine Below.drew ?_) | (with_reducible refine below_dr ?_ _) | (with_reducible refine Below.trans ?_ (Below.mono (by with_reducible assumption) ?_)) | omega | (simp; done) | (simp; omega))
  have z0 : W0.heap.size = w.heap.size + 1 := by rw [← hW]; simp
  clear hW
  have sa5 : Row RvTerm 3 W0 w.heap.size a5A a5l := (r_a5.carry b0 (Nat.le_refl _))
  have sa8 : Row RvTerm 3 W0 w.heap.size a8A a8l := (r_a8.carry b0 (Nat.le_refl _))
  have sa9 : Row RvString 1 W0 w.heap.size a9A a9l := (r_a9.carry b0 (Nat.le_refl _))
  have sa10 : Row RvInt64 1 W0 w.heap.size a10A a10l := (r_a10.carry b0 (Nat.le_refl _))
  have k0 := at0.cell 0 rfl
  have k1 := at0.cell 1 rfl
  have k2 := at0.cell 2 rfl
  have k3 := at0.cell 3 rfl
  have k4 := at0.cell 4 rfl
  have k5 := at0.cell 5 rfl
  have k6 := at0.cell 6 rfl
  have k7 := at0.cell 7 rfl
  have k8 := at0.cell 8 rfl
  have k9 := at0.cell 9 rfl
  have k10 := at0.cell 10 rfl
  have k11 := at0.cell 11 rfl
  have k12 := at0.cell 12 rfl
  have l0 := at0.lt
  go_region_held3 (fun w' => (∀ b o, b < W0.heap.size → w'.cell? ⟨b, o, none⟩ = W0.cell? ⟨b, o, none⟩) ∧ W0.heap.size ≤ w'.heap.size)
    (first | ((try dsimp only); exact ⟨fun b o h => (by (repeat (first | with_reducible exact rfl | (with_reducible refine (cell_drew_at _ _).trans ?_) | (with_reducible refine (cell_set_at _ _ (by first | omega | (simp; done) | (simp; omega))).trans ?_) | (with_reducible refine (cell_alloc_at _ _ (by first | omega | (simp; done) | (simp; omega))).trans ?_) | (with_reducible refine (hcwA b o (by first | omega | (simp; done) | (simp; omega))).trans ?_) | (with_reducible refine (hcwB b o (by first | omega | (simp; done) | (simp; omega))).trans ?_)))), (by first | omega | (simp; done) | (simp; omega))⟩) | fail)
    (first
      | (go_at_call 17; (with_reducible refine (CW.out _).mono ?_); rintro e wA ⟨rfl, hbwA⟩; obtain ⟨hcwA, hfwA⟩ := bcell hbwA; have hzwA := hbwA.size; (try simp only [World.size_drew] at hcwA hfwA hzwA); (try simp only [World.size_alloc] at hcwA hfwA hzwA))
      | (go_at_call 16; (with_reducible refine (CM.out _ ?_ ?_ ?_ ?_).mono ?_); (focus ((refine Row.more (B := w.heap.size) ?_ (by first | omega | ((try simp only [World.size_drew]); (try simp only [World.size_alloc]); omega))); repeat' (first | with_reducible assumption | (with_reducible refine Row.drew ?_) | (with_reducible refine Row.carry ?_ (by with_reducible assumption) ?_) | (with_reducible refine Row.alloc ?_ ?_ _) | (with_reducible refine Row.setCell ?_ ?_ _) | omega | (simp; done) | (simp; omega)))); (focus ((refine Row.more (B := w.heap.size) ?_ (by first | omega | ((try simp only [World.size_drew]); (try simp only [World.size_alloc]); omega))); repeat' (first | with_reducible assumption | (with_reducible refine Row.drew ?_) | (with_reducible refine Row.carry ?_ (by with_reducible assumption) ?_) | (with_reducible refine Row.alloc ?_ ?_ _) | (with_reducible refine Row.setCell ?_ ?_ _) | omega | (simp; done) | (simp; omega)))); (focus ((refine Row.more (B := w.heap.size) ?_ (by first | omega | ((try simp only [World.size_drew]); (try simp only [World.size_alloc]); omega))); repeat' (first | with_reducible assumption | (with_reducible refine Row.drew ?_) | (with_reducible refine Row.carry ?_ (by with_reducible assumption) ?_) | (with_reducible refine Row.alloc ?_ ?_ _) | (with_reducible refine Row.setCell ?_ ?_ _) | omega | (simp; done) | (simp; omega)))); (focus ((refine Row.more (B := w.heap.size) ?_ (by first | omega | ((try simp only [World.size_drew]); (try simp only [World.size_alloc]); omega))); repeat' (first | with_reducible assumption | (with_reducible refine Row.drew ?_) | (with_reducible refine Row.carry ?_ (by with_reducible assumption) ?_) | (with_reducible refine Row.alloc ?_ ?_ _) | (with_reducible refine Row.setCell ?_ ?_ _) | omega | (simp; done) | (simp; omega)))); rintro e wB ⟨rfl, hbwB⟩; obtain ⟨hcwB, hfwB⟩ := bcell hbwB; have hzwB := hbwB.size; (try simp only [World.size_drew] at hcwB hfwB hzwB); (try simp only [World.size_alloc] at hcwB hfwB hzwB)))
  all_goals
    have zA : W0.heap.size ≤ wA.heap.size := by omega
    have gB : Below w.heap.size w wB := by repeat' (first | with_reducible assumption | with_reducible exact Below.refl _ _ | (with_reducible refine Below.setCell ?_ ?_ _) | (with_reducible refine Below.alloc ?_ ?_ _) | (with_reducible refine Below.drew ?_) | (with_reducible refine below_dr ?_ _) | (with_reducible refine Below.trans ?_ (Below.mono (by with_reducible assumption) ?_)) | omega | (simp; done) | (simp; omega))
    have g0B : Below W0.heap.size W0 wB := by clear b0 gB; repeat' (first | with_reducible assumption | with_reducible exact Below.refl _ _ | (with_reducible refine Below.setCell ?_ ?_ _) | (with_reducible refine Below.alloc ?_ ?_ _) | (with_reducible refine Below.drew ?_) | (with_reducible refine below_dr ?_ _) | (with_reducible refine Below.trans ?_ (Below.mono (by with_reducible assumption) ?_)) | omega | (simp; done) | (simp; omega))
    have atB := at0.below g0B
    have HB := Lib.hid (fun (wr : World) (hb : Below wB.heap.size wB wr) => atB.below hb)
    clear at0 sa5 sa8 sa9 sa10 hcwA hfwA hcwB hfwB hbwA hbwB
    have lB := atB.lt
    clear atB
    cases v0
    case false =>
      go_wp2_with fail
      go_ret
      exact ⟨ret_bool (by rw [← HE.out]; simp), by repeat' (first | with_reducible assumption | with_reducible exact Below.refl _ _ | (with_reducible refine Below.setCell ?_ ?_ _) | (with_reducible refine Below.alloc ?_ ?_ _) | (with_reducible refine Below.drew ?_) | (with_reducible refine below_dr ?_ _) | (with_reducible refine Below.trans ?_ (Below.mono (by with_reducible assumption) ?_)) | omega | (simp; done) | (simp; omega))⟩
    case true =>
      go_wp2_with fail
      refine (CF.out _).mono ?_
      rintro e wC1 ⟨rfl, hbwC1⟩
      have zwC1 := hbwC1.size
      have gwC1 : Below w.heap.size w wC1 := by repeat' (first | with_reducible assumption | with_reducible exact Below.refl _ _ | (with_reducible refine Below.setCell ?_ ?_ _) | (with_reducible refine Below.alloc ?_ ?_ _) | (with_reducible refine Below.drew ?_) | (with_reducible refine below_dr ?_ _) | (with_reducible refine Below.trans ?_ (Below.mono (by with_reducible assumption) ?_)) | omega | (simp; done) | (simp; omega))
      have xwC1 : Below wB.heap.size wB wC1 := by clear b0 gB gwC1; repeat' (first | with_reducible assumption | with_reducible exact Below.refl _ _ | (with_reducible refine Below.setCell ?_ ?_ _) | (with_reducible refine Below.alloc ?_ ?_ _) | (with_reducible refine Below.drew ?_) | (with_reducible refine below_dr ?_ _) | (with_reducible refine Below.trans ?_ (Below.mono (by with_reducible assumption) ?_)) | omega | (simp; done) | (simp; omega))
      have atwC1 := HB.out _ xwC1
      have j10 := atwC1.cell 0 rfl
      have j11 := atwC1.cell 1 rfl
      have j12 := atwC1.cell 2 rfl
      have j13 := atwC1.cell 3 rfl
      have j14 := atwC1.cell 4 rfl
      have j15 := atwC1.cell 5 rfl
      have j16 := atwC1.cell 6 rfl
      have j17 := atwC1.cell 7 rfl
      have j18 := atwC1.cell 8 rfl
      have j19 := atwC1.cell 9 rfl
      have j110 := atwC1.cell 10 rfl
      have j111 := atwC1.cell 11 rfl
      have j112 := atwC1.cell 12 rfl
      have lwC1 := atwC1.lt
      clear atwC1
      cases u1
      case false =>
        go_wp2_with fail
        go_ret
        exact ⟨ret_bool (by rw [← HE.out]; simp), by repeat' (first | with_reducible assumption | with_reducible exact Below.refl _ _ | (with_reducible refine Below.setCell ?_ ?_ _) | (with_reducible refine Below.alloc ?_ ?_ _) | (with_reducible refine Below.drew ?_) | (with_reducible refine below_dr ?_ _) | (with_reducible refine Below.trans ?_ (Below.mono (by with_reducible assumption) ?_)) | omega | (simp; done) | (simp; omega))⟩
      case true =>
        go_wp2_with fail
        refine (CN.out _ ?_).mono ?_
        · exact (Row.carry (w' := _) r_a10 (by repeat' (first | with_reducible assumption | with_reducible exact Below.refl _ _ | (with_reducible refine Below.setCell ?_ ?_ _) | (with_reducible refine Below.alloc ?_ ?_ _) | (with_reducible refine Below.drew ?_) | (with_reducible refine below_dr ?_ _) | (with_reducible refine Below.trans ?_ (Below.mono (by with_reducible assumption) ?_)) | omega | (simp; done) | (simp; omega))) (Nat.le_refl _)).more (by first | omega | (simp; omega))
        rintro e wC2 ⟨rfl, hbwC2⟩
        have zwC2 := hbwC2.size
        have gwC2 : Below w.heap.size w wC2 := by repeat' (first | with_reducible assumption | with_reducible exact Below.refl _ _ | (with_reducible refine Below.setCell ?_ ?_ _) | (with_reducible refine Below.alloc ?_ ?_ _) | (with_reducible refine Below.drew ?_) | (with_reducible refine below_dr ?_ _) | (with_reducible refine Below.trans ?_ (Below.mono (by with_reducible assumption) ?_)) | omega | (simp; done) | (simp; omega))
        have xwC2 : Below wB.heap.size wB wC2 := xwC1.trans (hbwC2.mono (by omega))
        have atwC2 := HB.out _ xwC2
        have lwC2 := atwC2.lt
        clear atwC2
        go_wp2_with fail
        go_ret
        exact ⟨ret_bool (by rw [← HE.out]; simp), by repeat' (first | with_reducible assumption | with_reducible exact Below.refl _ _ | (with_reducible refine Below.setCell ?_ ?_ _) | (with_reducible refine Below.alloc ?_ ?_ _) | (with_reducible refine Below.drew ?_) | (with_reducible refine below_dr ?_ _) | (with_reducible refine Below.trans ?_ (Below.mono (by with_reducible assumption) ?_)) | omega | (simp; done) | (simp; omega))⟩
set_option maxRecDepth 100000 in
set_option maxHeartbeats 12800000 in
theorem implValid_11 (a1 : ByteArray) (a2 : ByteArray) (a3 : Int) (a4 : Int) (a5A : Option Addr) (a5c : Nat) (a5l : List DTerm) (a6 : Int) (a7 : Int) (a8A : Option Addr) (a8c : Nat) (a8l : List DTerm) (a9A : Option Addr) (a9c : Nat) (a9l : List DString) (a10A : Option Addr) (a10c : Nat) (a10l : List DInt64) (a11 : Bool) (a12 : Bool) (w : World) (h_a : totStatement ((11 : Int), a1, a2, a3, a4, a5l, a6, a7, a8l, a9l, a10l, a11, a12) ≤ 1048576) (i_a3 : (-9223372036854775808 ≤ a3 ∧ a3 ≤ 9223372036854775807)) (i_a4 : (-9223372036854775808 ≤ a4 ∧ a4 ≤ 9223372036854775807)) (i_a6 : (-9223372036854775808 ≤ a6 ∧ a6 ≤ 9223372036854775807)) (i_a7 : (-9223372036854775808 ≤ a7 ∧ a7 ≤ 9223372036854775807)) (r_a5 : Row RvTerm 3 w w.heap.size a5A a5l) (r_a8 : Row RvTerm 3 w w.heap.size a8A a8l) (r_a9 : Row RvString 1 w w.heap.size a9A a9l) (r_a10 : Row RvInt64 1 w w.heap.size a10A a10l) (ok_a5 : (∀ (w2 : World) (B : Nat) (i : Nat) (b : ATerm), a5l[i]? = some b → okTerm w2 B b)) (ok_a8 : (∀ (w2 : World) (B : Nat) (i : Nat) (b : ATerm), a8l[i]? = some b → okTerm w2 B b)) (hz_a9 : ∀ (k : Nat) (s : DString), a9l[k]? = some s → s.size ≤ 4611686018427387904) (h1 : a1.size ≤ 9223372036854775807) (h2 : a2.size ≤ 9223372036854775807) : Calls Try.prog 7 #[.agg #[.int .i64 11, .string a1, .string a2, .int .i64 a3, .int .i64 a4, .slice a5A a5l.length a5c, .int .i64 a6, .int .i64 a7, .slice a8A a8l.length a8c, .slice a9A a9l.length a9c, .slice a10A a10l.length a10c, .bool a11, .bool a12]] w fun e w' => e = .returned (.bool (vStB 11 a1 a2 a3 a4 a5A a5c a5l a6 a7 a8A a8c a8l a9A a9c a9l a10A a10c a10l a11 a12)) ∧ Below w.heap.size w w' := by
  have HE := Lib.hid (same_11 a1 a2 a3 a4 a5A a5c a5l a6 a7 a8A a8c a8l a9A a9c a9l a10A a10c a10l a11 a12)
  have CW := Lib.hid (fun w => without_11 a1 a2 a3 a4 a5A a5c a5l a6 a7 a8A a8c a8l a9A a9c a9l a10A a10c a10l a11 a12 w)
  have htb : totStatement ((11 : Int), (ByteArray.mk #[]), (ByteArray.mk #[]), 0, 0, [], 0, 0, [], [], [], false, false) ≤ 1048576 := by simp only [totStatement] at h_a ⊢; simp [totRow] at h_a ⊢; have ez : (ByteArray.mk #[]).size = 0 := rfl; omega
  have CM := Lib.hid (fun w (r_a5 : Row RvTerm 3 w w.heap.size a5A a5l) (r_a8 : Row RvTerm 3 w w.heap.size a8A a8l) (r_a9 : Row RvString 1 w w.heap.size a9A a9l) (r_a10 : Row RvInt64 1 w w.heap.size a10A a10l) => implSame_any 11 a1 a2 a3 a4 a5A a5c a5l a6 a7 a8A a8c a8l a9A a9c a9l a10A a10c a10l a11 a12 11 (ByteArray.mk #[]) (ByteArray.mk #[]) 0 0 none 0 [] 0 0 none 0 [] none 0 [] none 0 [] false false w h_a htb r_a5 r_a8 r_a9 r_a10 (.inl rfl) (.inl rfl) (.inl rfl) (.inl rfl))
  simp only [List.length_nil] at CM
  simp only [totStatement] at h_a
  have hl_a5 : a5l.length ≤ 1048576 := Nat.le_trans (totRow_len totTerm _) (by omega)
  have hl_a8 : a8l.length ≤ 1048576 := Nat.le_trans (totRow_len totTerm _) (by omega)
  have hl_a9 : a9l.length ≤ 1048576 := Nat.le_trans (totRow_len totString _) (by omega)
  have hl_a10 : a10l.length ≤ 1048576 := Nat.le_trans (totRow_len totInt64 _) (by omega)
  clear h_a htb
  generalize hv0 : smV ((11 : Int), a1, a2, a3, a4, a5l, a6, a7, a8l, a9l, a10l, a11, a12) ((11 : Int), (ByteArray.mk #[]), (ByteArray.mk #[]), 0, 0, [], 0, 0, [], [], [], false, false) = v0 at CM HE
  clear i_a3 i_a4 i_a6 i_a7 ok_a5 ok_a8 hz_a9 h1 h2
  go_enter Try.func7, Try.ntmps7
  go_upto_region 1 with fail
  generalize hW : w.alloc (.cells #[.int .i64 11, .string a1, .string a2, .int .i64 a3, .int .i64 a4, .slice a5A a5l.length a5c, .int .i64 a6, .int .i64 a7, .slice a8A a8l.length a8c, .slice a9A a9l.length a9c, .slice a10A a10l.length a10c, .bool a11, .bool a12] 38) = W0
  have at0 : AtL w.heap.size [.int .i64 11, .string a1, .string a2, .int .i64 a3, .int .i64 a4, .slice a5A a5l.length a5c, .int .i64 a6, .int .i64 a7, .slice a8A a8l.length a8c, .slice a9A a9l.length a9c, .slice a10A a10l.length a10c, .bool a11, .bool a12] W0 := by rw [← hW]; exact AtL.new _ _ _
  have b0 : Below w.heap.size w W0 := by rw [← hW]; repeat' (first | with_reducible assumption | with_reducible exact Below.refl _ _ | (with_reducible refine Below.setCell ?_ ?_ _) | (with_reducible refine Below.alloc ?_ ?_ _) | (with_reducible refine Below.drew ?_) | (with_reducible refine below_dr ?_ _) | (with_reducible refine Below.trans ?_ (Below.mono (by with_reducible assumption) ?_)) | omega | (simp; done) | (simp; omega))
  have z0 : W0.heap.size = w.heap.size + 1 := by rw [← hW]; simp
  clear hW
  have sa5 : Row RvTerm 3 W0 w.heap.size a5A a5l := (r_a5.carry b0 (Nat.le_refl _))
  have sa8 : Row RvTerm 3 W0 w.heap.size a8A a8l := (r_a8.carry b0 (Nat.le_refl _))
  have sa9 : Row RvString 1 W0 w.heap.size a9A a9l := (r_a9.carry b0 (Nat.le_refl _))
  have sa10 : Row RvInt64 1 W0 w.heap.size a10A a10l := (r_a10.carry b0 (Nat.le_refl _))
  have k0 := at0.cell 0 rfl
  have k1 := at0.cell 1 rfl
  have k2 := at0.cell 2 rfl
  have k3 := at0.cell 3 rfl
  have k4 := at0.cell 4 rfl
  have k5 := at0.cell 5 rfl
  have k6 := at0.cell 6 rfl
  have k7 := at0.cell 7 rfl
  have k8 := at0.cell 8 rfl
  have k9 := at0.cell 9 rfl
  have k10 := at0.cell 10 rfl
  have k11 := at0.cell 11 rfl
  have k12 := at0.cell 12 rfl
  have l0 := at0.lt
  go_region_held3 (fun w' => (∀ b o, b < W0.heap.size → w'.cell? ⟨b, o, none⟩ = W0.cell? ⟨b, o, none⟩) ∧ W0.heap.size ≤ w'.heap.size)
    (first | ((try dsimp only); exact ⟨fun b o h => (by (repeat (first | with_reducible exact rfl | (with_reducible refine (cell_drew_at _ _).trans ?_) | (with_reducible refine (cell_set_at _ _ (by first | omega | (simp; done) | (simp; omega))).trans ?_) | (with_reducible refine (cell_alloc_at _ _ (by first | omega | (simp; done) | (simp; omega))).trans ?_) | (with_reducible refine (hcwA b o (by first | omega | (simp; done) | (simp; omega))).trans ?_) | (with_reducible refine (hcwB b o (by first | omega | (simp; done) | (simp; omega))).trans ?_)))), (by first | omega | (simp; done) | (simp; omega))⟩) | fail)
    (first
      | (go_at_call 17; (with_reducible refine (CW.out _).mono ?_); rintro e wA ⟨rfl, hbwA⟩; obtain ⟨hcwA, hfwA⟩ := bcell hbwA; have hzwA := hbwA.size; (try simp only [World.size_drew] at hcwA hfwA hzwA); (try simp only [World.size_alloc] at hcwA hfwA hzwA))
      | (go_at_call 16; (with_reducible refine (CM.out _ ?_ ?_ ?_ ?_).mono ?_); (focus ((refine Row.more (B := w.heap.size) ?_ (by first | omega | ((try simp only [World.size_drew]); (try simp only [World.size_alloc]); omega))); repeat' (first | with_reducible assumption | (with_reducible refine Row.drew ?_) | (with_reducible refine Row.carry ?_ (by with_reducible assumption) ?_) | (with_reducible refine Row.alloc ?_ ?_ _) | (with_reducible refine Row.setCell ?_ ?_ _) | omega | (simp; done) | (simp; omega)))); (focus ((refine Row.more (B := w.heap.size) ?_ (by first | omega | ((try simp only [World.size_drew]); (try simp only [World.size_alloc]); omega))); repeat' (first | with_reducible assumption | (with_reducible refine Row.drew ?_) | (with_reducible refine Row.carry ?_ (by with_reducible assumption) ?_) | (with_reducible refine Row.alloc ?_ ?_ _) | (with_reducible refine Row.setCell ?_ ?_ _) | omega | (simp; done) | (simp; omega)))); (focus ((refine Row.more (B := w.heap.size) ?_ (by first | omega | ((try simp only [World.size_drew]); (try simp only [World.size_alloc]); omega))); repeat' (first | with_reducible assumption | (with_reducible refine Row.drew ?_) | (with_reducible refine Row.carry ?_ (by with_reducible assumption) ?_) | (with_reducible refine Row.alloc ?_ ?_ _) | (with_reducible refine Row.setCell ?_ ?_ _) | omega | (simp; done) | (simp; omega)))); (focus ((refine Row.more (B := w.heap.size) ?_ (by first | omega | ((try simp only [World.size_drew]); (try simp only [World.size_alloc]); omega))); repeat' (first | with_reducible assumption | (with_reducible refine Row.drew ?_) | (with_reducible refine Row.carry ?_ (by with_reducible assumption) ?_) | (with_reducible refine Row.alloc ?_ ?_ _) | (with_reducible refine Row.setCell ?_ ?_ _) | omega | (simp; done) | (simp; omega)))); rintro e wB ⟨rfl, hbwB⟩; obtain ⟨hcwB, hfwB⟩ := bcell hbwB; have hzwB := hbwB.size; (try simp only [World.size_drew] at hcwB hfwB hzwB); (try simp only [World.size_alloc] at hcwB hfwB hzwB)))
  all_goals
    have zA : W0.heap.size ≤ wA.heap.size := by omega
    have gB : Below w.heap.size w wB := by repeat' (first | with_reducible assumption | with_reducible exact Below.refl _ _ | (with_reducible refine Below.setCell ?_ ?_ _) | (with_reducible refine Below.alloc ?_ ?_ _) | (with_reducible refine Below.drew ?_) | (with_reducible refine below_dr ?_ _) | (with_reducible refine Below.trans ?_ (Below.mono (by with_reducible assumption) ?_)) | omega | (simp; done) | (simp; omega))
    have g0B : Below W0.heap.size W0 wB := by clear b0 gB; repeat' (first | with_reducible assumption | with_reducible exact Below.refl _ _ | (with_reducible refine Below.setCell ?_ ?_ _) | (with_reducible refine Below.alloc ?_ ?_ _) | (with_reducible refine Below.drew ?_) | (with_reducible refine below_dr ?_ _) | (with_reducible refine Below.trans ?_ (Below.mono (by with_reducible assumption) ?_)) | omega | (simp; done) | (simp; omega))
    have atB := at0.below g0B
    have HB := Lib.hid (fun (wr : World) (hb : Below wB.heap.size wB wr) => atB.below hb)
    clear at0 sa5 sa8 sa9 sa10 hcwA hfwA hcwB hfwB hbwA hbwB
    have lB := atB.lt
    clear atB
    cases v0
    case false =>
      go_wp2_with fail
      go_ret
      exact ⟨ret_bool (by rw [← HE.out]; simp), by repeat' (first | with_reducible assumption | with_reducible exact Below.refl _ _ | (with_reducible refine Below.setCell ?_ ?_ _) | (with_reducible refine Below.alloc ?_ ?_ _) | (with_reducible refine Below.drew ?_) | (with_reducible refine below_dr ?_ _) | (with_reducible refine Below.trans ?_ (Below.mono (by with_reducible assumption) ?_)) | omega | (simp; done) | (simp; omega))⟩
    case true =>
      go_wp2_with fail
      go_ret
      exact ⟨ret_bool (by rw [← HE.out]; simp), by repeat' (first | with_reducible assumption | with_reducible exact Below.refl _ _ | (with_reducible refine Below.setCell ?_ ?_ _) | (with_reducible refine Below.alloc ?_ ?_ _) | (with_reducible refine Below.drew ?_) | (with_reducible refine below_dr ?_ _) | (with_reducible refine Below.trans ?_ (Below.mono (by with_reducible assumption) ?_)) | omega | (simp; done) | (simp; omega))⟩
end Go.Proofs.Ytjpadamlfhceaaa
