/- Walks: which paths are valid, the program's side. -/
import Derived.Test.YtjpadamlfhceaaaHv8
import Derived.Test.YtjpadamlfhceaaaHv9
import Derived.Deep.RegionHeld3
namespace Go.Proofs.Ytjpadamlfhceaaa
open Go.RowKit
set_option linter.unusedVariables false
set_option maxHeartbeats 3200000 in
theorem leastKnots_any (a0 : Int) (a1 : ByteArray) (a2 : ByteArray) (a3 : Int) (a4 : Int) (a5A : Option Addr) (a5c : Nat) (a5l : List DTerm) (a6 : Int) (a7 : Int) (a8A : Option Addr) (a8c : Nat) (a8l : List DTerm) (a9A : Option Addr) (a9c : Nat) (a9l : List DString) (a10A : Option Addr) (a10c : Nat) (a10l : List DInt64) (a11 : Bool) (a12 : Bool) (w : World) : Calls Try.prog 22 #[.agg #[.int .i64 a0, .string a1, .string a2, .int .i64 a3, .int .i64 a4, .slice a5A a5l.length a5c, .int .i64 a6, .int .i64 a7, .slice a8A a8l.length a8c, .slice a9A a9l.length a9c, .slice a10A a10l.length a10c, .bool a11, .bool a12]] w fun e w' => e = .returned (.int .i64 (if a12 = true then 3 else 2)) ∧ Below w.heap.size w w' := by
  cases a12
  all_goals
    go_enter Try.func22, Try.ntmps22
    go_wp2_with fail
    go_ret
    exact ⟨ret_i64 (by simp), by repeat' (first | with_reducible assumption | with_reducible exact Below.refl _ _ | (with_reducible refine Below.setCell ?_ ?_ _) | (with_reducible refine Below.alloc ?_ ?_ _) | (with_reducible refine Below.drew ?_) | (with_reducible refine below_dr ?_ _) | (with_reducible refine Below.trans ?_ (Below.mono (by with_reducible assumption) ?_)) | omega | (simp; done) | (simp; omega))⟩
set_option maxRecDepth 100000 in
set_option maxHeartbeats 12800000 in
theorem implValid_4 (a1 : ByteArray) (a2 : ByteArray) (a3 : Int) (a4 : Int) (a5A : Option Addr) (a5c : Nat) (a5l : List DTerm) (a6 : Int) (a7 : Int) (a8A : Option Addr) (a8c : Nat) (a8l : List DTerm) (a9A : Option Addr) (a9c : Nat) (a9l : List DString) (a10A : Option Addr) (a10c : Nat) (a10l : List DInt64) (a11 : Bool) (a12 : Bool) (w : World) (h_a : totStatement ((4 : Int), a1, a2, a3, a4, a5l, a6, a7, a8l, a9l, a10l, a11, a12) ≤ 1048576) (i_a3 : (-9223372036854775808 ≤ a3 ∧ a3 ≤ 9223372036854775807)) (i_a4 : (-9223372036854775808 ≤ a4 ∧ a4 ≤ 9223372036854775807)) (i_a6 : (-9223372036854775808 ≤ a6 ∧ a6 ≤ 9223372036854775807)) (i_a7 : (-9223372036854775808 ≤ a7 ∧ a7 ≤ 9223372036854775807)) (r_a5 : Row RvTerm 3 w w.heap.size a5A a5l) (r_a8 : Row RvTerm 3 w w.heap.size a8A a8l) (r_a9 : Row RvString 1 w w.heap.size a9A a9l) (r_a10 : Row RvInt64 1 w w.heap.size a10A a10l) (ok_a5 : (∀ (w2 : World) (B : Nat) (i : Nat) (b : ATerm), a5l[i]? = some b → okTerm w2 B b)) (ok_a8 : (∀ (w2 : World) (B : Nat) (i : Nat) (b : ATerm), a8l[i]? = some b → okTerm w2 B b)) (hz_a9 : ∀ (k : Nat) (s : DString), a9l[k]? = some s → s.size ≤ 4611686018427387904) (h1 : a1.size ≤ 9223372036854775807) (h2 : a2.size ≤ 9223372036854775807) : Calls Try.prog 7 #[.agg #[.int .i64 4, .string a1, .string a2, .int .i64 a3, .int .i64 a4, .slice a5A a5l.length a5c, .int .i64 a6, .int .i64 a7, .slice a8A a8l.length a8c, .slice a9A a9l.length a9c, .slice a10A a10l.length a10c, .bool a11, .bool a12]] w fun e w' => e = .returned (.bool (vStB 4 a1 a2 a3 a4 a5A a5c a5l a6 a7 a8A a8c a8l a9A a9c a9l a10A a10c a10l a11 a12)) ∧ Below w.heap.size w w' := by
  have HE := Lib.hid (same_4 a1 a2 a3 a4 a5A a5c a5l a6 a7 a8A a8c a8l a9A a9c a9l a10A a10c a10l a11 a12)
  have CW := Lib.hid (fun w => without_4 a1 a2 a3 a4 a5A a5c a5l a6 a7 a8A a8c a8l a9A a9c a9l a10A a10c a10l a11 a12 w)
  have htb : totStatement ((4 : Int), a1, (ByteArray.mk #[]), 0, 0, [], 0, 0, [], a9l, [], a11, a12) ≤ 1048576 := by simp only [totStatement] at h_a ⊢; simp [totRow] at h_a ⊢; have ez : (ByteArray.mk #[]).size = 0 := rfl; omega
  have CM := Lib.hid (fun w (r_a5 : Row RvTerm 3 w w.heap.size a5A a5l) (r_a8 : Row RvTerm 3 w w.heap.size a8A a8l) (r_a9 : Row RvString 1 w w.heap.size a9A a9l) (r_a10 : Row RvInt64 1 w w.heap.size a10A a10l) => implSame_any 4 a1 a2 a3 a4 a5A a5c a5l a6 a7 a8A a8c a8l a9A a9c a9l a10A a10c a10l a11 a12 4 a1 (ByteArray.mk #[]) 0 0 none 0 [] 0 0 none 0 [] a9A a9c a9l none 0 [] a11 a12 w h_a htb r_a5 r_a8 r_a9 r_a10 (.inl rfl) (.inl rfl) r_a9 (.inl rfl))
  simp only [List.length_nil] at CM
  simp only [totStatement] at h_a
  have hl_a5 : a5l.length ≤ 1048576 := Nat.le_trans (totRow_len totTerm _) (by omega)
  have hl_a8 : a8l.length ≤ 1048576 := Nat.le_trans (totRow_len totTerm _) (by omega)
  have hl_a9 : a9l.length ≤ 1048576 := Nat.le_trans (totRow_len totString _) (by omega)
  have hl_a10 : a10l.length ≤ 1048576 := Nat.le_trans (totRow_len totInt64 _) (by omega)
  clear h_a htb
  have CF := Lib.hid (fun w => impl_free a1 w h1)
  have CP := Lib.hid (fun w r => hasPoints_any 4 a1 a2 a3 a4 a5A a5c a5l a6 a7 a8A a8c a8l a9A a9c a9l a10A a10c a10l a11 a12 (if a12 = true then 3 else 2) 10 w hl_a9 r hz_a9)
  generalize hv0 : smV ((4 : Int), a1, a2, a3, a4, a5l, a6, a7, a8l, a9l, a10l, a11, a12) ((4 : Int), a1, (ByteArray.mk #[]), 0, 0, [], 0, 0, [], a9l, [], a11, a12) = v0 at CM HE
  generalize hvu1 : fnB a1 = u1 at CF HE
  generalize hvu2 : (inB a9l.length (if a12 = true then 3 else 2) 10 && a9l.all ptB) = u2 at CP HE
  have CK := Lib.hid (fun w => leastKnots_any 4 a1 a2 a3 a4 a5A a5c a5l a6 a7 a8A a8c a8l a9A a9c a9l a10A a10c a10l a11 a12 w)
  obtain ⟨lk, hlk⟩ : ∃ k : Int, k = (if a12 = true then 3 else 2) := ⟨_, rfl⟩
  rw [← hlk] at CK CP
  clear hlk hvu2
  clear i_a3 i_a4 i_a6 i_a7 ok_a5 ok_a8 hz_a9 h1 h2
  go_enter Try.func7, Try.ntmps7
  go_upto_region 1 with fail
  generalize hW : w.alloc (.cells #[.int .i64 4, .string a1, .string a2, .int .i64 a3, .int .i64 a4, .slice a5A a5l.length a5c, .int .i64 a6, .int .i64 a7, .slice a8A a8l.length a8c, .slice a9A a9l.length a9c, .slice a10A a10l.length a10c, .bool a11, .bool a12] 38) = W0
  have at0 : AtL w.heap.size [.int .i64 4, .string a1, .string a2, .int .i64 a3, .int .i64 a4, .slice a5A a5l.length a5c, .int .i64 a6, .int .i64 a7, .slice a8A a8l.length a8c, .slice a9A a9l.length a9c, .slice a10A a10l.length a10c, .bool a11, .bool a12] W0 := by rw [← hW]; exact AtL.new _ _ _
  have b0 : Below w.heap.size w W0 := by rw [← hW]; repeat' (first | with_reducible assumption | with_reducible exact Below.refl _ _ | (with_reducible refine Below.setCell ?_ ?_ _) | (with_reducible refine Below.alloc ?_ ?_ _) | (with_reducible refine Below.drew ?_) | (with_reducible refine below_dr ?_ _) | (with_reducible refine Below.trans ?_ (Below.mono (by with_reducible assumption) ?_)) | omega | (simp; done) | (simp; omega))
  have z0 : W0.heap.size = w.heap.size + 1 := by rw [← hW]; simp
  clear hW
  have sa5 : Row RvTerm 3 W0 w.heap.size a5A a5l := (r_a5.carry b0 (Nat.le_refl _))
  have sa8 : Row RvTerm 3 W0 w.heap.size a8A a8l := (r_a8.carry b0 (Nat.le_refl _))
  have sa9 : Row RvString 1 W0 w.heap.size a9A a9l := (r_a9.carry b0 (Nat.le_refl _))
  have sa10 : Row RvInt64 1 W0 w.heap.size a10A a10l := (r_a10.carry b0 (Nat.le_refl _))
  have k0 := at0.cell 0 rfl
  have k1 := at0.cell 1 rfl
  have k2 := at0.cell 2 rfl
  have k3 := at0.cell 3 rfl
  have k4 := at0.cell 4 rfl
  have k5 := at0.cell 5 rfl
  have k6 := at0.cell 6 rfl
  have k7 := at0.cell 7 rfl
  have k8 := at0.cell 8 rfl
  have k9 := at0.cell 9 rfl
  have k10 := at0.cell 10 rfl
  have k11 := at0.cell 11 rfl
  have k12 := at0.cell 12 rfl
  have l0 := at0.lt
  go_region_held3 (fun w' => (∀ b o, b < W0.heap.size → w'.cell? ⟨b, o, none⟩ = W0.cell? ⟨b, o, none⟩) ∧ W0.heap.size ≤ w'.heap.size)
    (first | ((try dsimp only); exact ⟨fun b o h => (by (repeat (first | with_reducible exact rfl | (with_reducible refine (cell_drew_at _ _).trans ?_) | (with_reducible refine (cell_set_at _ _ (by first | omega | (simp; done) | (simp; omega))).trans ?_) | (with_reducible refine (cell_alloc_at _ _ (by first | omega | (simp; done) | (simp; omega))).trans ?_) | (with_reducible refine (hcwA b o (by first | omega | (simp; done) | (simp; omega))).trans ?_) | (with_reducible refine (hcwB b o (by first | omega | (simp; done) | (simp; omega))).trans ?_)))), (by first | omega | (simp; done) | (simp; omega))⟩) | fail)
    (first
      | (go_at_call 17; (with_reducible refine (CW.out _).mono ?_); rintro e wA ⟨rfl, hbwA⟩; obtain ⟨hcwA, hfwA⟩ := bcell hbwA; have hzwA := hbwA.size; (try simp only [World.size_drew] at hcwA hfwA hzwA); (try simp only [World.size_alloc] at hcwA hfwA hzwA))
      | (go_at_call 16; (with_reducible refine (CM.out _ ?_ ?_ ?_ ?_).mono ?_); (focus ((refine Row.more (B := w.heap.size) ?_ (by first | omega | ((try simp only [World.size_drew]); (try simp only [World.size_alloc]); omega))); repeat' (first | with_reducible assumption | (with_reducible refine Row.drew ?_) | (with_reducible refine Row.carry ?_ (by with_reducible assumption) ?_) | (with_reducible refine Row.alloc ?_ ?_ _) | (with_reducible refine Row.setCell ?_ ?_ _) | omega | (simp; done) | (simp; omega)))); (focus ((refine Row.more (B := w.heap.size) ?_ (by first | omega | ((try simp only [World.size_drew]); (try simp only [World.size_alloc]); omega))); repeat' (first | with_reducible assumption | (with_reducible refine Row.drew ?_) | (with_reducible refine Row.carry ?_ (by with_reducible assumption) ?_) | (with_reducible refine Row.alloc ?_ ?_ _) | (with_reducible refine Row.setCell ?_ ?_ _) | omega | (simp; done) | (simp; omega)))); (focus ((refine Row.more (B := w.heap.size) ?_ (by first | omega | ((try simp only [World.size_drew]); (try simp only [World.size_alloc]); omega))); repeat' (first | with_reducible assumption | (with_reducible refine Row.drew ?_) | (with_reducible refine Row.carry ?_ (by with_reducible assumption) ?_) | (with_reducible refine Row.alloc ?_ ?_ _) | (with_reducible refine Row.setCell ?_ ?_ _) | omega | (simp; done) | (simp; omega)))); (focus ((refine Row.more (B := w.heap.size) ?_ (by first | omega | ((try simp only [World.size_drew]); (try simp only [World.size_alloc]); omega))); repeat' (first | with_reducible assumption | (with_reducible refine Row.drew ?_) | (with_reducible refine Row.carry ?_ (by with_reducible assumption) ?_) | (with_reducible refine Row.alloc ?_ ?_ _) | (with_reducible refine Row.setCell ?_ ?_ _) | omega | (simp; done) | (simp; omega)))); rintro e wB ⟨rfl, hbwB⟩; obtain ⟨hcwB, hfwB⟩ := bcell hbwB; have hzwB := hbwB.size; (try simp only [World.size_drew] at hcwB hfwB hzwB); (try simp only [World.size_alloc] at hcwB hfwB hzwB)))
  all_goals
    have zA : W0.heap.size ≤ wA.heap.size := by omega
    have gB : Below w.heap.size w wB := by repeat' (first | with_reducible assumption | with_reducible exact Below.refl _ _ | (with_reducible refine Below.setCell ?_ ?_ _) | (with_reducible refine Below.alloc ?_ ?_ _) | (with_reducible refine Below.drew ?_) | (with_reducible refine below_dr ?_ _) | (with_reducible refine Below.trans ?_ (Below.mono (by with_reducible assumption) ?_)) | omega | (simp; done) | (simp; omega))
    have g0B : Below W0.heap.size W0 wB := by clear b0 gB; repeat' (first | with_reducible assumption | with_reducible exact Below.refl _ _ | (with_reducible refine Below.setCell ?_ ?_ _) | (with_reducible refine Below.alloc ?_ ?_ _) | (with_reducible refine Below.drew ?_) | (with_reducible refine below_dr ?_ _) | (with_reducible refine Below.trans ?_ (Below.mono (by with_reducible assumption) ?_)) | omega | (simp; done) | (simp; omega))
    have atB := at0.below g0B
    have HB := Lib.hid (fun (wr : World) (hb : Below wB.heap.size wB wr) => atB.below hb)
    clear at0 sa5 sa8 sa9 sa10 hcwA hfwA hcwB hfwB hbwA hbwB
    have lB := atB.lt
    clear atB
    cases v0
    case false =>
      go_wp2_with fail
      go_ret
      exact ⟨ret_bool (by rw [← HE.out]; simp), by repeat' (first | with_reducible assumption | with_reducible exact Below.refl _ _ | (with_reducible refine Below.setCell ?_ ?_ _) | (with_reducible refine Below.alloc ?_ ?_ _) | (with_reducible refine Below.drew ?_) | (with_reducible refine below_dr ?_ _) | (with_reducible refine Below.trans ?_ (Below.mono (by with_reducible assumption) ?_)) | omega | (simp; done) | (simp; omega))⟩
    case true =>
      cases u1
      case false =>
        go_upto_region 12 with fail
        refine wp_region_held_drew (S := (fun w' => (∀ b o, b < wB.heap.size → w'.cell? ⟨b, o, none⟩ = wB.cell? ⟨b, o, none⟩) ∧ wB.heap.size ≤ w'.heap.size)) (by kernel_rfl) ?_ (fun hHeld => ?_)
        · (try dsimp only); (first | ((try dsimp only); exact ⟨fun b o h => (by (repeat (first | with_reducible exact rfl | (with_reducible refine (cell_drew_at _ _).trans ?_) | (with_reducible refine (cell_set_at _ _ (by first | omega | (simp; done) | (simp; omega))).trans ?_) | (with_reducible refine (cell_alloc_at _ _ (by first | omega | (simp; done) | (simp; omega))).trans ?_) | (with_reducible refine (hcwF b o (by first | omega | (simp; done) | (simp; omega))).trans ?_) | (with_reducible refine (hcwK b o (by first | omega | (simp; done) | (simp; omega))).trans ?_) | (with_reducible refine (hcwP b o (by first | omega | (simp; done) | (simp; omega))).trans ?_)))), (by first | omega | (simp; done) | (simp; omega))⟩) | fail)
        refine wpAnyH_take (i := 0) (oi := ⟨_, _, _, _, _, _⟩) (v := ?_) rfl (by kernel_rfl) (by kernel_rfl) (by kernel_rfl) (fun _ _ _ h => h) (Or.inl ⟨by rfl, ?_⟩) (by assumption) ?_
        rotate_left
        · intro w hSw; (try dsimp only at hSw); go_simp; (try with_reducible rfl)
        (try simp only [Act.put, List.setIfInBounds_toArray, List.set_cons_zero, List.set_cons_succ])
        refine wpAnyH_take (i := 1) (oi := ⟨_, _, _, _, _, _⟩) (v := ?_) rfl (by kernel_rfl) (by kernel_rfl) (by kernel_rfl) (fun _ _ _ h => h) (Or.inl ⟨by rfl, ?_⟩) (by assumption) ?_
        rotate_left
        · intro w hSw; (try dsimp only at hSw); go_simp; (try with_reducible rfl)
        (try simp only [Act.put, List.setIfInBounds_toArray, List.set_cons_zero, List.set_cons_succ])
        refine wpAnyH_ready (rs := [2]) (by kernel_rfl) (by simp) ?_
        refine AllReadyH.cons (o := ⟨_, _, _, _, _, _⟩) rfl (fun K hK => ?_) AllReadyH.nil
        go_simp
        (go_at_call 18; (with_reducible refine (CF.out _).mono ?_); rintro e wF ⟨rfl, hbwF⟩; obtain ⟨hcwF, hfwF⟩ := bcell hbwF; have hzwF := hbwF.size; (try simp only [World.size_drew] at hcwF hfwF hzwF); (try simp only [World.size_alloc] at hcwF hfwF hzwF))
        refine hK.out _ _ ?_ (fun hHeld => ?_)
        · (try dsimp only); (first | ((try dsimp only); exact ⟨fun b o h => (by (repeat (first | with_reducible exact rfl | (with_reducible refine (cell_drew_at _ _).trans ?_) | (with_reducible refine (cell_set_at _ _ (by first | omega | (simp; done) | (simp; omega))).trans ?_) | (with_reducible refine (cell_alloc_at _ _ (by first | omega | (simp; done) | (simp; omega))).trans ?_) | (with_reducible refine (hcwF b o (by first | omega | (simp; done) | (simp; omega))).trans ?_) | (with_reducible refine (hcwK b o (by first | omega | (simp; done) | (simp; omega))).trans ?_) | (with_reducible refine (hcwP b o (by first | omega | (simp; done) | (simp; omega))).trans ?_)))), (by first | omega | (simp; done) | (simp; omega))⟩) | fail)
        clear hK K
        (try simp only [Act.put, List.setIfInBounds_toArray, List.set_cons_zero, List.set_cons_succ])
        refine wpAnyH_take (i := 3) (oi := ⟨_, _, _, _, _, _⟩) (v := ?_) rfl (by kernel_rfl) (by kernel_rfl) (by kernel_rfl) (fun _ _ _ h => h) (Or.inl ⟨by rfl, ?_⟩) (by assumption) ?_
        rotate_left
        · intro w hSw; (try dsimp only at hSw); go_simp; (try with_reducible rfl)
        (try simp only [Act.put, List.setIfInBounds_toArray, List.set_cons_zero, List.set_cons_succ])
        refine wpAnyH_take (i := 4) (oi := ⟨_, _, _, _, _, _⟩) (v := undef) rfl (by kernel_rfl) (by kernel_rfl) (by kernel_rfl) (fun _ _ _ h => h) (Or.inr ⟨by rfl, rfl⟩) (by assumption) ?_
        (try simp only [Act.put, List.setIfInBounds_toArray, List.set_cons_zero, List.set_cons_succ])
        refine wpAnyH_take (i := 5) (oi := ⟨_, _, _, _, _, _⟩) (v := undef) rfl (by kernel_rfl) (by kernel_rfl) (by kernel_rfl) (fun _ _ _ h => h) (Or.inr ⟨by rfl, rfl⟩) (by assumption) ?_
        (try simp only [Act.put, List.setIfInBounds_toArray, List.set_cons_zero, List.set_cons_succ])
        refine wpAnyH_take (i := 6) (oi := ⟨_, _, _, _, _, _⟩) (v := undef) rfl (by kernel_rfl) (by kernel_rfl) (by kernel_rfl) (fun _ _ _ h => h) (Or.inr ⟨by rfl, rfl⟩) (by assumption) ?_
        (try simp only [Act.put, List.setIfInBounds_toArray, List.set_cons_zero, List.set_cons_succ])
        refine wpAnyH_take (i := 7) (oi := ⟨_, _, _, _, _, _⟩) (v := undef) rfl (by kernel_rfl) (by kernel_rfl) (by kernel_rfl) (fun _ _ _ h => h) (Or.inr ⟨by rfl, rfl⟩) (by assumption) ?_
        (try simp only [Act.put, List.setIfInBounds_toArray, List.set_cons_zero, List.set_cons_succ])
        refine wpAnyH_take (i := 8) (oi := ⟨_, _, _, _, _, _⟩) (v := ?_) rfl (by kernel_rfl) (by kernel_rfl) (by kernel_rfl) (fun _ _ _ h => h) (Or.inl ⟨by rfl, ?_⟩) (by assumption) ?_
        rotate_left
        · intro w hSw; (try dsimp only at hSw); go_simp; (try with_reducible rfl)
        (try simp only [Act.put, List.setIfInBounds_toArray, List.set_cons_zero, List.set_cons_succ])
        refine wpAnyH_take (i := 9) (oi := ⟨_, _, _, _, _, _⟩) (v := ?_) rfl (by kernel_rfl) (by kernel_rfl) (by kernel_rfl) (fun _ _ _ h => h) (Or.inl ⟨by rfl, ?_⟩) (by assumption) ?_
        rotate_left
        · intro w hSw; (try dsimp only at hSw); go_simp; (try with_reducible rfl)
        (try simp only [Act.put, List.setIfInBounds_toArray, List.set_cons_zero, List.set_cons_succ])
        refine wpAnyH_done (by kernel_rfl) ?_ _
        go_wp2_with fail
        go_ret
        exact ⟨ret_bool (by rw [← HE.out]; simp), by repeat' (first | with_reducible assumption | with_reducible exact Below.refl _ _ | (with_reducible refine Below.setCell ?_ ?_ _) | (with_reducible refine Below.alloc ?_ ?_ _) | (with_reducible refine Below.drew ?_) | (with_reducible refine below_dr ?_ _) | (with_reducible refine Below.trans ?_ (Below.mono (by with_reducible assumption) ?_)) | omega | (simp; done) | (simp; omega))⟩
      case true =>
        have zK : True := trivial
        go_upto_region 12 with fail
        refine wp_region_held_drew (S := (fun w' => (∀ b o, b < wB.heap.size → w'.cell? ⟨b, o, none⟩ = wB.cell? ⟨b, o, none⟩) ∧ wB.heap.size ≤ w'.heap.size)) (by kernel_rfl) ?_ (fun hHeld => ?_)
        · (try dsimp only); (first | ((try dsimp only); exact ⟨fun b o h => (by (repeat (first | with_reducible exact rfl | (with_reducible refine (cell_drew_at _ _).trans ?_) | (with_reducible refine (cell_set_at _ _ (by first | omega | (simp; done) | (simp; omega))).trans ?_) | (with_reducible refine (cell_alloc_at _ _ (by first | omega | (simp; done) | (simp; omega))).trans ?_) | (with_reducible refine (hcwF b o (by first | omega | (simp; done) | (simp; omega))).trans ?_) | (with_reducible refine (hcwK b o (by first | omega | (simp; done) | (simp; omega))).trans ?_) | (with_reducible refine (hcwP b o (by first | omega | (simp; done) | (simp; omega))).trans ?_)))), (by first | omega | (simp; done) | (simp; omega))⟩) | fail)
        refine wpAnyH_take (i := 0) (oi := ⟨_, _, _, _, _, _⟩) (v := ?_) rfl (by kernel_rfl) (by kernel_rfl) (by kernel_rfl) (fun _ _ _ h => h) (Or.inl ⟨by rfl, ?_⟩) (by assumption) ?_
        rotate_left
        · intro w hSw; (try dsimp only at hSw); go_simp; (try with_reducible rfl)
        (try simp only [Act.put, List.setIfInBounds_toArray, List.set_cons_zero, List.set_cons_succ])
        refine wpAnyH_take (i := 1) (oi := ⟨_, _, _, _, _, _⟩) (v := ?_) rfl (by kernel_rfl) (by kernel_rfl) (by kernel_rfl) (fun _ _ _ h => h) (Or.inl ⟨by rfl, ?_⟩) (by assumption) ?_
        rotate_left
        · intro w hSw; (try dsimp only at hSw); go_simp; (try with_reducible rfl)
        (try simp only [Act.put, List.setIfInBounds_toArray, List.set_cons_zero, List.set_cons_succ])
        refine wpAnyH_ready (rs := [2]) (by kernel_rfl) (by simp) ?_
        refine AllReadyH.cons (o := ⟨_, _, _, _, _, _⟩) rfl (fun K hK => ?_) AllReadyH.nil
        go_simp
        (go_at_call 18; (with_reducible refine (CF.out _).mono ?_); rintro e wF ⟨rfl, hbwF⟩; obtain ⟨hcwF, hfwF⟩ := bcell hbwF; have hzwF := hbwF.size; (try simp only [World.size_drew] at hcwF hfwF hzwF); (try simp only [World.size_alloc] at hcwF hfwF hzwF))
        refine hK.out _ _ ?_ (fun hHeld => ?_)
        · (try dsimp only); (first | ((try dsimp only); exact ⟨fun b o h => (by (repeat (first | with_reducible exact rfl | (with_reducible refine (cell_drew_at _ _).trans ?_) | (with_reducible refine (cell_set_at _ _ (by first | omega | (simp; done) | (simp; omega))).trans ?_) | (with_reducible refine (cell_alloc_at _ _ (by first | omega | (simp; done) | (simp; omega))).trans ?_) | (with_reducible refine (hcwF b o (by first | omega | (simp; done) | (simp; omega))).trans ?_) | (with_reducible refine (hcwK b o (by first | omega | (simp; done) | (simp; omega))).trans ?_) | (with_reducible refine (hcwP b o (by first | omega | (simp; done) | (simp; omega))).trans ?_)))), (by first | omega | (simp; done) | (simp; omega))⟩) | fail)
        clear hK K
        (try simp only [Act.put, List.setIfInBounds_toArray, List.set_cons_zero, List.set_cons_succ])
        refine wpAnyH_take (i := 3) (oi := ⟨_, _, _, _, _, _⟩) (v := ?_) rfl (by kernel_rfl) (by kernel_rfl) (by kernel_rfl) (fun _ _ _ h => h) (Or.inl ⟨by rfl, ?_⟩) (by assumption) ?_
        rotate_left
        · intro w hSw; (try dsimp only at hSw); go_simp; (try with_reducible rfl)
        (try simp only [Act.put, List.setIfInBounds_toArray, List.set_cons_zero, List.set_cons_succ])
        refine wpAnyH_take (i := 4) (oi := ⟨_, _, _, _, _, _⟩) (v := ?_) rfl (by kernel_rfl) (by kernel_rfl) (by kernel_rfl) (fun _ _ _ h => h) (Or.inl ⟨by rfl, ?_⟩) (by assumption) ?_
        rotate_left
        · intro w hSw; (try dsimp only at hSw); go_simp; (try with_reducible rfl)
        (try simp only [Act.put, List.setIfInBounds_toArray, List.set_cons_zero, List.set_cons_succ])
        refine wpAnyH_take (i := 5) (oi := ⟨_, _, _, _, _, _⟩) (v := ?_) rfl (by kernel_rfl) (by kernel_rfl) (by kernel_rfl) (fun _ _ _ h => h) (Or.inl ⟨by rfl, ?_⟩) (by assumption) ?_
        rotate_left
        · intro w hSw; (try dsimp only at hSw); go_simp; (try with_reducible rfl)
        (try simp only [Act.put, List.setIfInBounds_toArray, List.set_cons_zero, List.set_cons_succ])
        refine wpAnyH_ready (rs := [6]) (by kernel_rfl) (by simp) ?_
        refine AllReadyH.cons (o := ⟨_, _, _, _, _, _⟩) rfl (fun K hK => ?_) AllReadyH.nil
        go_simp
        (go_at_call 22; (with_reducible refine (CK.out _).mono ?_); rintro e wK ⟨rfl, hbwK⟩; obtain ⟨hcwK, hfwK⟩ := bcell hbwK; have hzwK := hbwK.size; (try simp only [World.size_drew] at hcwK hfwK hzwK); (try simp only [World.size_alloc] at hcwK hfwK hzwK))
        refine hK.out _ _ ?_ (fun hHeld => ?_)
        · (try dsimp only); (first | ((try dsimp only); exact ⟨fun b o h => (by (repeat (first | with_reducible exact rfl | (with_reducible refine (cell_drew_at _ _).trans ?_) | (with_reducible refine (cell_set_at _ _ (by first | omega | (simp; done) | (simp; omega))).trans ?_) | (with_reducible refine (cell_alloc_at _ _ (by first | omega | (simp; done) | (simp; omega))).trans ?_) | (with_reducible refine (hcwF b o (by first | omega | (simp; done) | (simp; omega))).trans ?_) | (with_reducible refine (hcwK b o (by first | omega | (simp; done) | (simp; omega))).trans ?_) | (with_reducible refine (hcwP b o (by first | omega | (simp; done) | (simp; omega))).trans ?_)))), (by first | omega | (simp; done) | (simp; omega))⟩) | fail)
        clear hK K
        (try simp only [Act.put, List.setIfInBounds_toArray, List.set_cons_zero, List.set_cons_succ])
        refine wpAnyH_ready (rs := [7]) (by kernel_rfl) (by simp) ?_
        refine AllReadyH.cons (o := ⟨_, _, _, _, _, _⟩) rfl (fun K hK => ?_) AllReadyH.nil
        go_simp
        (go_at_call 21; (with_reducible refine (CP.out _ ?_).mono ?_); (focus ((refine Row.more (B := w.heap.size) ?_ (by first | omega | ((try simp only [World.size_drew]); (try simp only [World.size_alloc]); omega))); repeat' (first | with_reducible assumption | (with_reducible refine Row.drew ?_) | (with_reducible refine Row.carry ?_ (by with_reducible assumption) ?_) | (with_reducible refine Row.alloc ?_ ?_ _) | (with_reducible refine Row.setCell ?_ ?_ _) | omega | (simp; done) | (simp; omega)))); rintro e wP ⟨rfl, hbwP⟩; obtain ⟨hcwP, hfwP⟩ := bcell hbwP; have hzwP := hbwP.size; (try simp only [World.size_drew] at hcwP hfwP hzwP); (try simp only [World.size_alloc] at hcwP hfwP hzwP))
        refine hK.out _ _ ?_ (fun hHeld => ?_)
        · (try dsimp only); (first | ((try dsimp only); exact ⟨fun b o h => (by (repeat (first | with_reducible exact rfl | (with_reducible refine (cell_drew_at _ _).trans ?_) | (with_reducible refine (cell_set_at _ _ (by first | omega | (simp; done) | (simp; omega))).trans ?_) | (with_reducible refine (cell_alloc_at _ _ (by first | omega | (simp; done) | (simp; omega))).trans ?_) | (with_reducible refine (hcwF b o (by first | omega | (simp; done) | (simp; omega))).trans ?_) | (with_reducible refine (hcwK b o (by first | omega | (simp; done) | (simp; omega))).trans ?_) | (with_reducible refine (hcwP b o (by first | omega | (simp; done) | (simp; omega))).trans ?_)))), (by first | omega | (simp; done) | (simp; omega))⟩) | fail)
        clear hK K
        (try simp only [Act.put, List.setIfInBounds_toArray, List.set_cons_zero, List.set_cons_succ])
        refine wpAnyH_take (i := 8) (oi := ⟨_, _, _, _, _, _⟩) (v := ?_) rfl (by kernel_rfl) (by kernel_rfl) (by kernel_rfl) (fun _ _ _ h => h) (Or.inl ⟨by rfl, ?_⟩) (by assumption) ?_
        rotate_left
        · intro w hSw; (try dsimp only at hSw); go_simp; (try with_reducible rfl)
        (try simp only [Act.put, List.setIfInBounds_toArray, List.set_cons_zero, List.set_cons_succ])
        refine wpAnyH_take (i := 9) (oi := ⟨_, _, _, _, _, _⟩) (v := ?_) rfl (by kernel_rfl) (by kernel_rfl) (by kernel_rfl) (fun _ _ _ h => h) (Or.inl ⟨by rfl, ?_⟩) (by assumption) ?_
        rotate_left
        · intro w hSw; (try dsimp only at hSw); go_simp; (try with_reducible rfl)
        (try simp only [Act.put, List.setIfInBounds_toArray, List.set_cons_zero, List.set_cons_succ])
        refine wpAnyH_done (by kernel_rfl) ?_ _
        go_wp2_with fail
        go_ret
        exact ⟨ret_bool (by rw [← HE.out]; simp), by repeat' (first | with_reducible assumption | with_reducible exact Below.refl _ _ | (with_reducible refine Below.setCell ?_ ?_ _) | (with_reducible refine Below.alloc ?_ ?_ _) | (with_reducible refine Below.drew ?_) | (with_reducible refine below_dr ?_ _) | (with_reducible refine Below.trans ?_ (Below.mono (by with_reducible assumption) ?_)) | omega | (simp; done) | (simp; omega))⟩
end Go.Proofs.Ytjpadamlfhceaaa
