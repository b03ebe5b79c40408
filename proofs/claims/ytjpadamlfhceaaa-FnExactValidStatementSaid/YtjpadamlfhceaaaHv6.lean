/- Walks: the expressions of a statement, the reference's side. -/
import Derived.Test.YtjpadamlfhceaaaHv5
namespace Go.Proofs.Ytjpadamlfhceaaa
open Go.RowKit
set_option linter.unusedVariables false
theorem AtO.of_at {b : Nat} {vs us : List Value} {wx : World} (p : Nat) (h : AtL b vs wx) (hu : ∀ (i : Nat) (v : Value), us[i]? = some v → vs[p + i]? = some v) : AtO b p us wx := ⟨fun i v hv => h.cell (p + i) (hu i v hv), h.lt⟩
def sidesB (k ln ld : Int) (lt : List DTerm) (rn rd : Int) (rt : List DTerm) : Bool :=
  if k = 1 then frLin ln ld lt && (decide ((lt.length : Int) = 0) && noneB rn rd rt) else if k = 2 then frLin ln ld lt && frLin rn rd rt else noneB ln ld lt && noneB rn rd rt
set_option maxHeartbeats 6400000 in
theorem l07Sides_any (a0 : Int) (a1 : ByteArray) (a2 : ByteArray) (a3 : Int) (a4 : Int) (a5A : Option Addr) (a5c : Nat) (a5l : List DTerm) (a6 : Int) (a7 : Int) (a8A : Option Addr) (a8c : Nat) (a8l : List DTerm) (a9A : Option Addr) (a9c : Nat) (a9l : List DString) (a10A : Option Addr) (a10c : Nat) (a10l : List DInt64) (a11 : Bool) (a12 : Bool) (b : Nat) (w : World) (at0 : AtL b [.int .i64 a0, .string a1, .string a2, .int .i64 a3, .int .i64 a4, .slice a5A a5l.length a5c, .int .i64 a6, .int .i64 a7, .slice a8A a8l.length a8c, .slice a9A a9l.length a9c, .slice a10A a10l.length a10c, .bool a11, .bool a12] w) (i_a3 : (-9223372036854775808 ≤ a3 ∧ a3 ≤ 9223372036854775807)) (i_a4 : (-9223372036854775808 ≤ a4 ∧ a4 ≤ 9223372036854775807)) (i_a6 : (-9223372036854775808 ≤ a6 ∧ a6 ≤ 9223372036854775807)) (i_a7 : (-9223372036854775808 ≤ a7 ∧ a7 ≤ 9223372036854775807)) (hl_a5 : a5l.length ≤ 1048576) (hl_a8 : a8l.length ≤ 1048576) (r_a5 : Row RvTerm 3 w w.heap.size a5A a5l) (r_a8 : Row RvTerm 3 w w.heap.size a8A a8l) (ok_a5 : (∀ (w2 : World) (B : Nat) (i : Nat) (b : ATerm), a5l[i]? = some b → okTerm w2 B b)) (ok_a8 : (∀ (w2 : World) (B : Nat) (i : Nat) (b : ATerm), a8l[i]? = some b → okTerm w2 B b)) : Calls Try.prog 29 #[.pointer (some ⟨b, 0, none⟩)] w fun e w' => e = .returned (.bool (sidesB a0 a3 a4 a5l a6 a7 a8l)) ∧ Below w.heap.size w w' := by
  have HC := Lib.hid (fun (wr : World) (hb : Below w.heap.size w wr) => at0.below hb)
  have CL := Lib.hid (fun (wr : World) (hb : Below w.heap.size w wr) => l07LinearO_any a3 a4 a5A a5c b 3 a5l wr i_a3 i_a4 hl_a5 (AtO.of_at 3 (HC.out wr hb) (by intro i v h; rcases i with _ | _ | _ | i <;> first | (simp at h; subst h; rfl) | (simp at h))) ((r_a5.carry hb (Nat.le_refl _)).more hb.size) ok_a5)
  have CR := Lib.hid (fun (wr : World) (hb : Below w.heap.size w wr) => l07LinearO_any a6 a7 a8A a8c b 6 a8l wr i_a6 i_a7 hl_a8 (AtO.of_at 6 (HC.out wr hb) (by intro i v h; rcases i with _ | _ | _ | i <;> first | (simp at h; subst h; rfl) | (simp at h))) ((r_a8.carry hb (Nat.le_refl _)).more hb.size) ok_a8)
  have NL := Lib.hid (fun (wr : World) (hb : Below w.heap.size w wr) => l07NoneO_any a3 a4 a5A a5c b 3 a5l wr hl_a5 (AtO.of_at 3 (HC.out wr hb) (by intro i v h; rcases i with _ | _ | _ | i <;> first | (simp at h; subst h; rfl) | (simp at h))))
  have NR := Lib.hid (fun (wr : World) (hb : Below w.heap.size w wr) => l07NoneO_any a6 a7 a8A a8c b 6 a8l wr hl_a8 (AtO.of_at 6 (HC.out wr hb) (by intro i v h; rcases i with _ | _ | _ | i <;> first | (simp at h; subst h; rfl) | (simp at h))))
  have k0 := at0.cell 0 rfl
  have lb := at0.lt
  clear at0 i_a3 i_a4 i_a6 i_a7 r_a5 r_a8 ok_a5 ok_a8
  have FL := beq_dec (a5l.length : Int) 0
  unfold sidesB
  by_cases h1 : a0 = 1
  case pos =>
    subst h1
    rw [if_pos rfl]
    clear CR NL
    generalize frLin a3 a4 a5l = v1 at CL ⊢
    generalize noneB a6 a7 a8l = v3 at NR ⊢
    generalize decide ((a5l.length : Int) = 0) = v2 at FL ⊢
    go_enter Try.func29, Try.ntmps29
    go_wp2_with fail
    refine (CL.out _ (by repeat' (first | with_reducible assumption | with_reducible exact Below.refl _ _ | (with_reducible refine Below.setCell ?_ ?_ _) | (with_reducible refine Below.alloc ?_ ?_ _) | (with_reducible refine Below.drew ?_) | (with_reducible refine below_dr ?_ _) | (with_reducible refine Below.trans ?_ (Below.mono (by with_reducible assumption) ?_)) | omega | (simp; done) | (simp; omega)))).mono ?_
    rintro e w1 ⟨rfl, hb1⟩
    have g1 : Below w.heap.size w w1 := by repeat' (first | with_reducible assumption | with_reducible exact Below.refl _ _ | (with_reducible refine Below.setCell ?_ ?_ _) | (with_reducible refine Below.alloc ?_ ?_ _) | (with_reducible refine Below.drew ?_) | (with_reducible refine below_dr ?_ _) | (with_reducible refine Below.trans ?_ (Below.mono (by with_reducible assumption) ?_)) | omega | (simp; done) | (simp; omega))
    have z1 := g1.size
    have at1 := HC.out _ g1
    have j1 := at1.cell 5 rfl
    have lb1 := at1.lt
    clear at1 hb1
    cases v1
    case false =>
      go_wp2_with fail
      go_ret
      exact ⟨ret_bool (by simp), by repeat' (first | with_reducible assumption | with_reducible exact Below.refl _ _ | (with_reducible refine Below.setCell ?_ ?_ _) | (with_reducible refine Below.alloc ?_ ?_ _) | (with_reducible refine Below.drew ?_) | (with_reducible refine below_dr ?_ _) | (with_reducible refine Below.trans ?_ (Below.mono (by with_reducible assumption) ?_)) | omega | (simp; done) | (simp; omega))⟩
    case true =>
      cases v2
      case false =>
        go_wp2_with fail
        go_ret
        exact ⟨ret_bool (by simp), by repeat' (first | with_reducible assumption | with_reducible exact Below.refl _ _ | (with_reducible refine Below.setCell ?_ ?_ _) | (with_reducible refine Below.alloc ?_ ?_ _) | (with_reducible refine Below.drew ?_) | (with_reducible refine below_dr ?_ _) | (with_reducible refine Below.trans ?_ (Below.mono (by with_reducible assumption) ?_)) | omega | (simp; done) | (simp; omega))⟩
      case true =>
        go_wp2_with fail
        refine (NR.out _ (by repeat' (first | with_reducible assumption | with_reducible exact Below.refl _ _ | (with_reducible refine Below.setCell ?_ ?_ _) | (with_reducible refine Below.alloc ?_ ?_ _) | (with_reducible refine Below.drew ?_) | (with_reducible refine below_dr ?_ _) | (with_reducible refine Below.trans ?_ (Below.mono (by with_reducible assumption) ?_)) | omega | (simp; done) | (simp; omega)))).mono ?_
        rintro e w2 ⟨rfl, hb2⟩
        have g2 : Below w.heap.size w w2 := by repeat' (first | with_reducible assumption | with_reducible exact Below.refl _ _ | (with_reducible refine Below.setCell ?_ ?_ _) | (with_reducible refine Below.alloc ?_ ?_ _) | (with_reducible refine Below.drew ?_) | (with_reducible refine below_dr ?_ _) | (with_reducible refine Below.trans ?_ (Below.mono (by with_reducible assumption) ?_)) | omega | (simp; done) | (simp; omega))
        have z2 := g2.size
        have at2 := HC.out _ g2
        have j2 := at2.cell 0 rfl
        have lb2 := at2.lt
        clear at2 hb2
        go_wp2_with fail
        go_ret
        exact ⟨ret_bool (by simp), by repeat' (first | with_reducible assumption | with_reducible exact Below.refl _ _ | (with_reducible refine Below.setCell ?_ ?_ _) | (with_reducible refine Below.alloc ?_ ?_ _) | (with_reducible refine Below.drew ?_) | (with_reducible refine below_dr ?_ _) | (with_reducible refine Below.trans ?_ (Below.mono (by with_reducible assumption) ?_)) | omega | (simp; done) | (simp; omega))⟩
  case neg =>
    rw [if_neg h1]
    have e1 : ((a0 : Int) == 1) = false := by simpa using h1
    clear h1
    by_cases h2 : a0 = 2
    case pos =>
      subst h2
      rw [if_pos rfl]
      clear NL NR FL
      generalize frLin a3 a4 a5l = v1 at CL ⊢
      generalize frLin a6 a7 a8l = v2 at CR ⊢
      go_enter Try.func29, Try.ntmps29
      go_wp2_with fail
      refine (CL.out _ (by repeat' (first | with_reducible assumption | with_reducible exact Below.refl _ _ | (with_reducible refine Below.setCell ?_ ?_ _) | (with_reducible refine Below.alloc ?_ ?_ _) | (with_reducible refine Below.drew ?_) | (with_reducible refine below_dr ?_ _) | (with_reducible refine Below.trans ?_ (Below.mono (by with_reducible assumption) ?_)) | omega | (simp; done) | (simp; omega)))).mono ?_
      rintro e w1 ⟨rfl, hb1⟩
      have g1 : Below w.heap.size w w1 := by repeat' (first | with_reducible assumption | with_reducible exact Below.refl _ _ | (with_reducible refine Below.setCell ?_ ?_ _) | (with_reducible refine Below.alloc ?_ ?_ _) | (with_reducible refine Below.drew ?_) | (with_reducible refine below_dr ?_ _) | (with_reducible refine Below.trans ?_ (Below.mono (by with_reducible assumption) ?_)) | omega | (simp; done) | (simp; omega))
      have z1 := g1.size
      have at1 := HC.out _ g1
      have j1 := at1.cell 0 rfl
      have lb1 := at1.lt
      clear at1 hb1
      cases v1
      case false =>
        go_wp2_with fail
        go_ret
        exact ⟨ret_bool (by simp), by repeat' (first | with_reducible assumption | with_reducible exact Below.refl _ _ | (with_reducible refine Below.setCell ?_ ?_ _) | (with_reducible refine Below.alloc ?_ ?_ _) | (with_reducible refine Below.drew ?_) | (with_reducible refine below_dr ?_ _) | (with_reducible refine Below.trans ?_ (Below.mono (by with_reducible assumption) ?_)) | omega | (simp; done) | (simp; omega))⟩
      case true =>
        go_wp2_with fail
        refine (CR.out _ (by repeat' (first | with_reducible assumption | with_reducible exact Below.refl _ _ | (with_reducible refine Below.setCell ?_ ?_ _) | (with_reducible refine Below.alloc ?_ ?_ _) | (with_reducible refine Below.drew ?_) | (with_reducible refine below_dr ?_ _) | (with_reducible refine Below.trans ?_ (Below.mono (by with_reducible assumption) ?_)) | omega | (simp; done) | (simp; omega)))).mono ?_
        rintro e w2 ⟨rfl, hb2⟩
        have g2 : Below w.heap.size w w2 := by repeat' (first | with_reducible assumption | with_reducible exact Below.refl _ _ | (with_reducible refine Below.setCell ?_ ?_ _) | (with_reducible refine Below.alloc ?_ ?_ _) | (with_reducible refine Below.drew ?_) | (with_reducible refine below_dr ?_ _) | (with_reducible refine Below.trans ?_ (Below.mono (by with_reducible assumption) ?_)) | omega | (simp; done) | (simp; omega))
        have z2 := g2.size
        have at2 := HC.out _ g2
        have j2 := at2.cell 0 rfl
        have lb2 := at2.lt
        clear at2 hb2
        go_wp2_with fail
        go_ret
        exact ⟨ret_bool (by simp), by repeat' (first | with_reducible assumption | with_reducible exact Below.refl _ _ | (with_reducible refine Below.setCell ?_ ?_ _) | (with_reducible refine Below.alloc ?_ ?_ _) | (with_reducible refine Below.drew ?_) | (with_reducible refine below_dr ?_ _) | (with_reducible refine Below.trans ?_ (Below.mono (by with_reducible assumption) ?_)) | omega | (simp; done) | (simp; omega))⟩
    case neg =>
      rw [if_neg h2]
      have e2 : ((a0 : Int) == 2) = false := by simpa using h2
      clear h2 CL CR FL
      generalize noneB a3 a4 a5l = v1 at NL ⊢
      generalize noneB a6 a7 a8l = v2 at NR ⊢
      go_enter Try.func29, Try.ntmps29
      go_wp2_with fail
      refine (NL.out _ (by repeat' (first | with_reducible assumption | with_reducible exact Below.refl _ _ | (with_reducible refine Below.setCell ?_ ?_ _) | (with_reducible refine Below.alloc ?_ ?_ _) | (with_reducible refine Below.drew ?_) | (with_reducible refine below_dr ?_ _) | (with_reducible refine Below.trans ?_ (Below.mono (by with_reducible assumption) ?_)) | omega | (simp; done) | (simp; omega)))).mono ?_
      rintro e w1 ⟨rfl, hb1⟩
      have g1 : Below w.heap.size w w1 := by repeat' (first | with_reducible assumption | with_reducible exact Below.refl _ _ | (with_reducible refine Below.setCell ?_ ?_ _) | (with_reducible refine Below.alloc ?_ ?_ _) | (with_reducible refine Below.drew ?_) | (with_reducible refine below_dr ?_ _) | (with_reducible refine Below.trans ?_ (Below.mono (by with_reducible assumption) ?_)) | omega | (simp; done) | (simp; omega))
      have z1 := g1.size
      have at1 := HC.out _ g1
      have j1 := at1.cell 0 rfl
      have lb1 := at1.lt
      clear at1 hb1
      cases v1
      case false =>
        go_wp2_with fail
        go_ret
        exact ⟨ret_bool (by simp), by repeat' (first | with_reducible assumption | with_reducible exact Below.refl _ _ | (with_reducible refine Below.setCell ?_ ?_ _) | (with_reducible refine Below.alloc ?_ ?_ _) | (with_reducible refine Below.drew ?_) | (with_reducible refine below_dr ?_ _) | (with_reducible refine Below.trans ?_ (Below.mono (by with_reducible assumption) ?_)) | omega | (simp; done) | (simp; omega))⟩
      case true =>
        go_wp2_with fail
        refine (NR.out _ (by repeat' (first | with_reducible assumption | with_reducible exact Below.refl _ _ | (with_reducible refine Below.setCell ?_ ?_ _) | (with_reducible refine Below.alloc ?_ ?_ _) | (with_reducible refine Below.drew ?_) | (with_reducible refine below_dr ?_ _) | (with_reducible refine Below.trans ?_ (Below.mono (by with_reducible assumption) ?_)) | omega | (simp; done) | (simp; omega)))).mono ?_
        rintro e w2 ⟨rfl, hb2⟩
        have g2 : Below w.heap.size w w2 := by repeat' (first | with_reducible assumption | with_reducible exact Below.refl _ _ | (with_reducible refine Below.setCell ?_ ?_ _) | (with_reducible refine Below.alloc ?_ ?_ _) | (with_reducible refine Below.drew ?_) | (with_reducible refine below_dr ?_ _) | (with_reducible refine Below.trans ?_ (Below.mono (by with_reducible assumption) ?_)) | omega | (simp; done) | (simp; omega))
        have z2 := g2.size
        have at2 := HC.out _ g2
        have j2 := at2.cell 0 rfl
        have lb2 := at2.lt
        clear at2 hb2
        go_wp2_with fail
        go_ret
        exact ⟨ret_bool (by simp), by repeat' (first | with_reducible assumption | with_reducible exact Below.refl _ _ | (with_reducible refine Below.setCell ?_ ?_ _) | (with_reducible refine Below.alloc ?_ ?_ _) | (with_reducible refine Below.drew ?_) | (with_reducible refine below_dr ?_ _) | (with_reducible refine Below.trans ?_ (Below.mono (by with_reducible assumption) ?_)) | omega | (simp; done) | (simp; omega))⟩
end Go.Proofs.Ytjpadamlfhceaaa
