/- Walks: HintsOf and ValidHints, both sides. -/
import Derived.Test.YtdikenapnncmfaaDoorVhe
import Derived.Test.YtdikenapnncmfaaDoorPoi
namespace Go.Proofs.YtdikenapnncmfaaDoor
open Go.RowKit
set_option linter.unusedVariables false
/-- What comes of HintsOf. -/
def HoRet (l : List AHint) (b : Bool) (w : World) (e : Ending) (w' : World) : Prop := ∃ (A : Option Addr) (k : Nat), e = .returned (.tuple #[.slice A l.length k, .bool b]) ∧ OwH 68 w' w.heap.size A l.length k l ∧ Below w.heap.size w w'
theorem ho_nil {w w' : World} (hb : Below w.heap.size w w') : HoRet [] false w (.returned (.tuple #[.slice none 0 0, .bool false])) w' := ⟨none, 0, rfl, OwH.nil _ _, hb⟩
set_option maxRecDepth 100000 in
set_option maxHeartbeats 3200000 in
theorem specHintsOf_any (p : ByteArray) (w : World) (hp : p.size ≤ 1048576) : Calls Tryd.prog 17 #[.string p] w (HoRet (hoL p) (hoB p) w) := by
  have CL := l19List_any p w hp
  rcases hs : spcW p.data.toList with _ | l
  case none =>
    rw [hs] at CL
    have C := Lib.hid (show Calls Tryd.prog 38 #[.string p] w fun e w' => e = .returned (.tuple #[.slice none 0 0, .bool false]) ∧ Below w.heap.size w w' from CL)
    obtain ⟨h1, h2⟩ := ho_none hs
    rw [h1, h2]
    clear CL hs h1 h2
    go_enter Tryd.func17, Tryd.ntmps17
    go_wp2_with (go_at_call 38; refine C.out.mono ?_; rintro e w1 ⟨rfl, hb1⟩)
    refine bodyPost_ret (v := .tuple #[.slice none 0 0, .bool false]) (by simp [results, Tryd.results17, go_sem]) rfl ?_
    exact ho_nil (by repeat' (first | with_reducible assumption | with_reducible exact Below.refl _ _ | (with_reducible refine Below.setCell ?_ ?_ _) | (with_reducible refine Below.alloc ?_ ?_ _) | (with_reducible refine Below.drew ?_) | (with_reducible refine below_dr ?_ _) | (with_reducible refine Below.trans ?_ (Below.mono (by with_reducible assumption) ?_)) | omega | (simp; done) | (simp; omega)))
  case some =>
    rw [hs] at CL
    have C := Lib.hid (show Calls Tryd.prog 38 #[.string p] w fun e w' => ∃ (A : Option Addr) (k : Nat), e = .returned (.tuple #[.slice A l.length k, .bool true]) ∧ OwH 68 w' w.heap.size A l.length k l ∧ Below w.heap.size w w' from CL)
    have hll : l.length ≤ 1048576 := by rw [spcW_dec hs]; have h1 := decW_len p.data.toList; rw [size_list] at h1; omega
    clear CL
    have CN := Lib.hid (fun (A : Option Addr) (c : Nat) (w : World) (r : Rd cHint 2 w w.heap.size A l) => l19Nested_any l A c w hll r)
    by_cases hsz : (400 : Int) < (p.size : Int)
    case pos =>
      have t1 : decide ((400 : Int) < (p.size : Int)) = true := decide_eq_true hsz
      obtain ⟨h1, h2⟩ := ho_long hs (by omega)
      rw [h1, h2]
      clear hs h1 h2 hsz CN
      go_enter Tryd.func17, Tryd.ntmps17
      go_wp2_with (go_at_call 38; refine C.out.mono ?_; rintro e w1 ⟨A, k, rfl, ow1, hb1⟩; have hz1 := hb1.size)
      refine bodyPost_ret (v := .tuple #[.slice none 0 0, .bool false]) (by simp [results, Tryd.results17, go_sem]) rfl ?_
      exact ho_nil (by repeat' (first | with_reducible assumption | with_reducible exact Below.refl _ _ | (with_reducible refine Below.setCell ?_ ?_ _) | (with_reducible refine Below.alloc ?_ ?_ _) | (with_reducible refine Below.drew ?_) | (with_reducible refine below_dr ?_ _) | (with_reducible refine Below.trans ?_ (Below.mono (by with_reducible assumption) ?_)) | omega | (simp; done) | (simp; omega)))
    case neg =>
      have t1 : decide ((400 : Int) < (p.size : Int)) = false := decide_eq_false hsz
      rcases hn : ntB l with _ | _
      case false =>
        obtain ⟨h1, h2⟩ := ho_nest hs hn
        rw [h1, h2]
        clear hs h1 h2 hsz
        go_enter Tryd.func17, Tryd.ntmps17
        go_wp2_with (first | (go_at_call 38; refine C.out.mono ?_; rintro e w1 ⟨A, k, rfl, ow1, hb1⟩; have hz1 := hb1.size) | (go_at_call 39; refine (CN.out _ _ _ (ow1.rd (Nat.le_refl _))).mono ?_; rw [hn]; rintro e w2 ⟨rfl, hb2⟩))
        refine bodyPost_ret (v := .tuple #[.slice none 0 0, .bool false]) (by simp [results, Tryd.results17, go_sem]) rfl ?_
        exact ho_nil (by repeat' (first | with_reducible assumption | with_reducible exact Below.refl _ _ | (with_reducible refine Below.setCell ?_ ?_ _) | (with_reducible refine Below.alloc ?_ ?_ _) | (with_reducible refine Below.drew ?_) | (with_reducible refine below_dr ?_ _) | (with_reducible refine Below.trans ?_ (Below.mono (by with_reducible assumption) ?_)) | omega | (simp; done) | (simp; omega)))
      case true =>
        obtain ⟨h1, h2⟩ := ho_yes hs (by omega) hn
        rw [h1, h2]
        clear hs h1 h2 hsz
        go_enter Tryd.func17, Tryd.ntmps17
        go_wp2_with (first | (go_at_call 38; refine C.out.mono ?_; rintro e w1 ⟨A, k, rfl, ow1, hb1⟩; have hz1 := hb1.size) | (go_at_call 39; refine (CN.out _ _ _ (ow1.rd (Nat.le_refl _))).mono ?_; rw [hn]; rintro e w2 ⟨rfl, hb2⟩))
        refine bodyPost_ret (v := .tuple #[.slice A l.length k, .bool true]) (by simp [results, Tryd.results17, go_sem]) rfl ?_
        exact ⟨A, k, rfl, ow1.stays hb2, by repeat' (first | with_reducible assumption | with_reducible exact Below.refl _ _ | (with_reducible refine Below.setCell ?_ ?_ _) | (with_reducible refine Below.alloc ?_ ?_ _) | (with_reducible refine Below.drew ?_) | (with_reducible refine below_dr ?_ _) | (with_reducible refine Below.trans ?_ (Below.mono (by with_reducible assumption) ?_)) | omega | (simp; done) | (simp; omega))⟩
set_option maxRecDepth 100000 in
set_option maxHeartbeats 3200000 in
theorem implHintsOf_any (p : ByteArray) (w : World) (hp : p.size ≤ 1048576) (hH : HandIs w) : Calls Tryd.prog 18 #[.string p] w (HoRet (hoL p) (hoB p) w) := by
  have hll : (decW p.data.toList).length ≤ 1048576 := by have h1 := decW_len p.data.toList; rw [size_list] at h1; omega
  have C := Lib.hid (decoded_any p w hp)
  have CP := Lib.hid (fun (A : Option Addr) (c : Nat) (w1 : World) (hb : Below w.heap.size w w1) (r : Rd cHint 2 w1 w1.heap.size A (decW p.data.toList)) => implProgramOf_any (decW p.data.toList) A c w1 hll r (hH.stay hb))
  have hyes := @ho_made p
  have hno := @ho_not p
  generalize decW p.data.toList = D at *
  generalize pgV D = V at *
  generalize pgC D = c at *
  clear hH hll
  by_cases h0 : c = 0
  case neg =>
    have t0 : (c != 0) = true := by rw [bne_iff_ne]; exact h0
    obtain ⟨h1, h2⟩ := hno (fun h => h0 h.1)
    rw [h1, h2]
    clear hyes hno h0 h1 h2
    go_enter Tryd.func18, Tryd.ntmps18
    go_wp2_with (first | (go_at_call 40; refine C.out.mono ?_; rintro e w1 ⟨A, k, rfl, ow1, hb1⟩; have hz1 := hb1.size) | (go_at_call 41; refine (CP.out _ _ _ hb1 (ow1.rd (Nat.le_refl _))).mono ?_; rintro e w2 ⟨rfl, hb2⟩))
    refine bodyPost_ret (v := .tuple #[.slice none 0 0, .bool false]) (by simp [results, Tryd.results18, go_sem]) rfl ?_
    exact ho_nil (by repeat' (first | with_reducible assumption | with_reducible exact Below.refl _ _ | (with_reducible refine Below.setCell ?_ ?_ _) | (with_reducible refine Below.alloc ?_ ?_ _) | (with_reducible refine Below.drew ?_) | (with_reducible refine below_dr ?_ _) | (with_reducible refine Below.trans ?_ (Below.mono (by with_reducible assumption) ?_)) | omega | (simp; done) | (simp; omega)))
  case pos =>
    have t0 : (c != 0) = false := by rw [h0]; rfl
    by_cases hv : V = p
    case neg =>
      have t1 : (!(V.toList == p.toList)) = true := by rw [Bool.not_eq_true', beq_eq_false_iff_ne]; intro h; apply hv; exact ByteArray.ext (Array.ext' (by simpa [ByteArray.toList_eq] using h))
      obtain ⟨h1, h2⟩ := hno (fun h => hv h.2)
      rw [h1, h2]
      clear hyes hno hv h1 h2 h0
      go_enter Tryd.func18, Tryd.ntmps18
      go_wp2_with (first | (go_at_call 40; refine C.out.mono ?_; rintro e w1 ⟨A, k, rfl, ow1, hb1⟩; have hz1 := hb1.size) | (go_at_call 41; refine (CP.out _ _ _ hb1 (ow1.rd (Nat.le_refl _))).mono ?_; rintro e w2 ⟨rfl, hb2⟩))
      refine bodyPost_ret (v := .tuple #[.slice none 0 0, .bool false]) (by simp [results, Tryd.results18, go_sem]) rfl ?_
      exact ho_nil (by repeat' (first | with_reducible assumption | with_reducible exact Below.refl _ _ | (with_reducible refine Below.setCell ?_ ?_ _) | (with_reducible refine Below.alloc ?_ ?_ _) | (with_reducible refine Below.drew ?_) | (with_reducible refine below_dr ?_ _) | (with_reducible refine Below.trans ?_ (Below.mono (by with_reducible assumption) ?_)) | omega | (simp; done) | (simp; omega)))
    case pos =>
      obtain ⟨h1, h2⟩ := hyes h0 hv
      rw [h1, h2]
      clear hno hyes h1 h2 h0
      subst hv
      have t1 : (!(V.toList == V.toList)) = false := by simp
      go_enter Tryd.func18, Tryd.ntmps18
      go_wp2_with (first | (go_at_call 40; refine C.out.mono ?_; rintro e w1 ⟨A, k, rfl, ow1, hb1⟩; have hz1 := hb1.size) | (go_at_call 41; refine (CP.out _ _ _ hb1 (ow1.rd (Nat.le_refl _))).mono ?_; rintro e w2 ⟨rfl, hb2⟩))
      refine bodyPost_ret (v := .tuple #[.slice A D.length k, .bool true]) (by simp [results, Tryd.results18, go_sem]) rfl ?_
      exact ⟨A, k, rfl, ow1.stays hb2, by repeat' (first | with_reducible assumption | with_reducible exact Below.refl _ _ | (with_reducible refine Below.setCell ?_ ?_ _) | (with_reducible refine Below.alloc ?_ ?_ _) | (with_reducible refine Below.drew ?_) | (with_reducible refine below_dr ?_ _) | (with_reducible refine Below.trans ?_ (Below.mono (by with_reducible assumption) ?_)) | omega | (simp; done) | (simp; omega))⟩
set_option maxRecDepth 100000 in
set_option maxHeartbeats 3200000 in
theorem specValidHints_any (p : ByteArray) (w : World) (hp : p.size ≤ 1048576) : Calls Tryd.prog 22 #[.string p] w fun e w' => e = .returned (.bool (hoB p)) ∧ Below w.heap.size w w' := by
  have C := Lib.hid (specHintsOf_any p w hp)
  generalize hoB p = b at *
  generalize hoL p = l at *
  skip
  go_enter Tryd.func22, Tryd.ntmps22
  go_wp2_with (go_at_call 17; refine C.out.mono ?_; rintro e w1 ⟨A, k, rfl, ow1, hb1⟩; have hz1 := hb1.size)
  go_ret
  exact ⟨rfl, hb1⟩
set_option maxRecDepth 100000 in
set_option maxHeartbeats 3200000 in
theorem implValidHints_any (p : ByteArray) (w : World) (hp : p.size ≤ 1048576) (hH : HandIs w) : Calls Tryd.prog 23 #[.string p] w fun e w' => e = .returned (.bool (hoB p)) ∧ Below w.heap.size w w' := by
  have C := Lib.hid (implHintsOf_any p w hp hH)
  generalize hoB p = b at *
  generalize hoL p = l at *
  skip
  clear hH
  go_enter Tryd.func23, Tryd.ntmps23
  go_wp2_with (go_at_call 18; refine C.out.mono ?_; rintro e w1 ⟨A, k, rfl, ow1, hb1⟩; have hz1 := hb1.size)
  go_ret
  exact ⟨rfl, hb1⟩
end Go.Proofs.YtdikenapnncmfaaDoor
