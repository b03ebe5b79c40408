/- Walks: which curves are valid, the program's side. -/
import Derived.Test.YtjlmoadnbbeloaaDoorKt
import Derived.Test.YtjlmoadnbbeloaaDoorKv
import Derived.Deep.QuietTactic
import Derived.IntWalk
namespace Go.Proofs.YtjlmoadnbbeloaaDoor
open Go.RowKit
set_option linter.unusedVariables false
theorem eql_pt {a b c d : Int} (w : World) : (Go.binOp BinOp.eql 51 (.agg #[.int .i64 a, .int .i64 b]) (.agg #[.int .i64 c, .int .i64 d])).run Tryd.prog w = Result.ok (.bool (decide (a = c ∧ b = d))) w := by
  by_cases h1 : a = c
  · subst h1
    by_cases h2 : b = d
    · subst h2; simp [go_sem]
    · simp [go_sem, h2]
  · simp [go_sem, h1]
set_option maxHeartbeats 800000 in
theorem first_any (A : Option Addr) (n c : Nat) (cl : Bool) (t : Int) (ff fl : Bool) (fx fy lx ly : Int) (w : World) :
    Calls Tryd.prog 83 #[.agg #[.slice A n c, .bool cl, .int .i64 t, .bool ff, .bool fl, .int .i64 fx, .int .i64 fy, .int .i64 lx, .int .i64 ly]] w fun e w' => e = .returned (.agg #[.bool ff, .int .i64 fx, .int .i64 fy]) ∧ Below w.heap.size w w' := by
  go_enter Tryd.func83, Tryd.ntmps83
  go_wp2
  refine bodyPost_ret (v := .agg #[.bool ff, .int .i64 fx, .int .i64 fy]) (by simp [results, Tryd.results83, go_sem]) rfl ⟨rfl, ?_⟩
  repeat' (first | with_reducible assumption | with_reducible exact Below.refl _ _ | (with_reducible refine Below.setCell ?_ ?_ _) | (with_reducible refine Below.alloc ?_ ?_ _) | (with_reducible refine Below.drew ?_) | (with_reducible refine below_dr ?_ _) | (with_reducible refine Below.trans ?_ (Below.mono (by with_reducible assumption) ?_)) | omega | (simp; done) | (simp; omega))
set_option maxHeartbeats 800000 in
theorem last_any (A : Option Addr) (n c : Nat) (cl : Bool) (t : Int) (ff fl : Bool) (fx fy lx ly : Int) (w : World) :
    Calls Tryd.prog 85 #[.agg #[.slice A n c, .bool cl, .int .i64 t, .bool ff, .bool fl, .int .i64 fx, .int .i64 fy, .int .i64 lx, .int .i64 ly]] w fun e w' => e = .returned (.agg #[.bool fl, .int .i64 lx, .int .i64 ly]) ∧ Below w.heap.size w w' := by
  go_enter Tryd.func85, Tryd.ntmps85
  go_wp2
  refine bodyPost_ret (v := .agg #[.bool fl, .int .i64 lx, .int .i64 ly]) (by simp [results, Tryd.results85, go_sem]) rfl ⟨rfl, ?_⟩
  repeat' (first | with_reducible assumption | with_reducible exact Below.refl _ _ | (with_reducible refine Below.setCell ?_ ?_ _) | (with_reducible refine Below.alloc ?_ ?_ _) | (with_reducible refine Below.drew ?_) | (with_reducible refine below_dr ?_ _) | (with_reducible refine Below.trans ?_ (Below.mono (by with_reducible assumption) ?_)) | omega | (simp; done) | (simp; omega))
theorem endB_n {f : Bool} {x y : Int} (h : okB x y = false) : false = endB f x y := by unfold endB; rw [h]; rfl
theorem endB_t {x y : Int} (h : okB x y = true) : true = endB true x y := by unfold endB; rw [h]; rfl
theorem endB_f {x y : Int} (h : okB x y = true) {v : Bool} (hv : v = decide (x = 0 ∧ y = 0)) : v = endB false x y := by unfold endB; rw [h, hv]; simp
set_option maxHeartbeats 1600000 in
theorem isValid_any (f : Bool) (x y : Int) (w : World) :
    Calls Tryd.prog 84 #[.agg #[.bool f, .int .i64 x, .int .i64 y]] w fun e w' => e = .returned (.bool (endB f x y)) ∧ Below w.heap.size w w' := by
  rcases hv : okB x y with _ | _
  · have HV := Lib.hid hv
    clear hv
    go_enter Tryd.func84, Tryd.ntmps84
    go_wp2_with fail
    refine (implValidPt_any _ _ _).mono ?_
    rw [HV.out]
    rintro e w1 ⟨rfl, hb1⟩
    go_wp2_with fail
    go_ret
    exact ⟨ret_bool (endB_n HV.out), by repeat' (first | with_reducible assumption | with_reducible exact Below.refl _ _ | (with_reducible refine Below.setCell ?_ ?_ _) | (with_reducible refine Below.alloc ?_ ?_ _) | (with_reducible refine Below.drew ?_) | (with_reducible refine below_dr ?_ _) | (with_reducible refine Below.trans ?_ (Below.mono (by with_reducible assumption) ?_)) | omega | (simp; done) | (simp; omega))⟩
  · have HV := Lib.hid hv
    clear hv
    have e1 := fun w => eql_pt (a := x) (b := y) (c := 0) (d := 0) w
    obtain ⟨v, hv⟩ : ∃ v, v = decide (x = 0 ∧ y = 0) := ⟨_, rfl⟩
    rw [← hv] at e1
    have HD := Lib.hid hv
    clear hv
    rcases f with _ | _
    · go_enter Tryd.func84, Tryd.ntmps84
      go_wp2_with fail
      refine (implValidPt_any _ _ _).mono ?_
      rw [HV.out]
      rintro e w1 ⟨rfl, hb1⟩
      have at1 : AtL w.heap.size [.bool false, .int .i64 x, .int .i64 y] w1 := (AtL.new w _ 148).below hb1
      have k0 := at1.cell 0 rfl
      have k1 := at1.cell 1 rfl
      have k2 := at1.cell 2 rfl
      go_wp2_with fail
      go_ret
      exact ⟨ret_bool (endB_f HV.out HD.out), by repeat' (first | with_reducible assumption | with_reducible exact Below.refl _ _ | (with_reducible refine Below.setCell ?_ ?_ _) | (with_reducible refine Below.alloc ?_ ?_ _) | (with_reducible refine Below.drew ?_) | (with_reducible refine below_dr ?_ _) | (with_reducible refine Below.trans ?_ (Below.mono (by with_reducible assumption) ?_)) | omega | (simp; done) | (simp; omega))⟩
    · go_enter Tryd.func84, Tryd.ntmps84
      go_wp2_with fail
      refine (implValidPt_any _ _ _).mono ?_
      rw [HV.out]
      rintro e w1 ⟨rfl, hb1⟩
      have at1 : AtL w.heap.size [.bool true, .int .i64 x, .int .i64 y] w1 := (AtL.new w _ 148).below hb1
      have k0 := at1.cell 0 rfl
      go_wp2_with fail
      go_ret
      exact ⟨ret_bool (endB_t HV.out), by repeat' (first | with_reducible assumption | with_reducible exact Below.refl _ _ | (with_reducible refine Below.setCell ?_ ?_ _) | (with_reducible refine Below.alloc ?_ ?_ _) | (with_reducible refine Below.drew ?_) | (with_reducible refine below_dr ?_ _) | (with_reducible refine Below.trans ?_ (Below.mono (by with_reducible assumption) ?_)) | omega | (simp; done) | (simp; omega))⟩
set_option maxHeartbeats 800000 in
theorem pieces_true (A : Option Addr) (n c : Nat) (t : Int) (ff fl : Bool) (fx fy lx ly : Int) (w : World) (h1 : 1 ≤ n) (h2 : n ≤ 1048576) :
    Calls Tryd.prog 86 #[.agg #[.slice A n c, .bool true, .int .i64 t, .bool ff, .bool fl, .int .i64 fx, .int .i64 fy, .int .i64 lx, .int .i64 ly]] w fun e w' => e = .returned (.int .i64 ((pcs true n : Nat) : Int)) ∧ Below w.heap.size w w' := by
  have H := Lib.hid (show (n : Int) = ((pcs true n : Nat) : Int) by simp [pcs]; try omega)
  go_enter Tryd.func86, Tryd.ntmps86
  go_wp2
  go_ret
  exact ⟨ret_i64 H.out, by repeat' (first | with_reducible assumption | with_reducible exact Below.refl _ _ | (with_reducible refine Below.setCell ?_ ?_ _) | (with_reducible refine Below.alloc ?_ ?_ _) | (with_reducible refine Below.drew ?_) | (with_reducible refine below_dr ?_ _) | (with_reducible refine Below.trans ?_ (Below.mono (by with_reducible assumption) ?_)) | omega | (simp; done) | (simp; omega))⟩
set_option maxHeartbeats 800000 in
theorem pieces_false (A : Option Addr) (n c : Nat) (t : Int) (ff fl : Bool) (fx fy lx ly : Int) (w : World) (h1 : 1 ≤ n) (h2 : n ≤ 1048576) :
    Calls Tryd.prog 86 #[.agg #[.slice A n c, .bool false, .int .i64 t, .bool ff, .bool fl, .int .i64 fx, .int .i64 fy, .int .i64 lx, .int .i64 ly]] w fun e w' => e = .returned (.int .i64 ((pcs false n : Nat) : Int)) ∧ Below w.heap.size w w' := by
  have H := Lib.hid (show ((n : Int) - 1) = ((pcs false n : Nat) : Int) by simp [pcs]; try omega)
  go_enter Tryd.func86, Tryd.ntmps86
  go_wp2
  go_ret
  exact ⟨ret_i64 H.out, by repeat' (first | with_reducible assumption | with_reducible exact Below.refl _ _ | (with_reducible refine Below.setCell ?_ ?_ _) | (with_reducible refine Below.alloc ?_ ?_ _) | (with_reducible refine Below.drew ?_) | (with_reducible refine below_dr ?_ _) | (with_reducible refine Below.trans ?_ (Below.mono (by with_reducible assumption) ?_)) | omega | (simp; done) | (simp; omega))⟩
set_option maxHeartbeats 800000 in
theorem after_any (A : Option Addr) (n c : Nat) (cl : Bool) (t : Int) (ff fl : Bool) (fx fy lx ly : Int) (k j : Nat) (w : World) (h1 : 1 ≤ n) (h2 : n ≤ 1048576) (hk : k < n) (hj : (k + 1) % n = j) :
    Calls Tryd.prog 87 #[.agg #[.slice A n c, .bool cl, .int .i64 t, .bool ff, .bool fl, .int .i64 fx, .int .i64 fy, .int .i64 lx, .int .i64 ly], .int .i64 (k : Int)] w fun e w' => e = .returned (.int .i64 (j : Int)) ∧ Below w.heap.size w w' := by
  have H := Lib.hid (show ((k : Int) + 1).tmod (n : Int) = (j : Int) by rw [← hj, show ((k : Int) + 1) = ((k + 1 : Nat) : Int) by omega]; exact (Int.ofNat_tmod _ _).symm)
  have e0 : ((n : Int) == 0) = false := by simp; omega
  have e1 : ¬ (n : Int) = 0 := by omega
  have hr := Nat.mod_lt (k + 1) (show n > 0 by omega)
  rw [hj] at hr
  have b1 : -9223372036854775808 ≤ ((k : Int) + 1).tmod (n : Int) := by rw [H.out]; omega
  have b2 : ((k : Int) + 1).tmod (n : Int) ≤ 9223372036854775807 := by rw [H.out]; omega
  clear hj hr
  go_enter Tryd.func87, Tryd.ntmps87
  go_wp2
  go_ret
  exact ⟨ret_i64 H.out, by repeat' (first | with_reducible assumption | with_reducible exact Below.refl _ _ | (with_reducible refine Below.setCell ?_ ?_ _) | (with_reducible refine Below.alloc ?_ ?_ _) | (with_reducible refine Below.drew ?_) | (with_reducible refine below_dr ?_ _) | (with_reducible refine Below.trans ?_ (Below.mono (by with_reducible assumption) ?_)) | omega | (simp; done) | (simp; omega))⟩
set_option maxHeartbeats 1600000 in
theorem validPts_rd (l : List APt) (A : Option Addr) (c : Nat) (w : World) (hl : l.length ≤ 1048576) (r : Rd cPt 2 w w.heap.size A l) :
    Calls Tryd.prog 82 #[.slice A l.length c] w fun e w' => e = .returned (.bool (ptsUp l l.length)) ∧ Below w.heap.size w w' := by
  obtain ⟨n, hn⟩ : ∃ n, n = l.length := ⟨_, rfl⟩
  rw [← hn] at hl ⊢
  have HN := Lib.hid hn
  clear hn
  go_enter Tryd.func82, Tryd.ntmps82
  go_wp2
  go_loopw [7] (fun i wr => ∃ k : Nat, k ≤ n ∧ i = .int .i64 k ∧ ptsUp l k = true ∧ Below w.heap.size w wr) (fun i _ => n - (intOf i).toNat)
  case atStart => exact ⟨0, Nat.zero_le _, rfl, rfl, Below.refl _ _⟩
  case round =>
    obtain ⟨k, hk, rfl, hup, hbl⟩ := hrel
    have HUP := Lib.hid hup
    clear hup
    by_cases hlt : k < n
    · obtain ⟨⟨x0, x1⟩, ha⟩ : ∃ a, l[k]? = some a := ⟨l[k]'(by have := HN.out; omega), List.getElem?_eq_getElem (by have := HN.out; omega)⟩
      obtain ⟨g, o, rfl, hg, hc⟩ := (r.below hbl).elem ha
      have c0 : wr.cell? ⟨g, o + k * 2, none⟩ = some (.int .i64 x0) := hc 0 _ rfl
      have c1 : wr.cell? ⟨g, o + k * 2 + 1, none⟩ = some (.int .i64 x1) := hc 1 _ rfl
      have HA := Lib.hid ha
      clear hc ha r
      have hz := hbl.size
      have hki : (k : Int) < (n : Int) := by omega
      rcases hv : okB x0 x1 with _ | _
      · have HV := Lib.hid hv
        clear hv
        go_wp2_with (go_at_call 89; refine (implValidPt_any _ _ _).mono ?_; rw [HV.out]; rintro e w1 ⟨rfl, hb1⟩)
        go_ret
        exact ⟨ret_bool (pts_bad hlt (p_no HA.out HV.out)).symm, (hbl.alloc hz _).trans (hb1.mono (by simp; omega))⟩
      · have HV := Lib.hid hv
        clear hv
        go_wp2_with (go_at_call 89; refine (implValidPt_any _ _ _).mono ?_; rw [HV.out]; rintro e w1 ⟨rfl, hb1⟩)
        go_roundw
        case rel => exact ⟨k + 1, by omega, by go_num, pts_succ HUP.out (p_yes HA.out HV.out), (hbl.alloc hz _).trans (hb1.mono (by simp; omega))⟩
        case measure => simp [intOf]; omega
    · obtain rfl : k = n := by omega
      go_wp2
      go_ret
      exact ⟨ret_bool HUP.out.symm, hbl⟩
end Go.Proofs.YtjlmoadnbbeloaaDoor
