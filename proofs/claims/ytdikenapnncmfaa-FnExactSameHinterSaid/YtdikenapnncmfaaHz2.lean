/- Walks: they are measured. -/
import Derived.Test.YtdikenapnncmfaaHz1
import Derived.Test.YtdikenapnncmfaaMem
import Derived.Test.YtdikenapnncmfaaAw
import Derived.IntWalk
namespace Go.Proofs.Ytdikenapnncmfaa
open Go.RowKit
set_option linter.unusedVariables false
set_option maxHeartbeats 3200000 in
theorem szInt64S_any (l : List DInt64) (A : Option Addr) (c : Nat) (left : Int) (w : World) (h0 : 0 ≤ left) (h1 : left ≤ 1048576) (hz : szRow SzInt64 l) (r : Row RvInt64 1 w w.heap.size A l) :
    Calls Try.prog 99 #[.slice A l.length c, .int .i64 left] w fun e w' => e = .returned (.int .i64 (szV (totRow totInt64 l) left)) ∧ Below w.heap.size w w' := by
  obtain ⟨hlen, hel⟩ := hz
  have HEL := Lib.hid hel
  clear hel
  obtain ⟨V, hV⟩ : ∃ V : Int, V = szV (totRow totInt64 l) left := ⟨_, rfl⟩
  have HV := Lib.hid hV
  rw [← hV]
  clear hV
  have hln := totRow_len totInt64 l
  rw [totRow_flat (f := totInt64) (fun _ => rfl)] at HV
  unfold maxLen at hlen
  by_cases f : (l.length : Int) ≤ left
  case pos =>
    have H := Lib.hid (show left - l.length = V by rw [HV.out, szV_yes f])
    have f2 : 0 ≤ left - (l.length : Int) := by omega
    generalize l.length = n at *
    go_enter Try.func99, Try.ntmps99
    go_wp2_with fail
    go_ret
    exact ⟨ret_i H.out, by repeat' (first | with_reducible assumption | with_reducible exact Below.refl _ _ | (with_reducible refine Below.setCell ?_ ?_ _) | (with_reducible refine Below.alloc ?_ ?_ _) | (with_reducible refine Below.drew ?_) | (with_reducible refine below_dr ?_ _) | (with_reducible refine Below.trans ?_ (Below.mono (by with_reducible assumption) ?_)) | omega | (simp; done) | (simp; omega))⟩
  case neg =>
    have H := Lib.hid (show (-1 : Int) = V by rw [HV.out, szV_no f])
    have f2 : left - (l.length : Int) < 0 := by omega
    generalize l.length = n at *
    go_enter Try.func99, Try.ntmps99
    go_wp2_with fail
    go_ret
    exact ⟨ret_i H.out, by repeat' (first | with_reducible assumption | with_reducible exact Below.refl _ _ | (with_reducible refine Below.setCell ?_ ?_ _) | (with_reducible refine Below.alloc ?_ ?_ _) | (with_reducible refine Below.drew ?_) | (with_reducible refine below_dr ?_ _) | (with_reducible refine Below.trans ?_ (Below.mono (by with_reducible assumption) ?_)) | omega | (simp; done) | (simp; omega))⟩
set_option maxHeartbeats 3200000 in
theorem szPtS_any (l : List DPt) (A : Option Addr) (c : Nat) (left : Int) (w : World) (h0 : 0 ≤ left) (h1 : left ≤ 1048576) (hz : szRow SzPt l) (r : Row RvPt 2 w w.heap.size A l) :
    Calls Try.prog 97 #[.slice A l.length c, .int .i64 left] w fun e w' => e = .returned (.int .i64 (szV (totRow totPt l) left)) ∧ Below w.heap.size w w' := by
  obtain ⟨hlen, hel⟩ := hz
  have HEL := Lib.hid hel
  clear hel
  obtain ⟨V, hV⟩ : ∃ V : Int, V = szV (totRow totPt l) left := ⟨_, rfl⟩
  have HV := Lib.hid hV
  rw [← hV]
  clear hV
  have hln := totRow_len totPt l
  rw [totRow_flat (f := totPt) (fun _ => rfl)] at HV
  unfold maxLen at hlen
  by_cases f : (l.length : Int) ≤ left
  case pos =>
    have H := Lib.hid (show left - l.length = V by rw [HV.out, szV_yes f])
    have f2 : 0 ≤ left - (l.length : Int) := by omega
    generalize l.length = n at *
    go_enter Try.func97, Try.ntmps97
    go_wp2_with fail
    go_ret
    exact ⟨ret_i H.out, by repeat' (first | with_reducible assumption | with_reducible exact Below.refl _ _ | (with_reducible refine Below.setCell ?_ ?_ _) | (with_reducible refine Below.alloc ?_ ?_ _) | (with_reducible refine Below.drew ?_) | (with_reducible refine below_dr ?_ _) | (with_reducible refine Below.trans ?_ (Below.mono (by with_reducible assumption) ?_)) | omega | (simp; done) | (simp; omega))⟩
  case neg =>
    have H := Lib.hid (show (-1 : Int) = V by rw [HV.out, szV_no f])
    have f2 : left - (l.length : Int) < 0 := by omega
    generalize l.length = n at *
    go_enter Try.func97, Try.ntmps97
    go_wp2_with fail
    go_ret
    exact ⟨ret_i H.out, by repeat' (first | with_reducible assumption | with_reducible exact Below.refl _ _ | (with_reducible refine Below.setCell ?_ ?_ _) | (with_reducible refine Below.alloc ?_ ?_ _) | (with_reducible refine Below.drew ?_) | (with_reducible refine below_dr ?_ _) | (with_reducible refine Below.trans ?_ (Below.mono (by with_reducible assumption) ?_)) | omega | (simp; done) | (simp; omega))⟩
set_option maxHeartbeats 3200000 in
theorem szBoolS_any (l : List DBool) (A : Option Addr) (c : Nat) (left : Int) (w : World) (h0 : 0 ≤ left) (h1 : left ≤ 1048576) (hz : szRow SzBool l) (r : Row RvBool 1 w w.heap.size A l) :
    Calls Try.prog 98 #[.slice A l.length c, .int .i64 left] w fun e w' => e = .returned (.int .i64 (szV (totRow totBool l) left)) ∧ Below w.heap.size w w' := by
  obtain ⟨hlen, hel⟩ := hz
  have HEL := Lib.hid hel
  clear hel
  obtain ⟨V, hV⟩ : ∃ V : Int, V = szV (totRow totBool l) left := ⟨_, rfl⟩
  have HV := Lib.hid hV
  rw [← hV]
  clear hV
  have hln := totRow_len totBool l
  rw [totRow_flat (f := totBool) (fun _ => rfl)] at HV
  unfold maxLen at hlen
  by_cases f : (l.length : Int) ≤ left
  case pos =>
    have H := Lib.hid (show left - l.length = V by rw [HV.out, szV_yes f])
    have f2 : 0 ≤ left - (l.length : Int) := by omega
    generalize l.length = n at *
    go_enter Try.func98, Try.ntmps98
    go_wp2_with fail
    go_ret
    exact ⟨ret_i H.out, by repeat' (first | with_reducible assumption | with_reducible exact Below.refl _ _ | (with_reducible refine Below.setCell ?_ ?_ _) | (with_reducible refine Below.alloc ?_ ?_ _) | (with_reducible refine Below.drew ?_) | (with_reducible refine below_dr ?_ _) | (with_reducible refine Below.trans ?_ (Below.mono (by with_reducible assumption) ?_)) | omega | (simp; done) | (simp; omega))⟩
  case neg =>
    have H := Lib.hid (show (-1 : Int) = V by rw [HV.out, szV_no f])
    have f2 : left - (l.length : Int) < 0 := by omega
    generalize l.length = n at *
    go_enter Try.func98, Try.ntmps98
    go_wp2_with fail
    go_ret
    exact ⟨ret_i H.out, by repeat' (first | with_reducible assumption | with_reducible exact Below.refl _ _ | (with_reducible refine Below.setCell ?_ ?_ _) | (with_reducible refine Below.alloc ?_ ?_ _) | (with_reducible refine Below.drew ?_) | (with_reducible refine below_dr ?_ _) | (with_reducible refine Below.trans ?_ (Below.mono (by with_reducible assumption) ?_)) | omega | (simp; done) | (simp; omega))⟩
end Go.Proofs.Ytdikenapnncmfaa
