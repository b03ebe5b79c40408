/- Walks: they are measured. -/
import Derived.Test.YtonoldjhfhngfaaDoorSy2
namespace Go.Proofs.YtonoldjhfhngfaaDoor
open Go.RowKit
set_option linter.unusedVariables false
set_option maxHeartbeats 3200000 in
theorem szSystem_any (x0A : Option Addr) (x0c : Nat) (x0l : List DSRow) (left : Int) (w : World) (h0 : 0 ≤ left) (h1 : left ≤ 1048576) (hz : SzSystem x0l) (r_x0 : Row RvSRow 4 w w.heap.size x0A x0l) :
    Calls Tryd.prog 7 #[.agg #[.slice x0A x0l.length x0c], .int .i64 left] w fun e w' => e = .returned (.int .i64 (szV (totSystem x0l) left)) ∧ Below w.heap.size w w' := by
  have HT : totSystem x0l = totRow totSRow x0l := by first | rfl | (simp only [totSystem]; omega) | (simp only [totSystem]; done)
  obtain ⟨V, hV⟩ : ∃ V : Int, V = szV (totSystem x0l) left := ⟨_, rfl⟩
  rw [← hV]
  rw [HT] at hV
  clear HT
  have HV := Lib.hid hV
  clear hV
  replace hz : szRow SzSRow x0l := hz
  have z_x0 := hz
  obtain ⟨T0, hT0⟩ : ∃ T, T = totRow totSRow x0l := ⟨_, rfl⟩
  rw [← hT0] at HV
  go_enter Tryd.func7, Tryd.ntmps7
  go_wp2_with fail
  refine (szSRowS_any x0l x0A x0c (left) _ (by omega) (by omega) z_x0 ?_).mono ?_
  · exact (Row.carry (w' := _) r_x0 (by repeat' (first | with_reducible assumption | with_reducible exact Below.refl _ _ | (with_reducible refine Below.setCell ?_ ?_ _) | (with_reducible refine Below.alloc ?_ ?_ _) | (with_reducible refine Below.drew ?_) | (with_reducible refine below_dr ?_ _) | (with_reducible refine Below.trans ?_ (Below.mono (by with_reducible assumption) ?_)) | omega | (simp; done) | (simp; omega))) (Nat.le_refl _)).more (by (try simp only [World.size_setCell]); (try simp only [World.size_drew]); (try simp only [World.size_alloc]); omega)
  rw [← hT0]
  clear hT0
  by_cases f0 : (T0 : Int) ≤ left
  case neg =>
    rw [szV_no f0]
    rintro e wZ0 ⟨rfl, hbZ0⟩
    have hzZ0 := hbZ0.size
    have H := Lib.hid (show (-1 : Int) = V by rw [HV.out, szV_no (by omega)])
    go_wp2_with fail
    go_ret
    exact ⟨ret_i H.out, by repeat' (first | with_reducible assumption | with_reducible exact Below.refl _ _ | (with_reducible refine Below.setCell ?_ ?_ _) | (with_reducible refine Below.alloc ?_ ?_ _) | (with_reducible refine Below.drew ?_) | (with_reducible refine below_dr ?_ _) | (with_reducible refine Below.trans ?_ (Below.mono (by with_reducible assumption) ?_)) | omega | (simp; done) | (simp; omega))⟩
  case pos =>
    rw [szV_yes f0]
    obtain ⟨L0, hL0⟩ : ∃ L, L = left - (T0 : Int) := ⟨_, rfl⟩
    rw [← hL0]
    have hl0 : 0 ≤ L0 ∧ L0 ≤ 1048576 := by omega
    have HL0 := Lib.hid hL0
    clear hL0 f0
    obtain ⟨hl0, hm0⟩ := hl0
    rintro e wZ0 ⟨rfl, hbZ0⟩
    obtain ⟨hcZ0, hfZ0⟩ := bcell hbZ0
    have hzZ0 := hbZ0.size
    (try simp only [World.size_alloc] at hcZ0 hfZ0 hzZ0)
    have qZ0 : w.heap.size < wZ0.heap.size := by omega
    have H := Lib.hid (show L0 = V by rw [HV.out, szV_yes (by have := HL0.out; omega)]; have := HL0.out; omega)
    go_wp2_with fail
    go_ret
    exact ⟨ret_i H.out, by repeat' (first | with_reducible assumption | with_reducible exact Below.refl _ _ | (with_reducible refine Below.setCell ?_ ?_ _) | (with_reducible refine Below.alloc ?_ ?_ _) | (with_reducible refine Below.drew ?_) | (with_reducible refine below_dr ?_ _) | (with_reducible refine Below.trans ?_ (Below.mono (by with_reducible assumption) ?_)) | omega | (simp; done) | (simp; omega))⟩
end Go.Proofs.YtonoldjhfhngfaaDoor
