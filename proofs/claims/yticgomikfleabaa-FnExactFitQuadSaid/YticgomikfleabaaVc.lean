/- Walks: rings are measured, copied, compared. -/
import Derived.Test.YticgomikfleabaaVb
namespace Go.Proofs.Yticgomikfleabaa
open Go.RowKit
set_option linter.unusedVariables false
theorem ret_i {a b : Int} (h : a = b) : Ending.returned (.int .i64 a) = .returned (.int .i64 b) := by rw [h]
set_option maxHeartbeats 800000 in
theorem szRing_yes (x0A : Option Addr) (x0c : Nat) (x0l : List APt) (left : Int) (w : World) (h0 : 0 ≤ left) (h1 : left ≤ 1048576) (hm : x0l.length ≤ 9223372036854775807) (h : ((x0l.length : Nat) : Int) ≤ left) (r_x0 : Rd cPt 2 w w.heap.size x0A x0l) (hok : ∀ (i : Nat) (a : APt), x0l[i]? = some a → okPt w w.heap.size a) :
    Calls Try.prog 21 #[.agg #[.slice x0A x0l.length x0c], .int .i64 left] w fun e w' => e = .returned (.int .i64 (left - (x0l.length : Nat))) ∧ Below w.heap.size w w' := by
  have HOK : ∀ (w2 : World) (B : Nat) (i : Nat) (a : APt), x0l[i]? = some a → okPt w2 B a := fun _ _ i a h => hok i a h
  have HK := Lib.hid HOK
  clear hok HOK
  have HH := Lib.hid h
  clear h
  obtain ⟨V, hV⟩ : ∃ V : Int, V = left - (x0l.length : Nat) := ⟨_, rfl⟩
  have HV := Lib.hid hV
  rw [← hV]
  clear hV
  go_enter Try.func21, Try.ntmps21
  go_wp2_with fail
  refine (szPtS_yes x0l x0A x0c left _ h0 h1 hm HH.out).mono ?_
  rw [← HV.out]
  rintro e wZ ⟨rfl, hbZ⟩
  have hv : 0 ≤ V := by have := HV.out; have := HH.out; omega
  go_wp2_with fail
  go_ret
  exact ⟨ret_i rfl, by repeat' (first | with_reducible assumption | with_reducible exact Below.refl _ _ | (with_reducible refine Below.setCell ?_ ?_ _) | (with_reducible refine Below.alloc ?_ ?_ _) | (with_reducible refine Below.drew ?_) | (with_reducible refine below_dr ?_ _) | (with_reducible refine Below.trans ?_ (Below.mono (by with_reducible assumption) ?_)) | omega | (simp; done) | (simp; omega))⟩
set_option maxHeartbeats 800000 in
theorem szRing_no (x0A : Option Addr) (x0c : Nat) (x0l : List APt) (left : Int) (w : World) (h0 : 0 ≤ left) (h1 : left ≤ 1048576) (hm : x0l.length ≤ 9223372036854775807) (h : left < ((x0l.length : Nat) : Int)) (r_x0 : Rd cPt 2 w w.heap.size x0A x0l) (hok : ∀ (i : Nat) (a : APt), x0l[i]? = some a → okPt w w.heap.size a) :
    Calls Try.prog 21 #[.agg #[.slice x0A x0l.length x0c], .int .i64 left] w fun e w' => e = .returned (.int .i64 (-1)) ∧ Below w.heap.size w w' := by
  have HOK : ∀ (w2 : World) (B : Nat) (i : Nat) (a : APt), x0l[i]? = some a → okPt w2 B a := fun _ _ i a h => hok i a h
  have HK := Lib.hid HOK
  clear hok HOK
  have HH := Lib.hid h
  clear h
  obtain ⟨V, hV⟩ : ∃ V : Int, V = -1 := ⟨_, rfl⟩
  have HV := Lib.hid hV
  rw [← hV]
  clear hV
  go_enter Try.func21, Try.ntmps21
  go_wp2_with fail
  refine (szPtS_no x0l x0A x0c left _ h0 h1 hm HH.out).mono ?_
  rw [← HV.out]
  rintro e wZ ⟨rfl, hbZ⟩
  have hv : V < 0 := by have := HV.out; have := HH.out; omega
  go_wp2_with fail
  go_ret
  exact ⟨ret_i (by have := HV.out; omega), by repeat' (first | with_reducible assumption | with_reducible exact Below.refl _ _ | (with_reducible refine Below.setCell ?_ ?_ _) | (with_reducible refine Below.alloc ?_ ?_ _) | (with_reducible refine Below.drew ?_) | (with_reducible refine below_dr ?_ _) | (with_reducible refine Below.trans ?_ (Below.mono (by with_reducible assumption) ?_)) | omega | (simp; done) | (simp; omega))⟩
def ToRing (x0A : Option Addr) (x0c : Nat) (x0l : List APt) (w : World) (e : Ending) (w' : World) : Prop := ∃ gx0 : Nat, e = .returned (.agg #[.slice (some ⟨gx0, 0, none⟩) x0l.length x0l.length]) ∧ w'.ownsRow w.heap.size 29 2 (.slice (some ⟨gx0, 0, none⟩) x0l.length x0l.length) x0l.length (cellsF cPt x0l) ∧ Below w.heap.size w w'
set_option maxHeartbeats 1600000 in
theorem toRing_any (x0A : Option Addr) (x0c : Nat) (x0l : List APt) (w : World) (hl_x0 : x0l.length ≤ 1048576) (r_x0 : Rd cPt 2 w w.heap.size x0A x0l) :
    Calls Try.prog 23 #[.agg #[.slice x0A x0l.length x0c]] w (ToRing x0A x0c x0l w) := by
  go_enter Try.func23, Try.ntmps23
  go_wp2_with fail
  refine (toPtS_any x0l x0A x0c _ hl_x0 ?_).mono ?_
  · exact (r_x0.below (by repeat' (first | with_reducible assumption | with_reducible exact Below.refl _ _ | (with_reducible refine Below.setCell ?_ ?_ _) | (with_reducible refine Below.alloc ?_ ?_ _) | (with_reducible refine Below.drew ?_) | (with_reducible refine below_dr ?_ _) | (with_reducible refine Below.trans ?_ (Below.mono (by with_reducible assumption) ?_)) | omega | (simp; done) | (simp; omega)))).more (by (try simp only [World.size_setCell]); (try simp only [World.size_drew]); (try simp only [World.size_alloc]); omega)
  intro e wZ0 hq
  obtain ⟨gx0, rfl, own_x0, hbwZ0⟩ := hq
  replace own_x0 := own_base (base := w.heap.size + 1 + 1 + 1) own_x0 (by (try simp only [World.size_setCell]); (try simp only [World.size_alloc]); omega)
  obtain ⟨hcwZ0, hfwZ0⟩ := bcell hbwZ0
  have hzwZ0 := hbwZ0.size
  (try simp only [World.size_setCell] at hcwZ0 hfwZ0 hzwZ0)
  (try simp only [World.size_drew] at hcwZ0 hfwZ0 hzwZ0)
  (try simp only [World.size_alloc] at hcwZ0 hfwZ0 hzwZ0)
  have qwZ00 : w.heap.size < wZ0.heap.size := by omega
  have qwZ01 : w.heap.size + 1 < wZ0.heap.size := by omega
  have qwZ02 : w.heap.size + 1 + 1 < wZ0.heap.size := by omega
  go_wp2_with fail
  refine bodyPost_ret (v := .agg #[.slice (some ⟨gx0, 0, none⟩) x0l.length x0l.length]) (by simp [results, Try.results23, go_sem, *]) rfl ⟨_, rfl, ?_, ?_⟩
  · repeat (first | with_reducible exact own_base own_x0 (by omega) | (with_reducible refine own_drew ?_) | (with_reducible refine own_far (b2 := w.heap.size + 1 + 1 + 1) ?_ (by simp only; omega) (by omega) _) | (with_reducible refine own_stays ?_ (by with_reducible assumption)))
  · repeat' (first | with_reducible assumption | with_reducible exact Below.refl _ _ | (with_reducible refine Below.setCell ?_ ?_ _) | (with_reducible refine Below.alloc ?_ ?_ _) | (with_reducible refine Below.drew ?_) | (with_reducible refine below_dr ?_ _) | (with_reducible refine Below.trans ?_ (Below.mono (by with_reducible assumption) ?_)) | omega | (simp; done) | (simp; omega))
set_option maxHeartbeats 1600000 in
theorem eqRing_same (x0A : Option Addr) (x0c : Nat) (x0l : List APt) (x0A' : Option Addr) (x0c' : Nat) (w : World) (hl_x0 : x0l.length ≤ 4611686018427387904) (r_x0 : Rd cPt 2 w w.heap.size x0A x0l) (r'_x0 : Rd cPt 2 w w.heap.size x0A' x0l) :
    Calls Try.prog 26 #[.agg #[.slice x0A x0l.length x0c], .agg #[.slice x0A' x0l.length x0c']] w fun e w' => e = .returned (.bool true) ∧ Below w.heap.size w w' := by
  go_enter Try.func26, Try.ntmps26
  go_wp2_with fail
  refine (eqPtS_same x0l x0A x0A' x0c x0c' _ hl_x0 ?_ ?_).mono ?_
  · exact (r_x0.below (by repeat' (first | with_reducible assumption | with_reducible exact Below.refl _ _ | (with_reducible refine Below.setCell ?_ ?_ _) | (with_reducible refine Below.alloc ?_ ?_ _) | (with_reducible refine Below.drew ?_) | (with_reducible refine below_dr ?_ _) | (with_reducible refine Below.trans ?_ (Below.mono (by with_reducible assumption) ?_)) | omega | (simp; done) | (simp; omega)))).more (by (try simp only [World.size_setCell]); (try simp only [World.size_drew]); (try simp only [World.size_alloc]); omega)
  · exact (r'_x0.below (by repeat' (first | with_reducible assumption | with_reducible exact Below.refl _ _ | (with_reducible refine Below.setCell ?_ ?_ _) | (with_reducible refine Below.alloc ?_ ?_ _) | (with_reducible refine Below.drew ?_) | (with_reducible refine below_dr ?_ _) | (with_reducible refine Below.trans ?_ (Below.mono (by with_reducible assumption) ?_)) | omega | (simp; done) | (simp; omega)))).more (by (try simp only [World.size_setCell]); (try simp only [World.size_drew]); (try simp only [World.size_alloc]); omega)
  rintro e wZ0 ⟨rfl, hbwZ0⟩
  obtain ⟨hcwZ0, hfwZ0⟩ := bcell hbwZ0
  have hzwZ0 := hbwZ0.size
  (try simp only [World.size_setCell] at hcwZ0 hfwZ0 hzwZ0)
  (try simp only [World.size_drew] at hcwZ0 hfwZ0 hzwZ0)
  (try simp only [World.size_alloc] at hcwZ0 hfwZ0 hzwZ0)
  have qwZ00 : w.heap.size < wZ0.heap.size := by omega
  have qwZ01 : w.heap.size + 1 < wZ0.heap.size := by omega
  go_wp2_with fail
  go_ret
  exact ⟨rfl, by repeat' (first | with_reducible assumption | with_reducible exact Below.refl _ _ | (with_reducible refine Below.setCell ?_ ?_ _) | (with_reducible refine Below.alloc ?_ ?_ _) | (with_reducible refine Below.drew ?_) | (with_reducible refine below_dr ?_ _) | (with_reducible refine Below.trans ?_ (Below.mono (by with_reducible assumption) ?_)) | omega | (simp; done) | (simp; omega))⟩
end Go.Proofs.Yticgomikfleabaa
