/- Walks: expressions are copied, compared, marked and looked at again. -/
import Derived.Test.YtjlmoadnbbeloaaDoorHm
namespace Go.Proofs.YtjlmoadnbbeloaaDoor
open Go.RowKit
set_option linter.unusedVariables false
theorem ret_i {a b : Int} (h : a = b) : Ending.returned (.int .i64 a) = .returned (.int .i64 b) := by rw [h]
set_option maxHeartbeats 800000 in
theorem szLinear_yes (x0 : Int) (x1 : Int) (x2A : Option Addr) (x2c : Nat) (x2l : List ATerm) (left : Int) (w : World) (h0 : 0 ≤ left) (h1 : left ≤ 1048576) (hm : x2l.length ≤ 9223372036854775807) (h : ((x2l.length + totTerm x2l : Nat) : Int) ≤ left) (r_x2 : Rd cTerm 3 w w.heap.size x2A x2l) (hok : ∀ (i : Nat) (a : ATerm), x2l[i]? = some a → okTerm w w.heap.size a) :
    Calls Tryd.prog 11 #[.agg #[.int .i64 x0, .int .i64 x1, .slice x2A x2l.length x2c], .int .i64 left] w fun e w' => e = .returned (.int .i64 (left - (x2l.length + totTerm x2l : Nat))) ∧ Below w.heap.size w w' := by
  have HOK : ∀ (w2 : World) (B : Nat) (i : Nat) (a : ATerm), x2l[i]? = some a → okTerm w2 B a := fun _ _ i a h => hok i a h
  have HK := Lib.hid HOK
  clear hok HOK
  have HH := Lib.hid h
  clear h
  obtain ⟨V, hV⟩ : ∃ V : Int, V = left - (x2l.length + totTerm x2l : Nat) := ⟨_, rfl⟩
  have HV := Lib.hid hV
  rw [← hV]
  clear hV
  go_enter Tryd.func11, Tryd.ntmps11
  go_wp2_with fail
  refine (szTermS_yes x2l x2A x2c left _ h1 HH.out ?_ (HK.out _ _)).mono ?_
  · exact (r_x2.below (by repeat' (first | with_reducible assumption | with_reducible exact Below.refl _ _ | (with_reducible refine Below.setCell ?_ ?_ _) | (with_reducible refine Below.alloc ?_ ?_ _) | (with_reducible refine Below.drew ?_) | (with_reducible refine below_dr ?_ _) | (with_reducible refine Below.trans ?_ (Below.mono (by with_reducible assumption) ?_)) | omega | (simp; done) | (simp; omega)))).more (by (try simp only [World.size_setCell]); (try simp only [World.size_drew]); (try simp only [World.size_alloc]); omega)
  rw [← HV.out]
  rintro e wZ ⟨rfl, hbZ⟩
  have hv : 0 ≤ V := by have := HV.out; have := HH.out; omega
  go_wp2_with fail
  go_ret
  exact ⟨ret_i rfl, by repeat' (first | with_reducible assumption | with_reducible exact Below.refl _ _ | (with_reducible refine Below.setCell ?_ ?_ _) | (with_reducible refine Below.alloc ?_ ?_ _) | (with_reducible refine Below.drew ?_) | (with_reducible refine below_dr ?_ _) | (with_reducible refine Below.trans ?_ (Below.mono (by with_reducible assumption) ?_)) | omega | (simp; done) | (simp; omega))⟩
set_option maxHeartbeats 800000 in
theorem szLinear_no (x0 : Int) (x1 : Int) (x2A : Option Addr) (x2c : Nat) (x2l : List ATerm) (left : Int) (w : World) (h0 : 0 ≤ left) (h1 : left ≤ 1048576) (hm : x2l.length ≤ 9223372036854775807) (h : left < ((x2l.length + totTerm x2l : Nat) : Int)) (r_x2 : Rd cTerm 3 w w.heap.size x2A x2l) (hok : ∀ (i : Nat) (a : ATerm), x2l[i]? = some a → okTerm w w.heap.size a) :
    Calls Tryd.prog 11 #[.agg #[.int .i64 x0, .int .i64 x1, .slice x2A x2l.length x2c], .int .i64 left] w fun e w' => e = .returned (.int .i64 (-1)) ∧ Below w.heap.size w w' := by
  have HOK : ∀ (w2 : World) (B : Nat) (i : Nat) (a : ATerm), x2l[i]? = some a → okTerm w2 B a := fun _ _ i a h => hok i a h
  have HK := Lib.hid HOK
  clear hok HOK
  have HH := Lib.hid h
  clear h
  obtain ⟨V, hV⟩ : ∃ V : Int, V = -1 := ⟨_, rfl⟩
  have HV := Lib.hid hV
  rw [← hV]
  clear hV
  go_enter Tryd.func11, Tryd.ntmps11
  go_wp2_with fail
  refine (szTermS_no x2l x2A x2c left _ h0 h1 hm HH.out ?_ (HK.out _ _)).mono ?_
  · exact (r_x2.below (by repeat' (first | with_reducible assumption | with_reducible exact Below.refl _ _ | (with_reducible refine Below.setCell ?_ ?_ _) | (with_reducible refine Below.alloc ?_ ?_ _) | (with_reducible refine Below.drew ?_) | (with_reducible refine below_dr ?_ _) | (with_reducible refine Below.trans ?_ (Below.mono (by with_reducible assumption) ?_)) | omega | (simp; done) | (simp; omega)))).more (by (try simp only [World.size_setCell]); (try simp only [World.size_drew]); (try simp only [World.size_alloc]); omega)
  rw [← HV.out]
  rintro e wZ ⟨rfl, hbZ⟩
  have hv : V < 0 := by have := HV.out; have := HH.out; omega
  go_wp2_with fail
  go_ret
  exact ⟨ret_i (by have := HV.out; omega), by repeat' (first | with_reducible assumption | with_reducible exact Below.refl _ _ | (with_reducible refine Below.setCell ?_ ?_ _) | (with_reducible refine Below.alloc ?_ ?_ _) | (with_reducible refine Below.drew ?_) | (with_reducible refine below_dr ?_ _) | (with_reducible refine Below.trans ?_ (Below.mono (by with_reducible assumption) ?_)) | omega | (simp; done) | (simp; omega))⟩
def ToLinear (x0 : Int) (x1 : Int) (x2A : Option Addr) (x2c : Nat) (x2l : List ATerm) (w : World) (e : Ending) (w' : World) : Prop := ∃ gx2 : Nat, e = .returned (.agg #[.int .i64 x0, .int .i64 x1, .slice (some ⟨gx2, 0, none⟩) x2l.length x2l.length]) ∧ w'.ownsRow w.heap.size 92 3 (.slice (some ⟨gx2, 0, none⟩) x2l.length x2l.length) x2l.length (cellsF cTerm x2l) ∧ Below w.heap.size w w'
set_option maxHeartbeats 1600000 in
theorem toLinear_any (x0 : Int) (x1 : Int) (x2A : Option Addr) (x2c : Nat) (x2l : List ATerm) (w : World) (hl_x2 : x2l.length ≤ 1048576) (r_x2 : Rd cTerm 3 w w.heap.size x2A x2l) :
    Calls Tryd.prog 13 #[.agg #[.int .i64 x0, .int .i64 x1, .slice x2A x2l.length x2c]] w (ToLinear x0 x1 x2A x2c x2l w) := by
  go_enter Tryd.func13, Tryd.ntmps13
  go_wp2_with fail
  refine (toFrac_any x0 x1 _).mono ?_
  rintro e wZ0 ⟨rfl, hbwZ0⟩
  obtain ⟨hcwZ0, hfwZ0⟩ := bcell hbwZ0
  have hzwZ0 := hbwZ0.size
  (try simp only [World.size_setCell] at hcwZ0 hfwZ0 hzwZ0)
  (try simp only [World.size_drew] at hcwZ0 hfwZ0 hzwZ0)
  (try simp only [World.size_alloc] at hcwZ0 hfwZ0 hzwZ0)
  have qwZ00 : w.heap.size < wZ0.heap.size := by omega
  have qwZ01 : w.heap.size + 1 < wZ0.heap.size := by omega
  have qwZ02 : w.heap.size + 1 + 1 < wZ0.heap.size := by omega
  go_wp2_with fail
  refine (toTermS_any x2l x2A x2c _ hl_x2 ?_).mono ?_
  · exact (r_x2.below (by repeat' (first | with_reducible assumption | with_reducible exact Below.refl _ _ | (with_reducible refine Below.setCell ?_ ?_ _) | (with_reducible refine Below.alloc ?_ ?_ _) | (with_reducible refine Below.drew ?_) | (with_reducible refine below_dr ?_ _) | (with_reducible refine Below.trans ?_ (Below.mono (by with_reducible assumption) ?_)) | omega | (simp; done) | (simp; omega)))).more (by (try simp only [World.size_setCell]); (try simp only [World.size_drew]); (try simp only [World.size_alloc]); omega)
  intro e wZ1 hq
  obtain ⟨gx2, rfl, own_x2, hbwZ1⟩ := hq
  replace own_x2 := own_base (base := w.heap.size + 1 + 1 + 1) own_x2 (by (try simp only [World.size_setCell]); (try simp only [World.size_alloc]); omega)
  obtain ⟨hcwZ1, hfwZ1⟩ := bcell hbwZ1
  have hzwZ1 := hbwZ1.size
  (try simp only [World.size_setCell] at hcwZ1 hfwZ1 hzwZ1)
  (try simp only [World.size_drew] at hcwZ1 hfwZ1 hzwZ1)
  (try simp only [World.size_alloc] at hcwZ1 hfwZ1 hzwZ1)
  have qwZ10 : w.heap.size < wZ1.heap.size := by omega
  have qwZ11 : w.heap.size + 1 < wZ1.heap.size := by omega
  have qwZ12 : w.heap.size + 1 + 1 < wZ1.heap.size := by omega
  go_wp2_with fail
  refine bodyPost_ret (v := .agg #[.int .i64 x0, .int .i64 x1, .slice (some ⟨gx2, 0, none⟩) x2l.length x2l.length]) (by simp [results, Tryd.results13, go_sem, *]) rfl ⟨_, rfl, ?_, ?_⟩
  · repeat (first | with_reducible exact own_base own_x2 (by omega) | (with_reducible refine own_drew ?_) | (with_reducible refine own_far (b2 := w.heap.size + 1 + 1 + 1) ?_ (by simp only; omega) (by omega) _) | (with_reducible refine own_stays ?_ (by with_reducible assumption)))
  · repeat' (first | with_reducible assumption | with_reducible exact Below.refl _ _ | (with_reducible refine Below.setCell ?_ ?_ _) | (with_reducible refine Below.alloc ?_ ?_ _) | (with_reducible refine Below.drew ?_) | (with_reducible refine below_dr ?_ _) | (with_reducible refine Below.trans ?_ (Below.mono (by with_reducible assumption) ?_)) | omega | (simp; done) | (simp; omega))
set_option maxHeartbeats 1600000 in
theorem eqLinear_same (x0 : Int) (x1 : Int) (x2A : Option Addr) (x2c : Nat) (x2l : List ATerm) (x2A' : Option Addr) (x2c' : Nat) (w : World) (hl_x2 : x2l.length ≤ 4611686018427387904) (r_x2 : Rd cTerm 3 w w.heap.size x2A x2l) (r'_x2 : Rd cTerm 3 w w.heap.size x2A' x2l) :
    Calls Tryd.prog 15 #[.agg #[.int .i64 x0, .int .i64 x1, .slice x2A x2l.length x2c], .agg #[.int .i64 x0, .int .i64 x1, .slice x2A' x2l.length x2c']] w fun e w' => e = .returned (.bool true) ∧ Below w.heap.size w w' := by
  go_enter Tryd.func15, Tryd.ntmps15
  go_wp2_with fail
  refine (eqFrac_same x0 x1 _).mono ?_
  rintro e wZ0 ⟨rfl, hbwZ0⟩
  obtain ⟨hcwZ0, hfwZ0⟩ := bcell hbwZ0
  have hzwZ0 := hbwZ0.size
  (try simp only [World.size_setCell] at hcwZ0 hfwZ0 hzwZ0)
  (try simp only [World.size_drew] at hcwZ0 hfwZ0 hzwZ0)
  (try simp only [World.size_alloc] at hcwZ0 hfwZ0 hzwZ0)
  have qwZ00 : w.heap.size < wZ0.heap.size := by omega
  have qwZ01 : w.heap.size + 1 < wZ0.heap.size := by omega
  go_wp2_with fail
  refine (eqTermS_same x2l x2A x2A' x2c x2c' _ hl_x2 ?_ ?_).mono ?_
  · exact (r_x2.below (by repeat' (first | with_reducible assumption | with_reducible exact Below.refl _ _ | (with_reducible refine Below.setCell ?_ ?_ _) | (with_reducible refine Below.alloc ?_ ?_ _) | (with_reducible refine Below.drew ?_) | (with_reducible refine below_dr ?_ _) | (with_reducible refine Below.trans ?_ (Below.mono (by with_reducible assumption) ?_)) | omega | (simp; done) | (simp; omega)))).more (by (try simp only [World.size_setCell]); (try simp only [World.size_drew]); (try simp only [World.size_alloc]); omega)
  · exact (r'_x2.below (by repeat' (first | with_reducible assumption | with_reducible exact Below.refl _ _ | (with_reducible refine Below.setCell ?_ ?_ _) | (with_reducible refine Below.alloc ?_ ?_ _) | (with_reducible refine Below.drew ?_) | (with_reducible refine below_dr ?_ _) | (with_reducible refine Below.trans ?_ (Below.mono (by with_reducible assumption) ?_)) | omega | (simp; done) | (simp; omega)))).more (by (try simp only [World.size_setCell]); (try simp only [World.size_drew]); (try simp only [World.size_alloc]); omega)
  rintro e wZ1 ⟨rfl, hbwZ1⟩
  obtain ⟨hcwZ1, hfwZ1⟩ := bcell hbwZ1
  have hzwZ1 := hbwZ1.size
  (try simp only [World.size_setCell] at hcwZ1 hfwZ1 hzwZ1)
  (try simp only [World.size_drew] at hcwZ1 hfwZ1 hzwZ1)
  (try simp only [World.size_alloc] at hcwZ1 hfwZ1 hzwZ1)
  have qwZ10 : w.heap.size < wZ1.heap.size := by omega
  have qwZ11 : w.heap.size + 1 < wZ1.heap.size := by omega
  go_wp2_with fail
  go_ret
  exact ⟨rfl, by repeat' (first | with_reducible assumption | with_reducible exact Below.refl _ _ | (with_reducible refine Below.setCell ?_ ?_ _) | (with_reducible refine Below.alloc ?_ ?_ _) | (with_reducible refine Below.drew ?_) | (with_reducible refine below_dr ?_ _) | (with_reducible refine Below.trans ?_ (Below.mono (by with_reducible assumption) ?_)) | omega | (simp; done) | (simp; omega))⟩
theorem grownBy_alloc_l {w w' : World} {o : Obj} {row : Option Nat} (h : (w.alloc o).grownBy w' row) : w.grownBy w' row := grownBy_trans (World.grownBy_alloc w o row) h
end Go.Proofs.YtjlmoadnbbeloaaDoor
