/- Walks: the law on NameLinear: it returns true. -/
import Derived.Test.YtmlhchiinlnfpaaHa
namespace Go.Proofs.Ytmlhchiinlnfpaa
open Go.RowKit
set_option linter.unusedVariables false
set_option maxHeartbeats 6400000 in
theorem walk_NameLinear (s : ByteArray) (_ws : s.size ≤ maxLen) (w : World) :
    Calls Try.prog 5 #[.string s] w fun e w' => e = .returned (.bool true) ∧ Below w.heap.size w w' := by
  by_cases hs : s.size ≤ 1048576
  case neg =>
    have hs' : (1048576 : Int) < (s.size : Int) := by omega
    go_enter Try.func5, Try.ntmps5
    go_wp2_with fail
    go_ret
    exact ⟨rfl, Below.refl _ _⟩
  case pos =>
  have C1 := Lib.hid (fun w => specNameLinear_any s w hs)
  have C2 := Lib.hid (fun w => implNameLinear_any s w hs)
  have hl : (nameT s).length ≤ 1 := by unfold nameT; split <;> simp
  generalize nameD s.data.toList = cd at C1 C2
  generalize nameC s.data.toList = code at C1 C2
  generalize nameT s = l at C1 C2 hl
  have e_c : (code != code) = false := by simp
  obtain ⟨M, hM⟩ : ∃ M : Int, M = ((1 + 3 * l.length : Nat) : Int) := ⟨_, rfl⟩
  have hM0 : 0 ≤ M := by omega
  have HM := Lib.hid hM
  have e_M : (M != M) = false := by simp
  clear hM
  go_enter Try.func5, Try.ntmps5
  go_wp2_with fail
  refine (C1.out _).mono ?_
  intro e w1 hq
  obtain ⟨A1, c1, rfl, ow, hbw1⟩ := hq
  have zw1 := hbw1.size
  (try simp only [World.size_setCell] at zw1)
  (try simp only [World.size_drew] at zw1)
  (try simp only [World.size_alloc] at zw1)
  have qw1 : w.heap.size ≤ w1.heap.size := by omega
  have bn : Below w.heap.size w w1 := by repeat' (first | with_reducible assumption | with_reducible exact Below.refl _ _ | (with_reducible refine Below.setCell ?_ ?_ _) | (with_reducible refine Below.alloc ?_ ?_ _) | (with_reducible refine Below.drew ?_) | (with_reducible refine below_dr ?_ _) | (with_reducible refine Below.trans ?_ (Below.mono (by with_reducible assumption) ?_)) | omega | (simp; done) | (simp; omega))
  have bw1 := Lib.hid bn
  clear bn
  clear hbw1
  have r1w1 : Rd cTerm 3 w1 w1.heap.size A1 l := Rd.of_own (fun a => cTerm_len a) (by omega) ow (Nat.le_refl _)
  clear ow
  go_wp2_with fail
  refine (C2.out _).mono ?_
  intro e w2 hq
  obtain ⟨A2, c2, rfl, ow, hbw2⟩ := hq
  have zw2 := hbw2.size
  (try simp only [World.size_setCell] at zw2)
  (try simp only [World.size_drew] at zw2)
  (try simp only [World.size_alloc] at zw2)
  have qw2 : w.heap.size ≤ w2.heap.size := by omega
  have r1w2 : Rd cTerm 3 w2 (w1.heap.size) A1 l := by repeat' (first | with_reducible assumption | (with_reducible refine Rd.drew ?_) | (with_reducible refine Rd.carry ?_ (by with_reducible assumption) ?_) | (with_reducible refine Rd.alloc ?_ ?_ _) | (with_reducible refine Rd.setCell ?_ ?_ _) | omega | (simp; done) | (simp; omega))
  have at0w2 : AtL (w1.heap.size) [.int .i64 0, .int .i64 cd, .slice A1 l.length c1] w2 := by repeat' (first | with_reducible assumption | with_reducible exact AtL.new _ _ _ | ((with_reducible refine AtL.newAt ?_); (first | rfl | (simp; done))) | (with_reducible refine AtL.drew ?_) | (with_reducible refine AtL.below ?_ (by with_reducible assumption)) | (with_reducible refine AtL.alloc ?_ _) | (with_reducible refine AtL.far ?_ ?_ _ _) | omega | (simp; done) | (simp; omega))
  have bp := bw1.out
  have bn : Below w.heap.size w w2 := by repeat' (first | with_reducible assumption | with_reducible exact Below.refl _ _ | (with_reducible refine Below.setCell ?_ ?_ _) | (with_reducible refine Below.alloc ?_ ?_ _) | (with_reducible refine Below.drew ?_) | (with_reducible refine below_dr ?_ _) | (with_reducible refine Below.trans ?_ (Below.mono (by with_reducible assumption) ?_)) | omega | (simp; done) | (simp; omega))
  have bw2 := Lib.hid bn
  clear bn
  clear bp bw1
  clear hbw2
  clear r1w1
  have ow2w2 := own_base (base := w1.heap.size + 1) ow (by first | exact Nat.le_refl _ | (simp; done) | (simp; omega))
  clear ow
  have HROW := Lib.hid (fun q (hq : (Value.slice A2 l.length c2).ownBlock = some q) => own_block ow2w2 hq)
  have kat00 := at0w2.cell 0 rfl
  have kat01 := at0w2.cell 1 rfl
  have kat02 := at0w2.cell 2 rfl
  have lat0 := at0w2.lt
  go_wp2_with fail
  clear kat00 kat01 kat02 lat0
  refine (eqLinear_same 0 cd A2 c2 l A1 c1 _ (by omega) ?_ ?_).mono ?_
  · refine Rd.of_own (fun a => cTerm_len a) (by omega) (base := w1.heap.size + 1) (e := 74) (n := l.length) (c := c2) ?_ (Nat.le_refl _); (repeat' (first | with_reducible assumption | (with_reducible refine own_drew ?_) | (with_reducible refine own_stays ?_ (by with_reducible assumption)) | (with_reducible refine World.ownsRow.alloc ?_ _)))
  · refine Rd.more (B := w1.heap.size) ?_ (by (try simp only [World.size_drew]); (try simp only [World.size_alloc]); omega)
    repeat' (first | with_reducible assumption | (with_reducible refine Rd.drew ?_) | (with_reducible refine Rd.carry ?_ (by with_reducible assumption) ?_) | (with_reducible refine Rd.alloc ?_ ?_ _) | (with_reducible refine Rd.setCell ?_ ?_ _) | omega | (simp; done) | (simp; omega))
  rintro e w3 ⟨rfl, hbw3⟩
  have zw3 := hbw3.size
  (try simp only [World.size_setCell] at zw3)
  (try simp only [World.size_drew] at zw3)
  (try simp only [World.size_alloc] at zw3)
  have qw3 : w.heap.size ≤ w3.heap.size := by omega
  have r1w3 : Rd cTerm 3 w3 (w1.heap.size) A1 l := by repeat' (first | with_reducible assumption | (with_reducible refine Rd.drew ?_) | (with_reducible refine Rd.carry ?_ (by with_reducible assumption) ?_) | (with_reducible refine Rd.alloc ?_ ?_ _) | (with_reducible refine Rd.setCell ?_ ?_ _) | omega | (simp; done) | (simp; omega))
  have at0w3 : AtL (w1.heap.size) [.int .i64 0, .int .i64 cd, .slice A1 l.length c1] w3 := by repeat' (first | with_reducible assumption | with_reducible exact AtL.new _ _ _ | ((with_reducible refine AtL.newAt ?_); (first | rfl | (simp; done))) | (with_reducible refine AtL.drew ?_) | (with_reducible refine AtL.below ?_ (by with_reducible assumption)) | (with_reducible refine AtL.alloc ?_ _) | (with_reducible refine AtL.far ?_ ?_ _ _) | omega | (simp; done) | (simp; omega))
  have ow2w3 : w3.ownsRow (w1.heap.size + 1) 74 3 (.slice A2 l.length c2) l.length (cellsF cTerm l) := by repeat' (first | with_reducible assumption | (with_reducible refine own_drew ?_) | (with_reducible refine own_stays ?_ (by with_reducible assumption)) | (with_reducible refine World.ownsRow.alloc ?_ _))
  have at1w3 : AtL (w2.heap.size) [.int .i64 0, .int .i64 cd, .slice A2 l.length c2] w3 := by repeat' (first | with_reducible assumption | with_reducible exact AtL.new _ _ _ | ((with_reducible refine AtL.newAt ?_); (first | rfl | (simp; done))) | (with_reducible refine AtL.drew ?_) | (with_reducible refine AtL.below ?_ (by with_reducible assumption)) | (with_reducible refine AtL.alloc ?_ _) | (with_reducible refine AtL.far ?_ ?_ _ _) | omega | (simp; done) | (simp; omega))
  have bp := bw2.out
  have bn : Below w.heap.size w w3 := by repeat' (first | with_reducible assumption | with_reducible exact Below.refl _ _ | (with_reducible refine Below.setCell ?_ ?_ _) | (with_reducible refine Below.alloc ?_ ?_ _) | (with_reducible refine Below.drew ?_) | (with_reducible refine below_dr ?_ _) | (with_reducible refine Below.trans ?_ (Below.mono (by with_reducible assumption) ?_)) | omega | (simp; done) | (simp; omega))
  have bw3 := Lib.hid bn
  clear bn
  clear bp bw2
  clear hbw3
  clear r1w2
  clear at0w2
  clear ow2w2
  have kat10 := at1w3.cell 0 rfl
  have kat11 := at1w3.cell 1 rfl
  have kat12 := at1w3.cell 2 rfl
  have lat1 := at1w3.lt
  go_wp2_with fail
  clear kat10 kat11 kat12 lat1
  refine (markLinear_any 0 cd A2 c2 1 l.length (w1.heap.size + 1) (cellsF cTerm l) _ (by omega) (by omega) (by repeat' (first | with_reducible assumption | (with_reducible refine own_drew ?_) | (with_reducible refine own_stays ?_ (by with_reducible assumption)) | (with_reducible refine World.ownsRow.alloc ?_ _)))).mono ?_
  rw [← HM.out]
  rintro e w4 ⟨rfl, ow4w4, hg⟩
  have zw4 := hg.size
  have qw4 : w.heap.size ≤ w4.heap.size := by omega
  have bp := bw3.out
  have bn : Below w.heap.size w w4 := by exact below_of_grown (by repeat' (first | with_reducible assumption | with_reducible exact Below.refl _ _ | (with_reducible refine Below.setCell ?_ ?_ _) | (with_reducible refine Below.alloc ?_ ?_ _) | (with_reducible refine Below.drew ?_) | (with_reducible refine below_dr ?_ _) | (with_reducible refine Below.trans ?_ (Below.mono (by with_reducible assumption) ?_)) | omega | (simp; done) | (simp; omega))) hg (by omega) (fun q hq => by have := HROW.out q hq; omega)
  have bw4 := Lib.hid bn
  clear bn
  clear bp bw3
  have at0w4 : AtL (w1.heap.size) [.int .i64 0, .int .i64 cd, .slice A1 l.length c1] w4 := AtL.grown (at0w3) hg (fun q hq => by have := HROW.out q hq; omega)
  have at1w4 : AtL (w2.heap.size) [.int .i64 0, .int .i64 cd, .slice A2 l.length c2] w4 := AtL.grown (at1w3) hg (fun q hq => by have := HROW.out q hq; omega)
  have r1w4 : Rd cTerm 3 w4 (w1.heap.size) A1 l := Rd.grown2 r1w3 hg (by omega) (fun q hq => by have := HROW.out q hq; omega)
  clear hg at0w3 at1w3 r1w3 ow2w3
  have kat10 := at1w4.cell 0 rfl
  have kat11 := at1w4.cell 1 rfl
  have kat12 := at1w4.cell 2 rfl
  have lat1 := at1w4.lt
  go_wp2_with fail
  clear kat10 kat11 kat12 lat1
  refine (heldLinear_any 0 cd A2 c2 1 l.length _ (by omega) (by omega) ?_).mono ?_
  · refine Rd.of_own (fun a => cTerm_len a) (by omega) (base := w1.heap.size + 1) (e := 74) (n := l.length) (c := c2) ?_ (Nat.le_refl _); (repeat' (first | with_reducible assumption | (with_reducible refine own_drew ?_) | (with_reducible refine own_stays ?_ (by with_reducible assumption)) | (with_reducible refine World.ownsRow.alloc ?_ _)))
  rw [← HM.out]
  rintro e w5 ⟨rfl, hbw5⟩
  have zw5 := hbw5.size
  (try simp only [World.size_setCell] at zw5)
  (try simp only [World.size_drew] at zw5)
  (try simp only [World.size_alloc] at zw5)
  have qw5 : w.heap.size ≤ w5.heap.size := by omega
  have r1w5 : Rd cTerm 3 w5 (w1.heap.size) A1 l := by repeat' (first | with_reducible assumption | (with_reducible refine Rd.drew ?_) | (with_reducible refine Rd.carry ?_ (by with_reducible assumption) ?_) | (with_reducible refine Rd.alloc ?_ ?_ _) | (with_reducible refine Rd.setCell ?_ ?_ _) | omega | (simp; done) | (simp; omega))
  have at0w5 : AtL (w1.heap.size) [.int .i64 0, .int .i64 cd, .slice A1 l.length c1] w5 := by repeat' (first | with_reducible assumption | with_reducible exact AtL.new _ _ _ | ((with_reducible refine AtL.newAt ?_); (first | rfl | (simp; done))) | (with_reducible refine AtL.drew ?_) | (with_reducible refine AtL.below ?_ (by with_reducible assumption)) | (with_reducible refine AtL.alloc ?_ _) | (with_reducible refine AtL.far ?_ ?_ _ _) | omega | (simp; done) | (simp; omega))
  have at1w5 : AtL (w2.heap.size) [.int .i64 0, .int .i64 cd, .slice A2 l.length c2] w5 := by repeat' (first | with_reducible assumption | with_reducible exact AtL.new _ _ _ | ((with_reducible refine AtL.newAt ?_); (first | rfl | (simp; done))) | (with_reducible refine AtL.drew ?_) | (with_reducible refine AtL.below ?_ (by with_reducible assumption)) | (with_reducible refine AtL.alloc ?_ _) | (with_reducible refine AtL.far ?_ ?_ _ _) | omega | (simp; done) | (simp; omega))
  have ow4w5 : w5.ownsRow (w1.heap.size + 1) 74 3 (.slice A2 l.length c2) l.length (cellsF cTerm (marksTerm 1 l.length)) := by repeat' (first | with_reducible assumption | (with_reducible refine own_drew ?_) | (with_reducible refine own_stays ?_ (by with_reducible assumption)) | (with_reducible refine World.ownsRow.alloc ?_ _))
  have bp := bw4.out
  have bn : Below w.heap.size w w5 := by repeat' (first | with_reducible assumption | with_reducible exact Below.refl _ _ | (with_reducible refine Below.setCell ?_ ?_ _) | (with_reducible refine Below.alloc ?_ ?_ _) | (with_reducible refine Below.drew ?_) | (with_reducible refine below_dr ?_ _) | (with_reducible refine Below.trans ?_ (Below.mono (by with_reducible assumption) ?_)) | omega | (simp; done) | (simp; omega))
  have bw5 := Lib.hid bn
  clear bn
  clear bp bw4
  clear hbw5
  clear r1w4
  clear at0w4
  clear at1w4
  clear ow4w4
  go_wp2_with fail
  refine (C2.out _).mono ?_
  intro e w6 hq
  obtain ⟨A3, c3, rfl, ow, hbw6⟩ := hq
  have zw6 := hbw6.size
  (try simp only [World.size_setCell] at zw6)
  (try simp only [World.size_drew] at zw6)
  (try simp only [World.size_alloc] at zw6)
  have qw6 : w.heap.size ≤ w6.heap.size := by omega
  have r1w6 : Rd cTerm 3 w6 (w1.heap.size) A1 l := by repeat' (first | with_reducible assumption | (with_reducible refine Rd.drew ?_) | (with_reducible refine Rd.carry ?_ (by with_reducible assumption) ?_) | (with_reducible refine Rd.alloc ?_ ?_ _) | (with_reducible refine Rd.setCell ?_ ?_ _) | omega | (simp; done) | (simp; omega))
  have at0w6 : AtL (w1.heap.size) [.int .i64 0, .int .i64 cd, .slice A1 l.length c1] w6 := by repeat' (first | with_reducible assumption | with_reducible exact AtL.new _ _ _ | ((with_reducible refine AtL.newAt ?_); (first | rfl | (simp; done))) | (with_reducible refine AtL.drew ?_) | (with_reducible refine AtL.below ?_ (by with_reducible assumption)) | (with_reducible refine AtL.alloc ?_ _) | (with_reducible refine AtL.far ?_ ?_ _ _) | omega | (simp; done) | (simp; omega))
  have at1w6 : AtL (w2.heap.size) [.int .i64 0, .int .i64 cd, .slice A2 l.length c2] w6 := by repeat' (first | with_reducible assumption | with_reducible exact AtL.new _ _ _ | ((with_reducible refine AtL.newAt ?_); (first | rfl | (simp; done))) | (with_reducible refine AtL.drew ?_) | (with_reducible refine AtL.below ?_ (by with_reducible assumption)) | (with_reducible refine AtL.alloc ?_ _) | (with_reducible refine AtL.far ?_ ?_ _ _) | omega | (simp; done) | (simp; omega))
  have ow4w6 : w6.ownsRow (w1.heap.size + 1) 74 3 (.slice A2 l.length c2) l.length (cellsF cTerm (marksTerm 1 l.length)) := by repeat' (first | with_reducible assumption | (with_reducible refine own_drew ?_) | (with_reducible refine own_stays ?_ (by with_reducible assumption)) | (with_reducible refine World.ownsRow.alloc ?_ _))
  have bp := bw5.out
  have bn : Below w.heap.size w w6 := by repeat' (first | with_reducible assumption | with_reducible exact Below.refl _ _ | (with_reducible refine Below.setCell ?_ ?_ _) | (with_reducible refine Below.alloc ?_ ?_ _) | (with_reducible refine Below.drew ?_) | (with_reducible refine below_dr ?_ _) | (with_reducible refine Below.trans ?_ (Below.mono (by with_reducible assumption) ?_)) | omega | (simp; done) | (simp; omega))
  have bw6 := Lib.hid bn
  clear bn
  clear bp bw5
  clear hbw6
  clear r1w5
  clear at0w5
  clear at1w5
  clear ow4w5
  have ow6w6 := own_base (base := 0) ow (Nat.zero_le _)
  clear ow
  have kat00 := at0w6.cell 0 rfl
  have kat01 := at0w6.cell 1 rfl
  have kat02 := at0w6.cell 2 rfl
  have lat0 := at0w6.lt
  go_wp2_with fail
  clear kat00 kat01 kat02 lat0
  refine (eqLinear_same 0 cd A3 c3 l A1 c1 _ (by omega) ?_ ?_).mono ?_
  · refine Rd.of_own (fun a => cTerm_len a) (by omega) (base := 0) (e := 74) (n := l.length) (c := c3) ?_ (Nat.le_refl _); (repeat' (first | with_reducible assumption | (with_reducible refine own_drew ?_) | (with_reducible refine own_stays ?_ (by with_reducible assumption)) | (with_reducible refine World.ownsRow.alloc ?_ _)))
  · refine Rd.more (B := w1.heap.size) ?_ (by (try simp only [World.size_drew]); (try simp only [World.size_alloc]); omega)
    repeat' (first | with_reducible assumption | (with_reducible refine Rd.drew ?_) | (with_reducible refine Rd.carry ?_ (by with_reducible assumption) ?_) | (with_reducible refine Rd.alloc ?_ ?_ _) | (with_reducible refine Rd.setCell ?_ ?_ _) | omega | (simp; done) | (simp; omega))
  rintro e w7 ⟨rfl, hbw7⟩
  clear ow6w6
  have zw7 := hbw7.size
  (try simp only [World.size_setCell] at zw7)
  (try simp only [World.size_drew] at zw7)
  (try simp only [World.size_alloc] at zw7)
  have qw7 : w.heap.size ≤ w7.heap.size := by omega
  have r1w7 : Rd cTerm 3 w7 (w1.heap.size) A1 l := by repeat' (first | with_reducible assumption | (with_reducible refine Rd.drew ?_) | (with_reducible refine Rd.carry ?_ (by with_reducible assumption) ?_) | (with_reducible refine Rd.alloc ?_ ?_ _) | (with_reducible refine Rd.setCell ?_ ?_ _) | omega | (simp; done) | (simp; omega))
  have at0w7 : AtL (w1.heap.size) [.int .i64 0, .int .i64 cd, .slice A1 l.length c1] w7 := by repeat' (first | with_reducible assumption | with_reducible exact AtL.new _ _ _ | ((with_reducible refine AtL.newAt ?_); (first | rfl | (simp; done))) | (with_reducible refine AtL.drew ?_) | (with_reducible refine AtL.below ?_ (by with_reducible assumption)) | (with_reducible refine AtL.alloc ?_ _) | (with_reducible refine AtL.far ?_ ?_ _ _) | omega | (simp; done) | (simp; omega))
  have at1w7 : AtL (w2.heap.size) [.int .i64 0, .int .i64 cd, .slice A2 l.length c2] w7 := by repeat' (first | with_reducible assumption | with_reducible exact AtL.new _ _ _ | ((with_reducible refine AtL.newAt ?_); (first | rfl | (simp; done))) | (with_reducible refine AtL.drew ?_) | (with_reducible refine AtL.below ?_ (by with_reducible assumption)) | (with_reducible refine AtL.alloc ?_ _) | (with_reducible refine AtL.far ?_ ?_ _ _) | omega | (simp; done) | (simp; omega))
  have ow4w7 : w7.ownsRow (w1.heap.size + 1) 74 3 (.slice A2 l.length c2) l.length (cellsF cTerm (marksTerm 1 l.length)) := by repeat' (first | with_reducible assumption | (with_reducible refine own_drew ?_) | (with_reducible refine own_stays ?_ (by with_reducible assumption)) | (with_reducible refine World.ownsRow.alloc ?_ _))
  have bp := bw6.out
  have bn : Below w.heap.size w w7 := by repeat' (first | with_reducible assumption | with_reducible exact Below.refl _ _ | (with_reducible refine Below.setCell ?_ ?_ _) | (with_reducible refine Below.alloc ?_ ?_ _) | (with_reducible refine Below.drew ?_) | (with_reducible refine below_dr ?_ _) | (with_reducible refine Below.trans ?_ (Below.mono (by with_reducible assumption) ?_)) | omega | (simp; done) | (simp; omega))
  have bw7 := Lib.hid bn
  clear bn
  clear bp bw6
  clear hbw7
  clear r1w6
  clear at0w6
  clear at1w6
  clear ow4w6
  have kat10 := at1w7.cell 0 rfl
  have kat11 := at1w7.cell 1 rfl
  have kat12 := at1w7.cell 2 rfl
  have lat1 := at1w7.lt
  go_wp2_with fail
  clear kat10 kat11 kat12 lat1
  refine (heldLinear_any 0 cd A2 c2 1 l.length _ (by omega) (by omega) ?_).mono ?_
  · refine Rd.of_own (fun a => cTerm_len a) (by omega) (base := w1.heap.size + 1) (e := 74) (n := l.length) (c := c2) ?_ (Nat.le_refl _); (repeat' (first | with_reducible assumption | (with_reducible refine own_drew ?_) | (with_reducible refine own_stays ?_ (by with_reducible assumption)) | (with_reducible refine World.ownsRow.alloc ?_ _)))
  rw [← HM.out]
  rintro e w8 ⟨rfl, hbw8⟩
  have zw8 := hbw8.size
  (try simp only [World.size_setCell] at zw8)
  (try simp only [World.size_drew] at zw8)
  (try simp only [World.size_alloc] at zw8)
  have qw8 : w.heap.size ≤ w8.heap.size := by omega
  have bp := bw7.out
  have bn : Below w.heap.size w w8 := by repeat' (first | with_reducible assumption | with_reducible exact Below.refl _ _ | (with_reducible refine Below.setCell ?_ ?_ _) | (with_reducible refine Below.alloc ?_ ?_ _) | (with_reducible refine Below.drew ?_) | (with_reducible refine below_dr ?_ _) | (with_reducible refine Below.trans ?_ (Below.mono (by with_reducible assumption) ?_)) | omega | (simp; done) | (simp; omega))
  have bw8 := Lib.hid bn
  clear bn
  clear bp bw7
  clear hbw8
  go_wp2_with fail
  go_ret
  have bp := bw8.out
  exact ⟨rfl, by repeat' (first | with_reducible assumption | with_reducible exact Below.refl _ _ | (with_reducible refine Below.setCell ?_ ?_ _) | (with_reducible refine Below.alloc ?_ ?_ _) | (with_reducible refine Below.drew ?_) | (with_reducible refine below_dr ?_ _) | (with_reducible refine Below.trans ?_ (Below.mono (by with_reducible assumption) ?_)) | omega | (simp; done) | (simp; omega))⟩
end Go.Proofs.Ytmlhchiinlnfpaa
