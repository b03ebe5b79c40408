/- Walks: paths near points and near paths, both sides whole. -/
import Derived.Test.YtjhboedaaeaomaaFd
namespace Go.Proofs.Ytjhboedaaeaomaa
open Go.RowKit
set_option linter.unusedVariables false
theorem bool_ret {a b : Bool} (h : a = b) : Ending.returned (.bool a) = .returned (.bool b) := by rw [h]
set_option maxHeartbeats 1600000 in
theorem specPathWithin_any (a l : List APt) (A C : Option Addr) (ca c : Nat) (r : Int) (w : World) (ha : a.length ≤ 1048576) (ra : Rd cPt 2 w w.heap.size C a) (hl : l.length ≤ 1048576) (rd : Rd cPt 2 w w.heap.size A l) :
    Calls Try.prog 23 #[.slice C a.length ca, .slice A l.length c, .int .i64 r] w fun e w' => e = .returned (.bool (pwV a l r)) ∧ Below w.heap.size w w' := by
  have PA := Lib.hid (fun w r => l12Path_any a C ca w ha r)
  have PL := Lib.hid (fun w r => l12Path_any l A c w hl r)
  have RA := Lib.hid ra
  have RD := Lib.hid rd
  clear ra rd
  rcases hA : vRg a with _ | _
  · have X := Lib.hid (show false = pwV a l r by unfold pwV; rw [hA]; simp)
    rw [hA] at PA
    clear hA
    generalize a.length = n at *
    go_enter Try.func23, Try.ntmps23
    go_wp2_with fail
    refine (PA.out _ RA.out).mono ?_
    rintro e w1 ⟨rfl, hb1⟩
    go_wp2_with fail
    go_ret
    exact ⟨ret_bool X.out, by repeat' (first | with_reducible assumption | with_reducible exact Below.refl _ _ | (with_reducible refine Below.setCell ?_ ?_ _) | (with_reducible refine Below.alloc ?_ ?_ _) | (with_reducible refine Below.drew ?_) | (with_reducible refine below_dr ?_ _) | (with_reducible refine Below.trans ?_ (Below.mono (by with_reducible assumption) ?_)) | omega | (simp; done) | (simp; omega))⟩
  rcases hL : vRg l with _ | _
  · have X := Lib.hid (show false = pwV a l r by unfold pwV; rw [hL]; simp)
    rw [hA] at PA
    rw [hL] at PL
    clear hA hL
    generalize a.length = n at *
    generalize l.length = m at *
    go_enter Try.func23, Try.ntmps23
    go_wp2_with fail
    refine (PA.out _ RA.out).mono ?_
    rintro e w1 ⟨rfl, hb1⟩
    have hz1 := hb1.size
    go_wp2_with fail
    refine (PL.out _ ((RD.out.below hb1).more (by omega))).mono ?_
    rintro e w2 ⟨rfl, hb2⟩
    go_wp2_with fail
    go_ret
    exact ⟨ret_bool X.out, by repeat' (first | with_reducible assumption | with_reducible exact Below.refl _ _ | (with_reducible refine Below.setCell ?_ ?_ _) | (with_reducible refine Below.alloc ?_ ?_ _) | (with_reducible refine Below.drew ?_) | (with_reducible refine below_dr ?_ _) | (with_reducible refine Below.trans ?_ (Below.mono (by with_reducible assumption) ?_)) | omega | (simp; done) | (simp; omega))⟩
  rcases hD : dsB r with _ | _
  · have X := Lib.hid (show false = pwV a l r by unfold pwV; rw [hD]; simp)
    have PD := Lib.hid (fun w => l16Distance_any r w)
    rw [hA] at PA
    rw [hL] at PL
    rw [hD] at PD
    clear hA hL hD
    generalize a.length = n at *
    generalize l.length = m at *
    go_enter Try.func23, Try.ntmps23
    go_wp2_with fail
    refine (PA.out _ RA.out).mono ?_
    rintro e w1 ⟨rfl, hb1⟩
    have hz1 := hb1.size
    go_wp2_with fail
    refine (PL.out _ ((RD.out.below hb1).more (by omega))).mono ?_
    rintro e w2 ⟨rfl, hb2⟩
    have hz2 := hb2.size
    go_wp2_with fail
    refine (PD.out _).mono ?_
    rintro e w3 ⟨rfl, hb3⟩
    go_wp2_with fail
    go_ret
    exact ⟨ret_bool X.out, by repeat' (first | with_reducible assumption | with_reducible exact Below.refl _ _ | (with_reducible refine Below.setCell ?_ ?_ _) | (with_reducible refine Below.alloc ?_ ?_ _) | (with_reducible refine Below.drew ?_) | (with_reducible refine below_dr ?_ _) | (with_reducible refine Below.trans ?_ (Below.mono (by with_reducible assumption) ?_)) | omega | (simp; done) | (simp; omega))⟩
  have X := Lib.hid (show alV a l r = pwV a l r by unfold pwV; rw [hA, hL, hD]; simp)
  have PD := Lib.hid (fun w => l16Distance_any r w)
  obtain ⟨a1, a2, a3⟩ := vRg_parts hA
  obtain ⟨l1, l2, l3⟩ := vRg_parts hL
  have hr : 0 ≤ r ∧ r ≤ 262144 := by unfold dsB at hD; simpa using hD
  have PW := Lib.hid (fun w ra rd => l16Within_any a l A C ca c r w ha ra a3 hl l1 rd l3 hr.1 hr.2)
  rw [X.out] at PW
  rw [hA] at PA
  rw [hL] at PL
  rw [hD] at PD
  clear hA hL hD X a1 a2 a3 l1 l2 l3 hr
  generalize a.length = n at *
  generalize l.length = m at *
  go_enter Try.func23, Try.ntmps23
  go_wp2_with fail
  refine (PA.out _ RA.out).mono ?_
  rintro e w1 ⟨rfl, hb1⟩
  have hz1 := hb1.size
  go_wp2_with fail
  refine (PL.out _ ((RD.out.below hb1).more (by omega))).mono ?_
  rintro e w2 ⟨rfl, hb2⟩
  have hz2 := hb2.size
  go_wp2_with fail
  refine (PD.out _).mono ?_
  rintro e w3 ⟨rfl, hb3⟩
  have hz3 := hb3.size
  have hb : Below w.heap.size w w3 := by repeat' (first | with_reducible assumption | with_reducible exact Below.refl _ _ | (with_reducible refine Below.setCell ?_ ?_ _) | (with_reducible refine Below.alloc ?_ ?_ _) | (with_reducible refine Below.drew ?_) | (with_reducible refine below_dr ?_ _) | (with_reducible refine Below.trans ?_ (Below.mono (by with_reducible assumption) ?_)) | omega | (simp; done) | (simp; omega))
  go_wp2_with fail
  refine (PW.out _ ((RA.out.below hb).more (by omega)) ((RD.out.below hb).more (by omega))).mono ?_
  rintro e w4 ⟨rfl, hb4⟩
  go_wp2_with fail
  go_ret
  exact ⟨rfl, by repeat' (first | with_reducible assumption | with_reducible exact Below.refl _ _ | (with_reducible refine Below.setCell ?_ ?_ _) | (with_reducible refine Below.alloc ?_ ?_ _) | (with_reducible refine Below.drew ?_) | (with_reducible refine below_dr ?_ _) | (with_reducible refine Below.trans ?_ (Below.mono (by with_reducible assumption) ?_)) | omega | (simp; done) | (simp; omega))⟩
set_option maxHeartbeats 1600000 in
theorem implPathWithin_any (a l : List APt) (A C : Option Addr) (ca c : Nat) (r : Int) (w : World) (ha : a.length ≤ 1048576) (ra : Rd cPt 2 w w.heap.size C a) (hl : l.length ≤ 1048576) (rd : Rd cPt 2 w w.heap.size A l) :
    Calls Try.prog 24 #[.slice C a.length ca, .slice A l.length c, .int .i64 r] w fun e w' => e = .returned (.bool (pwV a l r)) ∧ Below w.heap.size w w' := by
  have PA := Lib.hid (fun w r => isPath_any a C ca w ha r)
  have PL := Lib.hid (fun w r => isPath_any l A c w hl r)
  have RA := Lib.hid ra
  have RD := Lib.hid rd
  clear ra rd
  rw [← pw_prog]
  rcases hA : vRg a with _ | _
  · rw [hA] at PA
    clear hA
    generalize a.length = n at *
    go_enter Try.func24, Try.ntmps24
    go_wp2_with fail
    refine (PA.out _ RA.out).mono ?_
    rintro e w1 ⟨rfl, hb1⟩
    go_wp2_with fail
    go_ret
    exact ⟨by simp, by repeat' (first | with_reducible assumption | with_reducible exact Below.refl _ _ | (with_reducible refine Below.setCell ?_ ?_ _) | (with_reducible refine Below.alloc ?_ ?_ _) | (with_reducible refine Below.drew ?_) | (with_reducible refine below_dr ?_ _) | (with_reducible refine Below.trans ?_ (Below.mono (by with_reducible assumption) ?_)) | omega | (simp; done) | (simp; omega))⟩
  rcases hL : vRg l with _ | _
  · rw [hA] at PA
    rw [hL] at PL
    clear hA hL
    generalize a.length = n at *
    generalize l.length = m at *
    go_enter Try.func24, Try.ntmps24
    go_wp2_with fail
    refine (PA.out _ RA.out).mono ?_
    rintro e w1 ⟨rfl, hb1⟩
    have hz1 := hb1.size
    go_wp2_with fail
    refine (PL.out _ ((RD.out.below hb1).more (by omega))).mono ?_
    rintro e w2 ⟨rfl, hb2⟩
    go_wp2_with fail
    go_ret
    exact ⟨by simp, by repeat' (first | with_reducible assumption | with_reducible exact Below.refl _ _ | (with_reducible refine Below.setCell ?_ ?_ _) | (with_reducible refine Below.alloc ?_ ?_ _) | (with_reducible refine Below.drew ?_) | (with_reducible refine below_dr ?_ _) | (with_reducible refine Below.trans ?_ (Below.mono (by with_reducible assumption) ?_)) | omega | (simp; done) | (simp; omega))⟩
  obtain ⟨l1, l2, l3⟩ := vRg_parts hL
  have NT := Lib.hid (fun w => nearTo_any A l.length c r w)
  have AA := Lib.hid (fun Bs Bd w ra rd s0 d0 hs hd => areAll_any a l A C ca c Bs Bd r w ha ra hl l1 rd s0 d0 hs hd)
  rw [hA] at PA
  rw [hL] at PL
  clear hA hL l1 l2 l3
  generalize alV a l r = v at *
  generalize a.length = n at *
  generalize l.length = m at *
  go_enter Try.func24, Try.ntmps24
  go_wp2_with fail
  refine (PA.out _ RA.out).mono ?_
  rintro e w1 ⟨rfl, hb1⟩
  have hz1 := hb1.size
  go_wp2_with fail
  refine (PL.out _ ((RD.out.below hb1).more (by omega))).mono ?_
  rintro e w2 ⟨rfl, hb2⟩
  have hz2 := hb2.size
  go_wp2_with fail
  refine (NT.out _).mono ?_
  rintro e w3 ⟨rfl, hb3, s0, d0, z3⟩
  have hz3 := hb3.size
  have hb : Below w.heap.size w w3 := by repeat' (first | with_reducible assumption | with_reducible exact Below.refl _ _ | (with_reducible refine Below.setCell ?_ ?_ _) | (with_reducible refine Below.alloc ?_ ?_ _) | (with_reducible refine Below.drew ?_) | (with_reducible refine below_dr ?_ _) | (with_reducible refine Below.trans ?_ (Below.mono (by with_reducible assumption) ?_)) | omega | (simp; done) | (simp; omega))
  go_wp2_with fail
  refine (AA.out _ _ _ ((RA.out.below hb).more (by omega)) ((RD.out.below hb).more (by omega)) s0 d0 (by omega) z3).mono ?_
  rintro e w4 ⟨rfl, hb4⟩
  go_wp2_with fail
  go_ret
  exact ⟨by simp, by repeat' (first | with_reducible assumption | with_reducible exact Below.refl _ _ | (with_reducible refine Below.setCell ?_ ?_ _) | (with_reducible refine Below.alloc ?_ ?_ _) | (with_reducible refine Below.drew ?_) | (with_reducible refine below_dr ?_ _) | (with_reducible refine Below.trans ?_ (Below.mono (by with_reducible assumption) ?_)) | omega | (simp; done) | (simp; omega))⟩
set_option maxHeartbeats 1600000 in
theorem implNearPath_any (l : List APt) (A : Option Addr) (c : Nat) (x y r : Int) (w : World) (hl : l.length ≤ 1048576) (rd : Rd cPt 2 w w.heap.size A l) :
    Calls Try.prog 18 #[.slice A l.length c, .agg #[.int .i64 x, .int .i64 y], .int .i64 r] w fun e w' => e = .returned (.bool (npV l x y r)) ∧ Below w.heap.size w w' := by
  have PW := Lib.hid (fun (g : Nat) (w' : World) (ra : Rd cPt 2 w' w'.heap.size (some ⟨g, 0, none⟩) [(x, y)]) rd => implPathWithin_any [(x, y)] l A (some ⟨g, 0, none⟩) 1 c r w' (by simp) ra hl rd)
  rw [np_prog] at PW
  have RD := Lib.hid rd
  clear rd hl
  generalize npV l x y r = v at *
  generalize l.length = m at *
  go_enter Try.func18, Try.ntmps18
  go_wp2_with fail
  refine (PW.out _ _ ?_ ?_).mono ?_
  · refine .inr ⟨_, 0, rfl, by simp, fun k a hk i u hu => ?_⟩
    match k, hk with
    | 0, hk =>
      obtain rfl := Option.some.inj hk
      match i, hu with
      | 0, hu => obtain rfl := Option.some.inj hu; simp [go_sem]
      | 1, hu => obtain rfl := Option.some.inj hu; simp [go_sem]
      | i + 2, hu => simp [cPt] at hu
    | k + 1, hk => simp at hk
  · exact (RD.out.below (by repeat' (first | with_reducible assumption | with_reducible exact Below.refl _ _ | (with_reducible refine Below.setCell ?_ ?_ _) | (with_reducible refine Below.alloc ?_ ?_ _) | (with_reducible refine Below.drew ?_) | (with_reducible refine below_dr ?_ _) | (with_reducible refine Below.trans ?_ (Below.mono (by with_reducible assumption) ?_)) | omega | (simp; done) | (simp; omega)))).more (by simp; omega)
  rintro e w4 ⟨rfl, hb4⟩
  go_wp2_with fail
  go_ret
  exact ⟨rfl, by repeat' (first | with_reducible assumption | with_reducible exact Below.refl _ _ | (with_reducible refine Below.setCell ?_ ?_ _) | (with_reducible refine Below.alloc ?_ ?_ _) | (with_reducible refine Below.drew ?_) | (with_reducible refine below_dr ?_ _) | (with_reducible refine Below.trans ?_ (Below.mono (by with_reducible assumption) ?_)) | omega | (simp; done) | (simp; omega))⟩
set_option maxHeartbeats 1600000 in
theorem specNearPath_any (l : List APt) (A : Option Addr) (c : Nat) (x y r : Int) (w : World) (hl : l.length ≤ 1048576) (rd : Rd cPt 2 w w.heap.size A l) :
    Calls Try.prog 16 #[.slice A l.length c, .agg #[.int .i64 x, .int .i64 y], .int .i64 r] w fun e w' => e = .returned (.bool (npV l x y r)) ∧ Below w.heap.size w w' := by
  have PL := Lib.hid (fun w r => l12Path_any l A c w hl r)
  have PO := Lib.hid (fun w => l03Ok_any x y w)
  have PD := Lib.hid (fun w => l16Distance_any r w)
  have RD := Lib.hid rd
  clear rd
  rcases hL : vRg l with _ | _
  · have X := Lib.hid (show false = npV l x y r by unfold npV; rw [hL]; simp)
    rw [hL] at PL
    clear hL
    generalize l.length = m at *
    go_enter Try.func16, Try.ntmps16
    go_wp2_with fail
    refine (PL.out _ ((RD.out.alloc (Nat.le_refl _) _).more (by simp))).mono ?_
    rintro e w1 ⟨rfl, hb1⟩
    go_wp2_with fail
    go_ret
    exact ⟨ret_bool X.out, by repeat' (first | with_reducible assumption | with_reducible exact Below.refl _ _ | (with_reducible refine Below.setCell ?_ ?_ _) | (with_reducible refine Below.alloc ?_ ?_ _) | (with_reducible refine Below.drew ?_) | (with_reducible refine below_dr ?_ _) | (with_reducible refine Below.trans ?_ (Below.mono (by with_reducible assumption) ?_)) | omega | (simp; done) | (simp; omega))⟩
  rw [hL] at PL
  rcases hO : okB x y with _ | _
  · have X := Lib.hid (show false = npV l x y r by unfold npV; rw [hO]; simp)
    rw [hO] at PO
    clear hO hL
    generalize l.length = m at *
    go_enter Try.func16, Try.ntmps16
    go_wp2_with fail
    refine (PL.out _ ((RD.out.alloc (Nat.le_refl _) _).more (by simp))).mono ?_
    rintro e w1 ⟨rfl, hb1⟩
    have hz1 := hb1.size
    simp only [World.size_alloc] at hz1
    have c0 : w1.cell? ⟨w.heap.size, 0, none⟩ = some (.int .i64 x) := (hb1.cell (p := ⟨w.heap.size, 0, none⟩) (by simp)).trans (by simp [go_sem])
    have c1 : w1.cell? ⟨w.heap.size, 1, none⟩ = some (.int .i64 y) := (hb1.cell (p := ⟨w.heap.size, 1, none⟩) (by simp)).trans (by simp [go_sem])
    go_wp2_with fail
    refine (PO.out _).mono ?_
    rintro e w2 ⟨rfl, hb2⟩
    have hz2 := hb2.size
    have s0 : w2.cell? ⟨w.heap.size, 0, none⟩ = some (.int .i64 x) := (hb2.cell (p := ⟨w.heap.size, 0, none⟩) (by simp only; omega)).trans c0
    have s1 : w2.cell? ⟨w.heap.size, 1, none⟩ = some (.int .i64 y) := (hb2.cell (p := ⟨w.heap.size, 1, none⟩) (by simp only; omega)).trans c1
    go_wp2_with fail
    go_ret
    exact ⟨ret_bool X.out, by repeat' (first | with_reducible assumption | with_reducible exact Below.refl _ _ | (with_reducible refine Below.setCell ?_ ?_ _) | (with_reducible refine Below.alloc ?_ ?_ _) | (with_reducible refine Below.drew ?_) | (with_reducible refine below_dr ?_ _) | (with_reducible refine Below.trans ?_ (Below.mono (by with_reducible assumption) ?_)) | omega | (simp; done) | (simp; omega))⟩
  rcases hD : dsB r with _ | _
  · have X := Lib.hid (show false = npV l x y r by unfold npV; rw [hD]; simp)
    rw [hO] at PO
    rw [hD] at PD
    clear hO hL hD
    generalize l.length = m at *
    go_enter Try.func16, Try.ntmps16
    go_wp2_with fail
    refine (PL.out _ ((RD.out.alloc (Nat.le_refl _) _).more (by simp))).mono ?_
    rintro e w1 ⟨rfl, hb1⟩
    have hz1 := hb1.size
    simp only [World.size_alloc] at hz1
    have c0 : w1.cell? ⟨w.heap.size, 0, none⟩ = some (.int .i64 x) := (hb1.cell (p := ⟨w.heap.size, 0, none⟩) (by simp)).trans (by simp [go_sem])
    have c1 : w1.cell? ⟨w.heap.size, 1, none⟩ = some (.int .i64 y) := (hb1.cell (p := ⟨w.heap.size, 1, none⟩) (by simp)).trans (by simp [go_sem])
    go_wp2_with fail
    refine (PO.out _).mono ?_
    rintro e w2 ⟨rfl, hb2⟩
    have hz2 := hb2.size
    have s0 : w2.cell? ⟨w.heap.size, 0, none⟩ = some (.int .i64 x) := (hb2.cell (p := ⟨w.heap.size, 0, none⟩) (by simp only; omega)).trans c0
    have s1 : w2.cell? ⟨w.heap.size, 1, none⟩ = some (.int .i64 y) := (hb2.cell (p := ⟨w.heap.size, 1, none⟩) (by simp only; omega)).trans c1
    go_wp2_with fail
    refine (PD.out _).mono ?_
    rintro e w3 ⟨rfl, hb3⟩
    go_wp2_with fail
    go_ret
    exact ⟨ret_bool X.out, by repeat' (first | with_reducible assumption | with_reducible exact Below.refl _ _ | (with_reducible refine Below.setCell ?_ ?_ _) | (with_reducible refine Below.alloc ?_ ?_ _) | (with_reducible refine Below.drew ?_) | (with_reducible refine below_dr ?_ _) | (with_reducible refine Below.trans ?_ (Below.mono (by with_reducible assumption) ?_)) | omega | (simp; done) | (simp; omega))⟩
  have X := Lib.hid (show nrV l x y r = npV l x y r by unfold npV; rw [hL, hO, hD]; simp)
  obtain ⟨l1, l2, l3⟩ := vRg_parts hL
  have hr : 0 ≤ r ∧ r ≤ 262144 := by unfold dsB at hD; simpa using hD
  have PN := Lib.hid (fun w rd => l16Near_any l A c x y r w hl l1 rd l3 hO hr.1 hr.2)
  rw [X.out] at PN
  rw [hO] at PO
  rw [hD] at PD
  clear hO hL hD X l1 l2 l3 hr
  generalize l.length = m at *
  go_enter Try.func16, Try.ntmps16
  go_wp2_with fail
  refine (PL.out _ ((RD.out.alloc (Nat.le_refl _) _).more (by simp))).mono ?_
  rintro e w1 ⟨rfl, hb1⟩
  have hz1 := hb1.size
  simp only [World.size_alloc] at hz1
  have c0 : w1.cell? ⟨w.heap.size, 0, none⟩ = some (.int .i64 x) := (hb1.cell (p := ⟨w.heap.size, 0, none⟩) (by simp)).trans (by simp [go_sem])
  have c1 : w1.cell? ⟨w.heap.size, 1, none⟩ = some (.int .i64 y) := (hb1.cell (p := ⟨w.heap.size, 1, none⟩) (by simp)).trans (by simp [go_sem])
  go_wp2_with fail
  refine (PO.out _).mono ?_
  rintro e w2 ⟨rfl, hb2⟩
  have hz2 := hb2.size
  have s0 : w2.cell? ⟨w.heap.size, 0, none⟩ = some (.int .i64 x) := (hb2.cell (p := ⟨w.heap.size, 0, none⟩) (by simp only; omega)).trans c0
  have s1 : w2.cell? ⟨w.heap.size, 1, none⟩ = some (.int .i64 y) := (hb2.cell (p := ⟨w.heap.size, 1, none⟩) (by simp only; omega)).trans c1
  go_wp2_with fail
  refine (PD.out _).mono ?_
  rintro e w3 ⟨rfl, hb3⟩
  have hz3 := hb3.size
  have t0 : w3.cell? ⟨w.heap.size, 0, none⟩ = some (.int .i64 x) := (hb3.cell (p := ⟨w.heap.size, 0, none⟩) (by simp only; omega)).trans s0
  have t1 : w3.cell? ⟨w.heap.size, 1, none⟩ = some (.int .i64 y) := (hb3.cell (p := ⟨w.heap.size, 1, none⟩) (by simp only; omega)).trans s1
  have hb : Below w.heap.size w w3 := by repeat' (first | with_reducible assumption | with_reducible exact Below.refl _ _ | (with_reducible refine Below.setCell ?_ ?_ _) | (with_reducible refine Below.alloc ?_ ?_ _) | (with_reducible refine Below.drew ?_) | (with_reducible refine below_dr ?_ _) | (with_reducible refine Below.trans ?_ (Below.mono (by with_reducible assumption) ?_)) | omega | (simp; done) | (simp; omega))
  go_wp2_with fail
  refine (PN.out _ ((RD.out.below hb).more (by omega))).mono ?_
  rintro e w4 ⟨rfl, hb4⟩
  go_wp2_with fail
  go_ret
  exact ⟨rfl, by repeat' (first | with_reducible assumption | with_reducible exact Below.refl _ _ | (with_reducible refine Below.setCell ?_ ?_ _) | (with_reducible refine Below.alloc ?_ ?_ _) | (with_reducible refine Below.drew ?_) | (with_reducible refine below_dr ?_ _) | (with_reducible refine Below.trans ?_ (Below.mono (by with_reducible assumption) ?_)) | omega | (simp; done) | (simp; omega))⟩
end Go.Proofs.Ytjhboedaaeaomaa
