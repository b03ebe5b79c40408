/- Walks: the span of a segment in a pixel, the reference's side: it is there or not. -/
import Derived.Test.YtnlhofepobkljaaIi
import Derived.BigRegion
import Derived.Deep.RegionLaw
namespace Go.Proofs.Ytnlhofepobkljaa
open Go.RowKit
set_option linter.unusedVariables false
theorem Blk.set6P {w : World} {g : Nat} {t : TypeId} {x0 x1 x2 x3 x4 x5 a b c d e f : Value} (h : Blk w g t #[x0, x1, x2, x3, x4, x5]) : Blk ((((((w.setCell ⟨g, 0, none⟩ a).setCell ⟨g, 1, none⟩ b).setCell ⟨g, 2, none⟩ c).setCell ⟨g, 3, none⟩ d).setCell ⟨g, 4, none⟩ e).setCell ⟨g, 5, none⟩ f) g t #[a, b, c, d, e, f] := (((((h.set_ 0 a).set_ 1 b).set_ 2 c).set_ 3 d).set_ 4 e).set_ 5 f
theorem cell_set_ne2 (w : World) (v : Value) {b i c j : Nat} (h : ¬ b = c) : (w.setCell ⟨c, j, none⟩ v).cell? ⟨b, i, none⟩ = w.cell? ⟨b, i, none⟩ := World.cell?_setCell_other w _ _ v (fun e => h (by injection e with h1; first | exact h1 | exact h1.symm))
theorem there6P {w : World} {g : Nat} {t : TypeId} {x0 x1 x2 x3 x4 x5 : Value} (h : Blk w g t #[x0, x1, x2, x3, x4, x5]) : w.there g 0 6 := by
  intro j hj
  refine ⟨?_, h.frozen _⟩
  rcases (show j = 0 ∨ j = 1 ∨ j = 2 ∨ j = 3 ∨ j = 4 ∨ j = 5 by omega) with rfl | rfl | rfl | rfl | rfl | rfl
  · rw [h.cell 0 rfl]; rfl
  · rw [h.cell 1 rfl]; rfl
  · rw [h.cell 2 rfl]; rfl
  · rw [h.cell 3 rfl]; rfl
  · rw [h.cell 4 rfl]; rfl
  · rw [h.cell 5 rfl]; rfl
/-- What a store of six cells leaves. -/
def Six (w : World) (g : Nat) (t : TypeId) (cs : Array Value) (wX : World) : Prop := Blk wX g t cs ∧ (∀ (q : Nat) (u : TypeId) (ds : Array Value), Blk w q u ds → ¬ q = g → Blk wX q u ds) ∧ Below g w wX ∧ (∀ b o, ¬ b = g → wX.cell? ⟨b, o, none⟩ = w.cell? ⟨b, o, none⟩) ∧ wX.heap.size = w.heap.size
theorem sixP {w : World} {g : Nat} {t : TypeId} {x0 x1 x2 x3 x4 x5 a b c d e f : Value} (h : Blk w g t #[x0, x1, x2, x3, x4, x5]) : Six w g t #[a, b, c, d, e, f] (w.setCells g 0 (#[a, b, c, d, e, f] : Array Value).toList) := by
  have hn : w.setCells g 0 (#[a, b, c, d, e, f] : Array Value).toList = (((((w.setCell ⟨g, 0, none⟩ a).setCell ⟨g, 1, none⟩ b).setCell ⟨g, 2, none⟩ c).setCell ⟨g, 3, none⟩ d).setCell ⟨g, 4, none⟩ e).setCell ⟨g, 5, none⟩ f := rfl
  rw [hn]
  refine ⟨Blk.set6P h, fun q u ds k hne => (((((k.far hne _).far hne _).far hne _).far hne _).far hne _).far hne _, ?_, fun b o hne => ?_, by simp⟩
  · exact ((((((Below.refl _ _).setCell (p := ⟨g, 0, none⟩) (Nat.le_refl _) _).setCell (p := ⟨g, 1, none⟩) (Nat.le_refl _) _).setCell (p := ⟨g, 2, none⟩) (Nat.le_refl _) _).setCell (p := ⟨g, 3, none⟩) (Nat.le_refl _) _).setCell (p := ⟨g, 4, none⟩) (Nat.le_refl _) _).setCell (p := ⟨g, 5, none⟩) (Nat.le_refl _) _
  · rw [cell_set_ne2 _ _ hne, cell_set_ne2 _ _ hne, cell_set_ne2 _ _ hne, cell_set_ne2 _ _ hne, cell_set_ne2 _ _ hne, cell_set_ne2 _ _ hne]
theorem one6P (a b c d : Int) (f g : Bool) : (#[.int .i64 a, .int .i64 b, .int .i64 c, .int .i64 d, .bool f, .bool g] : Array Value).all (·.oneCell') = true :=
  all_oneCell_toArray (cs := [.int .i64 a, .int .i64 b, .int .i64 c, .int .i64 d, .bool f, .bool g]) (by
    intro v hv
    simp only [List.mem_cons, List.not_mem_nil, or_false] at hv
    rcases hv with rfl | rfl | rfl | rfl | rfl | rfl <;> rfl)
theorem infoSpan : Option.map (fun x => x.size) (Try.prog.info? 118) = some 6 := by kernel_rfl
theorem bif_b {t : Bool} {a b : Int} (h1 : -4194304 ≤ a ∧ a ≤ 4194304) (h2 : -4194304 ≤ b ∧ b ≤ 4194304) : -4194304 ≤ (bif t then a else b) ∧ (bif t then a else b) ≤ 4194304 := by cases t <;> assumption
set_option maxRecDepth 100000 in
set_option maxHeartbeats 12800000 in
theorem l13Inside_any (ax ay bx ey px py : Int) (w : World) (va : okB ax ay = true) (vb : okB bx ey = true) (vp : okB px py = true) :
    Calls Try.prog 75 #[.agg #[.int .i64 ax, .int .i64 ay], .agg #[.int .i64 bx, .int .i64 ey], .agg #[.int .i64 px, .int .i64 py]] w fun e w' => ∃ (l b h c : Int) (f g : Bool), e = .returned (.tuple #[.agg #[.int .i64 l, .int .i64 b, .int .i64 h, .int .i64 c, .bool f, .bool g], .bool (insA ax ay bx ey px py)]) ∧ Below w.heap.size w w' := by
  obtain ⟨a1, a2, a3, a4⟩ := okB_bounds va
  obtain ⟨b1, b2, b3, b4⟩ := okB_bounds vb
  obtain ⟨p1, p2, p3, p4⟩ := okB_bounds vp
  clear va vb vp
  have HI : insA ax ay bx ey px py = _ := rfl
  skip
  obtain ⟨R, hR⟩ : ∃ R, R = insA ax ay bx ey px py := ⟨_, rfl⟩
  rw [← hR]
  unfold insA at hR
  rw [meetB_bif] at hR
  clear HI
  have Cx := Lib.hid (fun w => l13Clip_any (2 * ax) (2 * (bx - ax)) (2 * px - 1) (2 * px + 1) w (by omega) (by omega) (by omega) (by omega))
  have blx := clL_b (fr := (2 * ax)) (d := (2 * (bx - ax))) (lo := (2 * px - 1)) (hi := (2 * px + 1)) (by omega) (by omega) (by omega)
  have bhx := clH_b (fr := (2 * ax)) (d := (2 * (bx - ax))) (lo := (2 * px - 1)) (hi := (2 * px + 1)) (by omega) (by omega) (by omega)
  have bbx := clB_b (d := (2 * (bx - ax))) (by omega)
  have Cy := Lib.hid (fun w => l13Clip_any (2 * ay) (2 * (ey - ay)) (2 * py - 1) (2 * py + 1) w (by omega) (by omega) (by omega) (by omega))
  have bly := clL_b (fr := (2 * ay)) (d := (2 * (ey - ay))) (lo := (2 * py - 1)) (hi := (2 * py + 1)) (by omega) (by omega) (by omega)
  have bhy := clH_b (fr := (2 * ay)) (d := (2 * (ey - ay))) (lo := (2 * py - 1)) (hi := (2 * py + 1)) (by omega) (by omega) (by omega)
  have bby := clB_b (d := (2 * (ey - ay))) (by omega)
  generalize clL (2 * ax) (2 * (bx - ax)) (2 * px - 1) (2 * px + 1) = lx at *
  generalize clH (2 * ax) (2 * (bx - ax)) (2 * px - 1) (2 * px + 1) = hx at *
  generalize clK (2 * ax) (2 * (bx - ax)) (2 * px - 1) (2 * px + 1) = kx at *
  generalize clB (2 * (bx - ax)) = qx at *
  generalize clF (2 * (bx - ax)) = fx at *
  generalize clG (2 * (bx - ax)) = gx at *
  generalize clL (2 * ay) (2 * (ey - ay)) (2 * py - 1) (2 * py + 1) = ly at *
  generalize clH (2 * ay) (2 * (ey - ay)) (2 * py - 1) (2 * py + 1) = hy at *
  generalize clK (2 * ay) (2 * (ey - ay)) (2 * py - 1) (2 * py + 1) = ky at *
  generalize clB (2 * (ey - ay)) = qy at *
  generalize clF (2 * (ey - ay)) = fy at *
  generalize clG (2 * (ey - ay)) = gy at *
  have MX := Lib.hid (fun w => l13Meet_any 0 1 1 1 lx qx hx qx true true fx gx w (by omega) (by omega) (by omega) (by omega) blx bbx bhx bbx)
  have z1 : -4194304 ≤ (1 : Int) ∧ (1 : Int) ≤ 4194304 := by omega
  have z0 : -4194304 ≤ (0 : Int) ∧ (0 : Int) ≤ 4194304 := by omega
  have c1 := bif_b (t := takeLo 0 1 lx qx fx) blx z0
  have c2 := bif_b (t := takeLo 0 1 lx qx fx) bbx z1
  have c3 := bif_b (t := takeHi 1 1 hx qx gx) bhx z1
  have c4 := bif_b (t := takeHi 1 1 hx qx gx) bbx z1
  generalize (bif takeLo 0 1 lx qx fx then lx else 0) = A1 at *
  generalize (bif takeLo 0 1 lx qx fx then qx else 1) = B1 at *
  generalize (bif takeLo 0 1 lx qx fx then fx else true) = F1 at *
  generalize (bif takeHi 1 1 hx qx gx then hx else 1) = H1 at *
  generalize (bif takeHi 1 1 hx qx gx then qx else 1) = D1 at *
  generalize (bif takeHi 1 1 hx qx gx then gx else true) = G1 at *
  have MY := Lib.hid (fun w => l13Meet_any A1 B1 H1 D1 ly qy hy qy F1 G1 fy gy w c1 c2 c3 c4 bly bby bhy bby)
  have e1 := bif_b (t := takeLo A1 B1 ly qy fy) bly c1
  have e2 := bif_b (t := takeLo A1 B1 ly qy fy) bby c2
  have e3 := bif_b (t := takeHi H1 D1 hy qy gy) bhy c3
  have e4 := bif_b (t := takeHi H1 D1 hy qy gy) bby c4
  generalize (bif takeLo A1 B1 ly qy fy then ly else A1) = A2 at *
  generalize (bif takeLo A1 B1 ly qy fy then qy else B1) = B2 at *
  generalize (bif takeLo A1 B1 ly qy fy then fy else F1) = F2 at *
  generalize (bif takeHi H1 D1 hy qy gy then hy else H1) = H2 at *
  generalize (bif takeHi H1 D1 hy qy gy then qy else D1) = D2 at *
  generalize (bif takeHi H1 D1 hy qy gy then gy else G1) = G2 at *
  obtain ⟨n1, n2⟩ := m22 e1 e4
  obtain ⟨n3, n4⟩ := m22 e3 e2
  clear blx bhx bbx bly bhy bby z0 z1 c1 c2 c3 c4 e1 e2 e3 e4
  have HR := Lib.hid hR
  clear hR
  rcases kx with _ | _
  case false =>
    go_enter Try.func75, Try.ntmps75
    go_wp2_with fail
    generalize hW : ((((w.alloc (.cells #[.int .i64 ax, .int .i64 ay] 64)).alloc (.cells #[.int .i64 bx, .int .i64 ey] 64)).alloc (.cells #[.int .i64 px, .int .i64 py] 64)).alloc (.cells #[.int .i64 0, .int .i64 0, .int .i64 0, .int .i64 0, .bool false, .bool false] 118)).alloc (.cells #[.int .i64 0, .int .i64 1, .int .i64 1, .int .i64 1, .bool true, .bool true] 118) = W0
    have at0 : AtL (w.heap.size) [.int .i64 ax, .int .i64 ay] W0 := by rw [← hW]; repeat' (first | with_reducible exact AtL.new _ _ _ | ((with_reducible refine AtL.newAt ?_); (simp; done)) | (with_reducible refine AtL.alloc ?_ _))
    have at1 : AtL (w.heap.size + 1) [.int .i64 bx, .int .i64 ey] W0 := by rw [← hW]; repeat' (first | with_reducible exact AtL.new _ _ _ | ((with_reducible refine AtL.newAt ?_); (simp; done)) | (with_reducible refine AtL.alloc ?_ _))
    have at2 : AtL (w.heap.size + 1 + 1) [.int .i64 px, .int .i64 py] W0 := by rw [← hW]; repeat' (first | with_reducible exact AtL.new _ _ _ | ((with_reducible refine AtL.newAt ?_); (simp; done)) | (with_reducible refine AtL.alloc ?_ _))
    have br : Blk W0 (w.heap.size + 1 + 1 + 1) 118 #[.int .i64 0, .int .i64 0, .int .i64 0, .int .i64 0, .bool false, .bool false] := by rw [← hW]; repeat' (first | with_reducible exact Blk.new _ _ _ | ((with_reducible refine Blk.newAt _ _ _ ?_); (simp; done)) | (with_reducible refine Blk.alloc ?_ _))
    have bt : Blk W0 (w.heap.size + 1 + 1 + 1 + 1) 118 #[.int .i64 0, .int .i64 1, .int .i64 1, .int .i64 1, .bool true, .bool true] := by rw [← hW]; repeat' (first | with_reducible exact Blk.new _ _ _ | ((with_reducible refine Blk.newAt _ _ _ ?_); (simp; done)) | (with_reducible refine Blk.alloc ?_ _))
    have g0 : Below w.heap.size w W0 := by rw [← hW]; repeat' (first | with_reducible assumption | with_reducible exact Below.refl _ _ | (with_reducible refine Below.setCell ?_ ?_ _) | (with_reducible refine Below.alloc ?_ ?_ _) | (with_reducible refine Below.drew ?_) | (with_reducible refine below_dr ?_ _) | (with_reducible refine Below.trans ?_ (Below.mono (by with_reducible assumption) ?_)) | omega | (simp; done) | (simp; omega))
    clear hW
    refine (Cx.out _).mono ?_
    rintro e w1 ⟨rfl, hb1⟩
    replace at0 := at0.below hb1
    replace at1 := at1.below hb1
    replace at2 := at2.below hb1
    replace br := br.carry hb1
    replace bt := bt.carry hb1
    replace g0 : Below w.heap.size w w1 := g0.trans (hb1.mono g0.size)
    clear hb1
    have hq9_ := bt.lt
    have s00 := at0.cell 0 rfl
    have s01 := at0.cell 1 rfl
    have s10 := at1.cell 0 rfl
    have s11 := at1.cell 1 rfl
    have s20 := at2.cell 0 rfl
    have s21 := at2.cell 1 rfl
    have l0 := at0.lt
    have l1 := at1.lt
    have l2 := at2.lt
    go_wp2_with fail
    clear s00 s01 s10 s11 s20 s21 l0 l1 l2
    have bx9 : Blk (w1.alloc (.cells #[.int .i64 lx, .int .i64 qx, .int .i64 hx, .int .i64 qx, .bool fx, .bool gx] 118)) w1.heap.size 118 #[.int .i64 lx, .int .i64 qx, .int .i64 hx, .int .i64 qx, .bool fx, .bool gx] := Blk.new _ _ _
    replace br := br.alloc (.cells #[.int .i64 lx, .int .i64 qx, .int .i64 hx, .int .i64 qx, .bool fx, .bool gx] 118)
    replace bt := bt.alloc (.cells #[.int .i64 lx, .int .i64 qx, .int .i64 hx, .int .i64 qx, .bool fx, .bool gx] 118)
    replace g0 : Below w.heap.size w (w1.alloc (.cells #[.int .i64 lx, .int .i64 qx, .int .i64 hx, .int .i64 qx, .bool fx, .bool gx] 118)) := g0.alloc g0.size _
    clear at0 at1 at2
    generalize w1.alloc (.cells #[.int .i64 lx, .int .i64 qx, .int .i64 hx, .int .i64 qx, .bool fx, .bool gx] 118) = W2 at *
    have hq9 : w.heap.size + 1 + 1 + 1 + 1 < w1.heap.size := hq9_
    clear hq9_
    generalize w1.heap.size = Q9 at *
    refine (Cy.out _).mono ?_
    rintro e w3 ⟨rfl, hb3⟩
    replace br := br.carry hb3
    replace bt := bt.carry hb3
    replace bx9 := bx9.carry hb3
    replace g0 : Below w.heap.size w w3 := g0.trans (hb3.mono g0.size)
    clear hb3 Cx Cy
    have y0 := bt.cell 0 rfl
    have y1 := bt.cell 1 rfl
    have y2 := bt.cell 2 rfl
    have y3 := bt.cell 3 rfl
    have y4 := bt.cell 4 rfl
    have y5 := bt.cell 5 rfl
    have z0 := br.cell 0 rfl
    have z1 := br.cell 1 rfl
    have z2 := br.cell 2 rfl
    have z3 := br.cell 3 rfl
    have z4 := br.cell 4 rfl
    have z5 := br.cell 5 rfl
    have fr0 := br.frozen 0
    have fr1 := br.frozen 1
    have fr2 := br.frozen 2
    have fr3 := br.frozen 3
    have fr4 := br.frozen 4
    have fr5 := br.frozen 5
    have lt := bt.lt
    have lr := br.lt
    go_wp2_with fail
    refine bodyPost_ret (v := .tuple #[.agg #[.int .i64 0, .int .i64 1, .int .i64 1, .int .i64 1, .bool true, .bool true], .bool false]) (by simp [results, Try.results75, go_sem, *]) rfl ⟨0, 1, 1, 1, true, true, by rw [HR.out]; simp, ?_⟩
    repeat' (first | with_reducible assumption | with_reducible exact Below.refl _ _ | (with_reducible refine Below.setCell ?_ ?_ _) | (with_reducible refine Below.alloc ?_ ?_ _) | (with_reducible refine Below.drew ?_) | (with_reducible refine below_dr ?_ _) | (with_reducible refine Below.trans ?_ (Below.mono (by with_reducible assumption) ?_)) | omega | (simp; done) | (simp; omega))
  case true =>
    rcases ky with _ | _
    case false =>
      go_enter Try.func75, Try.ntmps75
      go_wp2_with fail
      generalize hW : ((((w.alloc (.cells #[.int .i64 ax, .int .i64 ay] 64)).alloc (.cells #[.int .i64 bx, .int .i64 ey] 64)).alloc (.cells #[.int .i64 px, .int .i64 py] 64)).alloc (.cells #[.int .i64 0, .int .i64 0, .int .i64 0, .int .i64 0, .bool false, .bool false] 118)).alloc (.cells #[.int .i64 0, .int .i64 1, .int .i64 1, .int .i64 1, .bool true, .bool true] 118) = W0
      have at0 : AtL (w.heap.size) [.int .i64 ax, .int .i64 ay] W0 := by rw [← hW]; repeat' (first | with_reducible exact AtL.new _ _ _ | ((with_reducible refine AtL.newAt ?_); (simp; done)) | (with_reducible refine AtL.alloc ?_ _))
      have at1 : AtL (w.heap.size + 1) [.int .i64 bx, .int .i64 ey] W0 := by rw [← hW]; repeat' (first | with_reducible exact AtL.new _ _ _ | ((with_reducible refine AtL.newAt ?_); (simp; done)) | (with_reducible refine AtL.alloc ?_ _))
      have at2 : AtL (w.heap.size + 1 + 1) [.int .i64 px, .int .i64 py] W0 := by rw [← hW]; repeat' (first | with_reducible exact AtL.new _ _ _ | ((with_reducible refine AtL.newAt ?_); (simp; done)) | (with_reducible refine AtL.alloc ?_ _))
      have br : Blk W0 (w.heap.size + 1 + 1 + 1) 118 #[.int .i64 0, .int .i64 0, .int .i64 0, .int .i64 0, .bool false, .bool false] := by rw [← hW]; repeat' (first | with_reducible exact Blk.new _ _ _ | ((with_reducible refine Blk.newAt _ _ _ ?_); (simp; done)) | (with_reducible refine Blk.alloc ?_ _))
      have bt : Blk W0 (w.heap.size + 1 + 1 + 1 + 1) 118 #[.int .i64 0, .int .i64 1, .int .i64 1, .int .i64 1, .bool true, .bool true] := by rw [← hW]; repeat' (first | with_reducible exact Blk.new _ _ _ | ((with_reducible refine Blk.newAt _ _ _ ?_); (simp; done)) | (with_reducible refine Blk.alloc ?_ _))
      have g0 : Below w.heap.size w W0 := by rw [← hW]; repeat' (first | with_reducible assumption | with_reducible exact Below.refl _ _ | (with_reducible refine Below.setCell ?_ ?_ _) | (with_reducible refine Below.alloc ?_ ?_ _) | (with_reducible refine Below.drew ?_) | (with_reducible refine below_dr ?_ _) | (with_reducible refine Below.trans ?_ (Below.mono (by with_reducible assumption) ?_)) | omega | (simp; done) | (simp; omega))
      clear hW
      refine (Cx.out _).mono ?_
      rintro e w1 ⟨rfl, hb1⟩
      replace at0 := at0.below hb1
      replace at1 := at1.below hb1
      replace at2 := at2.below hb1
      replace br := br.carry hb1
      replace bt := bt.carry hb1
      replace g0 : Below w.heap.size w w1 := g0.trans (hb1.mono g0.size)
      clear hb1
      have hq9_ := bt.lt
      have s00 := at0.cell 0 rfl
      have s01 := at0.cell 1 rfl
      have s10 := at1.cell 0 rfl
      have s11 := at1.cell 1 rfl
      have s20 := at2.cell 0 rfl
      have s21 := at2.cell 1 rfl
      have l0 := at0.lt
      have l1 := at1.lt
      have l2 := at2.lt
      go_wp2_with fail
      clear s00 s01 s10 s11 s20 s21 l0 l1 l2
      have bx9 : Blk (w1.alloc (.cells #[.int .i64 lx, .int .i64 qx, .int .i64 hx, .int .i64 qx, .bool fx, .bool gx] 118)) w1.heap.size 118 #[.int .i64 lx, .int .i64 qx, .int .i64 hx, .int .i64 qx, .bool fx, .bool gx] := Blk.new _ _ _
      replace br := br.alloc (.cells #[.int .i64 lx, .int .i64 qx, .int .i64 hx, .int .i64 qx, .bool fx, .bool gx] 118)
      replace bt := bt.alloc (.cells #[.int .i64 lx, .int .i64 qx, .int .i64 hx, .int .i64 qx, .bool fx, .bool gx] 118)
      replace g0 : Below w.heap.size w (w1.alloc (.cells #[.int .i64 lx, .int .i64 qx, .int .i64 hx, .int .i64 qx, .bool fx, .bool gx] 118)) := g0.alloc g0.size _
      clear at0 at1 at2
      generalize w1.alloc (.cells #[.int .i64 lx, .int .i64 qx, .int .i64 hx, .int .i64 qx, .bool fx, .bool gx] 118) = W2 at *
      have hq9 : w.heap.size + 1 + 1 + 1 + 1 < w1.heap.size := hq9_
      clear hq9_
      generalize w1.heap.size = Q9 at *
      refine (Cy.out _).mono ?_
      rintro e w3 ⟨rfl, hb3⟩
      replace br := br.carry hb3
      replace bt := bt.carry hb3
      replace bx9 := bx9.carry hb3
      replace g0 : Below w.heap.size w w3 := g0.trans (hb3.mono g0.size)
      clear hb3 Cx Cy
      have y0 := bt.cell 0 rfl
      have y1 := bt.cell 1 rfl
      have y2 := bt.cell 2 rfl
      have y3 := bt.cell 3 rfl
      have y4 := bt.cell 4 rfl
      have y5 := bt.cell 5 rfl
      have z0 := br.cell 0 rfl
      have z1 := br.cell 1 rfl
      have z2 := br.cell 2 rfl
      have z3 := br.cell 3 rfl
      have z4 := br.cell 4 rfl
      have z5 := br.cell 5 rfl
      have fr0 := br.frozen 0
      have fr1 := br.frozen 1
      have fr2 := br.frozen 2
      have fr3 := br.frozen 3
      have fr4 := br.frozen 4
      have fr5 := br.frozen 5
      have lt := bt.lt
      have lr := br.lt
      go_wp2_with fail
      refine bodyPost_ret (v := .tuple #[.agg #[.int .i64 0, .int .i64 1, .int .i64 1, .int .i64 1, .bool true, .bool true], .bool false]) (by simp [results, Try.results75, go_sem, *]) rfl ⟨0, 1, 1, 1, true, true, by rw [HR.out]; simp, ?_⟩
      repeat' (first | with_reducible assumption | with_reducible exact Below.refl _ _ | (with_reducible refine Below.setCell ?_ ?_ _) | (with_reducible refine Below.alloc ?_ ?_ _) | (with_reducible refine Below.drew ?_) | (with_reducible refine below_dr ?_ _) | (with_reducible refine Below.trans ?_ (Below.mono (by with_reducible assumption) ?_)) | omega | (simp; done) | (simp; omega))
    case true =>
      go_enter Try.func75, Try.ntmps75
      go_wp2_with fail
      generalize hW : ((((w.alloc (.cells #[.int .i64 ax, .int .i64 ay] 64)).alloc (.cells #[.int .i64 bx, .int .i64 ey] 64)).alloc (.cells #[.int .i64 px, .int .i64 py] 64)).alloc (.cells #[.int .i64 0, .int .i64 0, .int .i64 0, .int .i64 0, .bool false, .bool false] 118)).alloc (.cells #[.int .i64 0, .int .i64 1, .int .i64 1, .int .i64 1, .bool true, .bool true] 118) = W0
      have at0 : AtL (w.heap.size) [.int .i64 ax, .int .i64 ay] W0 := by rw [← hW]; repeat' (first | with_reducible exact AtL.new _ _ _ | ((with_reducible refine AtL.newAt ?_); (simp; done)) | (with_reducible refine AtL.alloc ?_ _))
      have at1 : AtL (w.heap.size + 1) [.int .i64 bx, .int .i64 ey] W0 := by rw [← hW]; repeat' (first | with_reducible exact AtL.new _ _ _ | ((with_reducible refine AtL.newAt ?_); (simp; done)) | (with_reducible refine AtL.alloc ?_ _))
      have at2 : AtL (w.heap.size + 1 + 1) [.int .i64 px, .int .i64 py] W0 := by rw [← hW]; repeat' (first | with_reducible exact AtL.new _ _ _ | ((with_reducible refine AtL.newAt ?_); (simp; done)) | (with_reducible refine AtL.alloc ?_ _))
      have br : Blk W0 (w.heap.size + 1 + 1 + 1) 118 #[.int .i64 0, .int .i64 0, .int .i64 0, .int .i64 0, .bool false, .bool false] := by rw [← hW]; repeat' (first | with_reducible exact Blk.new _ _ _ | ((with_reducible refine Blk.newAt _ _ _ ?_); (simp; done)) | (with_reducible refine Blk.alloc ?_ _))
      have bt : Blk W0 (w.heap.size + 1 + 1 + 1 + 1) 118 #[.int .i64 0, .int .i64 1, .int .i64 1, .int .i64 1, .bool true, .bool true] := by rw [← hW]; repeat' (first | with_reducible exact Blk.new _ _ _ | ((with_reducible refine Blk.newAt _ _ _ ?_); (simp; done)) | (with_reducible refine Blk.alloc ?_ _))
      have g0 : Below w.heap.size w W0 := by rw [← hW]; repeat' (first | with_reducible assumption | with_reducible exact Below.refl _ _ | (with_reducible refine Below.setCell ?_ ?_ _) | (with_reducible refine Below.alloc ?_ ?_ _) | (with_reducible refine Below.drew ?_) | (with_reducible refine below_dr ?_ _) | (with_reducible refine Below.trans ?_ (Below.mono (by with_reducible assumption) ?_)) | omega | (simp; done) | (simp; omega))
      clear hW
      refine (Cx.out _).mono ?_
      rintro e w1 ⟨rfl, hb1⟩
      replace at0 := at0.below hb1
      replace at1 := at1.below hb1
      replace at2 := at2.below hb1
      replace br := br.carry hb1
      replace bt := bt.carry hb1
      replace g0 : Below w.heap.size w w1 := g0.trans (hb1.mono g0.size)
      clear hb1
      have hq9_ := bt.lt
      have s00 := at0.cell 0 rfl
      have s01 := at0.cell 1 rfl
      have s10 := at1.cell 0 rfl
      have s11 := at1.cell 1 rfl
      have s20 := at2.cell 0 rfl
      have s21 := at2.cell 1 rfl
      have l0 := at0.lt
      have l1 := at1.lt
      have l2 := at2.lt
      go_wp2_with fail
      clear s00 s01 s10 s11 s20 s21 l0 l1 l2
      have bx9 : Blk (w1.alloc (.cells #[.int .i64 lx, .int .i64 qx, .int .i64 hx, .int .i64 qx, .bool fx, .bool gx] 118)) w1.heap.size 118 #[.int .i64 lx, .int .i64 qx, .int .i64 hx, .int .i64 qx, .bool fx, .bool gx] := Blk.new _ _ _
      replace br := br.alloc (.cells #[.int .i64 lx, .int .i64 qx, .int .i64 hx, .int .i64 qx, .bool fx, .bool gx] 118)
      replace bt := bt.alloc (.cells #[.int .i64 lx, .int .i64 qx, .int .i64 hx, .int .i64 qx, .bool fx, .bool gx] 118)
      replace g0 : Below w.heap.size w (w1.alloc (.cells #[.int .i64 lx, .int .i64 qx, .int .i64 hx, .int .i64 qx, .bool fx, .bool gx] 118)) := g0.alloc g0.size _
      clear at0 at1 at2
      generalize w1.alloc (.cells #[.int .i64 lx, .int .i64 qx, .int .i64 hx, .int .i64 qx, .bool fx, .bool gx] 118) = W2 at *
      have hq9 : w.heap.size + 1 + 1 + 1 + 1 < w1.heap.size := hq9_
      clear hq9_
      generalize w1.heap.size = Q9 at *
      refine (Cy.out _).mono ?_
      rintro e w3 ⟨rfl, hb3⟩
      replace br := br.carry hb3
      replace bt := bt.carry hb3
      replace bx9 := bx9.carry hb3
      replace g0 : Below w.heap.size w w3 := g0.trans (hb3.mono g0.size)
      clear hb3 Cx Cy
      have hqy_ := bt.lt
      go_upto_region 6 with fail
      have by9 : Blk (w3.alloc (.cells #[.int .i64 ly, .int .i64 qy, .int .i64 hy, .int .i64 qy, .bool fy, .bool gy] 118)) w3.heap.size 118 #[.int .i64 ly, .int .i64 qy, .int .i64 hy, .int .i64 qy, .bool fy, .bool gy] := Blk.new _ _ _
      replace br := br.alloc (.cells #[.int .i64 ly, .int .i64 qy, .int .i64 hy, .int .i64 qy, .bool fy, .bool gy] 118)
      replace bt := bt.alloc (.cells #[.int .i64 ly, .int .i64 qy, .int .i64 hy, .int .i64 qy, .bool fy, .bool gy] 118)
      replace bx9 := bx9.alloc (.cells #[.int .i64 ly, .int .i64 qy, .int .i64 hy, .int .i64 qy, .bool fy, .bool gy] 118)
      replace g0 : Below w.heap.size w (w3.alloc (.cells #[.int .i64 ly, .int .i64 qy, .int .i64 hy, .int .i64 qy, .bool fy, .bool gy] 118)) := g0.alloc g0.size _
      generalize w3.alloc (.cells #[.int .i64 ly, .int .i64 qy, .int .i64 hy, .int .i64 qy, .bool fy, .bool gy] 118) = W4 at *
      have hqy : w.heap.size + 1 + 1 + 1 + 1 < w3.heap.size := hqy_
      clear hqy_
      generalize w3.heap.size = QY at *
      have lt := bt.lt
      have lr := br.lt
      have lx_ := bx9.lt
      have ly_ := by9.lt
      go_cut [8] (fun s wx => s = .pointer (some ⟨w.heap.size + 1 + 1 + 1 + 1, 0, none⟩) ∧ Blk wx (w.heap.size + 1 + 1 + 1 + 1) 118 #[.int .i64 A2, .int .i64 B2, .int .i64 H2, .int .i64 D2, .bool F2, .bool G2] ∧ (∀ (q : Nat) (t : TypeId) (cs : Array Value), Blk W4 q t cs → ¬ q = w.heap.size + 1 + 1 + 1 + 1 → Blk wx q t cs) ∧ Below (w.heap.size + 1 + 1 + 1 + 1) W4 wx)
      case first =>
        clear HR n1 n2 n3 n4 br g0
        have hn9 : ¬ Q9 = w.heap.size + 1 + 1 + 1 + 1 := by omega
        have hny : ¬ QY = w.heap.size + 1 + 1 + 1 + 1 := by omega
        have y0 := bt.cell 0 rfl
        have y1 := bt.cell 1 rfl
        have y2 := bt.cell 2 rfl
        have y3 := bt.cell 3 rfl
        have y4 := bt.cell 4 rfl
        have y5 := bt.cell 5 rfl
        have u0 := bx9.cell 0 rfl
        have u1 := bx9.cell 1 rfl
        have u2 := bx9.cell 2 rfl
        have u3 := bx9.cell 3 rfl
        have u4 := bx9.cell 4 rfl
        have u5 := bx9.cell 5 rfl
        have v0 := by9.cell 0 rfl
        have v1 := by9.cell 1 rfl
        have v2 := by9.cell 2 rfl
        have v3 := by9.cell 3 rfl
        have v4 := by9.cell 4 rfl
        have v5 := by9.cell 5 rfl
        refine wp_region_held_drew (S := (fun w' => (∀ b o, b < W4.heap.size → ¬ b = w.heap.size + 1 + 1 + 1 + 1 → w'.cell? ⟨b, o, none⟩ = W4.cell? ⟨b, o, none⟩) ∧ W4.heap.size ≤ w'.heap.size)) (by kernel_rfl) ?_ (fun hHeld => ?_)
        · (try dsimp only); (first | ((try dsimp only); exact ⟨fun b o h hne => (by (repeat (first | with_reducible exact rfl | (with_reducible refine (cell_drew_at _ _).trans ?_) | (with_reducible refine (cX b o hne).trans ?_) | (with_reducible refine (hcwN b o (by first | omega | (simp; omega))).trans ?_) | (with_reducible refine (hcwM b o (by first | omega | (simp; omega))).trans ?_)))), (by first | exact Nat.le_refl _ | omega | (rw [zX]; omega) | (simp; omega))⟩) | fail)
        refine wpAnyH_take (i := 1) (oi := ⟨_, _, _, _, _, _⟩) (v := ?_) rfl (by kernel_rfl) (by kernel_rfl) (by kernel_rfl) (fun _ _ _ h => h) (Or.inl ⟨by rfl, ?_⟩) (by assumption) ?_
        rotate_left
        · intro w hSw; (try dsimp only at hSw); go_simp; (try with_reducible rfl)
        (try simp only [Act.put, List.setIfInBounds_toArray, List.set_cons_zero, List.set_cons_succ])
        refine wpAnyH_take (i := 3) (oi := ⟨_, _, _, _, _, _⟩) (v := ?_) rfl (by kernel_rfl) (by kernel_rfl) (by kernel_rfl) (fun _ _ _ h => h) (Or.inl ⟨by rfl, ?_⟩) (by assumption) ?_
        rotate_left
        · intro w hSw; (try dsimp only at hSw); go_simp; (try with_reducible rfl)
        (try simp only [Act.put, List.setIfInBounds_toArray, List.set_cons_zero, List.set_cons_succ])
        refine wpAnyH_ready (rs := [0]) (by kernel_rfl) (by simp) ?_
        refine AllReadyH.cons (o := ⟨_, _, _, _, _, _⟩) rfl (fun K hK => ?_) AllReadyH.nil
        go_simp
        skip
        refine hK.out _ _ ?_ (fun hHeld => ?_)
        · (try dsimp only); (first | ((try dsimp only); exact ⟨fun b o h hne => (by (repeat (first | with_reducible exact rfl | (with_reducible refine (cell_drew_at _ _).trans ?_) | (with_reducible refine (cX b o hne).trans ?_) | (with_reducible refine (hcwN b o (by first | omega | (simp; omega))).trans ?_) | (with_reducible refine (hcwM b o (by first | omega | (simp; omega))).trans ?_)))), (by first | exact Nat.le_refl _ | omega | (rw [zX]; omega) | (simp; omega))⟩) | fail)
        clear hK K
        (try simp only [Act.put, List.setIfInBounds_toArray, List.set_cons_zero, List.set_cons_succ])
        refine wpAnyH_ready (rs := [2]) (by kernel_rfl) (by simp) ?_
        refine AllReadyH.cons (o := ⟨_, _, _, _, _, _⟩) rfl (fun K hK => ?_) AllReadyH.nil
        go_simp
        (go_at_call 107; (with_reducible refine (MX.out _).mono ?_); rintro e wM ⟨rfl, hbwM⟩; obtain ⟨hcwM, hfwM⟩ := bcell hbwM; have hzwM := hbwM.size; (try simp only [World.size_drew] at hcwM hfwM hzwM); (try simp only [World.size_alloc] at hcwM hfwM hzwM))
        refine hK.out _ _ ?_ (fun hHeld => ?_)
        · (try dsimp only); (first | ((try dsimp only); exact ⟨fun b o h hne => (by (repeat (first | with_reducible exact rfl | (with_reducible refine (cell_drew_at _ _).trans ?_) | (with_reducible refine (cX b o hne).trans ?_) | (with_reducible refine (hcwN b o (by first | omega | (simp; omega))).trans ?_) | (with_reducible refine (hcwM b o (by first | omega | (simp; omega))).trans ?_)))), (by first | exact Nat.le_refl _ | omega | (rw [zX]; omega) | (simp; omega))⟩) | fail)
        clear hK K
        (try simp only [Act.put, List.setIfInBounds_toArray, List.set_cons_zero, List.set_cons_succ])
        refine wpAnyH_ready (rs := [4]) (by kernel_rfl) (by simp) ?_
        refine AllReadyH.cons (o := ⟨_, _, _, _, _, _⟩) rfl (fun K hK => ?_) AllReadyH.nil
        go_simp
        (go_at_call 107; (with_reducible refine (MY.out _).mono ?_); rintro e wN ⟨rfl, hbwN⟩; obtain ⟨hcwN, hfwN⟩ := bcell hbwN; have hzwN := hbwN.size; (try simp only [World.size_drew] at hcwN hfwN hzwN); (try simp only [World.size_alloc] at hcwN hfwN hzwN); have btN : Blk wN (w.heap.size + 1 + 1 + 1 + 1) 118 #[.int .i64 0, .int .i64 1, .int .i64 1, .int .i64 1, .bool true, .bool true] := (by first | exact (bt.carry hbwM).carry hbwN | exact (bt.drew.carry hbwM).carry hbwN))
        refine hK.out _ _ ?_ (fun hHeld => ?_)
        · (try dsimp only); (first | ((try dsimp only); exact ⟨fun b o h hne => (by (repeat (first | with_reducible exact rfl | (with_reducible refine (cell_drew_at _ _).trans ?_) | (with_reducible refine (cX b o hne).trans ?_) | (with_reducible refine (hcwN b o (by first | omega | (simp; omega))).trans ?_) | (with_reducible refine (hcwM b o (by first | omega | (simp; omega))).trans ?_)))), (by first | exact Nat.le_refl _ | omega | (rw [zX]; omega) | (simp; omega))⟩) | fail)
        clear hK K
        (try simp only [Act.put, List.setIfInBounds_toArray, List.set_cons_zero, List.set_cons_succ])
        refine wpAnyH_ready (rs := [5]) (by kernel_rfl) (by simp) ?_
        refine AllReadyH.cons (o := ⟨_, _, _, _, _, _⟩) rfl (fun K hK => ?_) AllReadyH.nil
        rw [if_pos (by first | rfl | kernel_rfl | (simp [Region.wanted]; done))]
        refine wp_store_mid 118 (.tmp 8) (.tmp 68) rfl (w.heap.size + 1 + 1 + 1 + 1) 0 #[.int .i64 A2, .int .i64 B2, .int .i64 H2, .int .i64 D2, .bool F2, .bool G2] rfl rfl (there6P btN) infoSpan (one6P _ _ _ _ _ _) ?_
        obtain ⟨wX, hwX⟩ : ∃ W : World, W = wN.setCells (w.heap.size + 1 + 1 + 1 + 1) 0 (#[.int .i64 A2, .int .i64 B2, .int .i64 H2, .int .i64 D2, .bool F2, .bool G2] : Array Value).toList := ⟨_, rfl⟩
        rw [← hwX]
        have hsix : Six wN (w.heap.size + 1 + 1 + 1 + 1) 118 #[.int .i64 A2, .int .i64 B2, .int .i64 H2, .int .i64 D2, .bool F2, .bool G2] wX := by rw [hwX]; exact sixP btN
        clear hwX
        obtain ⟨bX, kX, gX, cX, zX⟩ := hsix
        refine hK.out _ _ ?_ (fun hHeld => ?_)
        · (try dsimp only); (first | ((try dsimp only); exact ⟨fun b o h hne => (by (repeat (first | with_reducible exact rfl | (with_reducible refine (cell_drew_at _ _).trans ?_) | (with_reducible refine (cX b o hne).trans ?_) | (with_reducible refine (hcwN b o (by first | omega | (simp; omega))).trans ?_) | (with_reducible refine (hcwM b o (by first | omega | (simp; omega))).trans ?_)))), (by first | exact Nat.le_refl _ | omega | (rw [zX]; omega) | (simp; omega))⟩) | fail)
        clear hK K
        (try simp only [Act.put])
        refine wpAnyH_done (by kernel_rfl) ?_ _
        go_wp2_with fail
        go_meet
        all_goals exact ⟨rfl, bX, fun q t cs hq hne => kX q t cs (by first | exact (hq.carry hbwM).carry hbwN | exact (hq.drew.carry hbwM).carry hbwN) hne, by first | exact (((Below.drew (Below.refl _ _)).trans (hbwM.mono (by first | omega | (simp; omega)))).trans (hbwN.mono (by first | omega | (simp; omega)))).trans gX | exact (((Below.refl _ _).trans (hbwM.mono (by first | omega | (simp; omega)))).trans (hbwN.mono (by first | omega | (simp; omega)))).trans gX⟩
      case rest =>
        obtain ⟨rfl, bt2, hk, bx⟩ := hcut
        have br2 := hk _ _ _ br (by omega)
        have g2 : Below w.heap.size w _ := g0.trans (bx.mono (by omega))
        obtain ⟨wc, rfl⟩ : ∃ W : World, W = wc := ⟨_, rfl⟩
        clear hk bx bt bx9 by9 br g0 MX MY lt lr lx_ ly_
        have lt := bt2.lt
        have lr := br2.lt
        have y0 := bt2.cell 0 rfl
        have y1 := bt2.cell 1 rfl
        have y2 := bt2.cell 2 rfl
        have y3 := bt2.cell 3 rfl
        have y4 := bt2.cell 4 rfl
        have y5 := bt2.cell 5 rfl
        have z0 := br2.cell 0 rfl
        have z1 := br2.cell 1 rfl
        have z2 := br2.cell 2 rfl
        have z3 := br2.cell 3 rfl
        have z4 := br2.cell 4 rfl
        have z5 := br2.cell 5 rfl
        have fr0 := br2.frozen 0
        have fr1 := br2.frozen 1
        have fr2 := br2.frozen 2
        have fr3 := br2.frozen 3
        have fr4 := br2.frozen 4
        have fr5 := br2.frozen 5
        obtain ⟨c, hc⟩ : ∃ c, A2 * D2 - H2 * B2 = c := ⟨_, rfl⟩
        have r1 : -9223372036854775808 ≤ c := by omega
        have r2 : c ≤ 9223372036854775807 := by omega
        have HRC := HR.out
        rw [hc] at HRC
        clear HR
        rcases Int.lt_trichotomy c 0 with hc0 | hc0 | hc0
        · have d1 : decide (c < 0) = true := decide_eq_true hc0
          have HV := Lib.hid (show R = true from by rw [HRC, d1]; simp)
          clear HRC
          go_upto_region 8 with fail
          refine wp_region_held_drew (S := (fun w' => ∀ o, w'.cell? ⟨w.heap.size + 1 + 1 + 1 + 1, o, none⟩ = wc.cell? ⟨w.heap.size + 1 + 1 + 1 + 1, o, none⟩)) (by kernel_rfl) ?_ (fun hHeld => ?_)
          · (try dsimp only); (first | exact fun o => rfl | exact fun o => (cX _ _ (by omega)) | exact fun o => (by repeat (first | with_reducible exact rfl | (with_reducible refine (cell_drew_at _ _).trans ?_) | (refine (cell_set_ne2 _ _ (by omega)).trans ?_))) | fail)
          refine wpAnyH_take (i := 0) (oi := ⟨_, _, _, _, _, _⟩) (v := ?_) rfl (by kernel_rfl) (by kernel_rfl) (by kernel_rfl) (fun _ _ _ h => h) (Or.inl ⟨by rfl, ?_⟩) (by assumption) ?_
          rotate_left
          · intro w hSw; (try dsimp only at hSw); go_simp; (try with_reducible rfl)
          (try simp only [Act.put, List.setIfInBounds_toArray, List.set_cons_zero, List.set_cons_succ])
          refine wpAnyH_take (i := 1) (oi := ⟨_, _, _, _, _, _⟩) (v := ?_) rfl (by kernel_rfl) (by kernel_rfl) (by kernel_rfl) (fun _ _ _ h => h) (Or.inl ⟨by rfl, ?_⟩) (by assumption) ?_
          rotate_left
          · intro w hSw; (try dsimp only at hSw); go_simp; (try with_reducible rfl)
          (try simp only [Act.put, List.setIfInBounds_toArray, List.set_cons_zero, List.set_cons_succ])
          refine wpAnyH_take (i := 2) (oi := ⟨_, _, _, _, _, _⟩) (v := ?_) rfl (by kernel_rfl) (by kernel_rfl) (by kernel_rfl) (fun _ _ _ h => h) (Or.inl ⟨by rfl, ?_⟩) (by assumption) ?_
          rotate_left
          · intro w hSw; (try dsimp only at hSw); go_simp; (try with_reducible rfl)
          (try simp only [Act.put, List.setIfInBounds_toArray, List.set_cons_zero, List.set_cons_succ])
          refine wpAnyH_take (i := 3) (oi := ⟨_, _, _, _, _, _⟩) (v := ?_) rfl (by kernel_rfl) (by kernel_rfl) (by kernel_rfl) (fun _ _ _ h => h) (Or.inl ⟨by rfl, ?_⟩) (by assumption) ?_
          rotate_left
          · intro w hSw; (try dsimp only at hSw); go_simp; (try with_reducible rfl)
          (try simp only [Act.put, List.setIfInBounds_toArray, List.set_cons_zero, List.set_cons_succ])
          refine wpAnyH_take (i := 4) (oi := ⟨_, _, _, _, _, _⟩) (v := undef) rfl (by kernel_rfl) (by kernel_rfl) (by kernel_rfl) (fun _ _ _ h => h) (Or.inr ⟨by rfl, rfl⟩) (by assumption) ?_
          (try simp only [Act.put, List.setIfInBounds_toArray, List.set_cons_zero, List.set_cons_succ])
          refine wpAnyH_take (i := 5) (oi := ⟨_, _, _, _, _, _⟩) (v := undef) rfl (by kernel_rfl) (by kernel_rfl) (by kernel_rfl) (fun _ _ _ h => h) (Or.inr ⟨by rfl, rfl⟩) (by assumption) ?_
          (try simp only [Act.put, List.setIfInBounds_toArray, List.set_cons_zero, List.set_cons_succ])
          refine wpAnyH_take (i := 6) (oi := ⟨_, _, _, _, _, _⟩) (v := undef) rfl (by kernel_rfl) (by kernel_rfl) (by kernel_rfl) (fun _ _ _ h => h) (Or.inr ⟨by rfl, rfl⟩) (by assumption) ?_
          (try simp only [Act.put, List.setIfInBounds_toArray, List.set_cons_zero, List.set_cons_succ])
          refine wpAnyH_take (i := 7) (oi := ⟨_, _, _, _, _, _⟩) (v := undef) rfl (by kernel_rfl) (by kernel_rfl) (by kernel_rfl) (fun _ _ _ h => h) (Or.inr ⟨by rfl, rfl⟩) (by assumption) ?_
          (try simp only [Act.put, List.setIfInBounds_toArray, List.set_cons_zero, List.set_cons_succ])
          refine wpAnyH_take (i := 8) (oi := ⟨_, _, _, _, _, _⟩) (v := undef) rfl (by kernel_rfl) (by kernel_rfl) (by kernel_rfl) (fun _ _ _ h => h) (Or.inr ⟨by rfl, rfl⟩) (by assumption) ?_
          (try simp only [Act.put, List.setIfInBounds_toArray, List.set_cons_zero, List.set_cons_succ])
          refine wpAnyH_take (i := 9) (oi := ⟨_, _, _, _, _, _⟩) (v := undef) rfl (by kernel_rfl) (by kernel_rfl) (by kernel_rfl) (fun _ _ _ h => h) (Or.inr ⟨by rfl, rfl⟩) (by assumption) ?_
          (try simp only [Act.put, List.setIfInBounds_toArray, List.set_cons_zero, List.set_cons_succ])
          refine wpAnyH_take (i := 10) (oi := ⟨_, _, _, _, _, _⟩) (v := undef) rfl (by kernel_rfl) (by kernel_rfl) (by kernel_rfl) (fun _ _ _ h => h) (Or.inr ⟨by rfl, rfl⟩) (by assumption) ?_
          (try simp only [Act.put, List.setIfInBounds_toArray, List.set_cons_zero, List.set_cons_succ])
          refine wpAnyH_take (i := 11) (oi := ⟨_, _, _, _, _, _⟩) (v := undef) rfl (by kernel_rfl) (by kernel_rfl) (by kernel_rfl) (fun _ _ _ h => h) (Or.inr ⟨by rfl, rfl⟩) (by assumption) ?_
          (try simp only [Act.put, List.setIfInBounds_toArray, List.set_cons_zero, List.set_cons_succ])
          refine wpAnyH_take (i := 12) (oi := ⟨_, _, _, _, _, _⟩) (v := undef) rfl (by kernel_rfl) (by kernel_rfl) (by kernel_rfl) (fun _ _ _ h => h) (Or.inr ⟨by rfl, rfl⟩) (by assumption) ?_
          (try simp only [Act.put, List.setIfInBounds_toArray, List.set_cons_zero, List.set_cons_succ])
          refine wpAnyH_take (i := 13) (oi := ⟨_, _, _, _, _, _⟩) (v := undef) rfl (by kernel_rfl) (by kernel_rfl) (by kernel_rfl) (fun _ _ _ h => h) (Or.inr ⟨by rfl, rfl⟩) (by assumption) ?_
          (try simp only [Act.put, List.setIfInBounds_toArray, List.set_cons_zero, List.set_cons_succ])
          refine wpAnyH_take (i := 14) (oi := ⟨_, _, _, _, _, _⟩) (v := ?_) rfl (by kernel_rfl) (by kernel_rfl) (by kernel_rfl) (fun _ _ _ h => h) (Or.inl ⟨by rfl, ?_⟩) (by assumption) ?_
          rotate_left
          · intro w hSw; (try dsimp only at hSw); go_simp; (try with_reducible rfl)
          (try simp only [Act.put, List.setIfInBounds_toArray, List.set_cons_zero, List.set_cons_succ])
          refine wpAnyH_ready (rs := [15]) (by kernel_rfl) (by simp) ?_
          refine AllReadyH.cons (o := ⟨_, _, _, _, _, _⟩) rfl (fun K hK => ?_) AllReadyH.nil
          rw [if_pos (by first | rfl | kernel_rfl | (simp [Region.wanted]; done))]
          refine wp_store_mid 118 (.tmp 6) (.tmp 80) rfl (w.heap.size + 1 + 1 + 1) 0 #[.int .i64 A2, .int .i64 B2, .int .i64 H2, .int .i64 D2, .bool F2, .bool G2] rfl rfl (there6P br2.drew) infoSpan (one6P _ _ _ _ _ _) ?_
          obtain ⟨wX, hwX⟩ : ∃ W : World, W = wc.drew.setCells (w.heap.size + 1 + 1 + 1) 0 (#[.int .i64 A2, .int .i64 B2, .int .i64 H2, .int .i64 D2, .bool F2, .bool G2] : Array Value).toList := ⟨_, rfl⟩
          rw [← hwX]
          have hsix : Six wc.drew (w.heap.size + 1 + 1 + 1) 118 #[.int .i64 A2, .int .i64 B2, .int .i64 H2, .int .i64 D2, .bool F2, .bool G2] wX := by rw [hwX]; exact sixP br2.drew
          clear hwX
          obtain ⟨bX, kX, gX, cX, zX⟩ := hsix
          refine hK.out _ _ ?_ (fun hHeld => ?_)
          · (try dsimp only); (first | exact fun o => rfl | exact fun o => (cX _ _ (by omega)) | exact fun o => (by repeat (first | with_reducible exact rfl | (with_reducible refine (cell_drew_at _ _).trans ?_) | (refine (cell_set_ne2 _ _ (by omega)).trans ?_))) | fail)
          clear hK K
          (try simp only [Act.put])
          refine wpAnyH_take (i := 16) (oi := ⟨_, _, _, _, _, _⟩) (v := ?_) rfl (by kernel_rfl) (by kernel_rfl) (by kernel_rfl) (fun _ _ _ h => h) (Or.inl ⟨by rfl, ?_⟩) (by assumption) ?_
          rotate_left
          · intro w hSw; (try dsimp only at hSw); go_simp; (try with_reducible rfl)
          (try simp only [Act.put, List.setIfInBounds_toArray, List.set_cons_zero, List.set_cons_succ])
          refine wpAnyH_done (by kernel_rfl) ?_ _
          have x0 := bX.cell 0 rfl
          have x1 := bX.cell 1 rfl
          have x2 := bX.cell 2 rfl
          have x3 := bX.cell 3 rfl
          have x4 := bX.cell 4 rfl
          have x5 := bX.cell 5 rfl
          have gY : Below w.heap.size w wX := (Below.drew g2).trans (gX.mono (by omega))
          go_wp2_with fail
          refine bodyPost_ret (v := .tuple #[.agg #[.int .i64 A2, .int .i64 B2, .int .i64 H2, .int .i64 D2, .bool F2, .bool G2], .bool true]) (by simp [results, Try.results75, go_sem, *]) rfl ⟨A2, B2, H2, D2, F2, G2, by rw [HV.out], gY⟩
        · subst hc0
          rcases F2 with _ | _
          case false =>
            have HV := Lib.hid (show R = false from by rw [HRC]; simp)
            clear HRC
            go_upto_region 8 with fail
            refine wp_region_held_drew (S := (fun w' => ∀ o, w'.cell? ⟨w.heap.size + 1 + 1 + 1 + 1, o, none⟩ = wc.cell? ⟨w.heap.size + 1 + 1 + 1 + 1, o, none⟩)) (by kernel_rfl) ?_ (fun hHeld => ?_)
            · (try dsimp only); (first | exact fun o => rfl | exact fun o => (cX _ _ (by omega)) | exact fun o => (by repeat (first | with_reducible exact rfl | (with_reducible refine (cell_drew_at _ _).trans ?_) | (refine (cell_set_ne2 _ _ (by omega)).trans ?_))) | fail)
            refine wpAnyH_take (i := 0) (oi := ⟨_, _, _, _, _, _⟩) (v := ?_) rfl (by kernel_rfl) (by kernel_rfl) (by kernel_rfl) (fun _ _ _ h => h) (Or.inl ⟨by rfl, ?_⟩) (by assumption) ?_
            rotate_left
            · intro w hSw; (try dsimp only at hSw); go_simp; (try with_reducible rfl)
            (try simp only [Act.put, List.setIfInBounds_toArray, List.set_cons_zero, List.set_cons_succ])
            refine wpAnyH_take (i := 1) (oi := ⟨_, _, _, _, _, _⟩) (v := ?_) rfl (by kernel_rfl) (by kernel_rfl) (by kernel_rfl) (fun _ _ _ h => h) (Or.inl ⟨by rfl, ?_⟩) (by assumption) ?_
            rotate_left
            · intro w hSw; (try dsimp only at hSw); go_simp; (try with_reducible rfl)
            (try simp only [Act.put, List.setIfInBounds_toArray, List.set_cons_zero, List.set_cons_succ])
            refine wpAnyH_take (i := 2) (oi := ⟨_, _, _, _, _, _⟩) (v := ?_) rfl (by kernel_rfl) (by kernel_rfl) (by kernel_rfl) (fun _ _ _ h => h) (Or.inl ⟨by rfl, ?_⟩) (by assumption) ?_
            rotate_left
            · intro w hSw; (try dsimp only at hSw); go_simp; (try with_reducible rfl)
            (try simp only [Act.put, List.setIfInBounds_toArray, List.set_cons_zero, List.set_cons_succ])
            refine wpAnyH_take (i := 3) (oi := ⟨_, _, _, _, _, _⟩) (v := ?_) rfl (by kernel_rfl) (by kernel_rfl) (by kernel_rfl) (fun _ _ _ h => h) (Or.inl ⟨by rfl, ?_⟩) (by assumption) ?_
            rotate_left
            · intro w hSw; (try dsimp only at hSw); go_simp; (try with_reducible rfl)
            (try simp only [Act.put, List.setIfInBounds_toArray, List.set_cons_zero, List.set_cons_succ])
            refine wpAnyH_take (i := 4) (oi := ⟨_, _, _, _, _, _⟩) (v := ?_) rfl (by kernel_rfl) (by kernel_rfl) (by kernel_rfl) (fun _ _ _ h => h) (Or.inl ⟨by rfl, ?_⟩) (by assumption) ?_
            rotate_left
            · intro w hSw; (try dsimp only at hSw); go_simp; (try with_reducible rfl)
            (try simp only [Act.put, List.setIfInBounds_toArray, List.set_cons_zero, List.set_cons_succ])
            refine wpAnyH_take (i := 5) (oi := ⟨_, _, _, _, _, _⟩) (v := ?_) rfl (by kernel_rfl) (by kernel_rfl) (by kernel_rfl) (fun _ _ _ h => h) (Or.inl ⟨by rfl, ?_⟩) (by assumption) ?_
            rotate_left
            · intro w hSw; (try dsimp only at hSw); go_simp; (try with_reducible rfl)
            (try simp only [Act.put, List.setIfInBounds_toArray, List.set_cons_zero, List.set_cons_succ])
            refine wpAnyH_take (i := 6) (oi := ⟨_, _, _, _, _, _⟩) (v := ?_) rfl (by kernel_rfl) (by kernel_rfl) (by kernel_rfl) (fun _ _ _ h => h) (Or.inl ⟨by rfl, ?_⟩) (by assumption) ?_
            rotate_left
            · intro w hSw; (try dsimp only at hSw); go_simp; (try with_reducible rfl)
            (try simp only [Act.put, List.setIfInBounds_toArray, List.set_cons_zero, List.set_cons_succ])
            refine wpAnyH_take (i := 7) (oi := ⟨_, _, _, _, _, _⟩) (v := ?_) rfl (by kernel_rfl) (by kernel_rfl) (by kernel_rfl) (fun _ _ _ h => h) (Or.inl ⟨by rfl, ?_⟩) (by assumption) ?_
            rotate_left
            · intro w hSw; (try dsimp only at hSw); go_simp; (try with_reducible rfl)
            (try simp only [Act.put, List.setIfInBounds_toArray, List.set_cons_zero, List.set_cons_succ])
            refine wpAnyH_take (i := 8) (oi := ⟨_, _, _, _, _, _⟩) (v := ?_) rfl (by kernel_rfl) (by kernel_rfl) (by kernel_rfl) (fun _ _ _ h => h) (Or.inl ⟨by rfl, ?_⟩) (by assumption) ?_
            rotate_left
            · intro w hSw; (try dsimp only at hSw); go_simp; (try with_reducible rfl)
            (try simp only [Act.put, List.setIfInBounds_toArray, List.set_cons_zero, List.set_cons_succ])
            refine wpAnyH_take (i := 9) (oi := ⟨_, _, _, _, _, _⟩) (v := ?_) rfl (by kernel_rfl) (by kernel_rfl) (by kernel_rfl) (fun _ _ _ h => h) (Or.inl ⟨by rfl, ?_⟩) (by assumption) ?_
            rotate_left
            · intro w hSw; (try dsimp only at hSw); go_simp; (try with_reducible rfl)
            (try simp only [Act.put, List.setIfInBounds_toArray, List.set_cons_zero, List.set_cons_succ])
            refine wpAnyH_take (i := 10) (oi := ⟨_, _, _, _, _, _⟩) (v := ?_) rfl (by kernel_rfl) (by kernel_rfl) (by kernel_rfl) (fun _ _ _ h => h) (Or.inl ⟨by rfl, ?_⟩) (by assumption) ?_
            rotate_left
            · intro w hSw; (try dsimp only at hSw); go_simp; (try with_reducible rfl)
            (try simp only [Act.put, List.setIfInBounds_toArray, List.set_cons_zero, List.set_cons_succ])
            refine wpAnyH_take (i := 11) (oi := ⟨_, _, _, _, _, _⟩) (v := undef) rfl (by kernel_rfl) (by kernel_rfl) (by kernel_rfl) (fun _ _ _ h => h) (Or.inr ⟨by rfl, rfl⟩) (by assumption) ?_
            (try simp only [Act.put, List.setIfInBounds_toArray, List.set_cons_zero, List.set_cons_succ])
            refine wpAnyH_take (i := 12) (oi := ⟨_, _, _, _, _, _⟩) (v := undef) rfl (by kernel_rfl) (by kernel_rfl) (by kernel_rfl) (fun _ _ _ h => h) (Or.inr ⟨by rfl, rfl⟩) (by assumption) ?_
            (try simp only [Act.put, List.setIfInBounds_toArray, List.set_cons_zero, List.set_cons_succ])
            refine wpAnyH_take (i := 13) (oi := ⟨_, _, _, _, _, _⟩) (v := ?_) rfl (by kernel_rfl) (by kernel_rfl) (by kernel_rfl) (fun _ _ _ h => h) (Or.inl ⟨by rfl, ?_⟩) (by assumption) ?_
            rotate_left
            · intro w hSw; (try dsimp only at hSw); go_simp; (try with_reducible rfl)
            (try simp only [Act.put, List.setIfInBounds_toArray, List.set_cons_zero, List.set_cons_succ])
            refine wpAnyH_take (i := 14) (oi := ⟨_, _, _, _, _, _⟩) (v := ?_) rfl (by kernel_rfl) (by kernel_rfl) (by kernel_rfl) (fun _ _ _ h => h) (Or.inl ⟨by rfl, ?_⟩) (by assumption) ?_
            rotate_left
            · intro w hSw; (try dsimp only at hSw); go_simp; (try with_reducible rfl)
            (try simp only [Act.put, List.setIfInBounds_toArray, List.set_cons_zero, List.set_cons_succ])
            refine wpAnyH_ready (rs := [15]) (by kernel_rfl) (by simp) ?_
            refine AllReadyH.cons (o := ⟨_, _, _, _, _, _⟩) rfl (fun K hK => ?_) AllReadyH.nil
            rw [if_pos (by first | rfl | kernel_rfl | (simp [Region.wanted]; done))]
            refine wp_store_mid 118 (.tmp 6) (.tmp 80) rfl (w.heap.size + 1 + 1 + 1) 0 #[.int .i64 A2, .int .i64 B2, .int .i64 H2, .int .i64 D2, .bool false, .bool G2] rfl rfl (there6P br2.drew) infoSpan (one6P _ _ _ _ _ _) ?_
            obtain ⟨wX, hwX⟩ : ∃ W : World, W = wc.drew.setCells (w.heap.size + 1 + 1 + 1) 0 (#[.int .i64 A2, .int .i64 B2, .int .i64 H2, .int .i64 D2, .bool false, .bool G2] : Array Value).toList := ⟨_, rfl⟩
            rw [← hwX]
            have hsix : Six wc.drew (w.heap.size + 1 + 1 + 1) 118 #[.int .i64 A2, .int .i64 B2, .int .i64 H2, .int .i64 D2, .bool false, .bool G2] wX := by rw [hwX]; exact sixP br2.drew
            clear hwX
            obtain ⟨bX, kX, gX, cX, zX⟩ := hsix
            refine hK.out _ _ ?_ (fun hHeld => ?_)
            · (try dsimp only); (first | exact fun o => rfl | exact fun o => (cX _ _ (by omega)) | exact fun o => (by repeat (first | with_reducible exact rfl | (with_reducible refine (cell_drew_at _ _).trans ?_) | (refine (cell_set_ne2 _ _ (by omega)).trans ?_))) | fail)
            clear hK K
            (try simp only [Act.put])
            refine wpAnyH_take (i := 16) (oi := ⟨_, _, _, _, _, _⟩) (v := ?_) rfl (by kernel_rfl) (by kernel_rfl) (by kernel_rfl) (fun _ _ _ h => h) (Or.inl ⟨by rfl, ?_⟩) (by assumption) ?_
            rotate_left
            · intro w hSw; (try dsimp only at hSw); go_simp; (try with_reducible rfl)
            (try simp only [Act.put, List.setIfInBounds_toArray, List.set_cons_zero, List.set_cons_succ])
            refine wpAnyH_done (by kernel_rfl) ?_ _
            have x0 := bX.cell 0 rfl
            have x1 := bX.cell 1 rfl
            have x2 := bX.cell 2 rfl
            have x3 := bX.cell 3 rfl
            have x4 := bX.cell 4 rfl
            have x5 := bX.cell 5 rfl
            have gY : Below w.heap.size w wX := (Below.drew g2).trans (gX.mono (by omega))
            go_wp2_with fail
            refine bodyPost_ret (v := .tuple #[.agg #[.int .i64 A2, .int .i64 B2, .int .i64 H2, .int .i64 D2, .bool false, .bool G2], .bool false]) (by simp [results, Try.results75, go_sem, *]) rfl ⟨A2, B2, H2, D2, false, G2, by rw [HV.out], gY⟩
          case true =>
            rcases G2 with _ | _
            case false =>
              have HV := Lib.hid (show R = false from by rw [HRC]; simp)
              clear HRC
              go_upto_region 8 with fail
              refine wp_region_held_drew (S := (fun w' => ∀ o, w'.cell? ⟨w.heap.size + 1 + 1 + 1 + 1, o, none⟩ = wc.cell? ⟨w.heap.size + 1 + 1 + 1 + 1, o, none⟩)) (by kernel_rfl) ?_ (fun hHeld => ?_)
              · (try dsimp only); (first | exact fun o => rfl | exact fun o => (cX _ _ (by omega)) | exact fun o => (by repeat (first | with_reducible exact rfl | (with_reducible refine (cell_drew_at _ _).trans ?_) | (refine (cell_set_ne2 _ _ (by omega)).trans ?_))) | fail)
              refine wpAnyH_take (i := 0) (oi := ⟨_, _, _, _, _, _⟩) (v := ?_) rfl (by kernel_rfl) (by kernel_rfl) (by kernel_rfl) (fun _ _ _ h => h) (Or.inl ⟨by rfl, ?_⟩) (by assumption) ?_
              rotate_left
              · intro w hSw; (try dsimp only at hSw); go_simp; (try with_reducible rfl)
              (try simp only [Act.put, List.setIfInBounds_toArray, List.set_cons_zero, List.set_cons_succ])
              refine wpAnyH_take (i := 1) (oi := ⟨_, _, _, _, _, _⟩) (v := ?_) rfl (by kernel_rfl) (by kernel_rfl) (by kernel_rfl) (fun _ _ _ h => h) (Or.inl ⟨by rfl, ?_⟩) (by assumption) ?_
              rotate_left
              · intro w hSw; (try dsimp only at hSw); go_simp; (try with_reducible rfl)
              (try simp only [Act.put, List.setIfInBounds_toArray, List.set_cons_zero, List.set_cons_succ])
              refine wpAnyH_take (i := 2) (oi := ⟨_, _, _, _, _, _⟩) (v := ?_) rfl (by kernel_rfl) (by kernel_rfl) (by kernel_rfl) (fun _ _ _ h => h) (Or.inl ⟨by rfl, ?_⟩) (by assumption) ?_
              rotate_left
              · intro w hSw; (try dsimp only at hSw); go_simp; (try with_reducible rfl)
              (try simp only [Act.put, List.setIfInBounds_toArray, List.set_cons_zero, List.set_cons_succ])
              refine wpAnyH_take (i := 3) (oi := ⟨_, _, _, _, _, _⟩) (v := ?_) rfl (by kernel_rfl) (by kernel_rfl) (by kernel_rfl) (fun _ _ _ h => h) (Or.inl ⟨by rfl, ?_⟩) (by assumption) ?_
              rotate_left
              · intro w hSw; (try dsimp only at hSw); go_simp; (try with_reducible rfl)
              (try simp only [Act.put, List.setIfInBounds_toArray, List.set_cons_zero, List.set_cons_succ])
              refine wpAnyH_take (i := 4) (oi := ⟨_, _, _, _, _, _⟩) (v := ?_) rfl (by kernel_rfl) (by kernel_rfl) (by kernel_rfl) (fun _ _ _ h => h) (Or.inl ⟨by rfl, ?_⟩) (by assumption) ?_
              rotate_left
              · intro w hSw; (try dsimp only at hSw); go_simp; (try with_reducible rfl)
              (try simp only [Act.put, List.setIfInBounds_toArray, List.set_cons_zero, List.set_cons_succ])
              refine wpAnyH_take (i := 5) (oi := ⟨_, _, _, _, _, _⟩) (v := ?_) rfl (by kernel_rfl) (by kernel_rfl) (by kernel_rfl) (fun _ _ _ h => h) (Or.inl ⟨by rfl, ?_⟩) (by assumption) ?_
              rotate_left
              · intro w hSw; (try dsimp only at hSw); go_simp; (try with_reducible rfl)
              (try simp only [Act.put, List.setIfInBounds_toArray, List.set_cons_zero, List.set_cons_succ])
              refine wpAnyH_take (i := 6) (oi := ⟨_, _, _, _, _, _⟩) (v := ?_) rfl (by kernel_rfl) (by kernel_rfl) (by kernel_rfl) (fun _ _ _ h => h) (Or.inl ⟨by rfl, ?_⟩) (by assumption) ?_
              rotate_left
              · intro w hSw; (try dsimp only at hSw); go_simp; (try with_reducible rfl)
              (try simp only [Act.put, List.setIfInBounds_toArray, List.set_cons_zero, List.set_cons_succ])
              refine wpAnyH_take (i := 7) (oi := ⟨_, _, _, _, _, _⟩) (v := ?_) rfl (by kernel_rfl) (by kernel_rfl) (by kernel_rfl) (fun _ _ _ h => h) (Or.inl ⟨by rfl, ?_⟩) (by assumption) ?_
              rotate_left
              · intro w hSw; (try dsimp only at hSw); go_simp; (try with_reducible rfl)
              (try simp only [Act.put, List.setIfInBounds_toArray, List.set_cons_zero, List.set_cons_succ])
              refine wpAnyH_take (i := 8) (oi := ⟨_, _, _, _, _, _⟩) (v := ?_) rfl (by kernel_rfl) (by kernel_rfl) (by kernel_rfl) (fun _ _ _ h => h) (Or.inl ⟨by rfl, ?_⟩) (by assumption) ?_
              rotate_left
              · intro w hSw; (try dsimp only at hSw); go_simp; (try with_reducible rfl)
              (try simp only [Act.put, List.setIfInBounds_toArray, List.set_cons_zero, List.set_cons_succ])
              refine wpAnyH_take (i := 9) (oi := ⟨_, _, _, _, _, _⟩) (v := ?_) rfl (by kernel_rfl) (by kernel_rfl) (by kernel_rfl) (fun _ _ _ h => h) (Or.inl ⟨by rfl, ?_⟩) (by assumption) ?_
              rotate_left
              · intro w hSw; (try dsimp only at hSw); go_simp; (try with_reducible rfl)
              (try simp only [Act.put, List.setIfInBounds_toArray, List.set_cons_zero, List.set_cons_succ])
              refine wpAnyH_take (i := 10) (oi := ⟨_, _, _, _, _, _⟩) (v := ?_) rfl (by kernel_rfl) (by kernel_rfl) (by kernel_rfl) (fun _ _ _ h => h) (Or.inl ⟨by rfl, ?_⟩) (by assumption) ?_
              rotate_left
              · intro w hSw; (try dsimp only at hSw); go_simp; (try with_reducible rfl)
              (try simp only [Act.put, List.setIfInBounds_toArray, List.set_cons_zero, List.set_cons_succ])
              refine wpAnyH_take (i := 11) (oi := ⟨_, _, _, _, _, _⟩) (v := ?_) rfl (by kernel_rfl) (by kernel_rfl) (by kernel_rfl) (fun _ _ _ h => h) (Or.inl ⟨by rfl, ?_⟩) (by assumption) ?_
              rotate_left
              · intro w hSw; (try dsimp only at hSw); go_simp; (try with_reducible rfl)
              (try simp only [Act.put, List.setIfInBounds_toArray, List.set_cons_zero, List.set_cons_succ])
              refine wpAnyH_take (i := 12) (oi := ⟨_, _, _, _, _, _⟩) (v := ?_) rfl (by kernel_rfl) (by kernel_rfl) (by kernel_rfl) (fun _ _ _ h => h) (Or.inl ⟨by rfl, ?_⟩) (by assumption) ?_
              rotate_left
              · intro w hSw; (try dsimp only at hSw); go_simp; (try with_reducible rfl)
              (try simp only [Act.put, List.setIfInBounds_toArray, List.set_cons_zero, List.set_cons_succ])
              refine wpAnyH_take (i := 13) (oi := ⟨_, _, _, _, _, _⟩) (v := ?_) rfl (by kernel_rfl) (by kernel_rfl) (by kernel_rfl) (fun _ _ _ h => h) (Or.inl ⟨by rfl, ?_⟩) (by assumption) ?_
              rotate_left
              · intro w hSw; (try dsimp only at hSw); go_simp; (try with_reducible rfl)
              (try simp only [Act.put, List.setIfInBounds_toArray, List.set_cons_zero, List.set_cons_succ])
              refine wpAnyH_take (i := 14) (oi := ⟨_, _, _, _, _, _⟩) (v := ?_) rfl (by kernel_rfl) (by kernel_rfl) (by kernel_rfl) (fun _ _ _ h => h) (Or.inl ⟨by rfl, ?_⟩) (by assumption) ?_
              rotate_left
              · intro w hSw; (try dsimp only at hSw); go_simp; (try with_reducible rfl)
              (try simp only [Act.put, List.setIfInBounds_toArray, List.set_cons_zero, List.set_cons_succ])
              refine wpAnyH_ready (rs := [15]) (by kernel_rfl) (by simp) ?_
              refine AllReadyH.cons (o := ⟨_, _, _, _, _, _⟩) rfl (fun K hK => ?_) AllReadyH.nil
              rw [if_pos (by first | rfl | kernel_rfl | (simp [Region.wanted]; done))]
              refine wp_store_mid 118 (.tmp 6) (.tmp 80) rfl (w.heap.size + 1 + 1 + 1) 0 #[.int .i64 A2, .int .i64 B2, .int .i64 H2, .int .i64 D2, .bool true, .bool false] rfl rfl (there6P br2.drew) infoSpan (one6P _ _ _ _ _ _) ?_
              obtain ⟨wX, hwX⟩ : ∃ W : World, W = wc.drew.setCells (w.heap.size + 1 + 1 + 1) 0 (#[.int .i64 A2, .int .i64 B2, .int .i64 H2, .int .i64 D2, .bool true, .bool false] : Array Value).toList := ⟨_, rfl⟩
              rw [← hwX]
              have hsix : Six wc.drew (w.heap.size + 1 + 1 + 1) 118 #[.int .i64 A2, .int .i64 B2, .int .i64 H2, .int .i64 D2, .bool true, .bool false] wX := by rw [hwX]; exact sixP br2.drew
              clear hwX
              obtain ⟨bX, kX, gX, cX, zX⟩ := hsix
              refine hK.out _ _ ?_ (fun hHeld => ?_)
              · (try dsimp only); (first | exact fun o => rfl | exact fun o => (cX _ _ (by omega)) | exact fun o => (by repeat (first | with_reducible exact rfl | (with_reducible refine (cell_drew_at _ _).trans ?_) | (refine (cell_set_ne2 _ _ (by omega)).trans ?_))) | fail)
              clear hK K
              (try simp only [Act.put])
              refine wpAnyH_take (i := 16) (oi := ⟨_, _, _, _, _, _⟩) (v := ?_) rfl (by kernel_rfl) (by kernel_rfl) (by kernel_rfl) (fun _ _ _ h => h) (Or.inl ⟨by rfl, ?_⟩) (by assumption) ?_
              rotate_left
              · intro w hSw; (try dsimp only at hSw); go_simp; (try with_reducible rfl)
              (try simp only [Act.put, List.setIfInBounds_toArray, List.set_cons_zero, List.set_cons_succ])
              refine wpAnyH_done (by kernel_rfl) ?_ _
              have x0 := bX.cell 0 rfl
              have x1 := bX.cell 1 rfl
              have x2 := bX.cell 2 rfl
              have x3 := bX.cell 3 rfl
              have x4 := bX.cell 4 rfl
              have x5 := bX.cell 5 rfl
              have gY : Below w.heap.size w wX := (Below.drew g2).trans (gX.mono (by omega))
              go_wp2_with fail
              refine bodyPost_ret (v := .tuple #[.agg #[.int .i64 A2, .int .i64 B2, .int .i64 H2, .int .i64 D2, .bool true, .bool false], .bool false]) (by simp [results, Try.results75, go_sem, *]) rfl ⟨A2, B2, H2, D2, true, false, by rw [HV.out], gY⟩
            case true =>
              have HV := Lib.hid (show R = true from by rw [HRC]; simp)
              clear HRC
              go_upto_region 8 with fail
              refine wp_region_held_drew (S := (fun w' => ∀ o, w'.cell? ⟨w.heap.size + 1 + 1 + 1 + 1, o, none⟩ = wc.cell? ⟨w.heap.size + 1 + 1 + 1 + 1, o, none⟩)) (by kernel_rfl) ?_ (fun hHeld => ?_)
              · (try dsimp only); (first | exact fun o => rfl | exact fun o => (cX _ _ (by omega)) | exact fun o => (by repeat (first | with_reducible exact rfl | (with_reducible refine (cell_drew_at _ _).trans ?_) | (refine (cell_set_ne2 _ _ (by omega)).trans ?_))) | fail)
              refine wpAnyH_take (i := 0) (oi := ⟨_, _, _, _, _, _⟩) (v := ?_) rfl (by kernel_rfl) (by kernel_rfl) (by kernel_rfl) (fun _ _ _ h => h) (Or.inl ⟨by rfl, ?_⟩) (by assumption) ?_
              rotate_left
              · intro w hSw; (try dsimp only at hSw); go_simp; (try with_reducible rfl)
              (try simp only [Act.put, List.setIfInBounds_toArray, List.set_cons_zero, List.set_cons_succ])
              refine wpAnyH_take (i := 1) (oi := ⟨_, _, _, _, _, _⟩) (v := ?_) rfl (by kernel_rfl) (by kernel_rfl) (by kernel_rfl) (fun _ _ _ h => h) (Or.inl ⟨by rfl, ?_⟩) (by assumption) ?_
              rotate_left
              · intro w hSw; (try dsimp only at hSw); go_simp; (try with_reducible rfl)
              (try simp only [Act.put, List.setIfInBounds_toArray, List.set_cons_zero, List.set_cons_succ])
              refine wpAnyH_take (i := 2) (oi := ⟨_, _, _, _, _, _⟩) (v := ?_) rfl (by kernel_rfl) (by kernel_rfl) (by kernel_rfl) (fun _ _ _ h => h) (Or.inl ⟨by rfl, ?_⟩) (by assumption) ?_
              rotate_left
              · intro w hSw; (try dsimp only at hSw); go_simp; (try with_reducible rfl)
              (try simp only [Act.put, List.setIfInBounds_toArray, List.set_cons_zero, List.set_cons_succ])
              refine wpAnyH_take (i := 3) (oi := ⟨_, _, _, _, _, _⟩) (v := ?_) rfl (by kernel_rfl) (by kernel_rfl) (by kernel_rfl) (fun _ _ _ h => h) (Or.inl ⟨by rfl, ?_⟩) (by assumption) ?_
              rotate_left
              · intro w hSw; (try dsimp only at hSw); go_simp; (try with_reducible rfl)
              (try simp only [Act.put, List.setIfInBounds_toArray, List.set_cons_zero, List.set_cons_succ])
              refine wpAnyH_take (i := 4) (oi := ⟨_, _, _, _, _, _⟩) (v := ?_) rfl (by kernel_rfl) (by kernel_rfl) (by kernel_rfl) (fun _ _ _ h => h) (Or.inl ⟨by rfl, ?_⟩) (by assumption) ?_
              rotate_left
              · intro w hSw; (try dsimp only at hSw); go_simp; (try with_reducible rfl)
              (try simp only [Act.put, List.setIfInBounds_toArray, List.set_cons_zero, List.set_cons_succ])
              refine wpAnyH_take (i := 5) (oi := ⟨_, _, _, _, _, _⟩) (v := ?_) rfl (by kernel_rfl) (by kernel_rfl) (by kernel_rfl) (fun _ _ _ h => h) (Or.inl ⟨by rfl, ?_⟩) (by assumption) ?_
              rotate_left
              · intro w hSw; (try dsimp only at hSw); go_simp; (try with_reducible rfl)
              (try simp only [Act.put, List.setIfInBounds_toArray, List.set_cons_zero, List.set_cons_succ])
              refine wpAnyH_take (i := 6) (oi := ⟨_, _, _, _, _, _⟩) (v := ?_) rfl (by kernel_rfl) (by kernel_rfl) (by kernel_rfl) (fun _ _ _ h => h) (Or.inl ⟨by rfl, ?_⟩) (by assumption) ?_
              rotate_left
              · intro w hSw; (try dsimp only at hSw); go_simp; (try with_reducible rfl)
              (try simp only [Act.put, List.setIfInBounds_toArray, List.set_cons_zero, List.set_cons_succ])
              refine wpAnyH_take (i := 7) (oi := ⟨_, _, _, _, _, _⟩) (v := ?_) rfl (by kernel_rfl) (by kernel_rfl) (by kernel_rfl) (fun _ _ _ h => h) (Or.inl ⟨by rfl, ?_⟩) (by assumption) ?_
              rotate_left
              · intro w hSw; (try dsimp only at hSw); go_simp; (try with_reducible rfl)
              (try simp only [Act.put, List.setIfInBounds_toArray, List.set_cons_zero, List.set_cons_succ])
              refine wpAnyH_take (i := 8) (oi := ⟨_, _, _, _, _, _⟩) (v := ?_) rfl (by kernel_rfl) (by kernel_rfl) (by kernel_rfl) (fun _ _ _ h => h) (Or.inl ⟨by rfl, ?_⟩) (by assumption) ?_
              rotate_left
              · intro w hSw; (try dsimp only at hSw); go_simp; (try with_reducible rfl)
              (try simp only [Act.put, List.setIfInBounds_toArray, List.set_cons_zero, List.set_cons_succ])
              refine wpAnyH_take (i := 9) (oi := ⟨_, _, _, _, _, _⟩) (v := ?_) rfl (by kernel_rfl) (by kernel_rfl) (by kernel_rfl) (fun _ _ _ h => h) (Or.inl ⟨by rfl, ?_⟩) (by assumption) ?_
              rotate_left
              · intro w hSw; (try dsimp only at hSw); go_simp; (try with_reducible rfl)
              (try simp only [Act.put, List.setIfInBounds_toArray, List.set_cons_zero, List.set_cons_succ])
              refine wpAnyH_take (i := 10) (oi := ⟨_, _, _, _, _, _⟩) (v := ?_) rfl (by kernel_rfl) (by kernel_rfl) (by kernel_rfl) (fun _ _ _ h => h) (Or.inl ⟨by rfl, ?_⟩) (by assumption) ?_
              rotate_left
              · intro w hSw; (try dsimp only at hSw); go_simp; (try with_reducible rfl)
              (try simp only [Act.put, List.setIfInBounds_toArray, List.set_cons_zero, List.set_cons_succ])
              refine wpAnyH_take (i := 11) (oi := ⟨_, _, _, _, _, _⟩) (v := ?_) rfl (by kernel_rfl) (by kernel_rfl) (by kernel_rfl) (fun _ _ _ h => h) (Or.inl ⟨by rfl, ?_⟩) (by assumption) ?_
              rotate_left
              · intro w hSw; (try dsimp only at hSw); go_simp; (try with_reducible rfl)
              (try simp only [Act.put, List.setIfInBounds_toArray, List.set_cons_zero, List.set_cons_succ])
              refine wpAnyH_take (i := 12) (oi := ⟨_, _, _, _, _, _⟩) (v := ?_) rfl (by kernel_rfl) (by kernel_rfl) (by kernel_rfl) (fun _ _ _ h => h) (Or.inl ⟨by rfl, ?_⟩) (by assumption) ?_
              rotate_left
              · intro w hSw; (try dsimp only at hSw); go_simp; (try with_reducible rfl)
              (try simp only [Act.put, List.setIfInBounds_toArray, List.set_cons_zero, List.set_cons_succ])
              refine wpAnyH_take (i := 13) (oi := ⟨_, _, _, _, _, _⟩) (v := ?_) rfl (by kernel_rfl) (by kernel_rfl) (by kernel_rfl) (fun _ _ _ h => h) (Or.inl ⟨by rfl, ?_⟩) (by assumption) ?_
              rotate_left
              · intro w hSw; (try dsimp only at hSw); go_simp; (try with_reducible rfl)
              (try simp only [Act.put, List.setIfInBounds_toArray, List.set_cons_zero, List.set_cons_succ])
              refine wpAnyH_take (i := 14) (oi := ⟨_, _, _, _, _, _⟩) (v := ?_) rfl (by kernel_rfl) (by kernel_rfl) (by kernel_rfl) (fun _ _ _ h => h) (Or.inl ⟨by rfl, ?_⟩) (by assumption) ?_
              rotate_left
              · intro w hSw; (try dsimp only at hSw); go_simp; (try with_reducible rfl)
              (try simp only [Act.put, List.setIfInBounds_toArray, List.set_cons_zero, List.set_cons_succ])
              refine wpAnyH_ready (rs := [15]) (by kernel_rfl) (by simp) ?_
              refine AllReadyH.cons (o := ⟨_, _, _, _, _, _⟩) rfl (fun K hK => ?_) AllReadyH.nil
              rw [if_pos (by first | rfl | kernel_rfl | (simp [Region.wanted]; done))]
              refine wp_store_mid 118 (.tmp 6) (.tmp 80) rfl (w.heap.size + 1 + 1 + 1) 0 #[.int .i64 A2, .int .i64 B2, .int .i64 H2, .int .i64 D2, .bool true, .bool true] rfl rfl (there6P br2.drew) infoSpan (one6P _ _ _ _ _ _) ?_
              obtain ⟨wX, hwX⟩ : ∃ W : World, W = wc.drew.setCells (w.heap.size + 1 + 1 + 1) 0 (#[.int .i64 A2, .int .i64 B2, .int .i64 H2, .int .i64 D2, .bool true, .bool true] : Array Value).toList := ⟨_, rfl⟩
              rw [← hwX]
              have hsix : Six wc.drew (w.heap.size + 1 + 1 + 1) 118 #[.int .i64 A2, .int .i64 B2, .int .i64 H2, .int .i64 D2, .bool true, .bool true] wX := by rw [hwX]; exact sixP br2.drew
              clear hwX
              obtain ⟨bX, kX, gX, cX, zX⟩ := hsix
              refine hK.out _ _ ?_ (fun hHeld => ?_)
              · (try dsimp only); (first | exact fun o => rfl | exact fun o => (cX _ _ (by omega)) | exact fun o => (by repeat (first | with_reducible exact rfl | (with_reducible refine (cell_drew_at _ _).trans ?_) | (refine (cell_set_ne2 _ _ (by omega)).trans ?_))) | fail)
              clear hK K
              (try simp only [Act.put])
              refine wpAnyH_take (i := 16) (oi := ⟨_, _, _, _, _, _⟩) (v := ?_) rfl (by kernel_rfl) (by kernel_rfl) (by kernel_rfl) (fun _ _ _ h => h) (Or.inl ⟨by rfl, ?_⟩) (by assumption) ?_
              rotate_left
              · intro w hSw; (try dsimp only at hSw); go_simp; (try with_reducible rfl)
              (try simp only [Act.put, List.setIfInBounds_toArray, List.set_cons_zero, List.set_cons_succ])
              refine wpAnyH_done (by kernel_rfl) ?_ _
              have x0 := bX.cell 0 rfl
              have x1 := bX.cell 1 rfl
              have x2 := bX.cell 2 rfl
              have x3 := bX.cell 3 rfl
              have x4 := bX.cell 4 rfl
              have x5 := bX.cell 5 rfl
              have gY : Below w.heap.size w wX := (Below.drew g2).trans (gX.mono (by omega))
              go_wp2_with fail
              refine bodyPost_ret (v := .tuple #[.agg #[.int .i64 A2, .int .i64 B2, .int .i64 H2, .int .i64 D2, .bool true, .bool true], .bool true]) (by simp [results, Try.results75, go_sem, *]) rfl ⟨A2, B2, H2, D2, true, true, by rw [HV.out], gY⟩
        · have d1 : decide (c < 0) = false := decide_eq_false (by omega)
          have d2 : (c == 0) = false := by simp; omega
          have d3 : decide (c = 0) = false := decide_eq_false (by omega)
          have HV := Lib.hid (show R = false from by rw [HRC, d1, d3]; simp)
          clear HRC
          go_upto_region 8 with fail
          refine wp_region_held_drew (S := (fun w' => ∀ o, w'.cell? ⟨w.heap.size + 1 + 1 + 1 + 1, o, none⟩ = wc.cell? ⟨w.heap.size + 1 + 1 + 1 + 1, o, none⟩)) (by kernel_rfl) ?_ (fun hHeld => ?_)
          · (try dsimp only); (first | exact fun o => rfl | exact fun o => (cX _ _ (by omega)) | exact fun o => (by repeat (first | with_reducible exact rfl | (with_reducible refine (cell_drew_at _ _).trans ?_) | (refine (cell_set_ne2 _ _ (by omega)).trans ?_))) | fail)
          refine wpAnyH_take (i := 0) (oi := ⟨_, _, _, _, _, _⟩) (v := ?_) rfl (by kernel_rfl) (by kernel_rfl) (by kernel_rfl) (fun _ _ _ h => h) (Or.inl ⟨by rfl, ?_⟩) (by assumption) ?_
          rotate_left
          · intro w hSw; (try dsimp only at hSw); go_simp; (try with_reducible rfl)
          (try simp only [Act.put, List.setIfInBounds_toArray, List.set_cons_zero, List.set_cons_succ])
          refine wpAnyH_take (i := 1) (oi := ⟨_, _, _, _, _, _⟩) (v := ?_) rfl (by kernel_rfl) (by kernel_rfl) (by kernel_rfl) (fun _ _ _ h => h) (Or.inl ⟨by rfl, ?_⟩) (by assumption) ?_
          rotate_left
          · intro w hSw; (try dsimp only at hSw); go_simp; (try with_reducible rfl)
          (try simp only [Act.put, List.setIfInBounds_toArray, List.set_cons_zero, List.set_cons_succ])
          refine wpAnyH_take (i := 2) (oi := ⟨_, _, _, _, _, _⟩) (v := ?_) rfl (by kernel_rfl) (by kernel_rfl) (by kernel_rfl) (fun _ _ _ h => h) (Or.inl ⟨by rfl, ?_⟩) (by assumption) ?_
          rotate_left
          · intro w hSw; (try dsimp only at hSw); go_simp; (try with_reducible rfl)
          (try simp only [Act.put, List.setIfInBounds_toArray, List.set_cons_zero, List.set_cons_succ])
          refine wpAnyH_take (i := 3) (oi := ⟨_, _, _, _, _, _⟩) (v := ?_) rfl (by kernel_rfl) (by kernel_rfl) (by kernel_rfl) (fun _ _ _ h => h) (Or.inl ⟨by rfl, ?_⟩) (by assumption) ?_
          rotate_left
          · intro w hSw; (try dsimp only at hSw); go_simp; (try with_reducible rfl)
          (try simp only [Act.put, List.setIfInBounds_toArray, List.set_cons_zero, List.set_cons_succ])
          refine wpAnyH_take (i := 4) (oi := ⟨_, _, _, _, _, _⟩) (v := ?_) rfl (by kernel_rfl) (by kernel_rfl) (by kernel_rfl) (fun _ _ _ h => h) (Or.inl ⟨by rfl, ?_⟩) (by assumption) ?_
          rotate_left
          · intro w hSw; (try dsimp only at hSw); go_simp; (try with_reducible rfl)
          (try simp only [Act.put, List.setIfInBounds_toArray, List.set_cons_zero, List.set_cons_succ])
          refine wpAnyH_take (i := 5) (oi := ⟨_, _, _, _, _, _⟩) (v := ?_) rfl (by kernel_rfl) (by kernel_rfl) (by kernel_rfl) (fun _ _ _ h => h) (Or.inl ⟨by rfl, ?_⟩) (by assumption) ?_
          rotate_left
          · intro w hSw; (try dsimp only at hSw); go_simp; (try with_reducible rfl)
          (try simp only [Act.put, List.setIfInBounds_toArray, List.set_cons_zero, List.set_cons_succ])
          refine wpAnyH_take (i := 6) (oi := ⟨_, _, _, _, _, _⟩) (v := ?_) rfl (by kernel_rfl) (by kernel_rfl) (by kernel_rfl) (fun _ _ _ h => h) (Or.inl ⟨by rfl, ?_⟩) (by assumption) ?_
          rotate_left
          · intro w hSw; (try dsimp only at hSw); go_simp; (try with_reducible rfl)
          (try simp only [Act.put, List.setIfInBounds_toArray, List.set_cons_zero, List.set_cons_succ])
          refine wpAnyH_take (i := 7) (oi := ⟨_, _, _, _, _, _⟩) (v := undef) rfl (by kernel_rfl) (by kernel_rfl) (by kernel_rfl) (fun _ _ _ h => h) (Or.inr ⟨by rfl, rfl⟩) (by assumption) ?_
          (try simp only [Act.put, List.setIfInBounds_toArray, List.set_cons_zero, List.set_cons_succ])
          refine wpAnyH_take (i := 8) (oi := ⟨_, _, _, _, _, _⟩) (v := undef) rfl (by kernel_rfl) (by kernel_rfl) (by kernel_rfl) (fun _ _ _ h => h) (Or.inr ⟨by rfl, rfl⟩) (by assumption) ?_
          (try simp only [Act.put, List.setIfInBounds_toArray, List.set_cons_zero, List.set_cons_succ])
          refine wpAnyH_take (i := 9) (oi := ⟨_, _, _, _, _, _⟩) (v := ?_) rfl (by kernel_rfl) (by kernel_rfl) (by kernel_rfl) (fun _ _ _ h => h) (Or.inl ⟨by rfl, ?_⟩) (by assumption) ?_
          rotate_left
          · intro w hSw; (try dsimp only at hSw); go_simp; (try with_reducible rfl)
          (try simp only [Act.put, List.setIfInBounds_toArray, List.set_cons_zero, List.set_cons_succ])
          refine wpAnyH_take (i := 10) (oi := ⟨_, _, _, _, _, _⟩) (v := ?_) rfl (by kernel_rfl) (by kernel_rfl) (by kernel_rfl) (fun _ _ _ h => h) (Or.inl ⟨by rfl, ?_⟩) (by assumption) ?_
          rotate_left
          · intro w hSw; (try dsimp only at hSw); go_simp; (try with_reducible rfl)
          (try simp only [Act.put, List.setIfInBounds_toArray, List.set_cons_zero, List.set_cons_succ])
          refine wpAnyH_take (i := 11) (oi := ⟨_, _, _, _, _, _⟩) (v := undef) rfl (by kernel_rfl) (by kernel_rfl) (by kernel_rfl) (fun _ _ _ h => h) (Or.inr ⟨by rfl, rfl⟩) (by assumption) ?_
          (try simp only [Act.put, List.setIfInBounds_toArray, List.set_cons_zero, List.set_cons_succ])
          refine wpAnyH_take (i := 12) (oi := ⟨_, _, _, _, _, _⟩) (v := undef) rfl (by kernel_rfl) (by kernel_rfl) (by kernel_rfl) (fun _ _ _ h => h) (Or.inr ⟨by rfl, rfl⟩) (by assumption) ?_
          (try simp only [Act.put, List.setIfInBounds_toArray, List.set_cons_zero, List.set_cons_succ])
          refine wpAnyH_take (i := 13) (oi := ⟨_, _, _, _, _, _⟩) (v := ?_) rfl (by kernel_rfl) (by kernel_rfl) (by kernel_rfl) (fun _ _ _ h => h) (Or.inl ⟨by rfl, ?_⟩) (by assumption) ?_
          rotate_left
          · intro w hSw; (try dsimp only at hSw); go_simp; (try with_reducible rfl)
          (try simp only [Act.put, List.setIfInBounds_toArray, List.set_cons_zero, List.set_cons_succ])
          refine wpAnyH_take (i := 14) (oi := ⟨_, _, _, _, _, _⟩) (v := ?_) rfl (by kernel_rfl) (by kernel_rfl) (by kernel_rfl) (fun _ _ _ h => h) (Or.inl ⟨by rfl, ?_⟩) (by assumption) ?_
          rotate_left
          · intro w hSw; (try dsimp only at hSw); go_simp; (try with_reducible rfl)
          (try simp only [Act.put, List.setIfInBounds_toArray, List.set_cons_zero, List.set_cons_succ])
          refine wpAnyH_ready (rs := [15]) (by kernel_rfl) (by simp) ?_
          refine AllReadyH.cons (o := ⟨_, _, _, _, _, _⟩) rfl (fun K hK => ?_) AllReadyH.nil
          rw [if_pos (by first | rfl | kernel_rfl | (simp [Region.wanted]; done))]
          refine wp_store_mid 118 (.tmp 6) (.tmp 80) rfl (w.heap.size + 1 + 1 + 1) 0 #[.int .i64 A2, .int .i64 B2, .int .i64 H2, .int .i64 D2, .bool F2, .bool G2] rfl rfl (there6P br2.drew) infoSpan (one6P _ _ _ _ _ _) ?_
          obtain ⟨wX, hwX⟩ : ∃ W : World, W = wc.drew.setCells (w.heap.size + 1 + 1 + 1) 0 (#[.int .i64 A2, .int .i64 B2, .int .i64 H2, .int .i64 D2, .bool F2, .bool G2] : Array Value).toList := ⟨_, rfl⟩
          rw [← hwX]
          have hsix : Six wc.drew (w.heap.size + 1 + 1 + 1) 118 #[.int .i64 A2, .int .i64 B2, .int .i64 H2, .int .i64 D2, .bool F2, .bool G2] wX := by rw [hwX]; exact sixP br2.drew
          clear hwX
          obtain ⟨bX, kX, gX, cX, zX⟩ := hsix
          refine hK.out _ _ ?_ (fun hHeld => ?_)
          · (try dsimp only); (first | exact fun o => rfl | exact fun o => (cX _ _ (by omega)) | exact fun o => (by repeat (first | with_reducible exact rfl | (with_reducible refine (cell_drew_at _ _).trans ?_) | (refine (cell_set_ne2 _ _ (by omega)).trans ?_))) | fail)
          clear hK K
          (try simp only [Act.put])
          refine wpAnyH_take (i := 16) (oi := ⟨_, _, _, _, _, _⟩) (v := ?_) rfl (by kernel_rfl) (by kernel_rfl) (by kernel_rfl) (fun _ _ _ h => h) (Or.inl ⟨by rfl, ?_⟩) (by assumption) ?_
          rotate_left
          · intro w hSw; (try dsimp only at hSw); go_simp; (try with_reducible rfl)
          (try simp only [Act.put, List.setIfInBounds_toArray, List.set_cons_zero, List.set_cons_succ])
          refine wpAnyH_done (by kernel_rfl) ?_ _
          have x0 := bX.cell 0 rfl
          have x1 := bX.cell 1 rfl
          have x2 := bX.cell 2 rfl
          have x3 := bX.cell 3 rfl
          have x4 := bX.cell 4 rfl
          have x5 := bX.cell 5 rfl
          have gY : Below w.heap.size w wX := (Below.drew g2).trans (gX.mono (by omega))
          go_wp2_with fail
          refine bodyPost_ret (v := .tuple #[.agg #[.int .i64 A2, .int .i64 B2, .int .i64 H2, .int .i64 D2, .bool F2, .bool G2], .bool false]) (by simp [results, Try.results75, go_sem, *]) rfl ⟨A2, B2, H2, D2, F2, G2, by rw [HV.out], gY⟩
end Go.Proofs.Ytnlhofepobkljaa
