/- Walks: the pixels that a segment meets, the program's side whole. -/
import Derived.Test.YtnlhofepobkljaaIg
import Derived.Test.YtnlhofepobkljaaPc
namespace Go.Proofs.Ytnlhofepobkljaa
open Go.RowKit
set_option linter.unusedVariables false
theorem btw_mid (a b c : Int) : btwB a b c = midB (b - a) (c - a) := by
  unfold btwB midB mnI mxI
  rw [Bool.eq_iff_iff]
  simp only [decide_eq_true_eq]
  split <;> omega
def inV (ax ay bx ey px py : Int) : Bool := (okB ax ay && okB bx ey && okB px py) && pixB (bx - ax) (ey - ay) (px - ax) (py - ay)
theorem inV_no {ax ay bx ey px py : Int} (h : (okB ax ay && okB bx ey && okB px py) = false) : false = inV ax ay bx ey px py := by simp [inV, h]
theorem inV_yes {ax ay bx ey px py : Int} (h : (okB ax ay && okB bx ey && okB px py) = true) : pixB (bx - ax) (ey - ay) (px - ax) (py - ay) = inV ax ay bx ey px py := by simp [inV, h]
theorem inV_f1 {ax ay bx ey px py : Int} (h : okB ax ay = false) : false = inV ax ay bx ey px py := by simp [inV, h]
theorem inV_f2 {ax ay bx ey px py : Int} (h : okB bx ey = false) : false = inV ax ay bx ey px py := by simp [inV, h]
theorem inV_f3 {ax ay bx ey px py : Int} (h : okB px py = false) : false = inV ax ay bx ey px py := by simp [inV, h]
set_option maxRecDepth 100000 in
set_option maxHeartbeats 3200000 in
theorem meetsPixel_any (ax ay bx ey px py : Int) (w : World) (va : okB ax ay = true) (vb : okB bx ey = true) (vp : okB px py = true) :
    Calls Try.prog 76 #[.agg #[.int .i64 ax, .int .i64 ay, .int .i64 bx, .int .i64 ey], .agg #[.int .i64 px, .int .i64 py]] w fun e w' => e = .returned (.bool (pixB (bx - ax) (ey - ay) (px - ax) (py - ay))) ∧ Below w.heap.size w w' := by
  have HP : pixB (bx - ax) (ey - ay) (px - ax) (py - ay) = (btwB ax bx px && (btwB ay ey py && decide (-4 < sides (bx - ax) (ey - ay) (px - ax) (py - ay) ∧ sides (bx - ax) (ey - ay) (px - ax) (py - ay) < 4))) := by rw [btw_mid, btw_mid]; rfl
  rw [HP]
  clear HP
  rcases hx : btwB ax bx px with _ | _
  case false =>
    have CX := Lib.hid (fun w => isBetween_any ax bx px w)
    rw [hx] at CX
    clear hx va vb vp
    go_enter Try.func76, Try.ntmps76
    go_wp2_with fail
    generalize hW : (w.alloc (.cells #[.int .i64 ax, .int .i64 ay, .int .i64 bx, .int .i64 ey] 122)).alloc (.cells #[.int .i64 px, .int .i64 py] 64) = W0
    have at0 : AtL w.heap.size [.int .i64 ax, .int .i64 ay, .int .i64 bx, .int .i64 ey] W0 := by rw [← hW]; exact (AtL.new w _ _).alloc _
    have at1 : AtL (w.heap.size + 1) [.int .i64 px, .int .i64 py] W0 := by rw [← hW]; exact AtL.newAt (by simp)
    have g0 : Below w.heap.size w W0 := by rw [← hW]; repeat' (first | with_reducible assumption | with_reducible exact Below.refl _ _ | (with_reducible refine Below.setCell ?_ ?_ _) | (with_reducible refine Below.alloc ?_ ?_ _) | (with_reducible refine Below.drew ?_) | (with_reducible refine below_dr ?_ _) | (with_reducible refine Below.trans ?_ (Below.mono (by with_reducible assumption) ?_)) | omega | (simp; done) | (simp; omega))
    clear hW
    have s0 := at0.cell 0 rfl
    have s1 := at0.cell 1 rfl
    have s2 := at0.cell 2 rfl
    have s3 := at0.cell 3 rfl
    have u0 := at1.cell 0 rfl
    have u1 := at1.cell 1 rfl
    have l0 := at0.lt
    have l1 := at1.lt
    refine (CX.out _).mono ?_
    rintro e w1 ⟨rfl, rfl⟩
    go_wp2_with fail
    go_ret
    exact ⟨rfl, g0⟩
  case true =>
    rcases hy : btwB ay ey py with _ | _
    case false =>
      have CX := Lib.hid (fun w => isBetween_any ax bx px w)
      have CY := Lib.hid (fun w => isBetween_any ay ey py w)
      rw [hx] at CX
      rw [hy] at CY
      clear hx hy va vb vp
      go_enter Try.func76, Try.ntmps76
      go_wp2_with fail
      generalize hW : (w.alloc (.cells #[.int .i64 ax, .int .i64 ay, .int .i64 bx, .int .i64 ey] 122)).alloc (.cells #[.int .i64 px, .int .i64 py] 64) = W0
      have at0 : AtL w.heap.size [.int .i64 ax, .int .i64 ay, .int .i64 bx, .int .i64 ey] W0 := by rw [← hW]; exact (AtL.new w _ _).alloc _
      have at1 : AtL (w.heap.size + 1) [.int .i64 px, .int .i64 py] W0 := by rw [← hW]; exact AtL.newAt (by simp)
      have g0 : Below w.heap.size w W0 := by rw [← hW]; repeat' (first | with_reducible assumption | with_reducible exact Below.refl _ _ | (with_reducible refine Below.setCell ?_ ?_ _) | (with_reducible refine Below.alloc ?_ ?_ _) | (with_reducible refine Below.drew ?_) | (with_reducible refine below_dr ?_ _) | (with_reducible refine Below.trans ?_ (Below.mono (by with_reducible assumption) ?_)) | omega | (simp; done) | (simp; omega))
      clear hW
      have s0 := at0.cell 0 rfl
      have s1 := at0.cell 1 rfl
      have s2 := at0.cell 2 rfl
      have s3 := at0.cell 3 rfl
      have u0 := at1.cell 0 rfl
      have u1 := at1.cell 1 rfl
      have l0 := at0.lt
      have l1 := at1.lt
      refine (CX.out _).mono ?_
      rintro e w1 ⟨rfl, rfl⟩
      go_wp2_with fail
      refine (CY.out _).mono ?_
      rintro e w1 ⟨rfl, rfl⟩
      go_wp2_with fail
      go_ret
      exact ⟨rfl, g0⟩
    case true =>
      exact meetsPixel_yes ax ay bx ey px py w va vb vp hx hy
set_option maxRecDepth 100000 in
set_option maxHeartbeats 3200000 in
theorem implInPixel_any (ax ay bx ey px py : Int) (w : World) :
    Calls Try.prog 34 #[.agg #[.int .i64 ax, .int .i64 ay], .agg #[.int .i64 bx, .int .i64 ey], .agg #[.int .i64 px, .int .i64 py]] w fun e w' => e = .returned (.bool (inV ax ay bx ey px py)) ∧ Below w.heap.size w w' := by
  rcases hv : (okB ax ay && okB bx ey && okB px py) with _ | _
  · have HV := Lib.hid hv
    have HR := Lib.hid (inV_no hv)
    clear hv
    go_enter Try.func34, Try.ntmps34
    go_wp2_with fail
    refine (valid3 ax ay bx ey px py _ _ (by simp) (by simp [go_sem]) (by simp [go_sem]) (by simp [go_sem]) (by simp [go_sem]) (by simp [go_sem]) (by simp [go_sem])).mono ?_
    rw [HV.out]; rintro e w1 ⟨rfl, hbw1⟩
    go_wp2
    go_ret
    exact ⟨ret_bool HR.out, by repeat' (first | with_reducible assumption | with_reducible exact Below.refl _ _ | (with_reducible refine Below.setCell ?_ ?_ _) | (with_reducible refine Below.alloc ?_ ?_ _) | (with_reducible refine Below.drew ?_) | (with_reducible refine below_dr ?_ _) | (with_reducible refine Below.trans ?_ (Below.mono (by with_reducible assumption) ?_)) | omega | (simp; done) | (simp; omega))⟩
  · have HV := Lib.hid hv
    have HR := Lib.hid (inV_yes hv)
    obtain ⟨va, vb, vp⟩ := and3 hv
    have CM := Lib.hid (fun w => meetsPixel_any ax ay bx ey px py w va vb vp)
    generalize pixB (bx - ax) (ey - ay) (px - ax) (py - ay) = v at CM HR
    clear hv va vb vp
    go_enter Try.func34, Try.ntmps34
    go_wp2_with fail
    refine (valid3 ax ay bx ey px py _ _ (by simp) (by simp [go_sem]) (by simp [go_sem]) (by simp [go_sem]) (by simp [go_sem]) (by simp [go_sem]) (by simp [go_sem])).mono ?_
    rw [HV.out]; rintro e w1 ⟨rfl, hbw1⟩
    have g1 : Below w.heap.size w w1 := (by repeat' (first | with_reducible assumption | with_reducible exact Below.refl _ _ | (with_reducible refine Below.setCell ?_ ?_ _) | (with_reducible refine Below.alloc ?_ ?_ _) | (with_reducible refine Below.drew ?_) | (with_reducible refine below_dr ?_ _) | (with_reducible refine Below.trans ?_ (Below.mono (by with_reducible assumption) ?_)) | omega | (simp; done) | (simp; omega)))
    obtain ⟨hcw1, hfw1⟩ := bcell hbw1
    have hzw1 := hbw1.size
    (try simp only [World.size_alloc] at hcw1 hfw1 hzw1)
    have s1 : w1.cell? ⟨w.heap.size, 0, none⟩ = some (.int .i64 ax) := (hcw1 _ _ (by omega)).trans (by first | assumption | (refine (cell_alloc_at _ _ ?_).trans ?_; omega; assumption) | (simp [go_sem]; done) | (simp [go_sem, *]; done))
    have s2 : w1.cell? ⟨w.heap.size, 1, none⟩ = some (.int .i64 ay) := (hcw1 _ _ (by omega)).trans (by first | assumption | (refine (cell_alloc_at _ _ ?_).trans ?_; omega; assumption) | (simp [go_sem]; done) | (simp [go_sem, *]; done))
    have s3 : w1.cell? ⟨w.heap.size + 1, 0, none⟩ = some (.int .i64 bx) := (hcw1 _ _ (by omega)).trans (by first | assumption | (refine (cell_alloc_at _ _ ?_).trans ?_; omega; assumption) | (simp [go_sem]; done) | (simp [go_sem, *]; done))
    have s4 : w1.cell? ⟨w.heap.size + 1, 1, none⟩ = some (.int .i64 ey) := (hcw1 _ _ (by omega)).trans (by first | assumption | (refine (cell_alloc_at _ _ ?_).trans ?_; omega; assumption) | (simp [go_sem]; done) | (simp [go_sem, *]; done))
    have s5 : w1.cell? ⟨w.heap.size + 1 + 1, 0, none⟩ = some (.int .i64 px) := (hcw1 _ _ (by omega)).trans (by first | assumption | (refine (cell_alloc_at _ _ ?_).trans ?_; omega; assumption) | (simp [go_sem]; done) | (simp [go_sem, *]; done))
    have s6 : w1.cell? ⟨w.heap.size + 1 + 1, 1, none⟩ = some (.int .i64 py) := (hcw1 _ _ (by omega)).trans (by first | assumption | (refine (cell_alloc_at _ _ ?_).trans ?_; omega; assumption) | (simp [go_sem]; done) | (simp [go_sem, *]; done))
    have szq0 : w.heap.size < w1.heap.size := (by omega)
    have szq1 : w.heap.size + 1 < w1.heap.size := (by omega)
    have sz : w.heap.size + 1 + 1 < w1.heap.size := (by omega)
    clear hcw1 hfw1 hzw1
    go_wp2_with fail
    refine (CM.out _).mono ?_
    rintro e w2 ⟨rfl, hb2⟩
    go_wp2
    go_ret
    exact ⟨ret_bool HR.out, by repeat' (first | with_reducible assumption | with_reducible exact Below.refl _ _ | (with_reducible refine Below.setCell ?_ ?_ _) | (with_reducible refine Below.alloc ?_ ?_ _) | (with_reducible refine Below.drew ?_) | (with_reducible refine below_dr ?_ _) | (with_reducible refine Below.trans ?_ (Below.mono (by with_reducible assumption) ?_)) | omega | (simp; done) | (simp; omega))⟩
end Go.Proofs.Ytnlhofepobkljaa
