/- Plain facts on halves of cubics; no program in sight. -/
import Derived.Test.YtpfbgpefaegipaaCs
import Derived.Test.YtpfbgpefaegipaaCi
namespace Go.Proofs.Ytpfbgpefaegipaa
/-- Are the points valid, in eighths of a unit? -/
def okH (m0 m1 m2 m3 m4 m5 m6 m7 : Int) : Bool := okB (m0 * 8) (m1 * 8) && okB (m2 * 8) (m3 * 8) && okB (m4 * 8) (m5 * 8) && okB (m6 * 8) (m7 * 8)
theorem c4 (a b c d : Int) : (-262144 ≤ 8 * (mnI (mnI (mnI a b) c) d) ∧ 8 * (mnI (mnI (mnI a b) c) d) ≤ 262144 ∧ -262144 ≤ 8 * (mxI (mxI (mxI a b) c) d) ∧ 8 * (mxI (mxI (mxI a b) c) d) ≤ 262144) ↔ ((-262144 ≤ a * 8 ∧ a * 8 ≤ 262144) ∧ (-262144 ≤ b * 8 ∧ b * 8 ≤ 262144) ∧ (-262144 ≤ c * 8 ∧ c * 8 ≤ 262144) ∧ (-262144 ≤ d * 8 ∧ d * 8 ≤ 262144)) := by
  unfold mnI mxI
  constructor
  · intro h
    omega
  · intro h
    omega
theorem okH_box (m0 m1 m2 m3 m4 m5 m6 m7 : Int) : (okB (8 * (mnI (mnI (mnI m0 m2) m4) m6)) (8 * (mnI (mnI (mnI m1 m3) m5) m7)) && okB (8 * (mxI (mxI (mxI m0 m2) m4) m6)) (8 * (mxI (mxI (mxI m1 m3) m5) m7))) = okH m0 m1 m2 m3 m4 m5 m6 m7 := by
  have hx := c4 m0 m2 m4 m6
  have hy := c4 m1 m3 m5 m7
  unfold okH okB
  rw [Bool.eq_iff_iff]
  simp only [Bool.and_eq_true, decide_eq_true_eq]
  constructor
  · rintro ⟨⟨a1, a2, a3, a4⟩, b1, b2, b3, b4⟩
    obtain ⟨⟨p1, p2⟩, ⟨p3, p4⟩, ⟨p5, p6⟩, p7, p8⟩ := hx.1 ⟨a1, a2, b1, b2⟩
    obtain ⟨⟨q1, q2⟩, ⟨q3, q4⟩, ⟨q5, q6⟩, q7, q8⟩ := hy.1 ⟨a3, a4, b3, b4⟩
    exact ⟨⟨⟨⟨p1, p2, q1, q2⟩, p3, p4, q3, q4⟩, p5, p6, q5, q6⟩, p7, p8, q7, q8⟩
  · rintro ⟨⟨⟨⟨p1, p2, q1, q2⟩, p3, p4, q3, q4⟩, p5, p6, q5, q6⟩, p7, p8, q7, q8⟩
    obtain ⟨a1, a2, b1, b2⟩ := hx.2 ⟨⟨p1, p2⟩, ⟨p3, p4⟩, ⟨p5, p6⟩, p7, p8⟩
    obtain ⟨a3, a4, b3, b4⟩ := hy.2 ⟨⟨q1, q2⟩, ⟨q3, q4⟩, ⟨q5, q6⟩, q7, q8⟩
    exact ⟨⟨a1, a2, a3, a4⟩, b1, b2, b3, b4⟩
theorem okH_f0 {m0 m1 m2 m3 m4 m5 m6 m7 : Int} (h : okB (m0 * 8) (m1 * 8) = false) : okH m0 m1 m2 m3 m4 m5 m6 m7 = false := by simp [okH, h]
theorem okH_f1 {m0 m1 m2 m3 m4 m5 m6 m7 : Int} (h : okB (m2 * 8) (m3 * 8) = false) : okH m0 m1 m2 m3 m4 m5 m6 m7 = false := by simp [okH, h]
theorem okH_f2 {m0 m1 m2 m3 m4 m5 m6 m7 : Int} (h : okB (m4 * 8) (m5 * 8) = false) : okH m0 m1 m2 m3 m4 m5 m6 m7 = false := by simp [okH, h]
theorem okH_f3 {m0 m1 m2 m3 m4 m5 m6 m7 : Int} (h : okB (m6 * 8) (m7 * 8) = false) : okH m0 m1 m2 m3 m4 m5 m6 m7 = false := by simp [okH, h]
theorem okH_parts {m0 m1 m2 m3 m4 m5 m6 m7 : Int} (h : okH m0 m1 m2 m3 m4 m5 m6 m7 = true) : okB (m0 * 8) (m1 * 8) = true ∧ okB (m2 * 8) (m3 * 8) = true ∧ okB (m4 * 8) (m5 * 8) = true ∧ okB (m6 * 8) (m7 * 8) = true := by
  unfold okH at h
  simp only [Bool.and_eq_true] at h
  obtain ⟨⟨⟨h0, h1⟩, h2⟩, h3⟩ := h
  exact ⟨h0, h1, h2, h3⟩
theorem cas_half00 (a b c d : Int) : casF 2 0 0 3 (fun q => [a, b, c, d].getD q 0) 3 0 = a * 8 := by
  simp only [casF, Nat.reduceSub, Nat.reduceLT, if_pos, List.getD_cons_zero, List.getD_cons_succ, Nat.zero_add, Nat.reduceAdd, Nat.lt_add_one]
  simp only [show (((1 : Nat)) : Int) = 1 from rfl, show (((2 : Nat)) : Int) = 2 from rfl, show (((3 : Nat)) : Int) = 3 from rfl, tl, lpI]
  first | (simp; done) | (simp; omega)
theorem cas_half01 (a b c d : Int) : casF 2 0 1 3 (fun q => [a, b, c, d].getD q 0) 3 0 = (a + b) * 4 := by
  simp only [casF, Nat.reduceSub, Nat.reduceLT, if_pos, List.getD_cons_zero, List.getD_cons_succ, Nat.zero_add, Nat.reduceAdd, Nat.lt_add_one]
  simp only [show (((1 : Nat)) : Int) = 1 from rfl, show (((2 : Nat)) : Int) = 2 from rfl, show (((3 : Nat)) : Int) = 3 from rfl, tl, lpI]
  first | (simp; done) | (simp; omega)
theorem cas_half02 (a b c d : Int) : casF 2 0 2 3 (fun q => [a, b, c, d].getD q 0) 3 0 = (a + b + (b + c)) * 2 := by
  simp only [casF, Nat.reduceSub, Nat.reduceLT, if_pos, List.getD_cons_zero, List.getD_cons_succ, Nat.zero_add, Nat.reduceAdd, Nat.lt_add_one]
  simp only [show (((1 : Nat)) : Int) = 1 from rfl, show (((2 : Nat)) : Int) = 2 from rfl, show (((3 : Nat)) : Int) = 3 from rfl, tl, lpI]
  first | (simp; done) | (simp; omega)
theorem cas_half03 (a b c d : Int) : casF 2 0 3 3 (fun q => [a, b, c, d].getD q 0) 3 0 = a + b + (b + c) + (b + c + (c + d)) := by
  simp only [casF, Nat.reduceSub, Nat.reduceLT, if_pos, List.getD_cons_zero, List.getD_cons_succ, Nat.zero_add, Nat.reduceAdd, Nat.lt_add_one]
  simp only [show (((1 : Nat)) : Int) = 1 from rfl, show (((2 : Nat)) : Int) = 2 from rfl, show (((3 : Nat)) : Int) = 3 from rfl, tl, lpI]
  first | (simp; done) | (simp; omega)
theorem cas_half10 (a b c d : Int) : casF 2 1 0 3 (fun q => [a, b, c, d].getD q 0) 3 0 = a + b + (b + c) + (b + c + (c + d)) := by
  simp only [casF, Nat.reduceSub, Nat.reduceLT, if_pos, List.getD_cons_zero, List.getD_cons_succ, Nat.zero_add, Nat.reduceAdd, Nat.lt_add_one]
  simp only [show (((1 : Nat)) : Int) = 1 from rfl, show (((2 : Nat)) : Int) = 2 from rfl, show (((3 : Nat)) : Int) = 3 from rfl, tl, lpI]
  first | (simp; done) | (simp; omega)
theorem cas_half11 (a b c d : Int) : casF 2 1 1 3 (fun q => [a, b, c, d].getD q 0) 3 0 = (b + c + (c + d)) * 2 := by
  simp only [casF, Nat.reduceSub, Nat.reduceLT, if_pos, List.getD_cons_zero, List.getD_cons_succ, Nat.zero_add, Nat.reduceAdd, Nat.lt_add_one]
  simp only [show (((1 : Nat)) : Int) = 1 from rfl, show (((2 : Nat)) : Int) = 2 from rfl, show (((3 : Nat)) : Int) = 3 from rfl, tl, lpI]
  first | (simp; done) | (simp; omega)
theorem cas_half12 (a b c d : Int) : casF 2 1 2 3 (fun q => [a, b, c, d].getD q 0) 3 0 = (c + d) * 4 := by
  simp only [casF, Nat.reduceSub, Nat.reduceLT, if_pos, List.getD_cons_zero, List.getD_cons_succ, Nat.zero_add, Nat.reduceAdd, Nat.lt_add_one]
  simp only [show (((1 : Nat)) : Int) = 1 from rfl, show (((2 : Nat)) : Int) = 2 from rfl, show (((3 : Nat)) : Int) = 3 from rfl, tl, lpI]
  first | (simp; done) | (simp; omega)
theorem cas_half13 (a b c d : Int) : casF 2 1 3 3 (fun q => [a, b, c, d].getD q 0) 3 0 = d * 8 := by
  simp only [casF, Nat.reduceSub, Nat.reduceLT, if_pos, List.getD_cons_zero, List.getD_cons_succ, Nat.zero_add, Nat.reduceAdd, Nat.lt_add_one]
  simp only [show (((1 : Nat)) : Int) = 1 from rfl, show (((2 : Nat)) : Int) = 2 from rfl, show (((3 : Nat)) : Int) = 3 from rfl, tl, lpI]
  first | (simp; done) | (simp; omega)
end Go.Proofs.Ytpfbgpefaegipaa
