/- Pixels and segments: both tests are one. -/
import Derived.Test.YtnlhofepobkljaaIb
namespace Go.Proofs.Ytnlhofepobkljaa
set_option linter.unusedVariables false
section
variable {dx dy qx qy : Int}
set_option maxHeartbeats 4000000 in
theorem ins_pp (hx : 0 < dx) (hy : 0 < dy) : insB dx dy qx qy = true ↔ pixB dx dy qx qy = true := by
  have exl : clL 0 (2 * dx) (2 * qx - 1) (2 * qx + 1) = 2 * qx - 1 := by unfold clL; (repeat' split) <;> omega
  have exb : clB (2 * dx) = 2 * dx := by unfold clB; (repeat' split) <;> omega
  have exh : clH 0 (2 * dx) (2 * qx - 1) (2 * qx + 1) = 2 * qx + 1 := by unfold clH; (repeat' split) <;> omega
  have exf : clF (2 * dx) = true := by unfold clF; (repeat' split) <;> first | rfl | omega
  have exg : clG (2 * dx) = false := by unfold clG; (repeat' split) <;> first | rfl | omega
  have exk : clK 0 (2 * dx) (2 * qx - 1) (2 * qx + 1) = true := by unfold clK; (repeat' split) <;> first | rfl | omega
  have eyl : clL 0 (2 * dy) (2 * qy - 1) (2 * qy + 1) = 2 * qy - 1 := by unfold clL; (repeat' split) <;> omega
  have eyb : clB (2 * dy) = 2 * dy := by unfold clB; (repeat' split) <;> omega
  have eyh : clH 0 (2 * dy) (2 * qy - 1) (2 * qy + 1) = 2 * qy + 1 := by unfold clH; (repeat' split) <;> omega
  have eyf : clF (2 * dy) = true := by unfold clF; (repeat' split) <;> first | rfl | omega
  have eyg : clG (2 * dy) = false := by unfold clG; (repeat' split) <;> first | rfl | omega
  have eyk : clK 0 (2 * dy) (2 * qy - 1) (2 * qy + 1) = true := by unfold clK; (repeat' split) <;> first | rfl | omega
  have pb := meetB_iff (lx := clL 0 (2 * dx) (2 * qx - 1) (2 * qx + 1)) (bx := clB (2 * dx)) (hx := clH 0 (2 * dx) (2 * qx - 1) (2 * qx + 1)) (ly := clL 0 (2 * dy) (2 * qy - 1) (2 * qy + 1)) (by_ := clB (2 * dy)) (hy := clH 0 (2 * dy) (2 * qy - 1) (2 * qy + 1)) (fx := clF (2 * dx)) (gx := clG (2 * dx)) (fy := clF (2 * dy)) (gy := clG (2 * dy)) (clB_pos _) (clB_pos _)
  unfold insB pixB
  simp only [Bool.and_eq_true]
  rw [pb]
  rw [exl, exb, exh, exf, exg, exk, eyl, eyb, eyh, eyf, eyg, eyk]
  clear pb exl exb exh exf exg exk eyl eyb eyh eyf eyg eyk
  obtain ⟨U, hU⟩ : ∃ U, qx * dy = U := ⟨_, rfl⟩
  obtain ⟨V, hV⟩ : ∃ V, qy * dx = V := ⟨_, rfl⟩
  obtain ⟨W, hW⟩ : ∃ W, qx * dx = W := ⟨_, rfl⟩
  obtain ⟨Z, hZ⟩ : ∃ Z, qy * dy = Z := ⟨_, rfl⟩
  have k0 := cornS_is dx dy qx qy (-1) (-1) U V (-dx) (-dy) hU hV (by omega) (by omega)
  have k1 := cornS_is dx dy qx qy (1) (-1) U V (-dx) (dy) hU hV (by omega) (by omega)
  have k2 := cornS_is dx dy qx qy (1) (1) U V (dx) (dy) hU hV (by omega) (by omega)
  have k3 := cornS_is dx dy qx qy (-1) (1) U V (dx) (-dy) hU hV (by omega) (by omega)
  unfold sides midB okL
  generalize cornS dx dy qx qy (-1) (-1) = s0 at *
  generalize cornS dx dy qx qy 1 (-1) = s1 at *
  generalize cornS dx dy qx qy 1 1 = s2 at *
  generalize cornS dx dy qx qy (-1) 1 = s3 at *
  dsimp only at k0 k1 k2 k3
  have m_lxbx : (2 * qx - 1) * (2 * dx) = 4 * W + -2 * dx := by rw [← hW]; grind
  have m_lxby : (2 * qx - 1) * (2 * dy) = 4 * U + -2 * dy := by rw [← hU]; grind
  have m_hxbx : (2 * qx + 1) * (2 * dx) = 4 * W + 2 * dx := by rw [← hW]; grind
  have m_hxby : (2 * qx + 1) * (2 * dy) = 4 * U + 2 * dy := by rw [← hU]; grind
  have m_lybx : (2 * qy - 1) * (2 * dx) = 4 * V + -2 * dx := by rw [← hV]; grind
  have m_lyby : (2 * qy - 1) * (2 * dy) = 4 * Z + -2 * dy := by rw [← hZ]; grind
  have m_hybx : (2 * qy + 1) * (2 * dx) = 4 * V + 2 * dx := by rw [← hV]; grind
  have m_hyby : (2 * qy + 1) * (2 * dy) = 4 * Z + 2 * dy := by rw [← hZ]; grind
  repeat (first | simp only [m_lxbx] | simp only [m_lxby] | simp only [m_hxbx] | simp only [m_hxby] | simp only [m_lybx] | simp only [m_lyby] | simp only [m_hybx] | simp only [m_hyby] | simp only [Int.mul_one] | simp only [Int.one_mul] | simp only [Int.zero_mul] | simp only [Int.mul_zero] | simp only [and_true] | simp only [true_and] | simp only [and_false] | simp only [false_and] | simp only [or_false] | simp only [Bool.false_eq_true] | simp only [decide_eq_true_eq])
  clear hU hV hW hZ m_lxbx m_lxby m_hxbx m_hxby m_lybx m_lyby m_hybx m_hyby
  constructor
  · intro h
    refine ⟨by omega, by omega, by omega, by omega⟩
  · rintro ⟨h1, h2, h3, h4⟩
    omega
set_option maxHeartbeats 4000000 in
theorem ins_pz (hx : 0 < dx) (hy : dy = 0) : insB dx dy qx qy = true ↔ pixB dx dy qx qy = true := by
  have exl : clL 0 (2 * dx) (2 * qx - 1) (2 * qx + 1) = 2 * qx - 1 := by unfold clL; (repeat' split) <;> omega
  have exb : clB (2 * dx) = 2 * dx := by unfold clB; (repeat' split) <;> omega
  have exh : clH 0 (2 * dx) (2 * qx - 1) (2 * qx + 1) = 2 * qx + 1 := by unfold clH; (repeat' split) <;> omega
  have exf : clF (2 * dx) = true := by unfold clF; (repeat' split) <;> first | rfl | omega
  have exg : clG (2 * dx) = false := by unfold clG; (repeat' split) <;> first | rfl | omega
  have exk : clK 0 (2 * dx) (2 * qx - 1) (2 * qx + 1) = true := by unfold clK; (repeat' split) <;> first | rfl | omega
  have eyl : clL 0 (2 * dy) (2 * qy - 1) (2 * qy + 1) = 0 := by unfold clL; (repeat' split) <;> omega
  have eyb : clB (2 * dy) = 1 := by unfold clB; (repeat' split) <;> omega
  have eyh : clH 0 (2 * dy) (2 * qy - 1) (2 * qy + 1) = 1 := by unfold clH; (repeat' split) <;> omega
  have eyf : clF (2 * dy) = true := by unfold clF; (repeat' split) <;> first | rfl | omega
  have eyg : clG (2 * dy) = true := by unfold clG; (repeat' split) <;> first | rfl | omega
  have eyk : clK 0 (2 * dy) (2 * qy - 1) (2 * qy + 1) = decide (2 * qy - 1 ≤ 0 ∧ 0 < 2 * qy + 1) := by unfold clK; (repeat' split) <;> first | rfl | omega
  have pb := meetB_iff (lx := clL 0 (2 * dx) (2 * qx - 1) (2 * qx + 1)) (bx := clB (2 * dx)) (hx := clH 0 (2 * dx) (2 * qx - 1) (2 * qx + 1)) (ly := clL 0 (2 * dy) (2 * qy - 1) (2 * qy + 1)) (by_ := clB (2 * dy)) (hy := clH 0 (2 * dy) (2 * qy - 1) (2 * qy + 1)) (fx := clF (2 * dx)) (gx := clG (2 * dx)) (fy := clF (2 * dy)) (gy := clG (2 * dy)) (clB_pos _) (clB_pos _)
  unfold insB pixB
  simp only [Bool.and_eq_true]
  rw [pb]
  rw [exl, exb, exh, exf, exg, exk, eyl, eyb, eyh, eyf, eyg, eyk]
  clear pb exl exb exh exf exg exk eyl eyb eyh eyf eyg eyk
  obtain ⟨U, hU⟩ : ∃ U, qx * dy = U := ⟨_, rfl⟩
  obtain ⟨V, hV⟩ : ∃ V, qy * dx = V := ⟨_, rfl⟩
  obtain ⟨W, hW⟩ : ∃ W, qx * dx = W := ⟨_, rfl⟩
  obtain ⟨Z, hZ⟩ : ∃ Z, qy * dy = Z := ⟨_, rfl⟩
  have k0 := cornS_is dx dy qx qy (-1) (-1) U V (-dx) (-dy) hU hV (by omega) (by omega)
  have k1 := cornS_is dx dy qx qy (1) (-1) U V (-dx) (dy) hU hV (by omega) (by omega)
  have k2 := cornS_is dx dy qx qy (1) (1) U V (dx) (dy) hU hV (by omega) (by omega)
  have k3 := cornS_is dx dy qx qy (-1) (1) U V (dx) (-dy) hU hV (by omega) (by omega)
  unfold sides midB okL
  generalize cornS dx dy qx qy (-1) (-1) = s0 at *
  generalize cornS dx dy qx qy 1 (-1) = s1 at *
  generalize cornS dx dy qx qy 1 1 = s2 at *
  generalize cornS dx dy qx qy (-1) 1 = s3 at *
  dsimp only at k0 k1 k2 k3
  subst hy
  have m_lxbx : (2 * qx - 1) * (2 * dx) = 4 * W + -2 * dx := by rw [← hW]; grind
  have m_hxbx : (2 * qx + 1) * (2 * dx) = 4 * W + 2 * dx := by rw [← hW]; grind
  repeat (first | simp only [m_lxbx] | simp only [m_hxbx] | simp only [Int.mul_one] | simp only [Int.one_mul] | simp only [Int.zero_mul] | simp only [Int.mul_zero] | simp only [and_true] | simp only [true_and] | simp only [and_false] | simp only [false_and] | simp only [or_false] | simp only [Bool.false_eq_true] | simp only [decide_eq_true_eq])
  have z3 : U = 0 := by rw [← hU]; simp
  have z4 : qy = 0 → V = 0 := by intro h; rw [← hV, h]; simp
  clear hU hV hW hZ m_lxbx m_hxbx
  constructor
  · intro h
    refine ⟨by omega, by omega, by omega, by omega⟩
  · rintro ⟨h1, h2, h3, h4⟩
    omega
set_option maxHeartbeats 4000000 in
theorem ins_pn (hx : 0 < dx) (hy : dy < 0) : insB dx dy qx qy = true ↔ pixB dx dy qx qy = true := by
  have exl : clL 0 (2 * dx) (2 * qx - 1) (2 * qx + 1) = 2 * qx - 1 := by unfold clL; (repeat' split) <;> omega
  have exb : clB (2 * dx) = 2 * dx := by unfold clB; (repeat' split) <;> omega
  have exh : clH 0 (2 * dx) (2 * qx - 1) (2 * qx + 1) = 2 * qx + 1 := by unfold clH; (repeat' split) <;> omega
  have exf : clF (2 * dx) = true := by unfold clF; (repeat' split) <;> first | rfl | omega
  have exg : clG (2 * dx) = false := by unfold clG; (repeat' split) <;> first | rfl | omega
  have exk : clK 0 (2 * dx) (2 * qx - 1) (2 * qx + 1) = true := by unfold clK; (repeat' split) <;> first | rfl | omega
  have eyl : clL 0 (2 * dy) (2 * qy - 1) (2 * qy + 1) = -(2 * qy) - 1 := by unfold clL; (repeat' split) <;> omega
  have eyb : clB (2 * dy) = -(2 * dy) := by unfold clB; (repeat' split) <;> omega
  have eyh : clH 0 (2 * dy) (2 * qy - 1) (2 * qy + 1) = 1 - 2 * qy := by unfold clH; (repeat' split) <;> omega
  have eyf : clF (2 * dy) = false := by unfold clF; (repeat' split) <;> first | rfl | omega
  have eyg : clG (2 * dy) = true := by unfold clG; (repeat' split) <;> first | rfl | omega
  have eyk : clK 0 (2 * dy) (2 * qy - 1) (2 * qy + 1) = true := by unfold clK; (repeat' split) <;> first | rfl | omega
  have pb := meetB_iff (lx := clL 0 (2 * dx) (2 * qx - 1) (2 * qx + 1)) (bx := clB (2 * dx)) (hx := clH 0 (2 * dx) (2 * qx - 1) (2 * qx + 1)) (ly := clL 0 (2 * dy) (2 * qy - 1) (2 * qy + 1)) (by_ := clB (2 * dy)) (hy := clH 0 (2 * dy) (2 * qy - 1) (2 * qy + 1)) (fx := clF (2 * dx)) (gx := clG (2 * dx)) (fy := clF (2 * dy)) (gy := clG (2 * dy)) (clB_pos _) (clB_pos _)
  unfold insB pixB
  simp only [Bool.and_eq_true]
  rw [pb]
  rw [exl, exb, exh, exf, exg, exk, eyl, eyb, eyh, eyf, eyg, eyk]
  clear pb exl exb exh exf exg exk eyl eyb eyh eyf eyg eyk
  obtain ⟨U, hU⟩ : ∃ U, qx * dy = U := ⟨_, rfl⟩
  obtain ⟨V, hV⟩ : ∃ V, qy * dx = V := ⟨_, rfl⟩
  obtain ⟨W, hW⟩ : ∃ W, qx * dx = W := ⟨_, rfl⟩
  obtain ⟨Z, hZ⟩ : ∃ Z, qy * dy = Z := ⟨_, rfl⟩
  have k0 := cornS_is dx dy qx qy (-1) (-1) U V (-dx) (-dy) hU hV (by omega) (by omega)
  have k1 := cornS_is dx dy qx qy (1) (-1) U V (-dx) (dy) hU hV (by omega) (by omega)
  have k2 := cornS_is dx dy qx qy (1) (1) U V (dx) (dy) hU hV (by omega) (by omega)
  have k3 := cornS_is dx dy qx qy (-1) (1) U V (dx) (-dy) hU hV (by omega) (by omega)
  unfold sides midB okL
  generalize cornS dx dy qx qy (-1) (-1) = s0 at *
  generalize cornS dx dy qx qy 1 (-1) = s1 at *
  generalize cornS dx dy qx qy 1 1 = s2 at *
  generalize cornS dx dy qx qy (-1) 1 = s3 at *
  dsimp only at k0 k1 k2 k3
  have m_lxbx : (2 * qx - 1) * (2 * dx) = 4 * W + -2 * dx := by rw [← hW]; grind
  have m_lxby : (2 * qx - 1) * (-(2 * dy)) = -4 * U + 2 * dy := by rw [← hU]; grind
  have m_hxbx : (2 * qx + 1) * (2 * dx) = 4 * W + 2 * dx := by rw [← hW]; grind
  have m_hxby : (2 * qx + 1) * (-(2 * dy)) = -4 * U + -2 * dy := by rw [← hU]; grind
  have m_lybx : (-(2 * qy) - 1) * (2 * dx) = -4 * V + -2 * dx := by rw [← hV]; grind
  have m_lyby : (-(2 * qy) - 1) * (-(2 * dy)) = 4 * Z + 2 * dy := by rw [← hZ]; grind
  have m_hybx : (1 - 2 * qy) * (2 * dx) = -4 * V + 2 * dx := by rw [← hV]; grind
  have m_hyby : (1 - 2 * qy) * (-(2 * dy)) = 4 * Z + -2 * dy := by rw [← hZ]; grind
  repeat (first | simp only [m_lxbx] | simp only [m_lxby] | simp only [m_hxbx] | simp only [m_hxby] | simp only [m_lybx] | simp only [m_lyby] | simp only [m_hybx] | simp only [m_hyby] | simp only [Int.mul_one] | simp only [Int.one_mul] | simp only [Int.zero_mul] | simp only [Int.mul_zero] | simp only [and_true] | simp only [true_and] | simp only [and_false] | simp only [false_and] | simp only [or_false] | simp only [Bool.false_eq_true] | simp only [decide_eq_true_eq])
  clear hU hV hW hZ m_lxbx m_lxby m_hxbx m_hxby m_lybx m_lyby m_hybx m_hyby
  constructor
  · intro h
    refine ⟨by omega, by omega, by omega, by omega⟩
  · rintro ⟨h1, h2, h3, h4⟩
    omega
set_option maxHeartbeats 4000000 in
theorem ins_zp (hx : dx = 0) (hy : 0 < dy) : insB dx dy qx qy = true ↔ pixB dx dy qx qy = true := by
  have exl : clL 0 (2 * dx) (2 * qx - 1) (2 * qx + 1) = 0 := by unfold clL; (repeat' split) <;> omega
  have exb : clB (2 * dx) = 1 := by unfold clB; (repeat' split) <;> omega
  have exh : clH 0 (2 * dx) (2 * qx - 1) (2 * qx + 1) = 1 := by unfold clH; (repeat' split) <;> omega
  have exf : clF (2 * dx) = true := by unfold clF; (repeat' split) <;> first | rfl | omega
  have exg : clG (2 * dx) = true := by unfold clG; (repeat' split) <;> first | rfl | omega
  have exk : clK 0 (2 * dx) (2 * qx - 1) (2 * qx + 1) = decide (2 * qx - 1 ≤ 0 ∧ 0 < 2 * qx + 1) := by unfold clK; (repeat' split) <;> first | rfl | omega
  have eyl : clL 0 (2 * dy) (2 * qy - 1) (2 * qy + 1) = 2 * qy - 1 := by unfold clL; (repeat' split) <;> omega
  have eyb : clB (2 * dy) = 2 * dy := by unfold clB; (repeat' split) <;> omega
  have eyh : clH 0 (2 * dy) (2 * qy - 1) (2 * qy + 1) = 2 * qy + 1 := by unfold clH; (repeat' split) <;> omega
  have eyf : clF (2 * dy) = true := by unfold clF; (repeat' split) <;> first | rfl | omega
  have eyg : clG (2 * dy) = false := by unfold clG; (repeat' split) <;> first | rfl | omega
  have eyk : clK 0 (2 * dy) (2 * qy - 1) (2 * qy + 1) = true := by unfold clK; (repeat' split) <;> first | rfl | omega
  have pb := meetB_iff (lx := clL 0 (2 * dx) (2 * qx - 1) (2 * qx + 1)) (bx := clB (2 * dx)) (hx := clH 0 (2 * dx) (2 * qx - 1) (2 * qx + 1)) (ly := clL 0 (2 * dy) (2 * qy - 1) (2 * qy + 1)) (by_ := clB (2 * dy)) (hy := clH 0 (2 * dy) (2 * qy - 1) (2 * qy + 1)) (fx := clF (2 * dx)) (gx := clG (2 * dx)) (fy := clF (2 * dy)) (gy := clG (2 * dy)) (clB_pos _) (clB_pos _)
  unfold insB pixB
  simp only [Bool.and_eq_true]
  rw [pb]
  rw [exl, exb, exh, exf, exg, exk, eyl, eyb, eyh, eyf, eyg, eyk]
  clear pb exl exb exh exf exg exk eyl eyb eyh eyf eyg eyk
  obtain ⟨U, hU⟩ : ∃ U, qx * dy = U := ⟨_, rfl⟩
  obtain ⟨V, hV⟩ : ∃ V, qy * dx = V := ⟨_, rfl⟩
  obtain ⟨W, hW⟩ : ∃ W, qx * dx = W := ⟨_, rfl⟩
  obtain ⟨Z, hZ⟩ : ∃ Z, qy * dy = Z := ⟨_, rfl⟩
  have k0 := cornS_is dx dy qx qy (-1) (-1) U V (-dx) (-dy) hU hV (by omega) (by omega)
  have k1 := cornS_is dx dy qx qy (1) (-1) U V (-dx) (dy) hU hV (by omega) (by omega)
  have k2 := cornS_is dx dy qx qy (1) (1) U V (dx) (dy) hU hV (by omega) (by omega)
  have k3 := cornS_is dx dy qx qy (-1) (1) U V (dx) (-dy) hU hV (by omega) (by omega)
  unfold sides midB okL
  generalize cornS dx dy qx qy (-1) (-1) = s0 at *
  generalize cornS dx dy qx qy 1 (-1) = s1 at *
  generalize cornS dx dy qx qy 1 1 = s2 at *
  generalize cornS dx dy qx qy (-1) 1 = s3 at *
  dsimp only at k0 k1 k2 k3
  subst hx
  have m_lyby : (2 * qy - 1) * (2 * dy) = 4 * Z + -2 * dy := by rw [← hZ]; grind
  have m_hyby : (2 * qy + 1) * (2 * dy) = 4 * Z + 2 * dy := by rw [← hZ]; grind
  repeat (first | simp only [m_lyby] | simp only [m_hyby] | simp only [Int.mul_one] | simp only [Int.one_mul] | simp only [Int.zero_mul] | simp only [Int.mul_zero] | simp only [and_true] | simp only [true_and] | simp only [and_false] | simp only [false_and] | simp only [or_false] | simp only [Bool.false_eq_true] | simp only [decide_eq_true_eq])
  have z1 : V = 0 := by rw [← hV]; simp
  have z2 : qx = 0 → U = 0 := by intro h; rw [← hU, h]; simp
  clear hU hV hW hZ m_lyby m_hyby
  constructor
  · intro h
    refine ⟨by omega, by omega, by omega, by omega⟩
  · rintro ⟨h1, h2, h3, h4⟩
    omega
set_option maxHeartbeats 4000000 in
theorem ins_zz (hx : dx = 0) (hy : dy = 0) : insB dx dy qx qy = true ↔ pixB dx dy qx qy = true := by
  have exl : clL 0 (2 * dx) (2 * qx - 1) (2 * qx + 1) = 0 := by unfold clL; (repeat' split) <;> omega
  have exb : clB (2 * dx) = 1 := by unfold clB; (repeat' split) <;> omega
  have exh : clH 0 (2 * dx) (2 * qx - 1) (2 * qx + 1) = 1 := by unfold clH; (repeat' split) <;> omega
  have exf : clF (2 * dx) = true := by unfold clF; (repeat' split) <;> first | rfl | omega
  have exg : clG (2 * dx) = true := by unfold clG; (repeat' split) <;> first | rfl | omega
  have exk : clK 0 (2 * dx) (2 * qx - 1) (2 * qx + 1) = decide (2 * qx - 1 ≤ 0 ∧ 0 < 2 * qx + 1) := by unfold clK; (repeat' split) <;> first | rfl | omega
  have eyl : clL 0 (2 * dy) (2 * qy - 1) (2 * qy + 1) = 0 := by unfold clL; (repeat' split) <;> omega
  have eyb : clB (2 * dy) = 1 := by unfold clB; (repeat' split) <;> omega
  have eyh : clH 0 (2 * dy) (2 * qy - 1) (2 * qy + 1) = 1 := by unfold clH; (repeat' split) <;> omega
  have eyf : clF (2 * dy) = true := by unfold clF; (repeat' split) <;> first | rfl | omega
  have eyg : clG (2 * dy) = true := by unfold clG; (repeat' split) <;> first | rfl | omega
  have eyk : clK 0 (2 * dy) (2 * qy - 1) (2 * qy + 1) = decide (2 * qy - 1 ≤ 0 ∧ 0 < 2 * qy + 1) := by unfold clK; (repeat' split) <;> first | rfl | omega
  have pb := meetB_iff (lx := clL 0 (2 * dx) (2 * qx - 1) (2 * qx + 1)) (bx := clB (2 * dx)) (hx := clH 0 (2 * dx) (2 * qx - 1) (2 * qx + 1)) (ly := clL 0 (2 * dy) (2 * qy - 1) (2 * qy + 1)) (by_ := clB (2 * dy)) (hy := clH 0 (2 * dy) (2 * qy - 1) (2 * qy + 1)) (fx := clF (2 * dx)) (gx := clG (2 * dx)) (fy := clF (2 * dy)) (gy := clG (2 * dy)) (clB_pos _) (clB_pos _)
  unfold insB pixB
  simp only [Bool.and_eq_true]
  rw [pb]
  rw [exl, exb, exh, exf, exg, exk, eyl, eyb, eyh, eyf, eyg, eyk]
  clear pb exl exb exh exf exg exk eyl eyb eyh eyf eyg eyk
  obtain ⟨U, hU⟩ : ∃ U, qx * dy = U := ⟨_, rfl⟩
  obtain ⟨V, hV⟩ : ∃ V, qy * dx = V := ⟨_, rfl⟩
  obtain ⟨W, hW⟩ : ∃ W, qx * dx = W := ⟨_, rfl⟩
  obtain ⟨Z, hZ⟩ : ∃ Z, qy * dy = Z := ⟨_, rfl⟩
  have k0 := cornS_is dx dy qx qy (-1) (-1) U V (-dx) (-dy) hU hV (by omega) (by omega)
  have k1 := cornS_is dx dy qx qy (1) (-1) U V (-dx) (dy) hU hV (by omega) (by omega)
  have k2 := cornS_is dx dy qx qy (1) (1) U V (dx) (dy) hU hV (by omega) (by omega)
  have k3 := cornS_is dx dy qx qy (-1) (1) U V (dx) (-dy) hU hV (by omega) (by omega)
  unfold sides midB okL
  generalize cornS dx dy qx qy (-1) (-1) = s0 at *
  generalize cornS dx dy qx qy 1 (-1) = s1 at *
  generalize cornS dx dy qx qy 1 1 = s2 at *
  generalize cornS dx dy qx qy (-1) 1 = s3 at *
  dsimp only at k0 k1 k2 k3
  subst hx
  subst hy
  repeat (first | simp only [Int.mul_one] | simp only [Int.one_mul] | simp only [Int.zero_mul] | simp only [Int.mul_zero] | simp only [and_true] | simp only [true_and] | simp only [and_false] | simp only [false_and] | simp only [or_false] | simp only [Bool.false_eq_true] | simp only [decide_eq_true_eq])
  have z1 : V = 0 := by rw [← hV]; simp
  have z2 : qx = 0 → U = 0 := by intro h; rw [← hU, h]; simp
  have z3 : U = 0 := by rw [← hU]; simp
  have z4 : qy = 0 → V = 0 := by intro h; rw [← hV, h]; simp
  clear hU hV hW hZ
  constructor
  · intro h
    refine ⟨by omega, by omega, by omega, by omega⟩
  · rintro ⟨h1, h2, h3, h4⟩
    omega
set_option maxHeartbeats 4000000 in
theorem ins_zn (hx : dx = 0) (hy : dy < 0) : insB dx dy qx qy = true ↔ pixB dx dy qx qy = true := by
  have exl : clL 0 (2 * dx) (2 * qx - 1) (2 * qx + 1) = 0 := by unfold clL; (repeat' split) <;> omega
  have exb : clB (2 * dx) = 1 := by unfold clB; (repeat' split) <;> omega
  have exh : clH 0 (2 * dx) (2 * qx - 1) (2 * qx + 1) = 1 := by unfold clH; (repeat' split) <;> omega
  have exf : clF (2 * dx) = true := by unfold clF; (repeat' split) <;> first | rfl | omega
  have exg : clG (2 * dx) = true := by unfold clG; (repeat' split) <;> first | rfl | omega
  have exk : clK 0 (2 * dx) (2 * qx - 1) (2 * qx + 1) = decide (2 * qx - 1 ≤ 0 ∧ 0 < 2 * qx + 1) := by unfold clK; (repeat' split) <;> first | rfl | omega
  have eyl : clL 0 (2 * dy) (2 * qy - 1) (2 * qy + 1) = -(2 * qy) - 1 := by unfold clL; (repeat' split) <;> omega
  have eyb : clB (2 * dy) = -(2 * dy) := by unfold clB; (repeat' split) <;> omega
  have eyh : clH 0 (2 * dy) (2 * qy - 1) (2 * qy + 1) = 1 - 2 * qy := by unfold clH; (repeat' split) <;> omega
  have eyf : clF (2 * dy) = false := by unfold clF; (repeat' split) <;> first | rfl | omega
  have eyg : clG (2 * dy) = true := by unfold clG; (repeat' split) <;> first | rfl | omega
  have eyk : clK 0 (2 * dy) (2 * qy - 1) (2 * qy + 1) = true := by unfold clK; (repeat' split) <;> first | rfl | omega
  have pb := meetB_iff (lx := clL 0 (2 * dx) (2 * qx - 1) (2 * qx + 1)) (bx := clB (2 * dx)) (hx := clH 0 (2 * dx) (2 * qx - 1) (2 * qx + 1)) (ly := clL 0 (2 * dy) (2 * qy - 1) (2 * qy + 1)) (by_ := clB (2 * dy)) (hy := clH 0 (2 * dy) (2 * qy - 1) (2 * qy + 1)) (fx := clF (2 * dx)) (gx := clG (2 * dx)) (fy := clF (2 * dy)) (gy := clG (2 * dy)) (clB_pos _) (clB_pos _)
  unfold insB pixB
  simp only [Bool.and_eq_true]
  rw [pb]
  rw [exl, exb, exh, exf, exg, exk, eyl, eyb, eyh, eyf, eyg, eyk]
  clear pb exl exb exh exf exg exk eyl eyb eyh eyf eyg eyk
  obtain ⟨U, hU⟩ : ∃ U, qx * dy = U := ⟨_, rfl⟩
  obtain ⟨V, hV⟩ : ∃ V, qy * dx = V := ⟨_, rfl⟩
  obtain ⟨W, hW⟩ : ∃ W, qx * dx = W := ⟨_, rfl⟩
  obtain ⟨Z, hZ⟩ : ∃ Z, qy * dy = Z := ⟨_, rfl⟩
  have k0 := cornS_is dx dy qx qy (-1) (-1) U V (-dx) (-dy) hU hV (by omega) (by omega)
  have k1 := cornS_is dx dy qx qy (1) (-1) U V (-dx) (dy) hU hV (by omega) (by omega)
  have k2 := cornS_is dx dy qx qy (1) (1) U V (dx) (dy) hU hV (by omega) (by omega)
  have k3 := cornS_is dx dy qx qy (-1) (1) U V (dx) (-dy) hU hV (by omega) (by omega)
  unfold sides midB okL
  generalize cornS dx dy qx qy (-1) (-1) = s0 at *
  generalize cornS dx dy qx qy 1 (-1) = s1 at *
  generalize cornS dx dy qx qy 1 1 = s2 at *
  generalize cornS dx dy qx qy (-1) 1 = s3 at *
  dsimp only at k0 k1 k2 k3
  subst hx
  have m_lyby : (-(2 * qy) - 1) * (-(2 * dy)) = 4 * Z + 2 * dy := by rw [← hZ]; grind
  have m_hyby : (1 - 2 * qy) * (-(2 * dy)) = 4 * Z + -2 * dy := by rw [← hZ]; grind
  repeat (first | simp only [m_lyby] | simp only [m_hyby] | simp only [Int.mul_one] | simp only [Int.one_mul] | simp only [Int.zero_mul] | simp only [Int.mul_zero] | simp only [and_true] | simp only [true_and] | simp only [and_false] | simp only [false_and] | simp only [or_false] | simp only [Bool.false_eq_true] | simp only [decide_eq_true_eq])
  have z1 : V = 0 := by rw [← hV]; simp
  have z2 : qx = 0 → U = 0 := by intro h; rw [← hU, h]; simp
  clear hU hV hW hZ m_lyby m_hyby
  constructor
  · intro h
    refine ⟨by omega, by omega, by omega, by omega⟩
  · rintro ⟨h1, h2, h3, h4⟩
    omega
set_option maxHeartbeats 4000000 in
theorem ins_np (hx : dx < 0) (hy : 0 < dy) : insB dx dy qx qy = true ↔ pixB dx dy qx qy = true := by
  have exl : clL 0 (2 * dx) (2 * qx - 1) (2 * qx + 1) = -(2 * qx) - 1 := by unfold clL; (repeat' split) <;> omega
  have exb : clB (2 * dx) = -(2 * dx) := by unfold clB; (repeat' split) <;> omega
  have exh : clH 0 (2 * dx) (2 * qx - 1) (2 * qx + 1) = 1 - 2 * qx := by unfold clH; (repeat' split) <;> omega
  have exf : clF (2 * dx) = false := by unfold clF; (repeat' split) <;> first | rfl | omega
  have exg : clG (2 * dx) = true := by unfold clG; (repeat' split) <;> first | rfl | omega
  have exk : clK 0 (2 * dx) (2 * qx - 1) (2 * qx + 1) = true := by unfold clK; (repeat' split) <;> first | rfl | omega
  have eyl : clL 0 (2 * dy) (2 * qy - 1) (2 * qy + 1) = 2 * qy - 1 := by unfold clL; (repeat' split) <;> omega
  have eyb : clB (2 * dy) = 2 * dy := by unfold clB; (repeat' split) <;> omega
  have eyh : clH 0 (2 * dy) (2 * qy - 1) (2 * qy + 1) = 2 * qy + 1 := by unfold clH; (repeat' split) <;> omega
  have eyf : clF (2 * dy) = true := by unfold clF; (repeat' split) <;> first | rfl | omega
  have eyg : clG (2 * dy) = false := by unfold clG; (repeat' split) <;> first | rfl | omega
  have eyk : clK 0 (2 * dy) (2 * qy - 1) (2 * qy + 1) = true := by unfold clK; (repeat' split) <;> first | rfl | omega
  have pb := meetB_iff (lx := clL 0 (2 * dx) (2 * qx - 1) (2 * qx + 1)) (bx := clB (2 * dx)) (hx := clH 0 (2 * dx) (2 * qx - 1) (2 * qx + 1)) (ly := clL 0 (2 * dy) (2 * qy - 1) (2 * qy + 1)) (by_ := clB (2 * dy)) (hy := clH 0 (2 * dy) (2 * qy - 1) (2 * qy + 1)) (fx := clF (2 * dx)) (gx := clG (2 * dx)) (fy := clF (2 * dy)) (gy := clG (2 * dy)) (clB_pos _) (clB_pos _)
  unfold insB pixB
  simp only [Bool.and_eq_true]
  rw [pb]
  rw [exl, exb, exh, exf, exg, exk, eyl, eyb, eyh, eyf, eyg, eyk]
  clear pb exl exb exh exf exg exk eyl eyb eyh eyf eyg eyk
  obtain ⟨U, hU⟩ : ∃ U, qx * dy = U := ⟨_, rfl⟩
  obtain ⟨V, hV⟩ : ∃ V, qy * dx = V := ⟨_, rfl⟩
  obtain ⟨W, hW⟩ : ∃ W, qx * dx = W := ⟨_, rfl⟩
  obtain ⟨Z, hZ⟩ : ∃ Z, qy * dy = Z := ⟨_, rfl⟩
  have k0 := cornS_is dx dy qx qy (-1) (-1) U V (-dx) (-dy) hU hV (by omega) (by omega)
  have k1 := cornS_is dx dy qx qy (1) (-1) U V (-dx) (dy) hU hV (by omega) (by omega)
  have k2 := cornS_is dx dy qx qy (1) (1) U V (dx) (dy) hU hV (by omega) (by omega)
  have k3 := cornS_is dx dy qx qy (-1) (1) U V (dx) (-dy) hU hV (by omega) (by omega)
  unfold sides midB okL
  generalize cornS dx dy qx qy (-1) (-1) = s0 at *
  generalize cornS dx dy qx qy 1 (-1) = s1 at *
  generalize cornS dx dy qx qy 1 1 = s2 at *
  generalize cornS dx dy qx qy (-1) 1 = s3 at *
  dsimp only at k0 k1 k2 k3
  have m_lxbx : (-(2 * qx) - 1) * (-(2 * dx)) = 4 * W + 2 * dx := by rw [← hW]; grind
  have m_lxby : (-(2 * qx) - 1) * (2 * dy) = -4 * U + -2 * dy := by rw [← hU]; grind
  have m_hxbx : (1 - 2 * qx) * (-(2 * dx)) = 4 * W + -2 * dx := by rw [← hW]; grind
  have m_hxby : (1 - 2 * qx) * (2 * dy) = -4 * U + 2 * dy := by rw [← hU]; grind
  have m_lybx : (2 * qy - 1) * (-(2 * dx)) = -4 * V + 2 * dx := by rw [← hV]; grind
  have m_lyby : (2 * qy - 1) * (2 * dy) = 4 * Z + -2 * dy := by rw [← hZ]; grind
  have m_hybx : (2 * qy + 1) * (-(2 * dx)) = -4 * V + -2 * dx := by rw [← hV]; grind
  have m_hyby : (2 * qy + 1) * (2 * dy) = 4 * Z + 2 * dy := by rw [← hZ]; grind
  repeat (first | simp only [m_lxbx] | simp only [m_lxby] | simp only [m_hxbx] | simp only [m_hxby] | simp only [m_lybx] | simp only [m_lyby] | simp only [m_hybx] | simp only [m_hyby] | simp only [Int.mul_one] | simp only [Int.one_mul] | simp only [Int.zero_mul] | simp only [Int.mul_zero] | simp only [and_true] | simp only [true_and] | simp only [and_false] | simp only [false_and] | simp only [or_false] | simp only [Bool.false_eq_true] | simp only [decide_eq_true_eq])
  clear hU hV hW hZ m_lxbx m_lxby m_hxbx m_hxby m_lybx m_lyby m_hybx m_hyby
  constructor
  · intro h
    refine ⟨by omega, by omega, by omega, by omega⟩
  · rintro ⟨h1, h2, h3, h4⟩
    omega
set_option maxHeartbeats 4000000 in
theorem ins_nz (hx : dx < 0) (hy : dy = 0) : insB dx dy qx qy = true ↔ pixB dx dy qx qy = true := by
  have exl : clL 0 (2 * dx) (2 * qx - 1) (2 * qx + 1) = -(2 * qx) - 1 := by unfold clL; (repeat' split) <;> omega
  have exb : clB (2 * dx) = -(2 * dx) := by unfold clB; (repeat' split) <;> omega
  have exh : clH 0 (2 * dx) (2 * qx - 1) (2 * qx + 1) = 1 - 2 * qx := by unfold clH; (repeat' split) <;> omega
  have exf : clF (2 * dx) = false := by unfold clF; (repeat' split) <;> first | rfl | omega
  have exg : clG (2 * dx) = true := by unfold clG; (repeat' split) <;> first | rfl | omega
  have exk : clK 0 (2 * dx) (2 * qx - 1) (2 * qx + 1) = true := by unfold clK; (repeat' split) <;> first | rfl | omega
  have eyl : clL 0 (2 * dy) (2 * qy - 1) (2 * qy + 1) = 0 := by unfold clL; (repeat' split) <;> omega
  have eyb : clB (2 * dy) = 1 := by unfold clB; (repeat' split) <;> omega
  have eyh : clH 0 (2 * dy) (2 * qy - 1) (2 * qy + 1) = 1 := by unfold clH; (repeat' split) <;> omega
  have eyf : clF (2 * dy) = true := by unfold clF; (repeat' split) <;> first | rfl | omega
  have eyg : clG (2 * dy) = true := by unfold clG; (repeat' split) <;> first | rfl | omega
  have eyk : clK 0 (2 * dy) (2 * qy - 1) (2 * qy + 1) = decide (2 * qy - 1 ≤ 0 ∧ 0 < 2 * qy + 1) := by unfold clK; (repeat' split) <;> first | rfl | omega
  have pb := meetB_iff (lx := clL 0 (2 * dx) (2 * qx - 1) (2 * qx + 1)) (bx := clB (2 * dx)) (hx := clH 0 (2 * dx) (2 * qx - 1) (2 * qx + 1)) (ly := clL 0 (2 * dy) (2 * qy - 1) (2 * qy + 1)) (by_ := clB (2 * dy)) (hy := clH 0 (2 * dy) (2 * qy - 1) (2 * qy + 1)) (fx := clF (2 * dx)) (gx := clG (2 * dx)) (fy := clF (2 * dy)) (gy := clG (2 * dy)) (clB_pos _) (clB_pos _)
  unfold insB pixB
  simp only [Bool.and_eq_true]
  rw [pb]
  rw [exl, exb, exh, exf, exg, exk, eyl, eyb, eyh, eyf, eyg, eyk]
  clear pb exl exb exh exf exg exk eyl eyb eyh eyf eyg eyk
  obtain ⟨U, hU⟩ : ∃ U, qx * dy = U := ⟨_, rfl⟩
  obtain ⟨V, hV⟩ : ∃ V, qy * dx = V := ⟨_, rfl⟩
  obtain ⟨W, hW⟩ : ∃ W, qx * dx = W := ⟨_, rfl⟩
  obtain ⟨Z, hZ⟩ : ∃ Z, qy * dy = Z := ⟨_, rfl⟩
  have k0 := cornS_is dx dy qx qy (-1) (-1) U V (-dx) (-dy) hU hV (by omega) (by omega)
  have k1 := cornS_is dx dy qx qy (1) (-1) U V (-dx) (dy) hU hV (by omega) (by omega)
  have k2 := cornS_is dx dy qx qy (1) (1) U V (dx) (dy) hU hV (by omega) (by omega)
  have k3 := cornS_is dx dy qx qy (-1) (1) U V (dx) (-dy) hU hV (by omega) (by omega)
  unfold sides midB okL
  generalize cornS dx dy qx qy (-1) (-1) = s0 at *
  generalize cornS dx dy qx qy 1 (-1) = s1 at *
  generalize cornS dx dy qx qy 1 1 = s2 at *
  generalize cornS dx dy qx qy (-1) 1 = s3 at *
  dsimp only at k0 k1 k2 k3
  subst hy
  have m_lxbx : (-(2 * qx) - 1) * (-(2 * dx)) = 4 * W + 2 * dx := by rw [← hW]; grind
  have m_hxbx : (1 - 2 * qx) * (-(2 * dx)) = 4 * W + -2 * dx := by rw [← hW]; grind
  repeat (first | simp only [m_lxbx] | simp only [m_hxbx] | simp only [Int.mul_one] | simp only [Int.one_mul] | simp only [Int.zero_mul] | simp only [Int.mul_zero] | simp only [and_true] | simp only [true_and] | simp only [and_false] | simp only [false_and] | simp only [or_false] | simp only [Bool.false_eq_true] | simp only [decide_eq_true_eq])
  have z3 : U = 0 := by rw [← hU]; simp
  have z4 : qy = 0 → V = 0 := by intro h; rw [← hV, h]; simp
  clear hU hV hW hZ m_lxbx m_hxbx
  constructor
  · intro h
    refine ⟨by omega, by omega, by omega, by omega⟩
  · rintro ⟨h1, h2, h3, h4⟩
    omega
set_option maxHeartbeats 4000000 in
theorem ins_nn (hx : dx < 0) (hy : dy < 0) : insB dx dy qx qy = true ↔ pixB dx dy qx qy = true := by
  have exl : clL 0 (2 * dx) (2 * qx - 1) (2 * qx + 1) = -(2 * qx) - 1 := by unfold clL; (repeat' split) <;> omega
  have exb : clB (2 * dx) = -(2 * dx) := by unfold clB; (repeat' split) <;> omega
  have exh : clH 0 (2 * dx) (2 * qx - 1) (2 * qx + 1) = 1 - 2 * qx := by unfold clH; (repeat' split) <;> omega
  have exf : clF (2 * dx) = false := by unfold clF; (repeat' split) <;> first | rfl | omega
  have exg : clG (2 * dx) = true := by unfold clG; (repeat' split) <;> first | rfl | omega
  have exk : clK 0 (2 * dx) (2 * qx - 1) (2 * qx + 1) = true := by unfold clK; (repeat' split) <;> first | rfl | omega
  have eyl : clL 0 (2 * dy) (2 * qy - 1) (2 * qy + 1) = -(2 * qy) - 1 := by unfold clL; (repeat' split) <;> omega
  have eyb : clB (2 * dy) = -(2 * dy) := by unfold clB; (repeat' split) <;> omega
  have eyh : clH 0 (2 * dy) (2 * qy - 1) (2 * qy + 1) = 1 - 2 * qy := by unfold clH; (repeat' split) <;> omega
  have eyf : clF (2 * dy) = false := by unfold clF; (repeat' split) <;> first | rfl | omega
  have eyg : clG (2 * dy) = true := by unfold clG; (repeat' split) <;> first | rfl | omega
  have eyk : clK 0 (2 * dy) (2 * qy - 1) (2 * qy + 1) = true := by unfold clK; (repeat' split) <;> first | rfl | omega
  have pb := meetB_iff (lx := clL 0 (2 * dx) (2 * qx - 1) (2 * qx + 1)) (bx := clB (2 * dx)) (hx := clH 0 (2 * dx) (2 * qx - 1) (2 * qx + 1)) (ly := clL 0 (2 * dy) (2 * qy - 1) (2 * qy + 1)) (by_ := clB (2 * dy)) (hy := clH 0 (2 * dy) (2 * qy - 1) (2 * qy + 1)) (fx := clF (2 * dx)) (gx := clG (2 * dx)) (fy := clF (2 * dy)) (gy := clG (2 * dy)) (clB_pos _) (clB_pos _)
  unfold insB pixB
  simp only [Bool.and_eq_true]
  rw [pb]
  rw [exl, exb, exh, exf, exg, exk, eyl, eyb, eyh, eyf, eyg, eyk]
  clear pb exl exb exh exf exg exk eyl eyb eyh eyf eyg eyk
  obtain ⟨U, hU⟩ : ∃ U, qx * dy = U := ⟨_, rfl⟩
  obtain ⟨V, hV⟩ : ∃ V, qy * dx = V := ⟨_, rfl⟩
  obtain ⟨W, hW⟩ : ∃ W, qx * dx = W := ⟨_, rfl⟩
  obtain ⟨Z, hZ⟩ : ∃ Z, qy * dy = Z := ⟨_, rfl⟩
  have k0 := cornS_is dx dy qx qy (-1) (-1) U V (-dx) (-dy) hU hV (by omega) (by omega)
  have k1 := cornS_is dx dy qx qy (1) (-1) U V (-dx) (dy) hU hV (by omega) (by omega)
  have k2 := cornS_is dx dy qx qy (1) (1) U V (dx) (dy) hU hV (by omega) (by omega)
  have k3 := cornS_is dx dy qx qy (-1) (1) U V (dx) (-dy) hU hV (by omega) (by omega)
  unfold sides midB okL
  generalize cornS dx dy qx qy (-1) (-1) = s0 at *
  generalize cornS dx dy qx qy 1 (-1) = s1 at *
  generalize cornS dx dy qx qy 1 1 = s2 at *
  generalize cornS dx dy qx qy (-1) 1 = s3 at *
  dsimp only at k0 k1 k2 k3
  have m_lxbx : (-(2 * qx) - 1) * (-(2 * dx)) = 4 * W + 2 * dx := by rw [← hW]; grind
  have m_lxby : (-(2 * qx) - 1) * (-(2 * dy)) = 4 * U + 2 * dy := by rw [← hU]; grind
  have m_hxbx : (1 - 2 * qx) * (-(2 * dx)) = 4 * W + -2 * dx := by rw [← hW]; grind
  have m_hxby : (1 - 2 * qx) * (-(2 * dy)) = 4 * U + -2 * dy := by rw [← hU]; grind
  have m_lybx : (-(2 * qy) - 1) * (-(2 * dx)) = 4 * V + 2 * dx := by rw [← hV]; grind
  have m_lyby : (-(2 * qy) - 1) * (-(2 * dy)) = 4 * Z + 2 * dy := by rw [← hZ]; grind
  have m_hybx : (1 - 2 * qy) * (-(2 * dx)) = 4 * V + -2 * dx := by rw [← hV]; grind
  have m_hyby : (1 - 2 * qy) * (-(2 * dy)) = 4 * Z + -2 * dy := by rw [← hZ]; grind
  repeat (first | simp only [m_lxbx] | simp only [m_lxby] | simp only [m_hxbx] | simp only [m_hxby] | simp only [m_lybx] | simp only [m_lyby] | simp only [m_hybx] | simp only [m_hyby] | simp only [Int.mul_one] | simp only [Int.one_mul] | simp only [Int.zero_mul] | simp only [Int.mul_zero] | simp only [and_true] | simp only [true_and] | simp only [and_false] | simp only [false_and] | simp only [or_false] | simp only [Bool.false_eq_true] | simp only [decide_eq_true_eq])
  clear hU hV hW hZ m_lxbx m_lxby m_hxbx m_hxby m_lybx m_lyby m_hybx m_hyby
  constructor
  · intro h
    refine ⟨by omega, by omega, by omega, by omega⟩
  · rintro ⟨h1, h2, h3, h4⟩
    omega
end
theorem ins_pix (dx dy qx qy : Int) : insB dx dy qx qy = pixB dx dy qx qy := by
  rw [Bool.eq_iff_iff]
  rcases Int.lt_trichotomy dx 0 with hx | hx | hx <;> rcases Int.lt_trichotomy dy 0 with hy | hy | hy
  · exact ins_nn hx hy
  · exact ins_nz hx hy
  · exact ins_np hx hy
  · exact ins_zn hx hy
  · exact ins_zz hx hy
  · exact ins_zp hx hy
  · exact ins_pn hx hy
  · exact ins_pz hx hy
  · exact ins_pp hx hy
end Go.Proofs.Ytnlhofepobkljaa
