/- Plain facts on numbers that the walks of this seat use; no program in sight. -/
namespace Go.Proofs.YtonoldjhfhngfaaDoor

theorem gcd_step (a b : Nat) : Nat.gcd b (a % b) = Nat.gcd a b := by
  rw [Nat.gcd_comm a b, Nat.gcd_rec b a, Nat.gcd_comm]

/-- The fraction with the value n / d, and the code: as three numbers. -/
def mkNum (n d : Int) : Int :=
  if d = 0 then 0 else if n.natAbs / Nat.gcd n.natAbs d.natAbs > 1000000000 ∨ d.natAbs / Nat.gcd n.natAbs d.natAbs > 1000000 then 0
  else if (decide (n < 0)) = (decide (d < 0)) then ((n.natAbs / Nat.gcd n.natAbs d.natAbs : Nat) : Int) else -((n.natAbs / Nat.gcd n.natAbs d.natAbs : Nat) : Int)
def mkDen (n d : Int) : Int :=
  if d = 0 then 0 else if n.natAbs / Nat.gcd n.natAbs d.natAbs > 1000000000 ∨ d.natAbs / Nat.gcd n.natAbs d.natAbs > 1000000 then 0
  else ((d.natAbs / Nat.gcd n.natAbs d.natAbs : Nat) : Int)
def mkCode (n d : Int) : Int :=
  if d = 0 then 1 else if n.natAbs / Nat.gcd n.natAbs d.natAbs > 1000000000 ∨ d.natAbs / Nat.gcd n.natAbs d.natAbs > 1000000 then 2 else 0

/-- Is the fraction n / d valid? -/
def validB (n d : Int) : Bool := decide (1 ≤ d ∧ d ≤ 1000000 ∧ -1000000000 ≤ n ∧ n ≤ 1000000000 ∧ Nat.gcd n.natAbs d.natAbs = 1)

theorem validB_bounds {n d : Int} (h : validB n d = true) : 1 ≤ d ∧ d ≤ 1000000 ∧ -1000000000 ≤ n ∧ n ≤ 1000000000 ∧ Nat.gcd n.natAbs d.natAbs = 1 := by
  simpa [validB] using h

theorem mul_bound {a b A B : Int} (ha1 : -A ≤ a) (ha2 : a ≤ A) (hb1 : -B ≤ b) (hb2 : b ≤ B) : -(A * B) ≤ a * b ∧ a * b ≤ A * B := by
  have hA : 0 ≤ A := by omega
  have hB : 0 ≤ B := by omega
  have h : (a * b).natAbs ≤ (A * B).natAbs := by
    rw [Int.natAbs_mul, Int.natAbs_mul]
    exact Nat.mul_le_mul (by omega) (by omega)
  have h2 : ((A * B).natAbs : Int) = A * B := by
    have := Int.mul_nonneg hA hB
    omega
  omega

theorem gcd_pos {n d : Int} (h : d ≠ 0) : 0 < Nat.gcd n.natAbs d.natAbs := Nat.gcd_pos_of_pos_right _ (by omega)

end Go.Proofs.YtonoldjhfhngfaaDoor
