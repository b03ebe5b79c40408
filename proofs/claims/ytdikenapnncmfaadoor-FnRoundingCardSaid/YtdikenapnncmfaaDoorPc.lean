/- Walks: turns, distances, middles and places on segments, on both sides. -/
import Derived.Test.YtdikenapnncmfaaDoorPb
namespace Go.Proofs.YtdikenapnncmfaaDoor
open Go.RowKit

def turnV (ax ay bx ey cx cy : Int) : Int := bif okB ax ay && okB bx ey && okB cx cy then turnI ax ay bx ey cx cy else 0
theorem turnV_no {ax ay bx ey cx cy : Int} (h : (okB ax ay && okB bx ey && okB cx cy) = false) : 0 = turnV ax ay bx ey cx cy := by simp [turnV, h]
theorem turnV_yes {ax ay bx ey cx cy : Int} (h : (okB ax ay && okB bx ey && okB cx cy) = true) : (bx - ax) * (cy - ay) - (ey - ay) * (cx - ax) = turnV ax ay bx ey cx cy := by simp [turnV, h, turnI]
theorem turnV_is {ax ay bx ey cx cy : Int} (h1 : okB ax ay = true) (h2 : okB bx ey = true) (h3 : okB cx cy = true) : turnI ax ay bx ey cx cy = turnV ax ay bx ey cx cy := by simp [turnV, *]
theorem and3 {a b c : Bool} (h : (a && b && c) = true) : a = true ∧ b = true ∧ c = true := by revert h; cases a <;> cases b <;> cases c <;> simp
theorem and2 {a b : Bool} (h : (a && b) = true) : a = true ∧ b = true := by revert h; cases a <;> cases b <;> simp
theorem turnV_f1 {ax ay bx ey cx cy : Int} (h : okB ax ay = false) : 0 = turnV ax ay bx ey cx cy := by simp [turnV, h]
theorem turnV_f2 {ax ay bx ey cx cy : Int} (h : okB bx ey = false) : 0 = turnV ax ay bx ey cx cy := by simp [turnV, h]
theorem turnV_f3 {ax ay bx ey cx cy : Int} (h : okB cx cy = false) : 0 = turnV ax ay bx ey cx cy := by simp [turnV, h]
end Go.Proofs.YtdikenapnncmfaaDoor
