/- Walks: how two segments meet, the reference's side whole. -/
import Derived.Test.YtdeemhfhmgnbgaaMf2
namespace Go.Proofs.Ytdeemhfhmgnbgaa
open Go.RowKit
def meetV (ax ay bx ey cx cy dx dy : Int) : Int := bif okB ax ay && okB bx ey && okB cx cy && okB dx dy then meetI ax ay bx ey cx cy dx dy else -1
section
variable {ax ay bx ey cx cy dx dy : Int}
theorem meetV_f1 (h : okB ax ay = false) : -1 = meetV ax ay bx ey cx cy dx dy := by simp [meetV, h]
theorem meetV_f2 (h : okB bx ey = false) : -1 = meetV ax ay bx ey cx cy dx dy := by simp [meetV, h]
theorem meetV_f3 (h : okB cx cy = false) : -1 = meetV ax ay bx ey cx cy dx dy := by simp [meetV, h]
theorem meetV_f4 (h : okB dx dy = false) : -1 = meetV ax ay bx ey cx cy dx dy := by simp [meetV, h]
theorem meetV_no (h : (okB ax ay && okB bx ey && okB cx cy && okB dx dy) = false) : -1 = meetV ax ay bx ey cx cy dx dy := by simp [meetV, h]
theorem meetV_is (h1 : okB ax ay = true) (h2 : okB bx ey = true) (h3 : okB cx cy = true) (h4 : okB dx dy = true) : meetI ax ay bx ey cx cy dx dy = meetV ax ay bx ey cx cy dx dy := by simp [meetV, *]
end
end Go.Proofs.Ytdeemhfhmgnbgaa
