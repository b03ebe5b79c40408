/- Walks: winding numbers and where points are, the reference's side. -/
import Derived.Test.YtdeemhfhmgnbgaaZf
namespace Go.Proofs.Ytdeemhfhmgnbgaa
open Go.RowKit
set_option linter.unusedVariables false
def wdB (ds : List DRing) (px py : Int) : Bool := vRn ds && (okB px py && !onA (allE ds) px py)
def wdV (ds : List DRing) (px py : Int) : Int := bif wdB ds px py then windI (allE ds) px py else 0
section
variable {ds : List DRing} {px py : Int}
theorem wd_1 (h : vRn ds = false) : 0 = wdV ds px py ∧ false = wdB ds px py := by unfold wdV wdB; rw [h]; exact ⟨rfl, rfl⟩
theorem wd_2 (h : vRn ds = true) (h2 : okB px py = false) : 0 = wdV ds px py ∧ false = wdB ds px py := by unfold wdV wdB; rw [h, h2]; exact ⟨rfl, rfl⟩
theorem wd_3 (h : vRn ds = true) (h2 : okB px py = true) (h3 : onA (allE ds) px py = true) : 0 = wdV ds px py ∧ false = wdB ds px py := by unfold wdV wdB; rw [h, h2, h3]; exact ⟨rfl, rfl⟩
theorem wd_4 (h : vRn ds = true) (h2 : okB px py = true) (h3 : onA (allE ds) px py = false) : windI (allE ds) px py = wdV ds px py ∧ true = wdB ds px py := by unfold wdV wdB; rw [h, h2, h3]; exact ⟨rfl, rfl⟩
end
def piC (ds : List DRing) (px py : Int) : Int := bif vRn ds && okB px py then 0 else 1
def piV (ds : List DRing) (px py : Int) : Int := bif vRn ds && okB px py then (bif onA (allE ds) px py then 2 else (bif windI (allE ds) px py != 0 then 1 else 0)) else 0
section
variable {ds : List DRing} {px py : Int}
theorem pi_1 (h : vRn ds = false) : 0 = piV ds px py ∧ 1 = piC ds px py := by unfold piV piC; rw [h]; exact ⟨rfl, rfl⟩
theorem pi_2 (h : vRn ds = true) (h2 : okB px py = false) : 0 = piV ds px py ∧ 1 = piC ds px py := by unfold piV piC; rw [h, h2]; exact ⟨rfl, rfl⟩
theorem pi_3 (h : vRn ds = true) (h2 : okB px py = true) (h3 : onA (allE ds) px py = true) : 2 = piV ds px py ∧ 0 = piC ds px py := by unfold piV piC; rw [h, h2, h3]; exact ⟨rfl, rfl⟩
theorem pi_4 (h : vRn ds = true) (h2 : okB px py = true) (h3 : onA (allE ds) px py = false) (h4 : (windI (allE ds) px py != 0) = true) : 1 = piV ds px py ∧ 0 = piC ds px py := by unfold piV piC; rw [h, h2, h3, h4]; exact ⟨rfl, rfl⟩
theorem pi_5 (h : vRn ds = true) (h2 : okB px py = true) (h3 : onA (allE ds) px py = false) (h4 : (windI (allE ds) px py != 0) = false) : 0 = piV ds px py ∧ 0 = piC ds px py := by unfold piV piC; rw [h, h2, h3, h4]; exact ⟨rfl, rfl⟩
end
end Go.Proofs.Ytdeemhfhmgnbgaa
