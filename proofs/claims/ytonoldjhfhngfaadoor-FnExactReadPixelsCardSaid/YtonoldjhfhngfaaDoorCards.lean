/-
  DERIVED. GIVEN WITH THE SEED: THE CARDS: each row of YtonoldjhfhngfaaDoorRows.lean that lists a variable, with what it lists TIED to the program's text (the seventh form; the later family's looks); each row that meets fmt, with fmt's text TOLD by the authors' own Lean function (tested against real Go, not proved from fmt's source: count such statements apart). THE CARD IS WHAT COUNTS. Prove the row's statement (the work); the ties are given (YtonoldjhfhngfaaDoorTie.lean); close each card by the builder's one call (the guide's Derived/Test/ToyasCard.lean, 'card_holds'). Laid BY PROGRAM, IN A SANDBOX (cutbox-door.mjs). By AI agents, Wed Nov 11 2026. No macro, syntax, notation, axiom, sorry.
-/
import Derived.Test.YtonoldjhfhngfaaDoorRows
import GoSem.ClaimSeven
namespace Go.Proofs.YtonoldjhfhngfaaDoor
namespace Rows

/-- THE TIED CARD OF 'laws.FnExactReadPixels'. -/
def fnExactReadPixelsCard : Claim7 := { stood := { row := fnExactReadPixelsRow, standIns := [], harness := (true, "a3127fe64b4f02c0f91662030e056a4fd874e53e3a063b8fc4e478c17b33d8de"), looks := true }, kinds := [], alts := [], laidByText := true, laidKinds := [.data, .data, .data, .sentinel, .sentinel], laidTests := true, laidLooks := .later }
def FnExactReadPixelsCardSaid : Prop := Claim7.holds Tryd.pinned (.plain (OpenSpec.ofChange fnExactReadPixelsSpec)) fnExactReadPixelsCard

/-- THE TIED CARD OF 'laws.FnExactSystemText'. -/
def fnExactSystemTextCard : Claim7 := { stood := { row := fnExactSystemTextRow, standIns := [], harness := (true, "a3127fe64b4f02c0f91662030e056a4fd874e53e3a063b8fc4e478c17b33d8de"), looks := true }, kinds := [], alts := [], laidByText := true, laidKinds := [.data, .data, .data], laidTests := true, laidLooks := .later }
def FnExactSystemTextCardSaid : Prop := Claim7.holds Tryd.pinned (.plain (OpenSpec.ofChange fnExactSystemTextSpec)) fnExactSystemTextCard

/-- THE SECOND FORM's CARD OF 'laws.FnExactReadPixels'. -/
def fnExactReadPixelsUptoCard : Claim7 := { stood := { row := fnExactReadPixelsUptoRow, standIns := [], harness := (true, "a3127fe64b4f02c0f91662030e056a4fd874e53e3a063b8fc4e478c17b33d8de"), looks := true }, kinds := [], alts := [], laidByText := true, laidKinds := [.data, .data, .data, .sentinel, .sentinel], laidTests := true, laidLooks := .later }
def FnExactReadPixelsUptoCardSaid : Prop := Claim7.holds Tryd.pinned (.plain (OpenSpec.upto fnExactReadPixelsSpec)) fnExactReadPixelsUptoCard

/-- THE SECOND FORM's CARD OF 'laws.FnExactSystemText'. -/
def fnExactSystemTextUptoCard : Claim7 := { stood := { row := fnExactSystemTextUptoRow, standIns := [], harness := (true, "a3127fe64b4f02c0f91662030e056a4fd874e53e3a063b8fc4e478c17b33d8de"), looks := true }, kinds := [], alts := [], laidByText := true, laidKinds := [.data, .data, .data], laidTests := true, laidLooks := .later }
def FnExactSystemTextUptoCardSaid : Prop := Claim7.holds Tryd.pinned (.plain (OpenSpec.upto fnExactSystemTextSpec)) fnExactSystemTextUptoCard
end Rows
end Go.Proofs.YtonoldjhfhngfaaDoor
