/-
  DERIVED. GIVEN WITH THE SEED: THE CARDS: each row of YtdeemhfhmgnbgaaDoorRows.lean that lists a variable, with what it lists TIED to the program's text (the seventh form; the later family's looks); each row that meets fmt, with fmt's text TOLD by the authors' own Lean function (tested against real Go, not proved from fmt's source: count such statements apart). THE CARD IS WHAT COUNTS. Prove the row's statement (the work); the ties are given (YtdeemhfhmgnbgaaDoorTie.lean); close each card by the builder's one call (the guide's Derived/Test/ToyasCard.lean, 'card_holds'). Laid BY PROGRAM, IN A SANDBOX (cutbox-door.mjs). By AI agents, Wed Nov 11 2026. No macro, syntax, notation, axiom, sorry.
-/
import Derived.Test.YtdeemhfhmgnbgaaDoorRows
import GoSem.ClaimSeven
namespace Go.Proofs.YtdeemhfhmgnbgaaDoor
namespace Rows

/-- THE TIED CARD OF 'laws.FnExactSimplifyRing'. -/
def fnExactSimplifyRingCard : Claim7 := { stood := { row := fnExactSimplifyRingRow, standIns := [], harness := (true, "708ddfa08232cebec034ea2404e84a314ab91aa401973a7261756e305ae71dc0"), looks := true }, kinds := [], alts := [], laidByText := true, laidKinds := [.sentinel], laidTests := true, laidLooks := .later }
def FnExactSimplifyRingCardSaid : Prop := Claim7.holds Tryd.pinned (.plain (OpenSpec.ofChange fnExactSimplifyRingSpec)) fnExactSimplifyRingCard

/-- THE SECOND FORM's CARD OF 'laws.FnExactSimplifyRing'. -/
def fnExactSimplifyRingUptoCard : Claim7 := { stood := { row := fnExactSimplifyRingUptoRow, standIns := [], harness := (true, "708ddfa08232cebec034ea2404e84a314ab91aa401973a7261756e305ae71dc0"), looks := true }, kinds := [], alts := [], laidByText := true, laidKinds := [.sentinel], laidTests := true, laidLooks := .later }
def FnExactSimplifyRingUptoCardSaid : Prop := Claim7.holds Tryd.pinned (.plain (OpenSpec.upto fnExactSimplifyRingSpec)) fnExactSimplifyRingUptoCard
end Rows
end Go.Proofs.YtdeemhfhmgnbgaaDoor
