/-
  DERIVED. GIVEN WITH THE SEED: THE CARDS: each row of YtdikenapnncmfaaDoorRows.lean that lists a variable, with what it lists TIED to the program's text (the seventh form; the later family's looks); each row that meets fmt, with fmt's text TOLD by the authors' own Lean function (tested against real Go, not proved from fmt's source: count such statements apart). THE CARD IS WHAT COUNTS. Prove the row's statement (the work); the ties are given (YtdikenapnncmfaaDoorTie.lean); close each card by the builder's one call (the guide's Derived/Test/ToyasCard.lean, 'card_holds'). Laid BY PROGRAM, IN A SANDBOX (cutbox-door.mjs). By AI agents, Wed Nov 11 2026. No macro, syntax, notation, axiom, sorry.
-/
import Derived.Test.YtdikenapnncmfaaDoorRows
import GoSem.ClaimSeven
namespace Go.Proofs.YtdikenapnncmfaaDoor
namespace Rows

/-- THE TIED CARD OF 'laws.FnRounding'. -/
def fnRoundingCard : Claim7 := { stood := { row := fnRoundingRow, standIns := [], harness := (true, "0968d8ccc27b1ec8a4d5fadd0c5d6fd0071551ffefd4e5cd66cbc9d027584e7d"), looks := true }, kinds := [], alts := [], laidByText := true, laidKinds := [.data, .data, .data, .sentinel, .sentinel, .data], laidTests := true, laidLooks := .later }
def FnRoundingCardSaid : Prop := Claim7.holds Tryd.pinned (.plain (OpenSpec.ofChange fnRoundingSpec)) fnRoundingCard

/-- THE TIED CARD OF 'laws.FnExactHintsOf'. -/
def fnExactHintsOfCard : Claim7 := { stood := { row := fnExactHintsOfRow, standIns := [], harness := (true, "0968d8ccc27b1ec8a4d5fadd0c5d6fd0071551ffefd4e5cd66cbc9d027584e7d"), looks := true }, kinds := [], alts := [], laidByText := true, laidKinds := [.handle, .sentinel], laidTests := true, laidLooks := .later }
def FnExactHintsOfCardSaid : Prop := Claim7.holds Tryd.pinned (.plain (OpenSpec.ofChange fnExactHintsOfSpec)) fnExactHintsOfCard

/-- THE TIED CARD OF 'laws.FnExactValidHints'. -/
def fnExactValidHintsCard : Claim7 := { stood := { row := fnExactValidHintsRow, standIns := [], harness := (true, "0968d8ccc27b1ec8a4d5fadd0c5d6fd0071551ffefd4e5cd66cbc9d027584e7d"), looks := true }, kinds := [], alts := [], laidByText := true, laidKinds := [.handle, .sentinel], laidTests := true, laidLooks := .later }
def FnExactValidHintsCardSaid : Prop := Claim7.holds Tryd.pinned (.plain (OpenSpec.ofChange fnExactValidHintsSpec)) fnExactValidHintsCard

/-- THE SECOND FORM's CARD OF 'laws.FnRounding'. -/
def fnRoundingUptoCard : Claim7 := { stood := { row := fnRoundingUptoRow, standIns := [], harness := (true, "0968d8ccc27b1ec8a4d5fadd0c5d6fd0071551ffefd4e5cd66cbc9d027584e7d"), looks := true }, kinds := [], alts := [], laidByText := true, laidKinds := [.data, .data, .data, .sentinel, .sentinel, .data], laidTests := true, laidLooks := .later }
def FnRoundingUptoCardSaid : Prop := Claim7.holds Tryd.pinned (.plain (OpenSpec.upto fnRoundingSpec)) fnRoundingUptoCard

/-- THE SECOND FORM's CARD OF 'laws.FnExactHintsOf'. -/
def fnExactHintsOfUptoCard : Claim7 := { stood := { row := fnExactHintsOfUptoRow, standIns := [], harness := (true, "0968d8ccc27b1ec8a4d5fadd0c5d6fd0071551ffefd4e5cd66cbc9d027584e7d"), looks := true }, kinds := [], alts := [], laidByText := true, laidKinds := [.handle, .sentinel], laidTests := true, laidLooks := .later }
def FnExactHintsOfUptoCardSaid : Prop := Claim7.holds Tryd.pinned (.plain (OpenSpec.upto fnExactHintsOfSpec)) fnExactHintsOfUptoCard

/-- THE SECOND FORM's CARD OF 'laws.FnExactValidHints'. -/
def fnExactValidHintsUptoCard : Claim7 := { stood := { row := fnExactValidHintsUptoRow, standIns := [], harness := (true, "0968d8ccc27b1ec8a4d5fadd0c5d6fd0071551ffefd4e5cd66cbc9d027584e7d"), looks := true }, kinds := [], alts := [], laidByText := true, laidKinds := [.handle, .sentinel], laidTests := true, laidLooks := .later }
def FnExactValidHintsUptoCardSaid : Prop := Claim7.holds Tryd.pinned (.plain (OpenSpec.upto fnExactValidHintsSpec)) fnExactValidHintsUptoCard
end Rows
end Go.Proofs.YtdikenapnncmfaaDoor
