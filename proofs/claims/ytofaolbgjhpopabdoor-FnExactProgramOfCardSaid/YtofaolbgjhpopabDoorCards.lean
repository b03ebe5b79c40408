/-
  DERIVED. GIVEN WITH THE SEED: THE CARDS: each row of YtofaolbgjhpopabDoorRows.lean that lists a variable, with what it lists TIED to the program's text (the seventh form; the later family's looks); each row that meets fmt, with fmt's text TOLD by the authors' own Lean function (tested against real Go, not proved from fmt's source: count such statements apart). THE CARD IS WHAT COUNTS. Prove the row's statement (the work); the ties are given (YtofaolbgjhpopabDoorTie.lean); close each card by the builder's one call (the guide's Derived/Test/ToyasCard.lean, 'card_holds'). Laid BY PROGRAM, IN A SANDBOX (cutbox-door.mjs). By AI agents, Wed Nov 11 2026. No macro, syntax, notation, axiom, sorry.
-/
import Derived.Test.YtofaolbgjhpopabDoorRows
import GoSem.ClaimSeven
namespace Go.Proofs.YtofaolbgjhpopabDoor
namespace Rows

/-- THE TIED CARD OF 'laws.FnExactValidHints'. -/
def fnExactValidHintsCard : Claim7 := { stood := { row := fnExactValidHintsRow, standIns := [], harness := (true, "eabd40eac91e126826d48b8e3a37693e0a8bdb9c4160093f7b5bc9a2aa6ea4f3"), looks := true }, kinds := [], alts := [], laidByText := true, laidKinds := [.handle, .sentinel], laidTests := true, laidLooks := .later }
def FnExactValidHintsCardSaid : Prop := Claim7.holds Tryd.pinned (.plain (OpenSpec.ofChange fnExactValidHintsSpec)) fnExactValidHintsCard

/-- THE TIED CARD OF 'laws.FnExactProgramOf'. -/
def fnExactProgramOfCard : Claim7 := { stood := { row := fnExactProgramOfRow, standIns := [], harness := (true, "eabd40eac91e126826d48b8e3a37693e0a8bdb9c4160093f7b5bc9a2aa6ea4f3"), looks := true }, kinds := [], alts := [], laidByText := true, laidKinds := [.handle, .sentinel], laidTests := true, laidLooks := .later }
def FnExactProgramOfCardSaid : Prop := Claim7.holds Tryd.pinned (.plain (OpenSpec.ofChange fnExactProgramOfSpec)) fnExactProgramOfCard

/-- THE TIED CARD OF 'laws.FnExactPixelsText'. -/
def fnExactPixelsTextCard : Claim7 := { stood := { row := fnExactPixelsTextRow, standIns := [], harness := (true, "eabd40eac91e126826d48b8e3a37693e0a8bdb9c4160093f7b5bc9a2aa6ea4f3"), looks := true }, kinds := [], alts := [], laidByText := true, laidKinds := [.data, .data, .data], laidTests := true, laidLooks := .later }
def FnExactPixelsTextCardSaid : Prop := Claim7.holds Tryd.pinned (.plain (OpenSpec.ofChange fnExactPixelsTextSpec)) fnExactPixelsTextCard

/-- THE SECOND FORM's CARD OF 'laws.FnExactValidHints'. -/
def fnExactValidHintsUptoCard : Claim7 := { stood := { row := fnExactValidHintsUptoRow, standIns := [], harness := (true, "eabd40eac91e126826d48b8e3a37693e0a8bdb9c4160093f7b5bc9a2aa6ea4f3"), looks := true }, kinds := [], alts := [], laidByText := true, laidKinds := [.handle, .sentinel], laidTests := true, laidLooks := .later }
def FnExactValidHintsUptoCardSaid : Prop := Claim7.holds Tryd.pinned (.plain (OpenSpec.upto fnExactValidHintsSpec)) fnExactValidHintsUptoCard

/-- THE SECOND FORM's CARD OF 'laws.FnExactProgramOf'. -/
def fnExactProgramOfUptoCard : Claim7 := { stood := { row := fnExactProgramOfUptoRow, standIns := [], harness := (true, "eabd40eac91e126826d48b8e3a37693e0a8bdb9c4160093f7b5bc9a2aa6ea4f3"), looks := true }, kinds := [], alts := [], laidByText := true, laidKinds := [.handle, .sentinel], laidTests := true, laidLooks := .later }
def FnExactProgramOfUptoCardSaid : Prop := Claim7.holds Tryd.pinned (.plain (OpenSpec.upto fnExactProgramOfSpec)) fnExactProgramOfUptoCard

/-- THE SECOND FORM's CARD OF 'laws.FnExactPixelsText'. -/
def fnExactPixelsTextUptoCard : Claim7 := { stood := { row := fnExactPixelsTextUptoRow, standIns := [], harness := (true, "eabd40eac91e126826d48b8e3a37693e0a8bdb9c4160093f7b5bc9a2aa6ea4f3"), looks := true }, kinds := [], alts := [], laidByText := true, laidKinds := [.data, .data, .data], laidTests := true, laidLooks := .later }
def FnExactPixelsTextUptoCardSaid : Prop := Claim7.holds Tryd.pinned (.plain (OpenSpec.upto fnExactPixelsTextSpec)) fnExactPixelsTextUptoCard
end Rows
end Go.Proofs.YtofaolbgjhpopabDoor
