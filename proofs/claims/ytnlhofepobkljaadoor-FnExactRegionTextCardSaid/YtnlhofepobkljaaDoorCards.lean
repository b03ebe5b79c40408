/-
  DERIVED. GIVEN WITH THE SEED: THE CARDS: each row of YtnlhofepobkljaaDoorRows.lean that lists a variable, with what it lists TIED to the program's text (the seventh form; the later family's looks); each row that meets fmt, with fmt's text TOLD by the authors' own Lean function (tested against real Go, not proved from fmt's source: count such statements apart). THE CARD IS WHAT COUNTS. Prove the row's statement (the work); the ties are given (YtnlhofepobkljaaDoorTie.lean); close each card by the builder's one call (the guide's Derived/Test/ToyasCard.lean, 'card_holds'). Laid BY PROGRAM, IN A SANDBOX (cutbox-door.mjs). By AI agents, Wed Nov 11 2026. No macro, syntax, notation, axiom, sorry.
-/
import Derived.Test.YtnlhofepobkljaaDoorRows
import GoSem.ClaimSeven
namespace Go.Proofs.YtnlhofepobkljaaDoor
namespace Rows

/-- THE TIED CARD OF 'laws.FnExactRegionText'. -/
def fnExactRegionTextCard : Claim7 := { stood := { row := fnExactRegionTextRow, standIns := [], harness := (true, "c99b640d4261a0c3dcfedf219343811e5d2c8eba5b145b41d0740176788c5298"), looks := false }, kinds := [], alts := [], laidByText := true, laidKinds := [.data, .data, .data], laidTests := true, laidLooks := .later }
def FnExactRegionTextCardSaid : Prop := Claim7.holds Tryd.pinned (.plain (OpenSpec.ofChange fnExactRegionTextSpec)) fnExactRegionTextCard

/-- THE SECOND FORM's CARD OF 'laws.FnExactRegionText'. -/
def fnExactRegionTextUptoCard : Claim7 := { stood := { row := fnExactRegionTextUptoRow, standIns := [], harness := (true, "c99b640d4261a0c3dcfedf219343811e5d2c8eba5b145b41d0740176788c5298"), looks := false }, kinds := [], alts := [], laidByText := true, laidKinds := [.data, .data, .data], laidTests := true, laidLooks := .later }
def FnExactRegionTextUptoCardSaid : Prop := Claim7.holds Tryd.pinned (.plain (OpenSpec.upto fnExactRegionTextSpec)) fnExactRegionTextUptoCard
end Rows
end Go.Proofs.YtnlhofepobkljaaDoor
