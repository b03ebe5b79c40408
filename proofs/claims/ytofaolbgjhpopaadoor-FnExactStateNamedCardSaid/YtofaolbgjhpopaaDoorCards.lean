/-
  DERIVED. GIVEN WITH THE SEED: THE CARDS: each row of YtofaolbgjhpopaaDoorRows.lean that lists a variable, with what it lists TIED to the program's text (the seventh form; the later family's looks); each row that meets fmt, with fmt's text TOLD by the authors' own Lean function (tested against real Go, not proved from fmt's source: count such statements apart). THE CARD IS WHAT COUNTS. Prove the row's statement (the work); the ties are given (YtofaolbgjhpopaaDoorTie.lean); close each card by the builder's one call (the guide's Derived/Test/ToyasCard.lean, 'card_holds'). Laid BY PROGRAM, IN A SANDBOX (cutbox-door.mjs). By AI agents, Wed Nov 11 2026. No macro, syntax, notation, axiom, sorry.
-/
import Derived.Test.YtofaolbgjhpopaaDoorRows
import GoSem.ClaimSeven
namespace Go.Proofs.YtofaolbgjhpopaaDoor
namespace Rows

/-- THE TIED CARD OF 'laws.FnExactStateName'. -/
def fnExactStateNameCard : Claim7 := { stood := { row := fnExactStateNameRow, standIns := [], harness := (true, "09dfa98683ce01eabd7b07970ed140947a193d7f27f83aaaf103d9957555ef12"), looks := false }, kinds := [], alts := [], laidByText := true, laidKinds := [.data], laidTests := true, laidLooks := .later }
def FnExactStateNameCardSaid : Prop := Claim7.holds Tryd.pinned (.plain (OpenSpec.ofChange fnExactStateNameSpec)) fnExactStateNameCard

/-- THE TIED CARD OF 'laws.FnExactStateNamed'. -/
def fnExactStateNamedCard : Claim7 := { stood := { row := fnExactStateNamedRow, standIns := [], harness := (true, "09dfa98683ce01eabd7b07970ed140947a193d7f27f83aaaf103d9957555ef12"), looks := false }, kinds := [], alts := [], laidByText := true, laidKinds := [.data], laidTests := true, laidLooks := .later }
def FnExactStateNamedCardSaid : Prop := Claim7.holds Tryd.pinned (.plain (OpenSpec.ofChange fnExactStateNamedSpec)) fnExactStateNamedCard

/-- THE TIED CARD OF 'laws.FnExactHintName'. -/
def fnExactHintNameCard : Claim7 := { stood := { row := fnExactHintNameRow, standIns := [], harness := (true, "09dfa98683ce01eabd7b07970ed140947a193d7f27f83aaaf103d9957555ef12"), looks := false }, kinds := [], alts := [], laidByText := true, laidKinds := [.data], laidTests := true, laidLooks := .later }
def FnExactHintNameCardSaid : Prop := Claim7.holds Tryd.pinned (.plain (OpenSpec.ofChange fnExactHintNameSpec)) fnExactHintNameCard

/-- THE TIED CARD OF 'laws.FnExactHintNamed'. -/
def fnExactHintNamedCard : Claim7 := { stood := { row := fnExactHintNamedRow, standIns := [], harness := (true, "09dfa98683ce01eabd7b07970ed140947a193d7f27f83aaaf103d9957555ef12"), looks := false }, kinds := [], alts := [], laidByText := true, laidKinds := [.data], laidTests := true, laidLooks := .later }
def FnExactHintNamedCardSaid : Prop := Claim7.holds Tryd.pinned (.plain (OpenSpec.ofChange fnExactHintNamedSpec)) fnExactHintNamedCard

/-- THE SECOND FORM's CARD OF 'laws.FnExactStateName'. -/
def fnExactStateNameUptoCard : Claim7 := { stood := { row := fnExactStateNameUptoRow, standIns := [], harness := (true, "09dfa98683ce01eabd7b07970ed140947a193d7f27f83aaaf103d9957555ef12"), looks := false }, kinds := [], alts := [], laidByText := true, laidKinds := [.data], laidTests := true, laidLooks := .later }
def FnExactStateNameUptoCardSaid : Prop := Claim7.holds Tryd.pinned (.plain (OpenSpec.upto fnExactStateNameSpec)) fnExactStateNameUptoCard

/-- THE SECOND FORM's CARD OF 'laws.FnExactStateNamed'. -/
def fnExactStateNamedUptoCard : Claim7 := { stood := { row := fnExactStateNamedUptoRow, standIns := [], harness := (true, "09dfa98683ce01eabd7b07970ed140947a193d7f27f83aaaf103d9957555ef12"), looks := false }, kinds := [], alts := [], laidByText := true, laidKinds := [.data], laidTests := true, laidLooks := .later }
def FnExactStateNamedUptoCardSaid : Prop := Claim7.holds Tryd.pinned (.plain (OpenSpec.upto fnExactStateNamedSpec)) fnExactStateNamedUptoCard

/-- THE SECOND FORM's CARD OF 'laws.FnExactHintName'. -/
def fnExactHintNameUptoCard : Claim7 := { stood := { row := fnExactHintNameUptoRow, standIns := [], harness := (true, "09dfa98683ce01eabd7b07970ed140947a193d7f27f83aaaf103d9957555ef12"), looks := false }, kinds := [], alts := [], laidByText := true, laidKinds := [.data], laidTests := true, laidLooks := .later }
def FnExactHintNameUptoCardSaid : Prop := Claim7.holds Tryd.pinned (.plain (OpenSpec.upto fnExactHintNameSpec)) fnExactHintNameUptoCard

/-- THE SECOND FORM's CARD OF 'laws.FnExactHintNamed'. -/
def fnExactHintNamedUptoCard : Claim7 := { stood := { row := fnExactHintNamedUptoRow, standIns := [], harness := (true, "09dfa98683ce01eabd7b07970ed140947a193d7f27f83aaaf103d9957555ef12"), looks := false }, kinds := [], alts := [], laidByText := true, laidKinds := [.data], laidTests := true, laidLooks := .later }
def FnExactHintNamedUptoCardSaid : Prop := Claim7.holds Tryd.pinned (.plain (OpenSpec.upto fnExactHintNamedSpec)) fnExactHintNamedUptoCard
end Rows
end Go.Proofs.YtofaolbgjhpopaaDoor
