/-
  DERIVED. GIVEN WITH THE SEED: THE CARDS: each row of YtjlmoadnbbeloaaDoorRows.lean that lists a variable, with what it lists TIED to the program's text (the seventh form; the later family's looks); each row that meets fmt, with fmt's text TOLD by the authors' own Lean function (tested against real Go, not proved from fmt's source: count such statements apart). THE CARD IS WHAT COUNTS. Prove the row's statement (the work); the ties are given (YtjlmoadnbbeloaaDoorTie.lean); close each card by the builder's one call (the guide's Derived/Test/ToyasCard.lean, 'card_holds'). Laid BY PROGRAM, IN A SANDBOX (cutbox-door.mjs). By AI agents, Wed Nov 11 2026. No macro, syntax, notation, axiom, sorry.
-/
import Derived.Test.YtjlmoadnbbeloaaDoorRows
import GoSem.ClaimSeven
namespace Go.Proofs.YtjlmoadnbbeloaaDoor
namespace Rows

/-- THE TIED CARD OF 'laws.FnExactMapText'. -/
def fnExactMapTextCard : Claim7 := { stood := { row := fnExactMapTextRow, standIns := [], harness := (true, "f1cdc7c7ae010886d0af1c4c72253551d3c56be94f764dbf807c70afa9fabede"), looks := false }, kinds := [], alts := [], laidByText := true, laidKinds := [.data, .data, .data], laidTests := true, laidLooks := .later }
def FnExactMapTextCardSaid : Prop := Claim7.holds Tryd.pinned (.plain (OpenSpec.ofChange fnExactMapTextSpec)) fnExactMapTextCard

/-- THE TIED CARD OF 'laws.FnExactLinearText'. -/
def fnExactLinearTextCard : Claim7 := { stood := { row := fnExactLinearTextRow, standIns := [], harness := (true, "f1cdc7c7ae010886d0af1c4c72253551d3c56be94f764dbf807c70afa9fabede"), looks := false }, kinds := [], alts := [], laidByText := true, laidKinds := [.data, .data, .data], laidTests := true, laidLooks := .later }
def FnExactLinearTextCardSaid : Prop := Claim7.holds Tryd.pinned (.plain (OpenSpec.ofChange fnExactLinearTextSpec)) fnExactLinearTextCard

/-- THE TIED CARD OF 'laws.FnExactCurveText'. -/
def fnExactCurveTextCard : Claim7 := { stood := { row := fnExactCurveTextRow, standIns := [], harness := (true, "f1cdc7c7ae010886d0af1c4c72253551d3c56be94f764dbf807c70afa9fabede"), looks := false }, kinds := [], alts := [], laidByText := true, laidKinds := [.data, .data, .data], laidTests := true, laidLooks := .later }
def FnExactCurveTextCardSaid : Prop := Claim7.holds Tryd.pinned (.plain (OpenSpec.ofChange fnExactCurveTextSpec)) fnExactCurveTextCard

/-- THE TIED CARD OF 'laws.FnExactCubicText'. -/
def fnExactCubicTextCard : Claim7 := { stood := { row := fnExactCubicTextRow, standIns := [], harness := (true, "f1cdc7c7ae010886d0af1c4c72253551d3c56be94f764dbf807c70afa9fabede"), looks := false }, kinds := [], alts := [], laidByText := true, laidKinds := [.data, .data, .data], laidTests := true, laidLooks := .later }
def FnExactCubicTextCardSaid : Prop := Claim7.holds Tryd.pinned (.plain (OpenSpec.ofChange fnExactCubicTextSpec)) fnExactCubicTextCard

/-- THE TIED CARD OF 'laws.FnExactOutlineText'. -/
def fnExactOutlineTextCard : Claim7 := { stood := { row := fnExactOutlineTextRow, standIns := [], harness := (true, "f1cdc7c7ae010886d0af1c4c72253551d3c56be94f764dbf807c70afa9fabede"), looks := false }, kinds := [], alts := [], laidByText := true, laidKinds := [.data, .data, .data], laidTests := true, laidLooks := .later }
def FnExactOutlineTextCardSaid : Prop := Claim7.holds Tryd.pinned (.plain (OpenSpec.ofChange fnExactOutlineTextSpec)) fnExactOutlineTextCard

/-- THE SECOND FORM's CARD OF 'laws.FnExactMapText'. -/
def fnExactMapTextUptoCard : Claim7 := { stood := { row := fnExactMapTextUptoRow, standIns := [], harness := (true, "f1cdc7c7ae010886d0af1c4c72253551d3c56be94f764dbf807c70afa9fabede"), looks := false }, kinds := [], alts := [], laidByText := true, laidKinds := [.data, .data, .data], laidTests := true, laidLooks := .later }
def FnExactMapTextUptoCardSaid : Prop := Claim7.holds Tryd.pinned (.plain (OpenSpec.upto fnExactMapTextSpec)) fnExactMapTextUptoCard

/-- THE SECOND FORM's CARD OF 'laws.FnExactLinearText'. -/
def fnExactLinearTextUptoCard : Claim7 := { stood := { row := fnExactLinearTextUptoRow, standIns := [], harness := (true, "f1cdc7c7ae010886d0af1c4c72253551d3c56be94f764dbf807c70afa9fabede"), looks := false }, kinds := [], alts := [], laidByText := true, laidKinds := [.data, .data, .data], laidTests := true, laidLooks := .later }
def FnExactLinearTextUptoCardSaid : Prop := Claim7.holds Tryd.pinned (.plain (OpenSpec.upto fnExactLinearTextSpec)) fnExactLinearTextUptoCard

/-- THE SECOND FORM's CARD OF 'laws.FnExactCurveText'. -/
def fnExactCurveTextUptoCard : Claim7 := { stood := { row := fnExactCurveTextUptoRow, standIns := [], harness := (true, "f1cdc7c7ae010886d0af1c4c72253551d3c56be94f764dbf807c70afa9fabede"), looks := false }, kinds := [], alts := [], laidByText := true, laidKinds := [.data, .data, .data], laidTests := true, laidLooks := .later }
def FnExactCurveTextUptoCardSaid : Prop := Claim7.holds Tryd.pinned (.plain (OpenSpec.upto fnExactCurveTextSpec)) fnExactCurveTextUptoCard

/-- THE SECOND FORM's CARD OF 'laws.FnExactCubicText'. -/
def fnExactCubicTextUptoCard : Claim7 := { stood := { row := fnExactCubicTextUptoRow, standIns := [], harness := (true, "f1cdc7c7ae010886d0af1c4c72253551d3c56be94f764dbf807c70afa9fabede"), looks := false }, kinds := [], alts := [], laidByText := true, laidKinds := [.data, .data, .data], laidTests := true, laidLooks := .later }
def FnExactCubicTextUptoCardSaid : Prop := Claim7.holds Tryd.pinned (.plain (OpenSpec.upto fnExactCubicTextSpec)) fnExactCubicTextUptoCard

/-- THE SECOND FORM's CARD OF 'laws.FnExactOutlineText'. -/
def fnExactOutlineTextUptoCard : Claim7 := { stood := { row := fnExactOutlineTextUptoRow, standIns := [], harness := (true, "f1cdc7c7ae010886d0af1c4c72253551d3c56be94f764dbf807c70afa9fabede"), looks := false }, kinds := [], alts := [], laidByText := true, laidKinds := [.data, .data, .data], laidTests := true, laidLooks := .later }
def FnExactOutlineTextUptoCardSaid : Prop := Claim7.holds Tryd.pinned (.plain (OpenSpec.upto fnExactOutlineTextSpec)) fnExactOutlineTextUptoCard
end Rows
end Go.Proofs.YtjlmoadnbbeloaaDoor
