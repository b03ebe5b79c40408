/-
  DERIVED. GIVEN WITH THE SEED: THE CARDS: each row of YtiljdnfhojpgnaaDoorRows.lean that lists a variable, with what it lists TIED to the program's text (the seventh form; the later family's looks); each row that meets fmt, with fmt's text TOLD by the authors' own Lean function (tested against real Go, not proved from fmt's source: count such statements apart). THE CARD IS WHAT COUNTS. Prove the row's statement (the work); the ties are given (YtiljdnfhojpgnaaDoorTie.lean); close each card by the builder's one call (the guide's Derived/Test/ToyasCard.lean, 'card_holds'). Laid BY PROGRAM, IN A SANDBOX (cutbox-door.mjs). By AI agents, Wed Nov 11 2026. No macro, syntax, notation, axiom, sorry.
-/
import Derived.Test.YtiljdnfhojpgnaaDoorRows
import GoSem.ClaimSeven
namespace Go.Proofs.YtiljdnfhojpgnaaDoor
namespace Rows

/-- THE TIED CARD OF 'laws.FnExactPtText'. -/
def fnExactPtTextCard : Claim7 := { stood := { row := fnExactPtTextRow, standIns := [], harness := (true, "15cd6a087a05c567814cd2cc5f067d38870474c7c227d6735bc58d331ee154b9"), looks := true }, kinds := [], alts := [], laidByText := true, laidKinds := [.data, .data, .data], laidTests := true, laidLooks := .later }
def FnExactPtTextCardSaid : Prop := Claim7.holds Tryd.pinned (.plain (OpenSpec.ofChange fnExactPtTextSpec)) fnExactPtTextCard

/-- THE TIED CARD OF 'laws.FnExactReadPt'. -/
def fnExactReadPtCard : Claim7 := { stood := { row := fnExactReadPtRow, standIns := [], harness := (true, "15cd6a087a05c567814cd2cc5f067d38870474c7c227d6735bc58d331ee154b9"), looks := true }, kinds := [], alts := [], laidByText := true, laidKinds := [.data, .data, .data, .sentinel, .sentinel], laidTests := true, laidLooks := .later }
def FnExactReadPtCardSaid : Prop := Claim7.holds Tryd.pinned (.plain (OpenSpec.ofChange fnExactReadPtSpec)) fnExactReadPtCard

/-- THE TIED CARD OF 'laws.FnPoints'. -/
def fnPointsCard : Claim7 := { stood := { row := fnPointsRow, standIns := [], harness := (true, "15cd6a087a05c567814cd2cc5f067d38870474c7c227d6735bc58d331ee154b9"), looks := true }, kinds := [], alts := [], laidByText := true, laidKinds := [.data, .data, .data, .sentinel, .sentinel], laidTests := true, laidLooks := .later }
def FnPointsCardSaid : Prop := Claim7.holds Tryd.pinned (.plain (OpenSpec.ofChange fnPointsSpec)) fnPointsCard

/-- THE SECOND FORM's CARD OF 'laws.FnExactPtText'. -/
def fnExactPtTextUptoCard : Claim7 := { stood := { row := fnExactPtTextUptoRow, standIns := [], harness := (true, "15cd6a087a05c567814cd2cc5f067d38870474c7c227d6735bc58d331ee154b9"), looks := true }, kinds := [], alts := [], laidByText := true, laidKinds := [.data, .data, .data], laidTests := true, laidLooks := .later }
def FnExactPtTextUptoCardSaid : Prop := Claim7.holds Tryd.pinned (.plain (OpenSpec.upto fnExactPtTextSpec)) fnExactPtTextUptoCard

/-- THE SECOND FORM's CARD OF 'laws.FnExactReadPt'. -/
def fnExactReadPtUptoCard : Claim7 := { stood := { row := fnExactReadPtUptoRow, standIns := [], harness := (true, "15cd6a087a05c567814cd2cc5f067d38870474c7c227d6735bc58d331ee154b9"), looks := true }, kinds := [], alts := [], laidByText := true, laidKinds := [.data, .data, .data, .sentinel, .sentinel], laidTests := true, laidLooks := .later }
def FnExactReadPtUptoCardSaid : Prop := Claim7.holds Tryd.pinned (.plain (OpenSpec.upto fnExactReadPtSpec)) fnExactReadPtUptoCard

/-- THE SECOND FORM's CARD OF 'laws.FnPoints'. -/
def fnPointsUptoCard : Claim7 := { stood := { row := fnPointsUptoRow, standIns := [], harness := (true, "15cd6a087a05c567814cd2cc5f067d38870474c7c227d6735bc58d331ee154b9"), looks := true }, kinds := [], alts := [], laidByText := true, laidKinds := [.data, .data, .data, .sentinel, .sentinel], laidTests := true, laidLooks := .later }
def FnPointsUptoCardSaid : Prop := Claim7.holds Tryd.pinned (.plain (OpenSpec.upto fnPointsSpec)) fnPointsUptoCard
end Rows
end Go.Proofs.YtiljdnfhojpgnaaDoor
