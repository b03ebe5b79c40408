/-
  No cell of these rows narrows 'for every input' (looked for: loops, veiled, ifaces, maps, wideKeys, modest, calm, conditions, laid).
  DERIVED. THE GIVEN ROWS OF THIS SEAT. 10 by the template 'for every input the law returns true; each argument reads behind the call as it read before'; 0 by the template 'total and deterministic' (their statements: YthedimnjbfeaiaaTotals.lean).
  GIVEN WITH THE SEED: the statements are not yours to turn. If you find one false, say at which input.
  Laid BY PROGRAM, IN A SANDBOX (cutbox-rows.mjs): the forced cells as the released guide's own fill.sh prints them over the translation 20f69afab30cdb03… (all of the seat's roots in one cut). By AI agents, Wed Nov 11 2026. No macro, syntax, notation, axiom, sorry.
-/
import Derived.Test.YthedimnjbfeaiaaChecked
import GoSem.Claim
import GoSem.ClaimJoined
import GoSem.ClaimMapViews
import Derived.JoinedTies
import Derived.KernelRfl
namespace Go.Proofs.Ythedimnjbfeaiaa
/- THE CELL 'sum', in the pinned program and in every row, IS THE sha256 OF THE DUMP (.gsa) THAT YthedimnjbfeaiaaProg.lean LOADS. Nothing in Lean hashes anything: it is a label: what it is worth is what the hold of that sum in a sandbox is worth. -/
noncomputable def Try.pinned : Pinned := { name := "ythedimnjbfeaiaa", sum := "20f69afab30cdb03864de2585e83bfccdd965d4595eab8ae3857070069cb566c", checked := Try.checked }
namespace Rows
def none {H : Type} : Left H := { results := [], args := [] }

/-- 'laws.FnExactValidCurve': WHATEVER THE INPUT: true; the input reads as it did. -/
def fnExactValidCurveSpec : ChangeSpec := { name := "fnExactValidCurve", fn := fun _ => fun
  | [d] => { results := [.lit (.bool true)], args := [d] }
  | _ => none }
def fnExactValidCurveRow : OpenClaim := { program := "ythedimnjbfeaiaa", sum := "20f69afab30cdb03864de2585e83bfccdd965d4595eab8ae3857070069cb566c", func := "loop.example/g00883/laws.FnExactValidCurve", spec := "fnExactValidCurve", apart := false }
def FnExactValidCurveSaid : Prop := fnExactValidCurveRow.holds Try.pinned (OpenSpec.ofChange fnExactValidCurveSpec)

/-- ITS FALSE NEIGHBOUR: 'it returns false'. Refute it at one input. -/
def fnExactValidCurveWrong : ChangeSpec := { name := "fnExactValidCurve", fn := fun _ => fun
  | [d] => { results := [.lit (.bool false)], args := [d] }
  | _ => none }
def FnExactValidCurveWrongFalsely : Prop := fnExactValidCurveRow.holds Try.pinned (OpenSpec.ofChange fnExactValidCurveWrong)

/-- 'laws.FnExactSameCurve': WHATEVER THE INPUT: true; the input reads as it did. -/
def fnExactSameCurveSpec : ChangeSpec := { name := "fnExactSameCurve", fn := fun _ => fun
  | [d1, d2] => { results := [.lit (.bool true)], args := [d1, d2] }
  | _ => none }
def fnExactSameCurveRow : OpenClaim := { program := "ythedimnjbfeaiaa", sum := "20f69afab30cdb03864de2585e83bfccdd965d4595eab8ae3857070069cb566c", func := "loop.example/g00883/laws.FnExactSameCurve", spec := "fnExactSameCurve", apart := false }
def FnExactSameCurveSaid : Prop := fnExactSameCurveRow.holds Try.pinned (OpenSpec.ofChange fnExactSameCurveSpec)

/-- ITS FALSE NEIGHBOUR: 'it returns false'. Refute it at one input. -/
def fnExactSameCurveWrong : ChangeSpec := { name := "fnExactSameCurve", fn := fun _ => fun
  | [d1, d2] => { results := [.lit (.bool false)], args := [d1, d2] }
  | _ => none }
def FnExactSameCurveWrongFalsely : Prop := fnExactSameCurveRow.holds Try.pinned (OpenSpec.ofChange fnExactSameCurveWrong)

/-- 'laws.FnExactReverseCurve': WHATEVER THE INPUT: true; the input reads as it did. -/
def fnExactReverseCurveSpec : ChangeSpec := { name := "fnExactReverseCurve", fn := fun _ => fun
  | [d] => { results := [.lit (.bool true)], args := [d] }
  | _ => none }
def fnExactReverseCurveRow : OpenClaim := { program := "ythedimnjbfeaiaa", sum := "20f69afab30cdb03864de2585e83bfccdd965d4595eab8ae3857070069cb566c", func := "loop.example/g00883/laws.FnExactReverseCurve", spec := "fnExactReverseCurve", apart := false }
def FnExactReverseCurveSaid : Prop := fnExactReverseCurveRow.holds Try.pinned (OpenSpec.ofChange fnExactReverseCurveSpec)

/-- ITS FALSE NEIGHBOUR: 'it returns false'. Refute it at one input. -/
def fnExactReverseCurveWrong : ChangeSpec := { name := "fnExactReverseCurve", fn := fun _ => fun
  | [d] => { results := [.lit (.bool false)], args := [d] }
  | _ => none }
def FnExactReverseCurveWrongFalsely : Prop := fnExactReverseCurveRow.holds Try.pinned (OpenSpec.ofChange fnExactReverseCurveWrong)

/-- 'laws.FnExactMoveCurve': WHATEVER THE INPUT: true; the input reads as it did. -/
def fnExactMoveCurveSpec : ChangeSpec := { name := "fnExactMoveCurve", fn := fun _ => fun
  | [d1, d2] => { results := [.lit (.bool true)], args := [d1, d2] }
  | _ => none }
def fnExactMoveCurveRow : OpenClaim := { program := "ythedimnjbfeaiaa", sum := "20f69afab30cdb03864de2585e83bfccdd965d4595eab8ae3857070069cb566c", func := "loop.example/g00883/laws.FnExactMoveCurve", spec := "fnExactMoveCurve", apart := false }
def FnExactMoveCurveSaid : Prop := fnExactMoveCurveRow.holds Try.pinned (OpenSpec.ofChange fnExactMoveCurveSpec)

/-- ITS FALSE NEIGHBOUR: 'it returns false'. Refute it at one input. -/
def fnExactMoveCurveWrong : ChangeSpec := { name := "fnExactMoveCurve", fn := fun _ => fun
  | [d1, d2] => { results := [.lit (.bool false)], args := [d1, d2] }
  | _ => none }
def FnExactMoveCurveWrongFalsely : Prop := fnExactMoveCurveRow.holds Try.pinned (OpenSpec.ofChange fnExactMoveCurveWrong)

/-- 'laws.FnExactScaleLinear': WHATEVER THE INPUT: true; the input reads as it did. -/
def fnExactScaleLinearSpec : ChangeSpec := { name := "fnExactScaleLinear", fn := fun _ => fun
  | [d1, d2] => { results := [.lit (.bool true)], args := [d1, d2] }
  | _ => none }
def fnExactScaleLinearRow : OpenClaim := { program := "ythedimnjbfeaiaa", sum := "20f69afab30cdb03864de2585e83bfccdd965d4595eab8ae3857070069cb566c", func := "loop.example/g00883/laws.FnExactScaleLinear", spec := "fnExactScaleLinear", unfollowed := true, recurses := true, apart := false }
def FnExactScaleLinearSaid : Prop := fnExactScaleLinearRow.holds Try.pinned (OpenSpec.ofChange fnExactScaleLinearSpec)

/-- ITS FALSE NEIGHBOUR: 'it returns false'. Refute it at one input. -/
def fnExactScaleLinearWrong : ChangeSpec := { name := "fnExactScaleLinear", fn := fun _ => fun
  | [d1, d2] => { results := [.lit (.bool false)], args := [d1, d2] }
  | _ => none }
def FnExactScaleLinearWrongFalsely : Prop := fnExactScaleLinearRow.holds Try.pinned (OpenSpec.ofChange fnExactScaleLinearWrong)

/-- 'laws.FnExactCurveSide': WHATEVER THE INPUT: true; the input reads as it did. -/
def fnExactCurveSideSpec : ChangeSpec := { name := "fnExactCurveSide", fn := fun _ => fun
  | [d1, d2] => { results := [.lit (.bool true)], args := [d1, d2] }
  | _ => none }
def fnExactCurveSideRow : OpenClaim := { program := "ythedimnjbfeaiaa", sum := "20f69afab30cdb03864de2585e83bfccdd965d4595eab8ae3857070069cb566c", func := "loop.example/g00883/laws.FnExactCurveSide", spec := "fnExactCurveSide", apart := false }
def FnExactCurveSideSaid : Prop := fnExactCurveSideRow.holds Try.pinned (OpenSpec.ofChange fnExactCurveSideSpec)

/-- ITS FALSE NEIGHBOUR: 'it returns false'. Refute it at one input. -/
def fnExactCurveSideWrong : ChangeSpec := { name := "fnExactCurveSide", fn := fun _ => fun
  | [d1, d2] => { results := [.lit (.bool false)], args := [d1, d2] }
  | _ => none }
def FnExactCurveSideWrongFalsely : Prop := fnExactCurveSideRow.holds Try.pinned (OpenSpec.ofChange fnExactCurveSideWrong)

/-- 'laws.FnExactCurveRow': WHATEVER THE INPUT: true; the input reads as it did. -/
def fnExactCurveRowSpec : ChangeSpec := { name := "fnExactCurveRow", fn := fun _ => fun
  | [d1, d2] => { results := [.lit (.bool true)], args := [d1, d2] }
  | _ => none }
def fnExactCurveRowRow : OpenClaim := { program := "ythedimnjbfeaiaa", sum := "20f69afab30cdb03864de2585e83bfccdd965d4595eab8ae3857070069cb566c", func := "loop.example/g00883/laws.FnExactCurveRow", spec := "fnExactCurveRow", apart := false }
def FnExactCurveRowSaid : Prop := fnExactCurveRowRow.holds Try.pinned (OpenSpec.ofChange fnExactCurveRowSpec)

/-- ITS FALSE NEIGHBOUR: 'it returns false'. Refute it at one input. -/
def fnExactCurveRowWrong : ChangeSpec := { name := "fnExactCurveRow", fn := fun _ => fun
  | [d1, d2] => { results := [.lit (.bool false)], args := [d1, d2] }
  | _ => none }
def FnExactCurveRowWrongFalsely : Prop := fnExactCurveRowRow.holds Try.pinned (OpenSpec.ofChange fnExactCurveRowWrong)

/-- 'laws.FnExactIsKeyword': WHATEVER THE INPUT: true; the input reads as it did. -/
def fnExactIsKeywordSpec : ChangeSpec := { name := "fnExactIsKeyword", fn := fun _ => fun
  | [d] => { results := [.lit (.bool true)], args := [d] }
  | _ => none }
def fnExactIsKeywordRow : OpenClaim := { program := "ythedimnjbfeaiaa", sum := "20f69afab30cdb03864de2585e83bfccdd965d4595eab8ae3857070069cb566c", func := "loop.example/g00883/laws.FnExactIsKeyword", spec := "fnExactIsKeyword", apart := false }
def FnExactIsKeywordSaid : Prop := fnExactIsKeywordRow.holds Try.pinned (OpenSpec.ofChange fnExactIsKeywordSpec)

/-- ITS FALSE NEIGHBOUR: 'it returns false'. Refute it at one input. -/
def fnExactIsKeywordWrong : ChangeSpec := { name := "fnExactIsKeyword", fn := fun _ => fun
  | [d] => { results := [.lit (.bool false)], args := [d] }
  | _ => none }
def FnExactIsKeywordWrongFalsely : Prop := fnExactIsKeywordRow.holds Try.pinned (OpenSpec.ofChange fnExactIsKeywordWrong)

/-- 'laws.FnExactSameStatement': WHATEVER THE INPUT: true; the input reads as it did. -/
def fnExactSameStatementSpec : ChangeSpec := { name := "fnExactSameStatement", fn := fun _ => fun
  | [d1, d2] => { results := [.lit (.bool true)], args := [d1, d2] }
  | _ => none }
def fnExactSameStatementRow : OpenClaim := { program := "ythedimnjbfeaiaa", sum := "20f69afab30cdb03864de2585e83bfccdd965d4595eab8ae3857070069cb566c", func := "loop.example/g00883/laws.FnExactSameStatement", spec := "fnExactSameStatement", apart := false }
def FnExactSameStatementSaid : Prop := fnExactSameStatementRow.holds Try.pinned (OpenSpec.ofChange fnExactSameStatementSpec)

/-- ITS FALSE NEIGHBOUR: 'it returns false'. Refute it at one input. -/
def fnExactSameStatementWrong : ChangeSpec := { name := "fnExactSameStatement", fn := fun _ => fun
  | [d1, d2] => { results := [.lit (.bool false)], args := [d1, d2] }
  | _ => none }
def FnExactSameStatementWrongFalsely : Prop := fnExactSameStatementRow.holds Try.pinned (OpenSpec.ofChange fnExactSameStatementWrong)

/-- 'laws.FnExactValidStatement': WHATEVER THE INPUT: true; the input reads as it did. -/
def fnExactValidStatementSpec : ChangeSpec := { name := "fnExactValidStatement", fn := fun _ => fun
  | [d] => { results := [.lit (.bool true)], args := [d] }
  | _ => none }
def fnExactValidStatementRow : OpenClaim := { program := "ythedimnjbfeaiaa", sum := "20f69afab30cdb03864de2585e83bfccdd965d4595eab8ae3857070069cb566c", func := "loop.example/g00883/laws.FnExactValidStatement", spec := "fnExactValidStatement", apart := false }
def FnExactValidStatementSaid : Prop := fnExactValidStatementRow.holds Try.pinned (OpenSpec.ofChange fnExactValidStatementSpec)

/-- ITS FALSE NEIGHBOUR: 'it returns false'. Refute it at one input. -/
def fnExactValidStatementWrong : ChangeSpec := { name := "fnExactValidStatement", fn := fun _ => fun
  | [d] => { results := [.lit (.bool false)], args := [d] }
  | _ => none }
def FnExactValidStatementWrongFalsely : Prop := fnExactValidStatementRow.holds Try.pinned (OpenSpec.ofChange fnExactValidStatementWrong)

/- THE SECOND FORM. 'bulk': how many values and letters a reading holds, each counted each time it is reached (what is shared counts as often as it is met; a slice's spare places count too). A statement '..UptoSaid' is the law's where the arguments, and the package variables that the reading takes, are together of bulk at most 1048576: NARROWER than '..Said'. Prove '..Said' where nothing that the law and all that it calls make is longer than what came in: it says more and counts as full. Else prove '..UptoSaid'. A law counts once. -/
mutual
def uptoBulk {H : Type} : DataW H → Nat
  | .lit (.string bytes) => bytes.length + 1
  | .lit _ => 1
  | .nil => 1
  | .ptr d => uptoBulk d + 1
  | .slice elems spare => uptoBulkAll elems + uptoBulkAll spare + 1
  | .agg parts => uptoBulkAll parts + 1
  | .iface _ d => uptoBulk d + 1
  | .map entries => uptoBulkEntries entries + 1
  | .held _ => 1
def uptoBulkAll {H : Type} : List (DataW H) → Nat
  | [] => 0
  | d :: r => uptoBulk d + uptoBulkAll r
def uptoBulkEntries {H : Type} : List (Lit × DataW H) → Nat
  | [] => 0
  | x :: r => uptoBulkEntry x + uptoBulkEntries r
def uptoBulkEntry {H : Type} : Lit × DataW H → Nat
  | (.string bytes, d) => bytes.length + uptoBulk d + 1
  | (_, d) => uptoBulk d + 1
 end
def uptoSmall : (H : Type) → List (DataW H) → Bool := fun _ ds => decide (uptoBulkAll ds ≤ 1048576)
def OpenSpec.upto (s : _root_.Go.ChangeSpec) : _root_.Go.OpenSpec := { _root_.Go.OpenSpec.ofChange s with cond := some uptoSmall }

/-- 'laws.FnExactValidCurve', WHERE WHAT IT READS IS OF BULK AT MOST 1048576: true; the input reads as it did. -/
def fnExactValidCurveUptoRow : OpenClaim := { program := "ythedimnjbfeaiaa", sum := "20f69afab30cdb03864de2585e83bfccdd965d4595eab8ae3857070069cb566c", func := "loop.example/g00883/laws.FnExactValidCurve", spec := "fnExactValidCurve", apart := false, narrowed := true }
def FnExactValidCurveUptoSaid : Prop := fnExactValidCurveUptoRow.holds Try.pinned (OpenSpec.upto fnExactValidCurveSpec)

/-- 'laws.FnExactSameCurve', WHERE WHAT IT READS IS OF BULK AT MOST 1048576: true; the input reads as it did. -/
def fnExactSameCurveUptoRow : OpenClaim := { program := "ythedimnjbfeaiaa", sum := "20f69afab30cdb03864de2585e83bfccdd965d4595eab8ae3857070069cb566c", func := "loop.example/g00883/laws.FnExactSameCurve", spec := "fnExactSameCurve", apart := false, narrowed := true }
def FnExactSameCurveUptoSaid : Prop := fnExactSameCurveUptoRow.holds Try.pinned (OpenSpec.upto fnExactSameCurveSpec)

/-- 'laws.FnExactReverseCurve', WHERE WHAT IT READS IS OF BULK AT MOST 1048576: true; the input reads as it did. -/
def fnExactReverseCurveUptoRow : OpenClaim := { program := "ythedimnjbfeaiaa", sum := "20f69afab30cdb03864de2585e83bfccdd965d4595eab8ae3857070069cb566c", func := "loop.example/g00883/laws.FnExactReverseCurve", spec := "fnExactReverseCurve", apart := false, narrowed := true }
def FnExactReverseCurveUptoSaid : Prop := fnExactReverseCurveUptoRow.holds Try.pinned (OpenSpec.upto fnExactReverseCurveSpec)

/-- 'laws.FnExactMoveCurve', WHERE WHAT IT READS IS OF BULK AT MOST 1048576: true; the input reads as it did. -/
def fnExactMoveCurveUptoRow : OpenClaim := { program := "ythedimnjbfeaiaa", sum := "20f69afab30cdb03864de2585e83bfccdd965d4595eab8ae3857070069cb566c", func := "loop.example/g00883/laws.FnExactMoveCurve", spec := "fnExactMoveCurve", apart := false, narrowed := true }
def FnExactMoveCurveUptoSaid : Prop := fnExactMoveCurveUptoRow.holds Try.pinned (OpenSpec.upto fnExactMoveCurveSpec)

/-- 'laws.FnExactScaleLinear', WHERE WHAT IT READS IS OF BULK AT MOST 1048576: true; the input reads as it did. -/
def fnExactScaleLinearUptoRow : OpenClaim := { program := "ythedimnjbfeaiaa", sum := "20f69afab30cdb03864de2585e83bfccdd965d4595eab8ae3857070069cb566c", func := "loop.example/g00883/laws.FnExactScaleLinear", spec := "fnExactScaleLinear", unfollowed := true, recurses := true, apart := false, narrowed := true }
def FnExactScaleLinearUptoSaid : Prop := fnExactScaleLinearUptoRow.holds Try.pinned (OpenSpec.upto fnExactScaleLinearSpec)

/-- 'laws.FnExactCurveSide', WHERE WHAT IT READS IS OF BULK AT MOST 1048576: true; the input reads as it did. -/
def fnExactCurveSideUptoRow : OpenClaim := { program := "ythedimnjbfeaiaa", sum := "20f69afab30cdb03864de2585e83bfccdd965d4595eab8ae3857070069cb566c", func := "loop.example/g00883/laws.FnExactCurveSide", spec := "fnExactCurveSide", apart := false, narrowed := true }
def FnExactCurveSideUptoSaid : Prop := fnExactCurveSideUptoRow.holds Try.pinned (OpenSpec.upto fnExactCurveSideSpec)

/-- 'laws.FnExactCurveRow', WHERE WHAT IT READS IS OF BULK AT MOST 1048576: true; the input reads as it did. -/
def fnExactCurveRowUptoRow : OpenClaim := { program := "ythedimnjbfeaiaa", sum := "20f69afab30cdb03864de2585e83bfccdd965d4595eab8ae3857070069cb566c", func := "loop.example/g00883/laws.FnExactCurveRow", spec := "fnExactCurveRow", apart := false, narrowed := true }
def FnExactCurveRowUptoSaid : Prop := fnExactCurveRowUptoRow.holds Try.pinned (OpenSpec.upto fnExactCurveRowSpec)

/-- 'laws.FnExactIsKeyword', WHERE WHAT IT READS IS OF BULK AT MOST 1048576: true; the input reads as it did. -/
def fnExactIsKeywordUptoRow : OpenClaim := { program := "ythedimnjbfeaiaa", sum := "20f69afab30cdb03864de2585e83bfccdd965d4595eab8ae3857070069cb566c", func := "loop.example/g00883/laws.FnExactIsKeyword", spec := "fnExactIsKeyword", apart := false, narrowed := true }
def FnExactIsKeywordUptoSaid : Prop := fnExactIsKeywordUptoRow.holds Try.pinned (OpenSpec.upto fnExactIsKeywordSpec)

/-- 'laws.FnExactSameStatement', WHERE WHAT IT READS IS OF BULK AT MOST 1048576: true; the input reads as it did. -/
def fnExactSameStatementUptoRow : OpenClaim := { program := "ythedimnjbfeaiaa", sum := "20f69afab30cdb03864de2585e83bfccdd965d4595eab8ae3857070069cb566c", func := "loop.example/g00883/laws.FnExactSameStatement", spec := "fnExactSameStatement", apart := false, narrowed := true }
def FnExactSameStatementUptoSaid : Prop := fnExactSameStatementUptoRow.holds Try.pinned (OpenSpec.upto fnExactSameStatementSpec)

/-- 'laws.FnExactValidStatement', WHERE WHAT IT READS IS OF BULK AT MOST 1048576: true; the input reads as it did. -/
def fnExactValidStatementUptoRow : OpenClaim := { program := "ythedimnjbfeaiaa", sum := "20f69afab30cdb03864de2585e83bfccdd965d4595eab8ae3857070069cb566c", func := "loop.example/g00883/laws.FnExactValidStatement", spec := "fnExactValidStatement", apart := false, narrowed := true }
def FnExactValidStatementUptoSaid : Prop := fnExactValidStatementUptoRow.holds Try.pinned (OpenSpec.upto fnExactValidStatementSpec)

end Rows
end Go.Proofs.Ythedimnjbfeaiaa
