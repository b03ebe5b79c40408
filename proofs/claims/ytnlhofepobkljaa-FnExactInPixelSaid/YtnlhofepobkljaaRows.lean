/-
  No cell of these rows narrows 'for every input' (looked for: loops, veiled, ifaces, maps, wideKeys, modest, calm, conditions, laid).
  DERIVED. THE GIVEN ROWS OF THIS SEAT. 9 by the template 'for every input the law returns true; each argument reads behind the call as it read before'; 0 by the template 'total and deterministic' (their statements: YtnlhofepobkljaaTotals.lean).
  GIVEN WITH THE SEED: the statements are not yours to turn. If you find one false, say at which input.
  Laid BY PROGRAM, IN A SANDBOX (cutbox-rows.mjs): the forced cells as the released guide's own fill.sh prints them over the translation 84cea109c1b88bf9… (all of the seat's roots in one cut). By AI agents, Wed Nov 11 2026. No macro, syntax, notation, axiom, sorry.
-/
import Derived.Test.YtnlhofepobkljaaChecked
import GoSem.Claim
import GoSem.ClaimJoined
import GoSem.ClaimMapViews
import Derived.JoinedTies
import Derived.KernelRfl
namespace Go.Proofs.Ytnlhofepobkljaa
/- THE CELL 'sum', in the pinned program and in every row, IS THE sha256 OF THE DUMP (.gsa) THAT YtnlhofepobkljaaProg.lean LOADS. Nothing in Lean hashes anything: it is a label: what it is worth is what the hold of that sum in a sandbox is worth. -/
noncomputable def Try.pinned : Pinned := { name := "ytnlhofepobkljaa", sum := "84cea109c1b88bf93be30496187e71d4bc467576ec399120e9bb095baf45a138", checked := Try.checked }
namespace Rows
def none {H : Type} : Left H := { results := [], args := [] }

/-- 'laws.FnExactThenMap': WHATEVER THE INPUT: true; the input reads as it did. -/
def fnExactThenMapSpec : ChangeSpec := { name := "fnExactThenMap", fn := fun _ => fun
  | [d1, d2] => { results := [.lit (.bool true)], args := [d1, d2] }
  | _ => none }
def fnExactThenMapRow : OpenClaim := { program := "ytnlhofepobkljaa", sum := "84cea109c1b88bf93be30496187e71d4bc467576ec399120e9bb095baf45a138", func := "loop.example/g00883/laws.FnExactThenMap", spec := "fnExactThenMap", unfollowed := true, recurses := true, apart := false }
def FnExactThenMapSaid : Prop := fnExactThenMapRow.holds Try.pinned (OpenSpec.ofChange fnExactThenMapSpec)

/-- ITS FALSE NEIGHBOUR: 'it returns false'. Refute it at one input. -/
def fnExactThenMapWrong : ChangeSpec := { name := "fnExactThenMap", fn := fun _ => fun
  | [d1, d2] => { results := [.lit (.bool false)], args := [d1, d2] }
  | _ => none }
def FnExactThenMapWrongFalsely : Prop := fnExactThenMapRow.holds Try.pinned (OpenSpec.ofChange fnExactThenMapWrong)

/-- 'laws.FnExactInvertMap': WHATEVER THE INPUT: true; the input reads as it did. -/
def fnExactInvertMapSpec : ChangeSpec := { name := "fnExactInvertMap", fn := fun _ => fun
  | [d] => { results := [.lit (.bool true)], args := [d] }
  | _ => none }
def fnExactInvertMapRow : OpenClaim := { program := "ytnlhofepobkljaa", sum := "84cea109c1b88bf93be30496187e71d4bc467576ec399120e9bb095baf45a138", func := "loop.example/g00883/laws.FnExactInvertMap", spec := "fnExactInvertMap", unfollowed := true, recurses := true, apart := false }
def FnExactInvertMapSaid : Prop := fnExactInvertMapRow.holds Try.pinned (OpenSpec.ofChange fnExactInvertMapSpec)

/-- ITS FALSE NEIGHBOUR: 'it returns false'. Refute it at one input. -/
def fnExactInvertMapWrong : ChangeSpec := { name := "fnExactInvertMap", fn := fun _ => fun
  | [d] => { results := [.lit (.bool false)], args := [d] }
  | _ => none }
def FnExactInvertMapWrongFalsely : Prop := fnExactInvertMapRow.holds Try.pinned (OpenSpec.ofChange fnExactInvertMapWrong)

/-- 'laws.FnExactValidRing': WHATEVER THE INPUT: true; the input reads as it did. -/
def fnExactValidRingSpec : ChangeSpec := { name := "fnExactValidRing", fn := fun _ => fun
  | [d] => { results := [.lit (.bool true)], args := [d] }
  | _ => none }
def fnExactValidRingRow : OpenClaim := { program := "ytnlhofepobkljaa", sum := "84cea109c1b88bf93be30496187e71d4bc467576ec399120e9bb095baf45a138", func := "loop.example/g00883/laws.FnExactValidRing", spec := "fnExactValidRing", apart := false }
def FnExactValidRingSaid : Prop := fnExactValidRingRow.holds Try.pinned (OpenSpec.ofChange fnExactValidRingSpec)

/-- ITS FALSE NEIGHBOUR: 'it returns false'. Refute it at one input. -/
def fnExactValidRingWrong : ChangeSpec := { name := "fnExactValidRing", fn := fun _ => fun
  | [d] => { results := [.lit (.bool false)], args := [d] }
  | _ => none }
def FnExactValidRingWrongFalsely : Prop := fnExactValidRingRow.holds Try.pinned (OpenSpec.ofChange fnExactValidRingWrong)

/-- 'laws.FnExactValidRegion': WHATEVER THE INPUT: true; the input reads as it did. -/
def fnExactValidRegionSpec : ChangeSpec := { name := "fnExactValidRegion", fn := fun _ => fun
  | [d] => { results := [.lit (.bool true)], args := [d] }
  | _ => none }
def fnExactValidRegionRow : OpenClaim := { program := "ytnlhofepobkljaa", sum := "84cea109c1b88bf93be30496187e71d4bc467576ec399120e9bb095baf45a138", func := "loop.example/g00883/laws.FnExactValidRegion", spec := "fnExactValidRegion", apart := false }
def FnExactValidRegionSaid : Prop := fnExactValidRegionRow.holds Try.pinned (OpenSpec.ofChange fnExactValidRegionSpec)

/-- ITS FALSE NEIGHBOUR: 'it returns false'. Refute it at one input. -/
def fnExactValidRegionWrong : ChangeSpec := { name := "fnExactValidRegion", fn := fun _ => fun
  | [d] => { results := [.lit (.bool false)], args := [d] }
  | _ => none }
def FnExactValidRegionWrongFalsely : Prop := fnExactValidRegionRow.holds Try.pinned (OpenSpec.ofChange fnExactValidRegionWrong)

/-- 'laws.FnExactSameRegion': WHATEVER THE INPUT: true; the input reads as it did. -/
def fnExactSameRegionSpec : ChangeSpec := { name := "fnExactSameRegion", fn := fun _ => fun
  | [d1, d2] => { results := [.lit (.bool true)], args := [d1, d2] }
  | _ => none }
def fnExactSameRegionRow : OpenClaim := { program := "ytnlhofepobkljaa", sum := "84cea109c1b88bf93be30496187e71d4bc467576ec399120e9bb095baf45a138", func := "loop.example/g00883/laws.FnExactSameRegion", spec := "fnExactSameRegion", unfollowed := true, recurses := true, apart := false }
def FnExactSameRegionSaid : Prop := fnExactSameRegionRow.holds Try.pinned (OpenSpec.ofChange fnExactSameRegionSpec)

/-- ITS FALSE NEIGHBOUR: 'it returns false'. Refute it at one input. -/
def fnExactSameRegionWrong : ChangeSpec := { name := "fnExactSameRegion", fn := fun _ => fun
  | [d1, d2] => { results := [.lit (.bool false)], args := [d1, d2] }
  | _ => none }
def FnExactSameRegionWrongFalsely : Prop := fnExactSameRegionRow.holds Try.pinned (OpenSpec.ofChange fnExactSameRegionWrong)

/-- 'laws.FnExactEdgeCount': WHATEVER THE INPUT: true; the input reads as it did. -/
def fnExactEdgeCountSpec : ChangeSpec := { name := "fnExactEdgeCount", fn := fun _ => fun
  | [d] => { results := [.lit (.bool true)], args := [d] }
  | _ => none }
def fnExactEdgeCountRow : OpenClaim := { program := "ytnlhofepobkljaa", sum := "84cea109c1b88bf93be30496187e71d4bc467576ec399120e9bb095baf45a138", func := "loop.example/g00883/laws.FnExactEdgeCount", spec := "fnExactEdgeCount", apart := false }
def FnExactEdgeCountSaid : Prop := fnExactEdgeCountRow.holds Try.pinned (OpenSpec.ofChange fnExactEdgeCountSpec)

/-- ITS FALSE NEIGHBOUR: 'it returns false'. Refute it at one input. -/
def fnExactEdgeCountWrong : ChangeSpec := { name := "fnExactEdgeCount", fn := fun _ => fun
  | [d] => { results := [.lit (.bool false)], args := [d] }
  | _ => none }
def FnExactEdgeCountWrongFalsely : Prop := fnExactEdgeCountRow.holds Try.pinned (OpenSpec.ofChange fnExactEdgeCountWrong)

/-- 'laws.FnExactInPixel': WHATEVER THE INPUT: true; the input reads as it did. -/
def fnExactInPixelSpec : ChangeSpec := { name := "fnExactInPixel", fn := fun _ => fun
  | [d1, d2, d3] => { results := [.lit (.bool true)], args := [d1, d2, d3] }
  | _ => none }
def fnExactInPixelRow : OpenClaim := { program := "ytnlhofepobkljaa", sum := "84cea109c1b88bf93be30496187e71d4bc467576ec399120e9bb095baf45a138", func := "loop.example/g00883/laws.FnExactInPixel", spec := "fnExactInPixel", apart := false }
def FnExactInPixelSaid : Prop := fnExactInPixelRow.holds Try.pinned (OpenSpec.ofChange fnExactInPixelSpec)

/-- ITS FALSE NEIGHBOUR: 'it returns false'. Refute it at one input. -/
def fnExactInPixelWrong : ChangeSpec := { name := "fnExactInPixel", fn := fun _ => fun
  | [d1, d2, d3] => { results := [.lit (.bool false)], args := [d1, d2, d3] }
  | _ => none }
def FnExactInPixelWrongFalsely : Prop := fnExactInPixelRow.holds Try.pinned (OpenSpec.ofChange fnExactInPixelWrong)

/-- 'laws.FnExactIsSnapped': WHATEVER THE INPUT: true; the input reads as it did. -/
def fnExactIsSnappedSpec : ChangeSpec := { name := "fnExactIsSnapped", fn := fun _ => fun
  | [d] => { results := [.lit (.bool true)], args := [d] }
  | _ => none }
def fnExactIsSnappedRow : OpenClaim := { program := "ytnlhofepobkljaa", sum := "84cea109c1b88bf93be30496187e71d4bc467576ec399120e9bb095baf45a138", func := "loop.example/g00883/laws.FnExactIsSnapped", spec := "fnExactIsSnapped", unfollowed := true, recurses := true, apart := false }
def FnExactIsSnappedSaid : Prop := fnExactIsSnappedRow.holds Try.pinned (OpenSpec.ofChange fnExactIsSnappedSpec)

/-- ITS FALSE NEIGHBOUR: 'it returns false'. Refute it at one input. -/
def fnExactIsSnappedWrong : ChangeSpec := { name := "fnExactIsSnapped", fn := fun _ => fun
  | [d] => { results := [.lit (.bool false)], args := [d] }
  | _ => none }
def FnExactIsSnappedWrongFalsely : Prop := fnExactIsSnappedRow.holds Try.pinned (OpenSpec.ofChange fnExactIsSnappedWrong)

/-- 'laws.FnExactJoinRegions': WHATEVER THE INPUT: true; the input reads as it did. -/
def fnExactJoinRegionsSpec : ChangeSpec := { name := "fnExactJoinRegions", fn := fun _ => fun
  | [d1, d2] => { results := [.lit (.bool true)], args := [d1, d2] }
  | _ => none }
def fnExactJoinRegionsRow : OpenClaim := { program := "ytnlhofepobkljaa", sum := "84cea109c1b88bf93be30496187e71d4bc467576ec399120e9bb095baf45a138", func := "loop.example/g00883/laws.FnExactJoinRegions", spec := "fnExactJoinRegions", apart := false }
def FnExactJoinRegionsSaid : Prop := fnExactJoinRegionsRow.holds Try.pinned (OpenSpec.ofChange fnExactJoinRegionsSpec)

/-- ITS FALSE NEIGHBOUR: 'it returns false'. Refute it at one input. -/
def fnExactJoinRegionsWrong : ChangeSpec := { name := "fnExactJoinRegions", fn := fun _ => fun
  | [d1, d2] => { results := [.lit (.bool false)], args := [d1, d2] }
  | _ => none }
def FnExactJoinRegionsWrongFalsely : Prop := fnExactJoinRegionsRow.holds Try.pinned (OpenSpec.ofChange fnExactJoinRegionsWrong)

/- THE SECOND FORM. 'bulk': how many values and letters a reading holds, each counted each time it is reached (what is shared counts as often as it is met; a slice's spare places count too). A statement '..UptoSaid' is the law's where the arguments, and the package variables that the reading takes, are together of bulk at most 1048576: NARROWER than '..Said'. Prove '..Said' where nothing that the law and all that it calls make is longer than what came in: it says more and counts as full. Else prove '..UptoSaid'. A law counts once. -/
mutual
def uptoBulk {H : Type} : DataW H → Nat
  | .lit (.string bytes) => bytes.length + 1
  | .lit _ => 1
  | .nil => 1
  | .ptr d => uptoBulk d + 1
  | .slice elems spare => uptoBulkAll elems + uptoBulkAll spare + 1
  | .agg parts => uptoBulkAll parts + 1
  | .iface _ d => uptoBulk d + 1
  | .map entries => uptoBulkEntries entries + 1
  | .held _ => 1
def uptoBulkAll {H : Type} : List (DataW H) → Nat
  | [] => 0
  | d :: r => uptoBulk d + uptoBulkAll r
def uptoBulkEntries {H : Type} : List (Lit × DataW H) → Nat
  | [] => 0
  | x :: r => uptoBulkEntry x + uptoBulkEntries r
def uptoBulkEntry {H : Type} : Lit × DataW H → Nat
  | (.string bytes, d) => bytes.length + uptoBulk d + 1
  | (_, d) => uptoBulk d + 1
 end
def uptoSmall : (H : Type) → List (DataW H) → Bool := fun _ ds => decide (uptoBulkAll ds ≤ 1048576)
def OpenSpec.upto (s : _root_.Go.ChangeSpec) : _root_.Go.OpenSpec := { _root_.Go.OpenSpec.ofChange s with cond := some uptoSmall }

/-- 'laws.FnExactThenMap', WHERE WHAT IT READS IS OF BULK AT MOST 1048576: true; the input reads as it did. -/
def fnExactThenMapUptoRow : OpenClaim := { program := "ytnlhofepobkljaa", sum := "84cea109c1b88bf93be30496187e71d4bc467576ec399120e9bb095baf45a138", func := "loop.example/g00883/laws.FnExactThenMap", spec := "fnExactThenMap", unfollowed := true, recurses := true, apart := false, narrowed := true }
def FnExactThenMapUptoSaid : Prop := fnExactThenMapUptoRow.holds Try.pinned (OpenSpec.upto fnExactThenMapSpec)

/-- 'laws.FnExactInvertMap', WHERE WHAT IT READS IS OF BULK AT MOST 1048576: true; the input reads as it did. -/
def fnExactInvertMapUptoRow : OpenClaim := { program := "ytnlhofepobkljaa", sum := "84cea109c1b88bf93be30496187e71d4bc467576ec399120e9bb095baf45a138", func := "loop.example/g00883/laws.FnExactInvertMap", spec := "fnExactInvertMap", unfollowed := true, recurses := true, apart := false, narrowed := true }
def FnExactInvertMapUptoSaid : Prop := fnExactInvertMapUptoRow.holds Try.pinned (OpenSpec.upto fnExactInvertMapSpec)

/-- 'laws.FnExactValidRing', WHERE WHAT IT READS IS OF BULK AT MOST 1048576: true; the input reads as it did. -/
def fnExactValidRingUptoRow : OpenClaim := { program := "ytnlhofepobkljaa", sum := "84cea109c1b88bf93be30496187e71d4bc467576ec399120e9bb095baf45a138", func := "loop.example/g00883/laws.FnExactValidRing", spec := "fnExactValidRing", apart := false, narrowed := true }
def FnExactValidRingUptoSaid : Prop := fnExactValidRingUptoRow.holds Try.pinned (OpenSpec.upto fnExactValidRingSpec)

/-- 'laws.FnExactValidRegion', WHERE WHAT IT READS IS OF BULK AT MOST 1048576: true; the input reads as it did. -/
def fnExactValidRegionUptoRow : OpenClaim := { program := "ytnlhofepobkljaa", sum := "84cea109c1b88bf93be30496187e71d4bc467576ec399120e9bb095baf45a138", func := "loop.example/g00883/laws.FnExactValidRegion", spec := "fnExactValidRegion", apart := false, narrowed := true }
def FnExactValidRegionUptoSaid : Prop := fnExactValidRegionUptoRow.holds Try.pinned (OpenSpec.upto fnExactValidRegionSpec)

/-- 'laws.FnExactSameRegion', WHERE WHAT IT READS IS OF BULK AT MOST 1048576: true; the input reads as it did. -/
def fnExactSameRegionUptoRow : OpenClaim := { program := "ytnlhofepobkljaa", sum := "84cea109c1b88bf93be30496187e71d4bc467576ec399120e9bb095baf45a138", func := "loop.example/g00883/laws.FnExactSameRegion", spec := "fnExactSameRegion", unfollowed := true, recurses := true, apart := false, narrowed := true }
def FnExactSameRegionUptoSaid : Prop := fnExactSameRegionUptoRow.holds Try.pinned (OpenSpec.upto fnExactSameRegionSpec)

/-- 'laws.FnExactEdgeCount', WHERE WHAT IT READS IS OF BULK AT MOST 1048576: true; the input reads as it did. -/
def fnExactEdgeCountUptoRow : OpenClaim := { program := "ytnlhofepobkljaa", sum := "84cea109c1b88bf93be30496187e71d4bc467576ec399120e9bb095baf45a138", func := "loop.example/g00883/laws.FnExactEdgeCount", spec := "fnExactEdgeCount", apart := false, narrowed := true }
def FnExactEdgeCountUptoSaid : Prop := fnExactEdgeCountUptoRow.holds Try.pinned (OpenSpec.upto fnExactEdgeCountSpec)

/-- 'laws.FnExactInPixel', WHERE WHAT IT READS IS OF BULK AT MOST 1048576: true; the input reads as it did. -/
def fnExactInPixelUptoRow : OpenClaim := { program := "ytnlhofepobkljaa", sum := "84cea109c1b88bf93be30496187e71d4bc467576ec399120e9bb095baf45a138", func := "loop.example/g00883/laws.FnExactInPixel", spec := "fnExactInPixel", apart := false, narrowed := true }
def FnExactInPixelUptoSaid : Prop := fnExactInPixelUptoRow.holds Try.pinned (OpenSpec.upto fnExactInPixelSpec)

/-- 'laws.FnExactIsSnapped', WHERE WHAT IT READS IS OF BULK AT MOST 1048576: true; the input reads as it did. -/
def fnExactIsSnappedUptoRow : OpenClaim := { program := "ytnlhofepobkljaa", sum := "84cea109c1b88bf93be30496187e71d4bc467576ec399120e9bb095baf45a138", func := "loop.example/g00883/laws.FnExactIsSnapped", spec := "fnExactIsSnapped", unfollowed := true, recurses := true, apart := false, narrowed := true }
def FnExactIsSnappedUptoSaid : Prop := fnExactIsSnappedUptoRow.holds Try.pinned (OpenSpec.upto fnExactIsSnappedSpec)

/-- 'laws.FnExactJoinRegions', WHERE WHAT IT READS IS OF BULK AT MOST 1048576: true; the input reads as it did. -/
def fnExactJoinRegionsUptoRow : OpenClaim := { program := "ytnlhofepobkljaa", sum := "84cea109c1b88bf93be30496187e71d4bc467576ec399120e9bb095baf45a138", func := "loop.example/g00883/laws.FnExactJoinRegions", spec := "fnExactJoinRegions", apart := false, narrowed := true }
def FnExactJoinRegionsUptoSaid : Prop := fnExactJoinRegionsUptoRow.holds Try.pinned (OpenSpec.upto fnExactJoinRegionsSpec)

end Rows
end Go.Proofs.Ytnlhofepobkljaa
