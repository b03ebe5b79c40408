/-
  No cell of these rows narrows 'for every input' (looked for: loops, veiled, ifaces, maps, wideKeys, modest, calm, conditions, laid).
  DERIVED. THE GIVEN ROWS OF THIS SEAT. 7 by the template 'for every input the law returns true; each argument reads behind the call as it read before'; 0 by the template 'total and deterministic' (their statements: YtdeemhfhmgnbgaaTotals.lean).
  GIVEN WITH THE SEED: the statements are not yours to turn. If you find one false, say at which input.
  Laid BY PROGRAM, IN A SANDBOX (cutbox-rows.mjs): the forced cells as the released guide's own fill.sh prints them over the translation a95cfc015de81b79… (all of the seat's roots in one cut). By AI agents, Wed Nov 11 2026. No macro, syntax, notation, axiom, sorry.
-/
import Derived.Test.YtdeemhfhmgnbgaaChecked
import GoSem.Claim
import GoSem.ClaimJoined
import GoSem.ClaimMapViews
import Derived.JoinedTies
import Derived.KernelRfl
namespace Go.Proofs.Ytdeemhfhmgnbgaa
/- THE CELL 'sum', in the pinned program and in every row, IS THE sha256 OF THE DUMP (.gsa) THAT YtdeemhfhmgnbgaaProg.lean LOADS. Nothing in Lean hashes anything: it is a label: what it is worth is what the hold of that sum in a sandbox is worth. -/
noncomputable def Try.pinned : Pinned := { name := "ytdeemhfhmgnbgaa", sum := "a95cfc015de81b79a00a3faf49996e49b59d8f68e031697b7717b43bea168a85", checked := Try.checked }
namespace Rows
def none {H : Type} : Left H := { results := [], args := [] }

/-- 'laws.FnExactCubicBounds': WHATEVER THE INPUT: true; the input reads as it did. -/
def fnExactCubicBoundsSpec : ChangeSpec := { name := "fnExactCubicBounds", fn := fun _ => fun
  | [d] => { results := [.lit (.bool true)], args := [d] }
  | _ => none }
def fnExactCubicBoundsRow : OpenClaim := { program := "ytdeemhfhmgnbgaa", sum := "a95cfc015de81b79a00a3faf49996e49b59d8f68e031697b7717b43bea168a85", func := "loop.example/g00883/laws.FnExactCubicBounds", spec := "fnExactCubicBounds", plainKeys := false, apart := false }
def FnExactCubicBoundsSaid : Prop := fnExactCubicBoundsRow.holds Try.pinned (OpenSpec.ofChange fnExactCubicBoundsSpec)

/-- ITS FALSE NEIGHBOUR: 'it returns false'. Refute it at one input. -/
def fnExactCubicBoundsWrong : ChangeSpec := { name := "fnExactCubicBounds", fn := fun _ => fun
  | [d] => { results := [.lit (.bool false)], args := [d] }
  | _ => none }
def FnExactCubicBoundsWrongFalsely : Prop := fnExactCubicBoundsRow.holds Try.pinned (OpenSpec.ofChange fnExactCubicBoundsWrong)

/-- 'laws.FnExactJoinRegions': WHATEVER THE INPUT: true; the input reads as it did. -/
def fnExactJoinRegionsSpec : ChangeSpec := { name := "fnExactJoinRegions", fn := fun _ => fun
  | [d1, d2] => { results := [.lit (.bool true)], args := [d1, d2] }
  | _ => none }
def fnExactJoinRegionsRow : OpenClaim := { program := "ytdeemhfhmgnbgaa", sum := "a95cfc015de81b79a00a3faf49996e49b59d8f68e031697b7717b43bea168a85", func := "loop.example/g00883/laws.FnExactJoinRegions", spec := "fnExactJoinRegions", plainKeys := false, apart := false }
def FnExactJoinRegionsSaid : Prop := fnExactJoinRegionsRow.holds Try.pinned (OpenSpec.ofChange fnExactJoinRegionsSpec)

/-- ITS FALSE NEIGHBOUR: 'it returns false'. Refute it at one input. -/
def fnExactJoinRegionsWrong : ChangeSpec := { name := "fnExactJoinRegions", fn := fun _ => fun
  | [d1, d2] => { results := [.lit (.bool false)], args := [d1, d2] }
  | _ => none }
def FnExactJoinRegionsWrongFalsely : Prop := fnExactJoinRegionsRow.holds Try.pinned (OpenSpec.ofChange fnExactJoinRegionsWrong)

/-- 'laws.FnExactRingTwice': WHATEVER THE INPUT: true; the input reads as it did. -/
def fnExactRingTwiceSpec : ChangeSpec := { name := "fnExactRingTwice", fn := fun _ => fun
  | [d] => { results := [.lit (.bool true)], args := [d] }
  | _ => none }
def fnExactRingTwiceRow : OpenClaim := { program := "ytdeemhfhmgnbgaa", sum := "a95cfc015de81b79a00a3faf49996e49b59d8f68e031697b7717b43bea168a85", func := "loop.example/g00883/laws.FnExactRingTwice", spec := "fnExactRingTwice", plainKeys := false, apart := false }
def FnExactRingTwiceSaid : Prop := fnExactRingTwiceRow.holds Try.pinned (OpenSpec.ofChange fnExactRingTwiceSpec)

/-- ITS FALSE NEIGHBOUR: 'it returns false'. Refute it at one input. -/
def fnExactRingTwiceWrong : ChangeSpec := { name := "fnExactRingTwice", fn := fun _ => fun
  | [d] => { results := [.lit (.bool false)], args := [d] }
  | _ => none }
def FnExactRingTwiceWrongFalsely : Prop := fnExactRingTwiceRow.holds Try.pinned (OpenSpec.ofChange fnExactRingTwiceWrong)

/-- 'laws.FnExactRingBounds': WHATEVER THE INPUT: true; the input reads as it did. -/
def fnExactRingBoundsSpec : ChangeSpec := { name := "fnExactRingBounds", fn := fun _ => fun
  | [d] => { results := [.lit (.bool true)], args := [d] }
  | _ => none }
def fnExactRingBoundsRow : OpenClaim := { program := "ytdeemhfhmgnbgaa", sum := "a95cfc015de81b79a00a3faf49996e49b59d8f68e031697b7717b43bea168a85", func := "loop.example/g00883/laws.FnExactRingBounds", spec := "fnExactRingBounds", plainKeys := false, apart := false }
def FnExactRingBoundsSaid : Prop := fnExactRingBoundsRow.holds Try.pinned (OpenSpec.ofChange fnExactRingBoundsSpec)

/-- ITS FALSE NEIGHBOUR: 'it returns false'. Refute it at one input. -/
def fnExactRingBoundsWrong : ChangeSpec := { name := "fnExactRingBounds", fn := fun _ => fun
  | [d] => { results := [.lit (.bool false)], args := [d] }
  | _ => none }
def FnExactRingBoundsWrongFalsely : Prop := fnExactRingBoundsRow.holds Try.pinned (OpenSpec.ofChange fnExactRingBoundsWrong)

/-- 'laws.FnExactRegionBounds': WHATEVER THE INPUT: true; the input reads as it did. -/
def fnExactRegionBoundsSpec : ChangeSpec := { name := "fnExactRegionBounds", fn := fun _ => fun
  | [d] => { results := [.lit (.bool true)], args := [d] }
  | _ => none }
def fnExactRegionBoundsRow : OpenClaim := { program := "ytdeemhfhmgnbgaa", sum := "a95cfc015de81b79a00a3faf49996e49b59d8f68e031697b7717b43bea168a85", func := "loop.example/g00883/laws.FnExactRegionBounds", spec := "fnExactRegionBounds", plainKeys := false, apart := false }
def FnExactRegionBoundsSaid : Prop := fnExactRegionBoundsRow.holds Try.pinned (OpenSpec.ofChange fnExactRegionBoundsSpec)

/-- ITS FALSE NEIGHBOUR: 'it returns false'. Refute it at one input. -/
def fnExactRegionBoundsWrong : ChangeSpec := { name := "fnExactRegionBounds", fn := fun _ => fun
  | [d] => { results := [.lit (.bool false)], args := [d] }
  | _ => none }
def FnExactRegionBoundsWrongFalsely : Prop := fnExactRegionBoundsRow.holds Try.pinned (OpenSpec.ofChange fnExactRegionBoundsWrong)

/-- 'laws.FnExactPointInRing': WHATEVER THE INPUT: true; the input reads as it did. -/
def fnExactPointInRingSpec : ChangeSpec := { name := "fnExactPointInRing", fn := fun _ => fun
  | [d1, d2] => { results := [.lit (.bool true)], args := [d1, d2] }
  | _ => none }
def fnExactPointInRingRow : OpenClaim := { program := "ytdeemhfhmgnbgaa", sum := "a95cfc015de81b79a00a3faf49996e49b59d8f68e031697b7717b43bea168a85", func := "loop.example/g00883/laws.FnExactPointInRing", spec := "fnExactPointInRing", plainKeys := false, apart := false }
def FnExactPointInRingSaid : Prop := fnExactPointInRingRow.holds Try.pinned (OpenSpec.ofChange fnExactPointInRingSpec)

/-- ITS FALSE NEIGHBOUR: 'it returns false'. Refute it at one input. -/
def fnExactPointInRingWrong : ChangeSpec := { name := "fnExactPointInRing", fn := fun _ => fun
  | [d1, d2] => { results := [.lit (.bool false)], args := [d1, d2] }
  | _ => none }
def FnExactPointInRingWrongFalsely : Prop := fnExactPointInRingRow.holds Try.pinned (OpenSpec.ofChange fnExactPointInRingWrong)

/-- 'laws.FnExactThinRing': WHATEVER THE INPUT: true; the input reads as it did. -/
def fnExactThinRingSpec : ChangeSpec := { name := "fnExactThinRing", fn := fun _ => fun
  | [d1, d2] => { results := [.lit (.bool true)], args := [d1, d2] }
  | _ => none }
def fnExactThinRingRow : OpenClaim := { program := "ytdeemhfhmgnbgaa", sum := "a95cfc015de81b79a00a3faf49996e49b59d8f68e031697b7717b43bea168a85", func := "loop.example/g00883/laws.FnExactThinRing", spec := "fnExactThinRing", recurses := true, plainKeys := false, apart := false }
def FnExactThinRingSaid : Prop := fnExactThinRingRow.holds Try.pinned (OpenSpec.ofChange fnExactThinRingSpec)

/-- ITS FALSE NEIGHBOUR: 'it returns false'. Refute it at one input. -/
def fnExactThinRingWrong : ChangeSpec := { name := "fnExactThinRing", fn := fun _ => fun
  | [d1, d2] => { results := [.lit (.bool false)], args := [d1, d2] }
  | _ => none }
def FnExactThinRingWrongFalsely : Prop := fnExactThinRingRow.holds Try.pinned (OpenSpec.ofChange fnExactThinRingWrong)

/- THE SECOND FORM. 'bulk': how many values and letters a reading holds, each counted each time it is reached (what is shared counts as often as it is met; a slice's spare places count too). A statement '..UptoSaid' is the law's where the arguments, and the package variables that the reading takes, are together of bulk at most 1048576: NARROWER than '..Said'. Prove '..Said' where nothing that the law and all that it calls make is longer than what came in: it says more and counts as full. Else prove '..UptoSaid'. A law counts once. -/
mutual
def uptoBulk {H : Type} : DataW H → Nat
  | .lit (.string bytes) => bytes.length + 1
  | .lit _ => 1
  | .nil => 1
  | .ptr d => uptoBulk d + 1
  | .slice elems spare => uptoBulkAll elems + uptoBulkAll spare + 1
  | .agg parts => uptoBulkAll parts + 1
  | .iface _ d => uptoBulk d + 1
  | .map entries => uptoBulkEntries entries + 1
  | .held _ => 1
def uptoBulkAll {H : Type} : List (DataW H) → Nat
  | [] => 0
  | d :: r => uptoBulk d + uptoBulkAll r
def uptoBulkEntries {H : Type} : List (Lit × DataW H) → Nat
  | [] => 0
  | x :: r => uptoBulkEntry x + uptoBulkEntries r
def uptoBulkEntry {H : Type} : Lit × DataW H → Nat
  | (.string bytes, d) => bytes.length + uptoBulk d + 1
  | (_, d) => uptoBulk d + 1
 end
def uptoSmall : (H : Type) → List (DataW H) → Bool := fun _ ds => decide (uptoBulkAll ds ≤ 1048576)
def OpenSpec.upto (s : _root_.Go.ChangeSpec) : _root_.Go.OpenSpec := { _root_.Go.OpenSpec.ofChange s with cond := some uptoSmall }

/-- 'laws.FnExactCubicBounds', WHERE WHAT IT READS IS OF BULK AT MOST 1048576: true; the input reads as it did. -/
def fnExactCubicBoundsUptoRow : OpenClaim := { program := "ytdeemhfhmgnbgaa", sum := "a95cfc015de81b79a00a3faf49996e49b59d8f68e031697b7717b43bea168a85", func := "loop.example/g00883/laws.FnExactCubicBounds", spec := "fnExactCubicBounds", plainKeys := false, apart := false, narrowed := true }
def FnExactCubicBoundsUptoSaid : Prop := fnExactCubicBoundsUptoRow.holds Try.pinned (OpenSpec.upto fnExactCubicBoundsSpec)

/-- 'laws.FnExactJoinRegions', WHERE WHAT IT READS IS OF BULK AT MOST 1048576: true; the input reads as it did. -/
def fnExactJoinRegionsUptoRow : OpenClaim := { program := "ytdeemhfhmgnbgaa", sum := "a95cfc015de81b79a00a3faf49996e49b59d8f68e031697b7717b43bea168a85", func := "loop.example/g00883/laws.FnExactJoinRegions", spec := "fnExactJoinRegions", plainKeys := false, apart := false, narrowed := true }
def FnExactJoinRegionsUptoSaid : Prop := fnExactJoinRegionsUptoRow.holds Try.pinned (OpenSpec.upto fnExactJoinRegionsSpec)

/-- 'laws.FnExactRingTwice', WHERE WHAT IT READS IS OF BULK AT MOST 1048576: true; the input reads as it did. -/
def fnExactRingTwiceUptoRow : OpenClaim := { program := "ytdeemhfhmgnbgaa", sum := "a95cfc015de81b79a00a3faf49996e49b59d8f68e031697b7717b43bea168a85", func := "loop.example/g00883/laws.FnExactRingTwice", spec := "fnExactRingTwice", plainKeys := false, apart := false, narrowed := true }
def FnExactRingTwiceUptoSaid : Prop := fnExactRingTwiceUptoRow.holds Try.pinned (OpenSpec.upto fnExactRingTwiceSpec)

/-- 'laws.FnExactRingBounds', WHERE WHAT IT READS IS OF BULK AT MOST 1048576: true; the input reads as it did. -/
def fnExactRingBoundsUptoRow : OpenClaim := { program := "ytdeemhfhmgnbgaa", sum := "a95cfc015de81b79a00a3faf49996e49b59d8f68e031697b7717b43bea168a85", func := "loop.example/g00883/laws.FnExactRingBounds", spec := "fnExactRingBounds", plainKeys := false, apart := false, narrowed := true }
def FnExactRingBoundsUptoSaid : Prop := fnExactRingBoundsUptoRow.holds Try.pinned (OpenSpec.upto fnExactRingBoundsSpec)

/-- 'laws.FnExactRegionBounds', WHERE WHAT IT READS IS OF BULK AT MOST 1048576: true; the input reads as it did. -/
def fnExactRegionBoundsUptoRow : OpenClaim := { program := "ytdeemhfhmgnbgaa", sum := "a95cfc015de81b79a00a3faf49996e49b59d8f68e031697b7717b43bea168a85", func := "loop.example/g00883/laws.FnExactRegionBounds", spec := "fnExactRegionBounds", plainKeys := false, apart := false, narrowed := true }
def FnExactRegionBoundsUptoSaid : Prop := fnExactRegionBoundsUptoRow.holds Try.pinned (OpenSpec.upto fnExactRegionBoundsSpec)

/-- 'laws.FnExactPointInRing', WHERE WHAT IT READS IS OF BULK AT MOST 1048576: true; the input reads as it did. -/
def fnExactPointInRingUptoRow : OpenClaim := { program := "ytdeemhfhmgnbgaa", sum := "a95cfc015de81b79a00a3faf49996e49b59d8f68e031697b7717b43bea168a85", func := "loop.example/g00883/laws.FnExactPointInRing", spec := "fnExactPointInRing", plainKeys := false, apart := false, narrowed := true }
def FnExactPointInRingUptoSaid : Prop := fnExactPointInRingUptoRow.holds Try.pinned (OpenSpec.upto fnExactPointInRingSpec)

/-- 'laws.FnExactThinRing', WHERE WHAT IT READS IS OF BULK AT MOST 1048576: true; the input reads as it did. -/
def fnExactThinRingUptoRow : OpenClaim := { program := "ytdeemhfhmgnbgaa", sum := "a95cfc015de81b79a00a3faf49996e49b59d8f68e031697b7717b43bea168a85", func := "loop.example/g00883/laws.FnExactThinRing", spec := "fnExactThinRing", recurses := true, plainKeys := false, apart := false, narrowed := true }
def FnExactThinRingUptoSaid : Prop := fnExactThinRingUptoRow.holds Try.pinned (OpenSpec.upto fnExactThinRingSpec)

end Rows
end Go.Proofs.Ytdeemhfhmgnbgaa
