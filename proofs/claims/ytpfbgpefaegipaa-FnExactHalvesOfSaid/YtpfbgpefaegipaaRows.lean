/-
  No cell of these rows narrows 'for every input' (looked for: loops, veiled, ifaces, maps, wideKeys, modest, calm, conditions, laid).
  DERIVED. THE GIVEN ROWS OF THIS SEAT. 12 by the template 'for every input the law returns true; each argument reads behind the call as it read before'; 0 by the template 'total and deterministic' (their statements: YtpfbgpefaegipaaTotals.lean).
  GIVEN WITH THE SEED: the statements are not yours to turn. If you find one false, say at which input.
  Laid BY PROGRAM, IN A SANDBOX (cutbox-rows.mjs): the forced cells as the released guide's own fill.sh prints them over the translation 263bc048df07e1d4… (all of the seat's roots in one cut). By AI agents, Wed Nov 11 2026. No macro, syntax, notation, axiom, sorry.
-/
import Derived.Test.YtpfbgpefaegipaaChecked
import GoSem.Claim
import GoSem.ClaimJoined
import GoSem.ClaimMapViews
import Derived.JoinedTies
import Derived.KernelRfl
namespace Go.Proofs.Ytpfbgpefaegipaa
/- THE CELL 'sum', in the pinned program and in every row, IS THE sha256 OF THE DUMP (.gsa) THAT YtpfbgpefaegipaaProg.lean LOADS. Nothing in Lean hashes anything: it is a label: what it is worth is what the hold of that sum in a sandbox is worth. -/
noncomputable def Try.pinned : Pinned := { name := "ytpfbgpefaegipaa", sum := "263bc048df07e1d4f743a656e069875a57348f0353306a4a7df12c9f98b5d576", checked := Try.checked }
namespace Rows
def none {H : Type} : Left H := { results := [], args := [] }

/-- 'laws.FnExactValidCubic': WHATEVER THE INPUT: true; the input reads as it did. -/
def fnExactValidCubicSpec : ChangeSpec := { name := "fnExactValidCubic", fn := fun _ => fun
  | [d] => { results := [.lit (.bool true)], args := [d] }
  | _ => none }
def fnExactValidCubicRow : OpenClaim := { program := "ytpfbgpefaegipaa", sum := "263bc048df07e1d4f743a656e069875a57348f0353306a4a7df12c9f98b5d576", func := "loop.example/g00883/laws.FnExactValidCubic", spec := "fnExactValidCubic", apart := false }
def FnExactValidCubicSaid : Prop := fnExactValidCubicRow.holds Try.pinned (OpenSpec.ofChange fnExactValidCubicSpec)

/-- ITS FALSE NEIGHBOUR: 'it returns false'. Refute it at one input. -/
def fnExactValidCubicWrong : ChangeSpec := { name := "fnExactValidCubic", fn := fun _ => fun
  | [d] => { results := [.lit (.bool false)], args := [d] }
  | _ => none }
def FnExactValidCubicWrongFalsely : Prop := fnExactValidCubicRow.holds Try.pinned (OpenSpec.ofChange fnExactValidCubicWrong)

/-- 'laws.FnExactReverseCubic': WHATEVER THE INPUT: true; the input reads as it did. -/
def fnExactReverseCubicSpec : ChangeSpec := { name := "fnExactReverseCubic", fn := fun _ => fun
  | [d] => { results := [.lit (.bool true)], args := [d] }
  | _ => none }
def fnExactReverseCubicRow : OpenClaim := { program := "ytpfbgpefaegipaa", sum := "263bc048df07e1d4f743a656e069875a57348f0353306a4a7df12c9f98b5d576", func := "loop.example/g00883/laws.FnExactReverseCubic", spec := "fnExactReverseCubic", apart := false }
def FnExactReverseCubicSaid : Prop := fnExactReverseCubicRow.holds Try.pinned (OpenSpec.ofChange fnExactReverseCubicSpec)

/-- ITS FALSE NEIGHBOUR: 'it returns false'. Refute it at one input. -/
def fnExactReverseCubicWrong : ChangeSpec := { name := "fnExactReverseCubic", fn := fun _ => fun
  | [d] => { results := [.lit (.bool false)], args := [d] }
  | _ => none }
def FnExactReverseCubicWrongFalsely : Prop := fnExactReverseCubicRow.holds Try.pinned (OpenSpec.ofChange fnExactReverseCubicWrong)

/-- 'laws.FnExactCubicBounds': WHATEVER THE INPUT: true; the input reads as it did. -/
def fnExactCubicBoundsSpec : ChangeSpec := { name := "fnExactCubicBounds", fn := fun _ => fun
  | [d] => { results := [.lit (.bool true)], args := [d] }
  | _ => none }
def fnExactCubicBoundsRow : OpenClaim := { program := "ytpfbgpefaegipaa", sum := "263bc048df07e1d4f743a656e069875a57348f0353306a4a7df12c9f98b5d576", func := "loop.example/g00883/laws.FnExactCubicBounds", spec := "fnExactCubicBounds", apart := false }
def FnExactCubicBoundsSaid : Prop := fnExactCubicBoundsRow.holds Try.pinned (OpenSpec.ofChange fnExactCubicBoundsSpec)

/-- ITS FALSE NEIGHBOUR: 'it returns false'. Refute it at one input. -/
def fnExactCubicBoundsWrong : ChangeSpec := { name := "fnExactCubicBounds", fn := fun _ => fun
  | [d] => { results := [.lit (.bool false)], args := [d] }
  | _ => none }
def FnExactCubicBoundsWrongFalsely : Prop := fnExactCubicBoundsRow.holds Try.pinned (OpenSpec.ofChange fnExactCubicBoundsWrong)

/-- 'laws.FnExactBendOf': WHATEVER THE INPUT: true; the input reads as it did. -/
def fnExactBendOfSpec : ChangeSpec := { name := "fnExactBendOf", fn := fun _ => fun
  | [d] => { results := [.lit (.bool true)], args := [d] }
  | _ => none }
def fnExactBendOfRow : OpenClaim := { program := "ytpfbgpefaegipaa", sum := "263bc048df07e1d4f743a656e069875a57348f0353306a4a7df12c9f98b5d576", func := "loop.example/g00883/laws.FnExactBendOf", spec := "fnExactBendOf", apart := false }
def FnExactBendOfSaid : Prop := fnExactBendOfRow.holds Try.pinned (OpenSpec.ofChange fnExactBendOfSpec)

/-- ITS FALSE NEIGHBOUR: 'it returns false'. Refute it at one input. -/
def fnExactBendOfWrong : ChangeSpec := { name := "fnExactBendOf", fn := fun _ => fun
  | [d] => { results := [.lit (.bool false)], args := [d] }
  | _ => none }
def FnExactBendOfWrongFalsely : Prop := fnExactBendOfRow.holds Try.pinned (OpenSpec.ofChange fnExactBendOfWrong)

/-- 'laws.FnExactLevelFor': WHATEVER THE INPUT: true; the input reads as it did. -/
def fnExactLevelForSpec : ChangeSpec := { name := "fnExactLevelFor", fn := fun _ => fun
  | [d1, d2] => { results := [.lit (.bool true)], args := [d1, d2] }
  | _ => none }
def fnExactLevelForRow : OpenClaim := { program := "ytpfbgpefaegipaa", sum := "263bc048df07e1d4f743a656e069875a57348f0353306a4a7df12c9f98b5d576", func := "loop.example/g00883/laws.FnExactLevelFor", spec := "fnExactLevelFor", apart := false }
def FnExactLevelForSaid : Prop := fnExactLevelForRow.holds Try.pinned (OpenSpec.ofChange fnExactLevelForSpec)

/-- ITS FALSE NEIGHBOUR: 'it returns false'. Refute it at one input. -/
def fnExactLevelForWrong : ChangeSpec := { name := "fnExactLevelFor", fn := fun _ => fun
  | [d1, d2] => { results := [.lit (.bool false)], args := [d1, d2] }
  | _ => none }
def FnExactLevelForWrongFalsely : Prop := fnExactLevelForRow.holds Try.pinned (OpenSpec.ofChange fnExactLevelForWrong)

/-- 'laws.FnExactHalvesOf': WHATEVER THE INPUT: true; the input reads as it did. -/
def fnExactHalvesOfSpec : ChangeSpec := { name := "fnExactHalvesOf", fn := fun _ => fun
  | [d] => { results := [.lit (.bool true)], args := [d] }
  | _ => none }
def fnExactHalvesOfRow : OpenClaim := { program := "ytpfbgpefaegipaa", sum := "263bc048df07e1d4f743a656e069875a57348f0353306a4a7df12c9f98b5d576", func := "loop.example/g00883/laws.FnExactHalvesOf", spec := "fnExactHalvesOf", apart := false }
def FnExactHalvesOfSaid : Prop := fnExactHalvesOfRow.holds Try.pinned (OpenSpec.ofChange fnExactHalvesOfSpec)

/-- ITS FALSE NEIGHBOUR: 'it returns false'. Refute it at one input. -/
def fnExactHalvesOfWrong : ChangeSpec := { name := "fnExactHalvesOf", fn := fun _ => fun
  | [d] => { results := [.lit (.bool false)], args := [d] }
  | _ => none }
def FnExactHalvesOfWrongFalsely : Prop := fnExactHalvesOfRow.holds Try.pinned (OpenSpec.ofChange fnExactHalvesOfWrong)

/-- 'laws.FnExactCubicAt': WHATEVER THE INPUT: true; the input reads as it did. -/
def fnExactCubicAtSpec : ChangeSpec := { name := "fnExactCubicAt", fn := fun _ => fun
  | [d1, d2, d3] => { results := [.lit (.bool true)], args := [d1, d2, d3] }
  | _ => none }
def fnExactCubicAtRow : OpenClaim := { program := "ytpfbgpefaegipaa", sum := "263bc048df07e1d4f743a656e069875a57348f0353306a4a7df12c9f98b5d576", func := "loop.example/g00883/laws.FnExactCubicAt", spec := "fnExactCubicAt", apart := false }
def FnExactCubicAtSaid : Prop := fnExactCubicAtRow.holds Try.pinned (OpenSpec.ofChange fnExactCubicAtSpec)

/-- ITS FALSE NEIGHBOUR: 'it returns false'. Refute it at one input. -/
def fnExactCubicAtWrong : ChangeSpec := { name := "fnExactCubicAt", fn := fun _ => fun
  | [d1, d2, d3] => { results := [.lit (.bool false)], args := [d1, d2, d3] }
  | _ => none }
def FnExactCubicAtWrongFalsely : Prop := fnExactCubicAtRow.holds Try.pinned (OpenSpec.ofChange fnExactCubicAtWrong)

/-- 'laws.FnExactQuadAt': WHATEVER THE INPUT: true; the input reads as it did. -/
def fnExactQuadAtSpec : ChangeSpec := { name := "fnExactQuadAt", fn := fun _ => fun
  | [d1, d2, d3] => { results := [.lit (.bool true)], args := [d1, d2, d3] }
  | _ => none }
def fnExactQuadAtRow : OpenClaim := { program := "ytpfbgpefaegipaa", sum := "263bc048df07e1d4f743a656e069875a57348f0353306a4a7df12c9f98b5d576", func := "loop.example/g00883/laws.FnExactQuadAt", spec := "fnExactQuadAt", apart := false }
def FnExactQuadAtSaid : Prop := fnExactQuadAtRow.holds Try.pinned (OpenSpec.ofChange fnExactQuadAtSpec)

/-- ITS FALSE NEIGHBOUR: 'it returns false'. Refute it at one input. -/
def fnExactQuadAtWrong : ChangeSpec := { name := "fnExactQuadAt", fn := fun _ => fun
  | [d1, d2, d3] => { results := [.lit (.bool false)], args := [d1, d2, d3] }
  | _ => none }
def FnExactQuadAtWrongFalsely : Prop := fnExactQuadAtRow.holds Try.pinned (OpenSpec.ofChange fnExactQuadAtWrong)

/-- 'laws.FnExactValidLoop': WHATEVER THE INPUT: true; the input reads as it did. -/
def fnExactValidLoopSpec : ChangeSpec := { name := "fnExactValidLoop", fn := fun _ => fun
  | [d] => { results := [.lit (.bool true)], args := [d] }
  | _ => none }
def fnExactValidLoopRow : OpenClaim := { program := "ytpfbgpefaegipaa", sum := "263bc048df07e1d4f743a656e069875a57348f0353306a4a7df12c9f98b5d576", func := "loop.example/g00883/laws.FnExactValidLoop", spec := "fnExactValidLoop", apart := false }
def FnExactValidLoopSaid : Prop := fnExactValidLoopRow.holds Try.pinned (OpenSpec.ofChange fnExactValidLoopSpec)

/-- ITS FALSE NEIGHBOUR: 'it returns false'. Refute it at one input. -/
def fnExactValidLoopWrong : ChangeSpec := { name := "fnExactValidLoop", fn := fun _ => fun
  | [d] => { results := [.lit (.bool false)], args := [d] }
  | _ => none }
def FnExactValidLoopWrongFalsely : Prop := fnExactValidLoopRow.holds Try.pinned (OpenSpec.ofChange fnExactValidLoopWrong)

/-- 'laws.FnExactValidOutline': WHATEVER THE INPUT: true; the input reads as it did. -/
def fnExactValidOutlineSpec : ChangeSpec := { name := "fnExactValidOutline", fn := fun _ => fun
  | [d] => { results := [.lit (.bool true)], args := [d] }
  | _ => none }
def fnExactValidOutlineRow : OpenClaim := { program := "ytpfbgpefaegipaa", sum := "263bc048df07e1d4f743a656e069875a57348f0353306a4a7df12c9f98b5d576", func := "loop.example/g00883/laws.FnExactValidOutline", spec := "fnExactValidOutline", apart := false }
def FnExactValidOutlineSaid : Prop := fnExactValidOutlineRow.holds Try.pinned (OpenSpec.ofChange fnExactValidOutlineSpec)

/-- ITS FALSE NEIGHBOUR: 'it returns false'. Refute it at one input. -/
def fnExactValidOutlineWrong : ChangeSpec := { name := "fnExactValidOutline", fn := fun _ => fun
  | [d] => { results := [.lit (.bool false)], args := [d] }
  | _ => none }
def FnExactValidOutlineWrongFalsely : Prop := fnExactValidOutlineRow.holds Try.pinned (OpenSpec.ofChange fnExactValidOutlineWrong)

/-- 'laws.FnExactSameOutline': WHATEVER THE INPUT: true; the input reads as it did. -/
def fnExactSameOutlineSpec : ChangeSpec := { name := "fnExactSameOutline", fn := fun _ => fun
  | [d1, d2] => { results := [.lit (.bool true)], args := [d1, d2] }
  | _ => none }
def fnExactSameOutlineRow : OpenClaim := { program := "ytpfbgpefaegipaa", sum := "263bc048df07e1d4f743a656e069875a57348f0353306a4a7df12c9f98b5d576", func := "loop.example/g00883/laws.FnExactSameOutline", spec := "fnExactSameOutline", unfollowed := true, recurses := true, apart := false }
def FnExactSameOutlineSaid : Prop := fnExactSameOutlineRow.holds Try.pinned (OpenSpec.ofChange fnExactSameOutlineSpec)

/-- ITS FALSE NEIGHBOUR: 'it returns false'. Refute it at one input. -/
def fnExactSameOutlineWrong : ChangeSpec := { name := "fnExactSameOutline", fn := fun _ => fun
  | [d1, d2] => { results := [.lit (.bool false)], args := [d1, d2] }
  | _ => none }
def FnExactSameOutlineWrongFalsely : Prop := fnExactSameOutlineRow.holds Try.pinned (OpenSpec.ofChange fnExactSameOutlineWrong)

/-- 'laws.FnExactReverseOutline': WHATEVER THE INPUT: true; the input reads as it did. -/
def fnExactReverseOutlineSpec : ChangeSpec := { name := "fnExactReverseOutline", fn := fun _ => fun
  | [d] => { results := [.lit (.bool true)], args := [d] }
  | _ => none }
def fnExactReverseOutlineRow : OpenClaim := { program := "ytpfbgpefaegipaa", sum := "263bc048df07e1d4f743a656e069875a57348f0353306a4a7df12c9f98b5d576", func := "loop.example/g00883/laws.FnExactReverseOutline", spec := "fnExactReverseOutline", apart := false }
def FnExactReverseOutlineSaid : Prop := fnExactReverseOutlineRow.holds Try.pinned (OpenSpec.ofChange fnExactReverseOutlineSpec)

/-- ITS FALSE NEIGHBOUR: 'it returns false'. Refute it at one input. -/
def fnExactReverseOutlineWrong : ChangeSpec := { name := "fnExactReverseOutline", fn := fun _ => fun
  | [d] => { results := [.lit (.bool false)], args := [d] }
  | _ => none }
def FnExactReverseOutlineWrongFalsely : Prop := fnExactReverseOutlineRow.holds Try.pinned (OpenSpec.ofChange fnExactReverseOutlineWrong)

/- THE SECOND FORM. 'bulk': how many values and letters a reading holds, each counted each time it is reached (what is shared counts as often as it is met; a slice's spare places count too). A statement '..UptoSaid' is the law's where the arguments, and the package variables that the reading takes, are together of bulk at most 1048576: NARROWER than '..Said'. Prove '..Said' where nothing that the law and all that it calls make is longer than what came in: it says more and counts as full. Else prove '..UptoSaid'. A law counts once. -/
mutual
def uptoBulk {H : Type} : DataW H → Nat
  | .lit (.string bytes) => bytes.length + 1
  | .lit _ => 1
  | .nil => 1
  | .ptr d => uptoBulk d + 1
  | .slice elems spare => uptoBulkAll elems + uptoBulkAll spare + 1
  | .agg parts => uptoBulkAll parts + 1
  | .iface _ d => uptoBulk d + 1
  | .map entries => uptoBulkEntries entries + 1
  | .held _ => 1
def uptoBulkAll {H : Type} : List (DataW H) → Nat
  | [] => 0
  | d :: r => uptoBulk d + uptoBulkAll r
def uptoBulkEntries {H : Type} : List (Lit × DataW H) → Nat
  | [] => 0
  | x :: r => uptoBulkEntry x + uptoBulkEntries r
def uptoBulkEntry {H : Type} : Lit × DataW H → Nat
  | (.string bytes, d) => bytes.length + uptoBulk d + 1
  | (_, d) => uptoBulk d + 1
 end
def uptoSmall : (H : Type) → List (DataW H) → Bool := fun _ ds => decide (uptoBulkAll ds ≤ 1048576)
def OpenSpec.upto (s : _root_.Go.ChangeSpec) : _root_.Go.OpenSpec := { _root_.Go.OpenSpec.ofChange s with cond := some uptoSmall }

/-- 'laws.FnExactValidCubic', WHERE WHAT IT READS IS OF BULK AT MOST 1048576: true; the input reads as it did. -/
def fnExactValidCubicUptoRow : OpenClaim := { program := "ytpfbgpefaegipaa", sum := "263bc048df07e1d4f743a656e069875a57348f0353306a4a7df12c9f98b5d576", func := "loop.example/g00883/laws.FnExactValidCubic", spec := "fnExactValidCubic", apart := false, narrowed := true }
def FnExactValidCubicUptoSaid : Prop := fnExactValidCubicUptoRow.holds Try.pinned (OpenSpec.upto fnExactValidCubicSpec)

/-- 'laws.FnExactReverseCubic', WHERE WHAT IT READS IS OF BULK AT MOST 1048576: true; the input reads as it did. -/
def fnExactReverseCubicUptoRow : OpenClaim := { program := "ytpfbgpefaegipaa", sum := "263bc048df07e1d4f743a656e069875a57348f0353306a4a7df12c9f98b5d576", func := "loop.example/g00883/laws.FnExactReverseCubic", spec := "fnExactReverseCubic", apart := false, narrowed := true }
def FnExactReverseCubicUptoSaid : Prop := fnExactReverseCubicUptoRow.holds Try.pinned (OpenSpec.upto fnExactReverseCubicSpec)

/-- 'laws.FnExactCubicBounds', WHERE WHAT IT READS IS OF BULK AT MOST 1048576: true; the input reads as it did. -/
def fnExactCubicBoundsUptoRow : OpenClaim := { program := "ytpfbgpefaegipaa", sum := "263bc048df07e1d4f743a656e069875a57348f0353306a4a7df12c9f98b5d576", func := "loop.example/g00883/laws.FnExactCubicBounds", spec := "fnExactCubicBounds", apart := false, narrowed := true }
def FnExactCubicBoundsUptoSaid : Prop := fnExactCubicBoundsUptoRow.holds Try.pinned (OpenSpec.upto fnExactCubicBoundsSpec)

/-- 'laws.FnExactBendOf', WHERE WHAT IT READS IS OF BULK AT MOST 1048576: true; the input reads as it did. -/
def fnExactBendOfUptoRow : OpenClaim := { program := "ytpfbgpefaegipaa", sum := "263bc048df07e1d4f743a656e069875a57348f0353306a4a7df12c9f98b5d576", func := "loop.example/g00883/laws.FnExactBendOf", spec := "fnExactBendOf", apart := false, narrowed := true }
def FnExactBendOfUptoSaid : Prop := fnExactBendOfUptoRow.holds Try.pinned (OpenSpec.upto fnExactBendOfSpec)

/-- 'laws.FnExactLevelFor', WHERE WHAT IT READS IS OF BULK AT MOST 1048576: true; the input reads as it did. -/
def fnExactLevelForUptoRow : OpenClaim := { program := "ytpfbgpefaegipaa", sum := "263bc048df07e1d4f743a656e069875a57348f0353306a4a7df12c9f98b5d576", func := "loop.example/g00883/laws.FnExactLevelFor", spec := "fnExactLevelFor", apart := false, narrowed := true }
def FnExactLevelForUptoSaid : Prop := fnExactLevelForUptoRow.holds Try.pinned (OpenSpec.upto fnExactLevelForSpec)

/-- 'laws.FnExactHalvesOf', WHERE WHAT IT READS IS OF BULK AT MOST 1048576: true; the input reads as it did. -/
def fnExactHalvesOfUptoRow : OpenClaim := { program := "ytpfbgpefaegipaa", sum := "263bc048df07e1d4f743a656e069875a57348f0353306a4a7df12c9f98b5d576", func := "loop.example/g00883/laws.FnExactHalvesOf", spec := "fnExactHalvesOf", apart := false, narrowed := true }
def FnExactHalvesOfUptoSaid : Prop := fnExactHalvesOfUptoRow.holds Try.pinned (OpenSpec.upto fnExactHalvesOfSpec)

/-- 'laws.FnExactCubicAt', WHERE WHAT IT READS IS OF BULK AT MOST 1048576: true; the input reads as it did. -/
def fnExactCubicAtUptoRow : OpenClaim := { program := "ytpfbgpefaegipaa", sum := "263bc048df07e1d4f743a656e069875a57348f0353306a4a7df12c9f98b5d576", func := "loop.example/g00883/laws.FnExactCubicAt", spec := "fnExactCubicAt", apart := false, narrowed := true }
def FnExactCubicAtUptoSaid : Prop := fnExactCubicAtUptoRow.holds Try.pinned (OpenSpec.upto fnExactCubicAtSpec)

/-- 'laws.FnExactQuadAt', WHERE WHAT IT READS IS OF BULK AT MOST 1048576: true; the input reads as it did. -/
def fnExactQuadAtUptoRow : OpenClaim := { program := "ytpfbgpefaegipaa", sum := "263bc048df07e1d4f743a656e069875a57348f0353306a4a7df12c9f98b5d576", func := "loop.example/g00883/laws.FnExactQuadAt", spec := "fnExactQuadAt", apart := false, narrowed := true }
def FnExactQuadAtUptoSaid : Prop := fnExactQuadAtUptoRow.holds Try.pinned (OpenSpec.upto fnExactQuadAtSpec)

/-- 'laws.FnExactValidLoop', WHERE WHAT IT READS IS OF BULK AT MOST 1048576: true; the input reads as it did. -/
def fnExactValidLoopUptoRow : OpenClaim := { program := "ytpfbgpefaegipaa", sum := "263bc048df07e1d4f743a656e069875a57348f0353306a4a7df12c9f98b5d576", func := "loop.example/g00883/laws.FnExactValidLoop", spec := "fnExactValidLoop", apart := false, narrowed := true }
def FnExactValidLoopUptoSaid : Prop := fnExactValidLoopUptoRow.holds Try.pinned (OpenSpec.upto fnExactValidLoopSpec)

/-- 'laws.FnExactValidOutline', WHERE WHAT IT READS IS OF BULK AT MOST 1048576: true; the input reads as it did. -/
def fnExactValidOutlineUptoRow : OpenClaim := { program := "ytpfbgpefaegipaa", sum := "263bc048df07e1d4f743a656e069875a57348f0353306a4a7df12c9f98b5d576", func := "loop.example/g00883/laws.FnExactValidOutline", spec := "fnExactValidOutline", apart := false, narrowed := true }
def FnExactValidOutlineUptoSaid : Prop := fnExactValidOutlineUptoRow.holds Try.pinned (OpenSpec.upto fnExactValidOutlineSpec)

/-- 'laws.FnExactSameOutline', WHERE WHAT IT READS IS OF BULK AT MOST 1048576: true; the input reads as it did. -/
def fnExactSameOutlineUptoRow : OpenClaim := { program := "ytpfbgpefaegipaa", sum := "263bc048df07e1d4f743a656e069875a57348f0353306a4a7df12c9f98b5d576", func := "loop.example/g00883/laws.FnExactSameOutline", spec := "fnExactSameOutline", unfollowed := true, recurses := true, apart := false, narrowed := true }
def FnExactSameOutlineUptoSaid : Prop := fnExactSameOutlineUptoRow.holds Try.pinned (OpenSpec.upto fnExactSameOutlineSpec)

/-- 'laws.FnExactReverseOutline', WHERE WHAT IT READS IS OF BULK AT MOST 1048576: true; the input reads as it did. -/
def fnExactReverseOutlineUptoRow : OpenClaim := { program := "ytpfbgpefaegipaa", sum := "263bc048df07e1d4f743a656e069875a57348f0353306a4a7df12c9f98b5d576", func := "loop.example/g00883/laws.FnExactReverseOutline", spec := "fnExactReverseOutline", apart := false, narrowed := true }
def FnExactReverseOutlineUptoSaid : Prop := fnExactReverseOutlineUptoRow.holds Try.pinned (OpenSpec.upto fnExactReverseOutlineSpec)

end Rows
end Go.Proofs.Ytpfbgpefaegipaa
