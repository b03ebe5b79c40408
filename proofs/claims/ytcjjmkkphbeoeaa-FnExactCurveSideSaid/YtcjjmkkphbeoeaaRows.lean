/-
  No cell of these rows narrows 'for every input' (looked for: loops, veiled, ifaces, maps, wideKeys, modest, calm, conditions, laid).
  DERIVED. THE GIVEN ROWS OF THIS SEAT. 6 by the template 'for every input the law returns true; each argument reads behind the call as it read before'; 0 by the template 'total and deterministic' (their statements: YtcjjmkkphbeoeaaTotals.lean).
  GIVEN WITH THE SEED: the statements are not yours to turn. If you find one false, say at which input.
  Laid BY PROGRAM, IN A SANDBOX (cutbox-rows.mjs): the forced cells as the released guide's own fill.sh prints them over the translation 3560a5a69693d2bd… (all of the seat's roots in one cut). By AI agents, Wed Nov 11 2026. No macro, syntax, notation, axiom, sorry.
-/
import Derived.Test.YtcjjmkkphbeoeaaChecked
import GoSem.Claim
import GoSem.ClaimJoined
import GoSem.ClaimMapViews
import Derived.JoinedTies
import Derived.KernelRfl
namespace Go.Proofs.Ytcjjmkkphbeoeaa
/- THE CELL 'sum', in the pinned program and in every row, IS THE sha256 OF THE DUMP (.gsa) THAT YtcjjmkkphbeoeaaProg.lean LOADS. Nothing in Lean hashes anything: it is a label: what it is worth is what the hold of that sum in a sandbox is worth. -/
noncomputable def Try.pinned : Pinned := { name := "ytcjjmkkphbeoeaa", sum := "3560a5a69693d2bd59d3aacc74937624a2719c4b37f3a3cf0d3f0b9bc307611c", checked := Try.checked }
namespace Rows
def none {H : Type} : Left H := { results := [], args := [] }

/-- 'laws.FnExactMidPt': WHATEVER THE INPUT: true; the input reads as it did. -/
def fnExactMidPtSpec : ChangeSpec := { name := "fnExactMidPt", fn := fun _ => fun
  | [d1, d2] => { results := [.lit (.bool true)], args := [d1, d2] }
  | _ => none }
def fnExactMidPtRow : OpenClaim := { program := "ytcjjmkkphbeoeaa", sum := "3560a5a69693d2bd59d3aacc74937624a2719c4b37f3a3cf0d3f0b9bc307611c", func := "loop.example/g00883/laws.FnExactMidPt", spec := "fnExactMidPt", apart := false }
def FnExactMidPtSaid : Prop := fnExactMidPtRow.holds Try.pinned (OpenSpec.ofChange fnExactMidPtSpec)

/-- ITS FALSE NEIGHBOUR: 'it returns false'. Refute it at one input. -/
def fnExactMidPtWrong : ChangeSpec := { name := "fnExactMidPt", fn := fun _ => fun
  | [d1, d2] => { results := [.lit (.bool false)], args := [d1, d2] }
  | _ => none }
def FnExactMidPtWrongFalsely : Prop := fnExactMidPtRow.holds Try.pinned (OpenSpec.ofChange fnExactMidPtWrong)

/-- 'laws.FnExactCurveSide': WHATEVER THE INPUT: true; the input reads as it did. -/
def fnExactCurveSideSpec : ChangeSpec := { name := "fnExactCurveSide", fn := fun _ => fun
  | [d1, d2] => { results := [.lit (.bool true)], args := [d1, d2] }
  | _ => none }
def fnExactCurveSideRow : OpenClaim := { program := "ytcjjmkkphbeoeaa", sum := "3560a5a69693d2bd59d3aacc74937624a2719c4b37f3a3cf0d3f0b9bc307611c", func := "loop.example/g00883/laws.FnExactCurveSide", spec := "fnExactCurveSide", apart := false }
def FnExactCurveSideSaid : Prop := fnExactCurveSideRow.holds Try.pinned (OpenSpec.ofChange fnExactCurveSideSpec)

/-- ITS FALSE NEIGHBOUR: 'it returns false'. Refute it at one input. -/
def fnExactCurveSideWrong : ChangeSpec := { name := "fnExactCurveSide", fn := fun _ => fun
  | [d1, d2] => { results := [.lit (.bool false)], args := [d1, d2] }
  | _ => none }
def FnExactCurveSideWrongFalsely : Prop := fnExactCurveSideRow.holds Try.pinned (OpenSpec.ofChange fnExactCurveSideWrong)

/-- 'laws.FnExactCurveRow': WHATEVER THE INPUT: true; the input reads as it did. -/
def fnExactCurveRowSpec : ChangeSpec := { name := "fnExactCurveRow", fn := fun _ => fun
  | [d1, d2] => { results := [.lit (.bool true)], args := [d1, d2] }
  | _ => none }
def fnExactCurveRowRow : OpenClaim := { program := "ytcjjmkkphbeoeaa", sum := "3560a5a69693d2bd59d3aacc74937624a2719c4b37f3a3cf0d3f0b9bc307611c", func := "loop.example/g00883/laws.FnExactCurveRow", spec := "fnExactCurveRow", apart := false }
def FnExactCurveRowSaid : Prop := fnExactCurveRowRow.holds Try.pinned (OpenSpec.ofChange fnExactCurveRowSpec)

/-- ITS FALSE NEIGHBOUR: 'it returns false'. Refute it at one input. -/
def fnExactCurveRowWrong : ChangeSpec := { name := "fnExactCurveRow", fn := fun _ => fun
  | [d1, d2] => { results := [.lit (.bool false)], args := [d1, d2] }
  | _ => none }
def FnExactCurveRowWrongFalsely : Prop := fnExactCurveRowRow.holds Try.pinned (OpenSpec.ofChange fnExactCurveRowWrong)

/-- 'laws.FnExactFlattenCubic': WHATEVER THE INPUT: true; the input reads as it did. -/
def fnExactFlattenCubicSpec : ChangeSpec := { name := "fnExactFlattenCubic", fn := fun _ => fun
  | [d1, d2] => { results := [.lit (.bool true)], args := [d1, d2] }
  | _ => none }
def fnExactFlattenCubicRow : OpenClaim := { program := "ytcjjmkkphbeoeaa", sum := "3560a5a69693d2bd59d3aacc74937624a2719c4b37f3a3cf0d3f0b9bc307611c", func := "loop.example/g00883/laws.FnExactFlattenCubic", spec := "fnExactFlattenCubic", unfollowed := true, recurses := true, apart := false }
def FnExactFlattenCubicSaid : Prop := fnExactFlattenCubicRow.holds Try.pinned (OpenSpec.ofChange fnExactFlattenCubicSpec)

/-- ITS FALSE NEIGHBOUR: 'it returns false'. Refute it at one input. -/
def fnExactFlattenCubicWrong : ChangeSpec := { name := "fnExactFlattenCubic", fn := fun _ => fun
  | [d1, d2] => { results := [.lit (.bool false)], args := [d1, d2] }
  | _ => none }
def FnExactFlattenCubicWrongFalsely : Prop := fnExactFlattenCubicRow.holds Try.pinned (OpenSpec.ofChange fnExactFlattenCubicWrong)

/-- 'laws.FnExactFlattenQuad': WHATEVER THE INPUT: true; the input reads as it did. -/
def fnExactFlattenQuadSpec : ChangeSpec := { name := "fnExactFlattenQuad", fn := fun _ => fun
  | [d1, d2] => { results := [.lit (.bool true)], args := [d1, d2] }
  | _ => none }
def fnExactFlattenQuadRow : OpenClaim := { program := "ytcjjmkkphbeoeaa", sum := "3560a5a69693d2bd59d3aacc74937624a2719c4b37f3a3cf0d3f0b9bc307611c", func := "loop.example/g00883/laws.FnExactFlattenQuad", spec := "fnExactFlattenQuad", unfollowed := true, recurses := true, apart := false }
def FnExactFlattenQuadSaid : Prop := fnExactFlattenQuadRow.holds Try.pinned (OpenSpec.ofChange fnExactFlattenQuadSpec)

/-- ITS FALSE NEIGHBOUR: 'it returns false'. Refute it at one input. -/
def fnExactFlattenQuadWrong : ChangeSpec := { name := "fnExactFlattenQuad", fn := fun _ => fun
  | [d1, d2] => { results := [.lit (.bool false)], args := [d1, d2] }
  | _ => none }
def FnExactFlattenQuadWrongFalsely : Prop := fnExactFlattenQuadRow.holds Try.pinned (OpenSpec.ofChange fnExactFlattenQuadWrong)

/-- 'laws.FnExactCurveScale': WHATEVER THE INPUT: true; the input reads as it did. -/
def fnExactCurveScaleSpec : ChangeSpec := { name := "fnExactCurveScale", fn := fun _ => fun
  | [d] => { results := [.lit (.bool true)], args := [d] }
  | _ => none }
def fnExactCurveScaleRow : OpenClaim := { program := "ytcjjmkkphbeoeaa", sum := "3560a5a69693d2bd59d3aacc74937624a2719c4b37f3a3cf0d3f0b9bc307611c", func := "loop.example/g00883/laws.FnExactCurveScale", spec := "fnExactCurveScale", apart := false }
def FnExactCurveScaleSaid : Prop := fnExactCurveScaleRow.holds Try.pinned (OpenSpec.ofChange fnExactCurveScaleSpec)

/-- ITS FALSE NEIGHBOUR: 'it returns false'. Refute it at one input. -/
def fnExactCurveScaleWrong : ChangeSpec := { name := "fnExactCurveScale", fn := fun _ => fun
  | [d] => { results := [.lit (.bool false)], args := [d] }
  | _ => none }
def FnExactCurveScaleWrongFalsely : Prop := fnExactCurveScaleRow.holds Try.pinned (OpenSpec.ofChange fnExactCurveScaleWrong)

/- THE SECOND FORM. 'bulk': how many values and letters a reading holds, each counted each time it is reached (what is shared counts as often as it is met; a slice's spare places count too). A statement '..UptoSaid' is the law's where the arguments, and the package variables that the reading takes, are together of bulk at most 1048576: NARROWER than '..Said'. Prove '..Said' where nothing that the law and all that it calls make is longer than what came in: it says more and counts as full. Else prove '..UptoSaid'. A law counts once. -/
mutual
def uptoBulk {H : Type} : DataW H → Nat
  | .lit (.string bytes) => bytes.length + 1
  | .lit _ => 1
  | .nil => 1
  | .ptr d => uptoBulk d + 1
  | .slice elems spare => uptoBulkAll elems + uptoBulkAll spare + 1
  | .agg parts => uptoBulkAll parts + 1
  | .iface _ d => uptoBulk d + 1
  | .map entries => uptoBulkEntries entries + 1
  | .held _ => 1
def uptoBulkAll {H : Type} : List (DataW H) → Nat
  | [] => 0
  | d :: r => uptoBulk d + uptoBulkAll r
def uptoBulkEntries {H : Type} : List (Lit × DataW H) → Nat
  | [] => 0
  | x :: r => uptoBulkEntry x + uptoBulkEntries r
def uptoBulkEntry {H : Type} : Lit × DataW H → Nat
  | (.string bytes, d) => bytes.length + uptoBulk d + 1
  | (_, d) => uptoBulk d + 1
 end
def uptoSmall : (H : Type) → List (DataW H) → Bool := fun _ ds => decide (uptoBulkAll ds ≤ 1048576)
def OpenSpec.upto (s : _root_.Go.ChangeSpec) : _root_.Go.OpenSpec := { _root_.Go.OpenSpec.ofChange s with cond := some uptoSmall }

/-- 'laws.FnExactMidPt', WHERE WHAT IT READS IS OF BULK AT MOST 1048576: true; the input reads as it did. -/
def fnExactMidPtUptoRow : OpenClaim := { program := "ytcjjmkkphbeoeaa", sum := "3560a5a69693d2bd59d3aacc74937624a2719c4b37f3a3cf0d3f0b9bc307611c", func := "loop.example/g00883/laws.FnExactMidPt", spec := "fnExactMidPt", apart := false, narrowed := true }
def FnExactMidPtUptoSaid : Prop := fnExactMidPtUptoRow.holds Try.pinned (OpenSpec.upto fnExactMidPtSpec)

/-- 'laws.FnExactCurveSide', WHERE WHAT IT READS IS OF BULK AT MOST 1048576: true; the input reads as it did. -/
def fnExactCurveSideUptoRow : OpenClaim := { program := "ytcjjmkkphbeoeaa", sum := "3560a5a69693d2bd59d3aacc74937624a2719c4b37f3a3cf0d3f0b9bc307611c", func := "loop.example/g00883/laws.FnExactCurveSide", spec := "fnExactCurveSide", apart := false, narrowed := true }
def FnExactCurveSideUptoSaid : Prop := fnExactCurveSideUptoRow.holds Try.pinned (OpenSpec.upto fnExactCurveSideSpec)

/-- 'laws.FnExactCurveRow', WHERE WHAT IT READS IS OF BULK AT MOST 1048576: true; the input reads as it did. -/
def fnExactCurveRowUptoRow : OpenClaim := { program := "ytcjjmkkphbeoeaa", sum := "3560a5a69693d2bd59d3aacc74937624a2719c4b37f3a3cf0d3f0b9bc307611c", func := "loop.example/g00883/laws.FnExactCurveRow", spec := "fnExactCurveRow", apart := false, narrowed := true }
def FnExactCurveRowUptoSaid : Prop := fnExactCurveRowUptoRow.holds Try.pinned (OpenSpec.upto fnExactCurveRowSpec)

/-- 'laws.FnExactFlattenCubic', WHERE WHAT IT READS IS OF BULK AT MOST 1048576: true; the input reads as it did. -/
def fnExactFlattenCubicUptoRow : OpenClaim := { program := "ytcjjmkkphbeoeaa", sum := "3560a5a69693d2bd59d3aacc74937624a2719c4b37f3a3cf0d3f0b9bc307611c", func := "loop.example/g00883/laws.FnExactFlattenCubic", spec := "fnExactFlattenCubic", unfollowed := true, recurses := true, apart := false, narrowed := true }
def FnExactFlattenCubicUptoSaid : Prop := fnExactFlattenCubicUptoRow.holds Try.pinned (OpenSpec.upto fnExactFlattenCubicSpec)

/-- 'laws.FnExactFlattenQuad', WHERE WHAT IT READS IS OF BULK AT MOST 1048576: true; the input reads as it did. -/
def fnExactFlattenQuadUptoRow : OpenClaim := { program := "ytcjjmkkphbeoeaa", sum := "3560a5a69693d2bd59d3aacc74937624a2719c4b37f3a3cf0d3f0b9bc307611c", func := "loop.example/g00883/laws.FnExactFlattenQuad", spec := "fnExactFlattenQuad", unfollowed := true, recurses := true, apart := false, narrowed := true }
def FnExactFlattenQuadUptoSaid : Prop := fnExactFlattenQuadUptoRow.holds Try.pinned (OpenSpec.upto fnExactFlattenQuadSpec)

/-- 'laws.FnExactCurveScale', WHERE WHAT IT READS IS OF BULK AT MOST 1048576: true; the input reads as it did. -/
def fnExactCurveScaleUptoRow : OpenClaim := { program := "ytcjjmkkphbeoeaa", sum := "3560a5a69693d2bd59d3aacc74937624a2719c4b37f3a3cf0d3f0b9bc307611c", func := "loop.example/g00883/laws.FnExactCurveScale", spec := "fnExactCurveScale", apart := false, narrowed := true }
def FnExactCurveScaleUptoSaid : Prop := fnExactCurveScaleUptoRow.holds Try.pinned (OpenSpec.upto fnExactCurveScaleSpec)

end Rows
end Go.Proofs.Ytcjjmkkphbeoeaa
