/-
  No cell of these rows narrows 'for every input' (looked for: loops, veiled, ifaces, maps, wideKeys, modest, calm, conditions, laid).
  DERIVED. THE GIVEN ROWS OF THIS SEAT. 9 by the template 'for every input the law returns true; each argument reads behind the call as it read before'; 0 by the template 'total and deterministic' (their statements: YtdikenapnncmfaaTotals.lean).
  GIVEN WITH THE SEED: the statements are not yours to turn. If you find one false, say at which input.
  Laid BY PROGRAM, IN A SANDBOX (cutbox-rows.mjs): the forced cells as the released guide's own fill.sh prints them over the translation 88af572b1f29902d… (all of the seat's roots in one cut). By AI agents, Wed Nov 11 2026. No macro, syntax, notation, axiom, sorry.
-/
import Derived.Test.YtdikenapnncmfaaChecked
import GoSem.Claim
import GoSem.ClaimJoined
import GoSem.ClaimMapViews
import Derived.JoinedTies
import Derived.KernelRfl
namespace Go.Proofs.Ytdikenapnncmfaa
/- THE CELL 'sum', in the pinned program and in every row, IS THE sha256 OF THE DUMP (.gsa) THAT YtdikenapnncmfaaProg.lean LOADS. Nothing in Lean hashes anything: it is a label: what it is worth is what the hold of that sum in a sandbox is worth. -/
noncomputable def Try.pinned : Pinned := { name := "ytdikenapnncmfaa", sum := "88af572b1f29902df5fdfaffd3b557559aa1329d9f637647c443174cca7f2050", checked := Try.checked }
namespace Rows
def none {H : Type} : Left H := { results := [], args := [] }

/-- 'laws.FnExactGlyphUsers': WHATEVER THE INPUT: true; the input reads as it did. -/
def fnExactGlyphUsersSpec : ChangeSpec := { name := "fnExactGlyphUsers", fn := fun _ => fun
  | [d1, d2] => { results := [.lit (.bool true)], args := [d1, d2] }
  | _ => none }
def fnExactGlyphUsersRow : OpenClaim := { program := "ytdikenapnncmfaa", sum := "88af572b1f29902df5fdfaffd3b557559aa1329d9f637647c443174cca7f2050", func := "loop.example/g00883/laws.FnExactGlyphUsers", spec := "fnExactGlyphUsers", unfollowed := true, recurses := true, apart := false }
def FnExactGlyphUsersSaid : Prop := fnExactGlyphUsersRow.holds Try.pinned (OpenSpec.ofChange fnExactGlyphUsersSpec)

/-- ITS FALSE NEIGHBOUR: 'it returns false'. Refute it at one input. -/
def fnExactGlyphUsersWrong : ChangeSpec := { name := "fnExactGlyphUsers", fn := fun _ => fun
  | [d1, d2] => { results := [.lit (.bool false)], args := [d1, d2] }
  | _ => none }
def FnExactGlyphUsersWrongFalsely : Prop := fnExactGlyphUsersRow.holds Try.pinned (OpenSpec.ofChange fnExactGlyphUsersWrong)

/-- 'laws.FnExactAnchorOf': WHATEVER THE INPUT: true; the input reads as it did. -/
def fnExactAnchorOfSpec : ChangeSpec := { name := "fnExactAnchorOf", fn := fun _ => fun
  | [d1, d2, d3] => { results := [.lit (.bool true)], args := [d1, d2, d3] }
  | _ => none }
def fnExactAnchorOfRow : OpenClaim := { program := "ytdikenapnncmfaa", sum := "88af572b1f29902df5fdfaffd3b557559aa1329d9f637647c443174cca7f2050", func := "loop.example/g00883/laws.FnExactAnchorOf", spec := "fnExactAnchorOf", unfollowed := true, recurses := true, apart := false }
def FnExactAnchorOfSaid : Prop := fnExactAnchorOfRow.holds Try.pinned (OpenSpec.ofChange fnExactAnchorOfSpec)

/-- ITS FALSE NEIGHBOUR: 'it returns false'. Refute it at one input. -/
def fnExactAnchorOfWrong : ChangeSpec := { name := "fnExactAnchorOf", fn := fun _ => fun
  | [d1, d2, d3] => { results := [.lit (.bool false)], args := [d1, d2, d3] }
  | _ => none }
def FnExactAnchorOfWrongFalsely : Prop := fnExactAnchorOfRow.holds Try.pinned (OpenSpec.ofChange fnExactAnchorOfWrong)

/-- 'laws.FnExactScaleTo': WHATEVER THE INPUT: true; the input reads as it did. -/
def fnExactScaleToSpec : ChangeSpec := { name := "fnExactScaleTo", fn := fun _ => fun
  | [d1, d2, d3] => { results := [.lit (.bool true)], args := [d1, d2, d3] }
  | _ => none }
def fnExactScaleToRow : OpenClaim := { program := "ytdikenapnncmfaa", sum := "88af572b1f29902df5fdfaffd3b557559aa1329d9f637647c443174cca7f2050", func := "loop.example/g00883/laws.FnExactScaleTo", spec := "fnExactScaleTo", apart := false }
def FnExactScaleToSaid : Prop := fnExactScaleToRow.holds Try.pinned (OpenSpec.ofChange fnExactScaleToSpec)

/-- ITS FALSE NEIGHBOUR: 'it returns false'. Refute it at one input. -/
def fnExactScaleToWrong : ChangeSpec := { name := "fnExactScaleTo", fn := fun _ => fun
  | [d1, d2, d3] => { results := [.lit (.bool false)], args := [d1, d2, d3] }
  | _ => none }
def FnExactScaleToWrongFalsely : Prop := fnExactScaleToRow.holds Try.pinned (OpenSpec.ofChange fnExactScaleToWrong)

/-- 'laws.FnExactScaleBack': WHATEVER THE INPUT: true; the input reads as it did. -/
def fnExactScaleBackSpec : ChangeSpec := { name := "fnExactScaleBack", fn := fun _ => fun
  | [d1, d2, d3] => { results := [.lit (.bool true)], args := [d1, d2, d3] }
  | _ => none }
def fnExactScaleBackRow : OpenClaim := { program := "ytdikenapnncmfaa", sum := "88af572b1f29902df5fdfaffd3b557559aa1329d9f637647c443174cca7f2050", func := "loop.example/g00883/laws.FnExactScaleBack", spec := "fnExactScaleBack", apart := false }
def FnExactScaleBackSaid : Prop := fnExactScaleBackRow.holds Try.pinned (OpenSpec.ofChange fnExactScaleBackSpec)

/-- ITS FALSE NEIGHBOUR: 'it returns false'. Refute it at one input. -/
def fnExactScaleBackWrong : ChangeSpec := { name := "fnExactScaleBack", fn := fun _ => fun
  | [d1, d2, d3] => { results := [.lit (.bool false)], args := [d1, d2, d3] }
  | _ => none }
def FnExactScaleBackWrongFalsely : Prop := fnExactScaleBackRow.holds Try.pinned (OpenSpec.ofChange fnExactScaleBackWrong)

/-- 'laws.FnExactScaleOutline': WHATEVER THE INPUT: true; the input reads as it did. -/
def fnExactScaleOutlineSpec : ChangeSpec := { name := "fnExactScaleOutline", fn := fun _ => fun
  | [d1, d2, d3] => { results := [.lit (.bool true)], args := [d1, d2, d3] }
  | _ => none }
def fnExactScaleOutlineRow : OpenClaim := { program := "ytdikenapnncmfaa", sum := "88af572b1f29902df5fdfaffd3b557559aa1329d9f637647c443174cca7f2050", func := "loop.example/g00883/laws.FnExactScaleOutline", spec := "fnExactScaleOutline", unfollowed := true, recurses := true, apart := false }
def FnExactScaleOutlineSaid : Prop := fnExactScaleOutlineRow.holds Try.pinned (OpenSpec.ofChange fnExactScaleOutlineSpec)

/-- ITS FALSE NEIGHBOUR: 'it returns false'. Refute it at one input. -/
def fnExactScaleOutlineWrong : ChangeSpec := { name := "fnExactScaleOutline", fn := fun _ => fun
  | [d1, d2, d3] => { results := [.lit (.bool false)], args := [d1, d2, d3] }
  | _ => none }
def FnExactScaleOutlineWrongFalsely : Prop := fnExactScaleOutlineRow.holds Try.pinned (OpenSpec.ofChange fnExactScaleOutlineWrong)

/-- 'laws.FnExactMoveOutline': WHATEVER THE INPUT: true; the input reads as it did. -/
def fnExactMoveOutlineSpec : ChangeSpec := { name := "fnExactMoveOutline", fn := fun _ => fun
  | [d1, d2] => { results := [.lit (.bool true)], args := [d1, d2] }
  | _ => none }
def fnExactMoveOutlineRow : OpenClaim := { program := "ytdikenapnncmfaa", sum := "88af572b1f29902df5fdfaffd3b557559aa1329d9f637647c443174cca7f2050", func := "loop.example/g00883/laws.FnExactMoveOutline", spec := "fnExactMoveOutline", unfollowed := true, recurses := true, apart := false }
def FnExactMoveOutlineSaid : Prop := fnExactMoveOutlineRow.holds Try.pinned (OpenSpec.ofChange fnExactMoveOutlineSpec)

/-- ITS FALSE NEIGHBOUR: 'it returns false'. Refute it at one input. -/
def fnExactMoveOutlineWrong : ChangeSpec := { name := "fnExactMoveOutline", fn := fun _ => fun
  | [d1, d2] => { results := [.lit (.bool false)], args := [d1, d2] }
  | _ => none }
def FnExactMoveOutlineWrongFalsely : Prop := fnExactMoveOutlineRow.holds Try.pinned (OpenSpec.ofChange fnExactMoveOutlineWrong)

/-- 'laws.FnExactStartHinter': WHATEVER THE INPUT: true; the input reads as it did. -/
def fnExactStartHinterSpec : ChangeSpec := { name := "fnExactStartHinter", fn := fun _ => fun
  | [d1, d2, d3, d4, d5] => { results := [.lit (.bool true)], args := [d1, d2, d3, d4, d5] }
  | _ => none }
def fnExactStartHinterRow : OpenClaim := { program := "ytdikenapnncmfaa", sum := "88af572b1f29902df5fdfaffd3b557559aa1329d9f637647c443174cca7f2050", func := "loop.example/g00883/laws.FnExactStartHinter", spec := "fnExactStartHinter", unfollowed := true, recurses := true, apart := false }
def FnExactStartHinterSaid : Prop := fnExactStartHinterRow.holds Try.pinned (OpenSpec.ofChange fnExactStartHinterSpec)

/-- ITS FALSE NEIGHBOUR: 'it returns false'. Refute it at one input. -/
def fnExactStartHinterWrong : ChangeSpec := { name := "fnExactStartHinter", fn := fun _ => fun
  | [d1, d2, d3, d4, d5] => { results := [.lit (.bool false)], args := [d1, d2, d3, d4, d5] }
  | _ => none }
def FnExactStartHinterWrongFalsely : Prop := fnExactStartHinterRow.holds Try.pinned (OpenSpec.ofChange fnExactStartHinterWrong)

/-- 'laws.FnExactValidHinter': WHATEVER THE INPUT: true; the input reads as it did. -/
def fnExactValidHinterSpec : ChangeSpec := { name := "fnExactValidHinter", fn := fun _ => fun
  | [d] => { results := [.lit (.bool true)], args := [d] }
  | _ => none }
def fnExactValidHinterRow : OpenClaim := { program := "ytdikenapnncmfaa", sum := "88af572b1f29902df5fdfaffd3b557559aa1329d9f637647c443174cca7f2050", func := "loop.example/g00883/laws.FnExactValidHinter", spec := "fnExactValidHinter", unfollowed := true, recurses := true, apart := false }
def FnExactValidHinterSaid : Prop := fnExactValidHinterRow.holds Try.pinned (OpenSpec.ofChange fnExactValidHinterSpec)

/-- ITS FALSE NEIGHBOUR: 'it returns false'. Refute it at one input. -/
def fnExactValidHinterWrong : ChangeSpec := { name := "fnExactValidHinter", fn := fun _ => fun
  | [d] => { results := [.lit (.bool false)], args := [d] }
  | _ => none }
def FnExactValidHinterWrongFalsely : Prop := fnExactValidHinterRow.holds Try.pinned (OpenSpec.ofChange fnExactValidHinterWrong)

/-- 'laws.FnExactSameHinter': WHATEVER THE INPUT: true; the input reads as it did. -/
def fnExactSameHinterSpec : ChangeSpec := { name := "fnExactSameHinter", fn := fun _ => fun
  | [d1, d2] => { results := [.lit (.bool true)], args := [d1, d2] }
  | _ => none }
def fnExactSameHinterRow : OpenClaim := { program := "ytdikenapnncmfaa", sum := "88af572b1f29902df5fdfaffd3b557559aa1329d9f637647c443174cca7f2050", func := "loop.example/g00883/laws.FnExactSameHinter", spec := "fnExactSameHinter", apart := false }
def FnExactSameHinterSaid : Prop := fnExactSameHinterRow.holds Try.pinned (OpenSpec.ofChange fnExactSameHinterSpec)

/-- ITS FALSE NEIGHBOUR: 'it returns false'. Refute it at one input. -/
def fnExactSameHinterWrong : ChangeSpec := { name := "fnExactSameHinter", fn := fun _ => fun
  | [d1, d2] => { results := [.lit (.bool false)], args := [d1, d2] }
  | _ => none }
def FnExactSameHinterWrongFalsely : Prop := fnExactSameHinterRow.holds Try.pinned (OpenSpec.ofChange fnExactSameHinterWrong)

/- THE SECOND FORM. 'bulk': how many values and letters a reading holds, each counted each time it is reached (what is shared counts as often as it is met; a slice's spare places count too). A statement '..UptoSaid' is the law's where the arguments, and the package variables that the reading takes, are together of bulk at most 1048576: NARROWER than '..Said'. Prove '..Said' where nothing that the law and all that it calls make is longer than what came in: it says more and counts as full. Else prove '..UptoSaid'. A law counts once. -/
mutual
def uptoBulk {H : Type} : DataW H → Nat
  | .lit (.string bytes) => bytes.length + 1
  | .lit _ => 1
  | .nil => 1
  | .ptr d => uptoBulk d + 1
  | .slice elems spare => uptoBulkAll elems + uptoBulkAll spare + 1
  | .agg parts => uptoBulkAll parts + 1
  | .iface _ d => uptoBulk d + 1
  | .map entries => uptoBulkEntries entries + 1
  | .held _ => 1
def uptoBulkAll {H : Type} : List (DataW H) → Nat
  | [] => 0
  | d :: r => uptoBulk d + uptoBulkAll r
def uptoBulkEntries {H : Type} : List (Lit × DataW H) → Nat
  | [] => 0
  | x :: r => uptoBulkEntry x + uptoBulkEntries r
def uptoBulkEntry {H : Type} : Lit × DataW H → Nat
  | (.string bytes, d) => bytes.length + uptoBulk d + 1
  | (_, d) => uptoBulk d + 1
 end
def uptoSmall : (H : Type) → List (DataW H) → Bool := fun _ ds => decide (uptoBulkAll ds ≤ 1048576)
def OpenSpec.upto (s : _root_.Go.ChangeSpec) : _root_.Go.OpenSpec := { _root_.Go.OpenSpec.ofChange s with cond := some uptoSmall }

/-- 'laws.FnExactGlyphUsers', WHERE WHAT IT READS IS OF BULK AT MOST 1048576: true; the input reads as it did. -/
def fnExactGlyphUsersUptoRow : OpenClaim := { program := "ytdikenapnncmfaa", sum := "88af572b1f29902df5fdfaffd3b557559aa1329d9f637647c443174cca7f2050", func := "loop.example/g00883/laws.FnExactGlyphUsers", spec := "fnExactGlyphUsers", unfollowed := true, recurses := true, apart := false, narrowed := true }
def FnExactGlyphUsersUptoSaid : Prop := fnExactGlyphUsersUptoRow.holds Try.pinned (OpenSpec.upto fnExactGlyphUsersSpec)

/-- 'laws.FnExactAnchorOf', WHERE WHAT IT READS IS OF BULK AT MOST 1048576: true; the input reads as it did. -/
def fnExactAnchorOfUptoRow : OpenClaim := { program := "ytdikenapnncmfaa", sum := "88af572b1f29902df5fdfaffd3b557559aa1329d9f637647c443174cca7f2050", func := "loop.example/g00883/laws.FnExactAnchorOf", spec := "fnExactAnchorOf", unfollowed := true, recurses := true, apart := false, narrowed := true }
def FnExactAnchorOfUptoSaid : Prop := fnExactAnchorOfUptoRow.holds Try.pinned (OpenSpec.upto fnExactAnchorOfSpec)

/-- 'laws.FnExactScaleTo', WHERE WHAT IT READS IS OF BULK AT MOST 1048576: true; the input reads as it did. -/
def fnExactScaleToUptoRow : OpenClaim := { program := "ytdikenapnncmfaa", sum := "88af572b1f29902df5fdfaffd3b557559aa1329d9f637647c443174cca7f2050", func := "loop.example/g00883/laws.FnExactScaleTo", spec := "fnExactScaleTo", apart := false, narrowed := true }
def FnExactScaleToUptoSaid : Prop := fnExactScaleToUptoRow.holds Try.pinned (OpenSpec.upto fnExactScaleToSpec)

/-- 'laws.FnExactScaleBack', WHERE WHAT IT READS IS OF BULK AT MOST 1048576: true; the input reads as it did. -/
def fnExactScaleBackUptoRow : OpenClaim := { program := "ytdikenapnncmfaa", sum := "88af572b1f29902df5fdfaffd3b557559aa1329d9f637647c443174cca7f2050", func := "loop.example/g00883/laws.FnExactScaleBack", spec := "fnExactScaleBack", apart := false, narrowed := true }
def FnExactScaleBackUptoSaid : Prop := fnExactScaleBackUptoRow.holds Try.pinned (OpenSpec.upto fnExactScaleBackSpec)

/-- 'laws.FnExactScaleOutline', WHERE WHAT IT READS IS OF BULK AT MOST 1048576: true; the input reads as it did. -/
def fnExactScaleOutlineUptoRow : OpenClaim := { program := "ytdikenapnncmfaa", sum := "88af572b1f29902df5fdfaffd3b557559aa1329d9f637647c443174cca7f2050", func := "loop.example/g00883/laws.FnExactScaleOutline", spec := "fnExactScaleOutline", unfollowed := true, recurses := true, apart := false, narrowed := true }
def FnExactScaleOutlineUptoSaid : Prop := fnExactScaleOutlineUptoRow.holds Try.pinned (OpenSpec.upto fnExactScaleOutlineSpec)

/-- 'laws.FnExactMoveOutline', WHERE WHAT IT READS IS OF BULK AT MOST 1048576: true; the input reads as it did. -/
def fnExactMoveOutlineUptoRow : OpenClaim := { program := "ytdikenapnncmfaa", sum := "88af572b1f29902df5fdfaffd3b557559aa1329d9f637647c443174cca7f2050", func := "loop.example/g00883/laws.FnExactMoveOutline", spec := "fnExactMoveOutline", unfollowed := true, recurses := true, apart := false, narrowed := true }
def FnExactMoveOutlineUptoSaid : Prop := fnExactMoveOutlineUptoRow.holds Try.pinned (OpenSpec.upto fnExactMoveOutlineSpec)

/-- 'laws.FnExactStartHinter', WHERE WHAT IT READS IS OF BULK AT MOST 1048576: true; the input reads as it did. -/
def fnExactStartHinterUptoRow : OpenClaim := { program := "ytdikenapnncmfaa", sum := "88af572b1f29902df5fdfaffd3b557559aa1329d9f637647c443174cca7f2050", func := "loop.example/g00883/laws.FnExactStartHinter", spec := "fnExactStartHinter", unfollowed := true, recurses := true, apart := false, narrowed := true }
def FnExactStartHinterUptoSaid : Prop := fnExactStartHinterUptoRow.holds Try.pinned (OpenSpec.upto fnExactStartHinterSpec)

/-- 'laws.FnExactValidHinter', WHERE WHAT IT READS IS OF BULK AT MOST 1048576: true; the input reads as it did. -/
def fnExactValidHinterUptoRow : OpenClaim := { program := "ytdikenapnncmfaa", sum := "88af572b1f29902df5fdfaffd3b557559aa1329d9f637647c443174cca7f2050", func := "loop.example/g00883/laws.FnExactValidHinter", spec := "fnExactValidHinter", unfollowed := true, recurses := true, apart := false, narrowed := true }
def FnExactValidHinterUptoSaid : Prop := fnExactValidHinterUptoRow.holds Try.pinned (OpenSpec.upto fnExactValidHinterSpec)

/-- 'laws.FnExactSameHinter', WHERE WHAT IT READS IS OF BULK AT MOST 1048576: true; the input reads as it did. -/
def fnExactSameHinterUptoRow : OpenClaim := { program := "ytdikenapnncmfaa", sum := "88af572b1f29902df5fdfaffd3b557559aa1329d9f637647c443174cca7f2050", func := "loop.example/g00883/laws.FnExactSameHinter", spec := "fnExactSameHinter", apart := false, narrowed := true }
def FnExactSameHinterUptoSaid : Prop := fnExactSameHinterUptoRow.holds Try.pinned (OpenSpec.upto fnExactSameHinterSpec)

end Rows
end Go.Proofs.Ytdikenapnncmfaa
