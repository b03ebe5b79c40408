/-
  No cell of these rows narrows 'for every input' (looked for: loops, veiled, ifaces, maps, wideKeys, modest, calm, conditions, laid).
  DERIVED. THE GIVEN ROWS OF THIS SEAT. 10 by the template 'for every input the law returns true; each argument reads behind the call as it read before'; 0 by the template 'total and deterministic' (their statements: YtelefmogmloniaaTotals.lean).
  GIVEN WITH THE SEED: the statements are not yours to turn. If you find one false, say at which input.
  Laid BY PROGRAM, IN A SANDBOX (cutbox-rows.mjs): the forced cells as the released guide's own fill.sh prints them over the translation 4b6c27f4dd9390a1… (all of the seat's roots in one cut). By AI agents, Wed Nov 11 2026. No macro, syntax, notation, axiom, sorry.
-/
import Derived.Test.YtelefmogmloniaaChecked
import GoSem.Claim
import GoSem.ClaimJoined
import GoSem.ClaimMapViews
import Derived.JoinedTies
import Derived.KernelRfl
namespace Go.Proofs.Ytelefmogmloniaa
/- THE CELL 'sum', in the pinned program and in every row, IS THE sha256 OF THE DUMP (.gsa) THAT YtelefmogmloniaaProg.lean LOADS. Nothing in Lean hashes anything: it is a label: what it is worth is what the hold of that sum in a sandbox is worth. -/
noncomputable def Try.pinned : Pinned := { name := "ytelefmogmloniaa", sum := "4b6c27f4dd9390a132ee31a855cb6de62e7499f388e9f5fd2e4e11f6dff057d6", checked := Try.checked }
namespace Rows
def none {H : Type} : Left H := { results := [], args := [] }

/-- 'laws.FnExactValidGlyph': WHATEVER THE INPUT: true; the input reads as it did. -/
def fnExactValidGlyphSpec : ChangeSpec := { name := "fnExactValidGlyph", fn := fun _ => fun
  | [d] => { results := [.lit (.bool true)], args := [d] }
  | _ => none }
def fnExactValidGlyphRow : OpenClaim := { program := "ytelefmogmloniaa", sum := "4b6c27f4dd9390a132ee31a855cb6de62e7499f388e9f5fd2e4e11f6dff057d6", func := "loop.example/g00883/laws.FnExactValidGlyph", spec := "fnExactValidGlyph", unfollowed := true, recurses := true, apart := false }
def FnExactValidGlyphSaid : Prop := fnExactValidGlyphRow.holds Try.pinned (OpenSpec.ofChange fnExactValidGlyphSpec)

/-- ITS FALSE NEIGHBOUR: 'it returns false'. Refute it at one input. -/
def fnExactValidGlyphWrong : ChangeSpec := { name := "fnExactValidGlyph", fn := fun _ => fun
  | [d] => { results := [.lit (.bool false)], args := [d] }
  | _ => none }
def FnExactValidGlyphWrongFalsely : Prop := fnExactValidGlyphRow.holds Try.pinned (OpenSpec.ofChange fnExactValidGlyphWrong)

/-- 'laws.FnExactSameGlyph': WHATEVER THE INPUT: true; the input reads as it did. -/
def fnExactSameGlyphSpec : ChangeSpec := { name := "fnExactSameGlyph", fn := fun _ => fun
  | [d1, d2] => { results := [.lit (.bool true)], args := [d1, d2] }
  | _ => none }
def fnExactSameGlyphRow : OpenClaim := { program := "ytelefmogmloniaa", sum := "4b6c27f4dd9390a132ee31a855cb6de62e7499f388e9f5fd2e4e11f6dff057d6", func := "loop.example/g00883/laws.FnExactSameGlyph", spec := "fnExactSameGlyph", unfollowed := true, recurses := true, apart := false }
def FnExactSameGlyphSaid : Prop := fnExactSameGlyphRow.holds Try.pinned (OpenSpec.ofChange fnExactSameGlyphSpec)

/-- ITS FALSE NEIGHBOUR: 'it returns false'. Refute it at one input. -/
def fnExactSameGlyphWrong : ChangeSpec := { name := "fnExactSameGlyph", fn := fun _ => fun
  | [d1, d2] => { results := [.lit (.bool false)], args := [d1, d2] }
  | _ => none }
def FnExactSameGlyphWrongFalsely : Prop := fnExactSameGlyphRow.holds Try.pinned (OpenSpec.ofChange fnExactSameGlyphWrong)

/-- 'laws.FnExactSameGlyphSet': WHATEVER THE INPUT: true; the input reads as it did. -/
def fnExactSameGlyphSetSpec : ChangeSpec := { name := "fnExactSameGlyphSet", fn := fun _ => fun
  | [d1, d2] => { results := [.lit (.bool true)], args := [d1, d2] }
  | _ => none }
def fnExactSameGlyphSetRow : OpenClaim := { program := "ytelefmogmloniaa", sum := "4b6c27f4dd9390a132ee31a855cb6de62e7499f388e9f5fd2e4e11f6dff057d6", func := "loop.example/g00883/laws.FnExactSameGlyphSet", spec := "fnExactSameGlyphSet", unfollowed := true, recurses := true, apart := false }
def FnExactSameGlyphSetSaid : Prop := fnExactSameGlyphSetRow.holds Try.pinned (OpenSpec.ofChange fnExactSameGlyphSetSpec)

/-- ITS FALSE NEIGHBOUR: 'it returns false'. Refute it at one input. -/
def fnExactSameGlyphSetWrong : ChangeSpec := { name := "fnExactSameGlyphSet", fn := fun _ => fun
  | [d1, d2] => { results := [.lit (.bool false)], args := [d1, d2] }
  | _ => none }
def FnExactSameGlyphSetWrongFalsely : Prop := fnExactSameGlyphSetRow.holds Try.pinned (OpenSpec.ofChange fnExactSameGlyphSetWrong)

/-- 'laws.FnExactNewScene': WHATEVER THE INPUT: true; the input reads as it did. -/
def fnExactNewSceneSpec : ChangeSpec := { name := "fnExactNewScene", fn := fun _ => fun
  | [d] => { results := [.lit (.bool true)], args := [d] }
  | _ => none }
def fnExactNewSceneRow : OpenClaim := { program := "ytelefmogmloniaa", sum := "4b6c27f4dd9390a132ee31a855cb6de62e7499f388e9f5fd2e4e11f6dff057d6", func := "loop.example/g00883/laws.FnExactNewScene", spec := "fnExactNewScene", apart := false }
def FnExactNewSceneSaid : Prop := fnExactNewSceneRow.holds Try.pinned (OpenSpec.ofChange fnExactNewSceneSpec)

/-- ITS FALSE NEIGHBOUR: 'it returns false'. Refute it at one input. -/
def fnExactNewSceneWrong : ChangeSpec := { name := "fnExactNewScene", fn := fun _ => fun
  | [d] => { results := [.lit (.bool false)], args := [d] }
  | _ => none }
def FnExactNewSceneWrongFalsely : Prop := fnExactNewSceneRow.holds Try.pinned (OpenSpec.ofChange fnExactNewSceneWrong)

/-- 'laws.FnExactValidGlyphSet': WHATEVER THE INPUT: true; the input reads as it did. -/
def fnExactValidGlyphSetSpec : ChangeSpec := { name := "fnExactValidGlyphSet", fn := fun _ => fun
  | [d] => { results := [.lit (.bool true)], args := [d] }
  | _ => none }
def fnExactValidGlyphSetRow : OpenClaim := { program := "ytelefmogmloniaa", sum := "4b6c27f4dd9390a132ee31a855cb6de62e7499f388e9f5fd2e4e11f6dff057d6", func := "loop.example/g00883/laws.FnExactValidGlyphSet", spec := "fnExactValidGlyphSet", unfollowed := true, recurses := true, apart := false }
def FnExactValidGlyphSetSaid : Prop := fnExactValidGlyphSetRow.holds Try.pinned (OpenSpec.ofChange fnExactValidGlyphSetSpec)

/-- ITS FALSE NEIGHBOUR: 'it returns false'. Refute it at one input. -/
def fnExactValidGlyphSetWrong : ChangeSpec := { name := "fnExactValidGlyphSet", fn := fun _ => fun
  | [d] => { results := [.lit (.bool false)], args := [d] }
  | _ => none }
def FnExactValidGlyphSetWrongFalsely : Prop := fnExactValidGlyphSetRow.holds Try.pinned (OpenSpec.ofChange fnExactValidGlyphSetWrong)

/-- 'laws.FnExactGlyphNamed': WHATEVER THE INPUT: true; the input reads as it did. -/
def fnExactGlyphNamedSpec : ChangeSpec := { name := "fnExactGlyphNamed", fn := fun _ => fun
  | [d1, d2] => { results := [.lit (.bool true)], args := [d1, d2] }
  | _ => none }
def fnExactGlyphNamedRow : OpenClaim := { program := "ytelefmogmloniaa", sum := "4b6c27f4dd9390a132ee31a855cb6de62e7499f388e9f5fd2e4e11f6dff057d6", func := "loop.example/g00883/laws.FnExactGlyphNamed", spec := "fnExactGlyphNamed", unfollowed := true, recurses := true, apart := false }
def FnExactGlyphNamedSaid : Prop := fnExactGlyphNamedRow.holds Try.pinned (OpenSpec.ofChange fnExactGlyphNamedSpec)

/-- ITS FALSE NEIGHBOUR: 'it returns false'. Refute it at one input. -/
def fnExactGlyphNamedWrong : ChangeSpec := { name := "fnExactGlyphNamed", fn := fun _ => fun
  | [d1, d2] => { results := [.lit (.bool false)], args := [d1, d2] }
  | _ => none }
def FnExactGlyphNamedWrongFalsely : Prop := fnExactGlyphNamedRow.holds Try.pinned (OpenSpec.ofChange fnExactGlyphNamedWrong)

/-- 'laws.FnExactGlyphOfChar': WHATEVER THE INPUT: true; the input reads as it did. -/
def fnExactGlyphOfCharSpec : ChangeSpec := { name := "fnExactGlyphOfChar", fn := fun _ => fun
  | [d1, d2] => { results := [.lit (.bool true)], args := [d1, d2] }
  | _ => none }
def fnExactGlyphOfCharRow : OpenClaim := { program := "ytelefmogmloniaa", sum := "4b6c27f4dd9390a132ee31a855cb6de62e7499f388e9f5fd2e4e11f6dff057d6", func := "loop.example/g00883/laws.FnExactGlyphOfChar", spec := "fnExactGlyphOfChar", unfollowed := true, recurses := true, apart := false }
def FnExactGlyphOfCharSaid : Prop := fnExactGlyphOfCharRow.holds Try.pinned (OpenSpec.ofChange fnExactGlyphOfCharSpec)

/-- ITS FALSE NEIGHBOUR: 'it returns false'. Refute it at one input. -/
def fnExactGlyphOfCharWrong : ChangeSpec := { name := "fnExactGlyphOfChar", fn := fun _ => fun
  | [d1, d2] => { results := [.lit (.bool false)], args := [d1, d2] }
  | _ => none }
def FnExactGlyphOfCharWrongFalsely : Prop := fnExactGlyphOfCharRow.holds Try.pinned (OpenSpec.ofChange fnExactGlyphOfCharWrong)

/-- 'laws.FnExactGlyphUsers': WHATEVER THE INPUT: true; the input reads as it did. -/
def fnExactGlyphUsersSpec : ChangeSpec := { name := "fnExactGlyphUsers", fn := fun _ => fun
  | [d1, d2] => { results := [.lit (.bool true)], args := [d1, d2] }
  | _ => none }
def fnExactGlyphUsersRow : OpenClaim := { program := "ytelefmogmloniaa", sum := "4b6c27f4dd9390a132ee31a855cb6de62e7499f388e9f5fd2e4e11f6dff057d6", func := "loop.example/g00883/laws.FnExactGlyphUsers", spec := "fnExactGlyphUsers", unfollowed := true, recurses := true, apart := false }
def FnExactGlyphUsersSaid : Prop := fnExactGlyphUsersRow.holds Try.pinned (OpenSpec.ofChange fnExactGlyphUsersSpec)

/-- ITS FALSE NEIGHBOUR: 'it returns false'. Refute it at one input. -/
def fnExactGlyphUsersWrong : ChangeSpec := { name := "fnExactGlyphUsers", fn := fun _ => fun
  | [d1, d2] => { results := [.lit (.bool false)], args := [d1, d2] }
  | _ => none }
def FnExactGlyphUsersWrongFalsely : Prop := fnExactGlyphUsersRow.holds Try.pinned (OpenSpec.ofChange fnExactGlyphUsersWrong)

/-- 'laws.FnExactGlyphDepth': WHATEVER THE INPUT: true; the input reads as it did. -/
def fnExactGlyphDepthSpec : ChangeSpec := { name := "fnExactGlyphDepth", fn := fun _ => fun
  | [d1, d2] => { results := [.lit (.bool true)], args := [d1, d2] }
  | _ => none }
def fnExactGlyphDepthRow : OpenClaim := { program := "ytelefmogmloniaa", sum := "4b6c27f4dd9390a132ee31a855cb6de62e7499f388e9f5fd2e4e11f6dff057d6", func := "loop.example/g00883/laws.FnExactGlyphDepth", spec := "fnExactGlyphDepth", unfollowed := true, recurses := true, apart := false }
def FnExactGlyphDepthSaid : Prop := fnExactGlyphDepthRow.holds Try.pinned (OpenSpec.ofChange fnExactGlyphDepthSpec)

/-- ITS FALSE NEIGHBOUR: 'it returns false'. Refute it at one input. -/
def fnExactGlyphDepthWrong : ChangeSpec := { name := "fnExactGlyphDepth", fn := fun _ => fun
  | [d1, d2] => { results := [.lit (.bool false)], args := [d1, d2] }
  | _ => none }
def FnExactGlyphDepthWrongFalsely : Prop := fnExactGlyphDepthRow.holds Try.pinned (OpenSpec.ofChange fnExactGlyphDepthWrong)

/-- 'laws.FnExactLoopCount': WHATEVER THE INPUT: true; the input reads as it did. -/
def fnExactLoopCountSpec : ChangeSpec := { name := "fnExactLoopCount", fn := fun _ => fun
  | [d1, d2] => { results := [.lit (.bool true)], args := [d1, d2] }
  | _ => none }
def fnExactLoopCountRow : OpenClaim := { program := "ytelefmogmloniaa", sum := "4b6c27f4dd9390a132ee31a855cb6de62e7499f388e9f5fd2e4e11f6dff057d6", func := "loop.example/g00883/laws.FnExactLoopCount", spec := "fnExactLoopCount", unfollowed := true, recurses := true, apart := false }
def FnExactLoopCountSaid : Prop := fnExactLoopCountRow.holds Try.pinned (OpenSpec.ofChange fnExactLoopCountSpec)

/-- ITS FALSE NEIGHBOUR: 'it returns false'. Refute it at one input. -/
def fnExactLoopCountWrong : ChangeSpec := { name := "fnExactLoopCount", fn := fun _ => fun
  | [d1, d2] => { results := [.lit (.bool false)], args := [d1, d2] }
  | _ => none }
def FnExactLoopCountWrongFalsely : Prop := fnExactLoopCountRow.holds Try.pinned (OpenSpec.ofChange fnExactLoopCountWrong)

/- THE SECOND FORM. 'bulk': how many values and letters a reading holds, each counted each time it is reached (what is shared counts as often as it is met; a slice's spare places count too). A statement '..UptoSaid' is the law's where the arguments, and the package variables that the reading takes, are together of bulk at most 1048576: NARROWER than '..Said'. Prove '..Said' where nothing that the law and all that it calls make is longer than what came in: it says more and counts as full. Else prove '..UptoSaid'. A law counts once. -/
mutual
def uptoBulk {H : Type} : DataW H → Nat
  | .lit (.string bytes) => bytes.length + 1
  | .lit _ => 1
  | .nil => 1
  | .ptr d => uptoBulk d + 1
  | .slice elems spare => uptoBulkAll elems + uptoBulkAll spare + 1
  | .agg parts => uptoBulkAll parts + 1
  | .iface _ d => uptoBulk d + 1
  | .map entries => uptoBulkEntries entries + 1
  | .held _ => 1
def uptoBulkAll {H : Type} : List (DataW H) → Nat
  | [] => 0
  | d :: r => uptoBulk d + uptoBulkAll r
def uptoBulkEntries {H : Type} : List (Lit × DataW H) → Nat
  | [] => 0
  | x :: r => uptoBulkEntry x + uptoBulkEntries r
def uptoBulkEntry {H : Type} : Lit × DataW H → Nat
  | (.string bytes, d) => bytes.length + uptoBulk d + 1
  | (_, d) => uptoBulk d + 1
 end
def uptoSmall : (H : Type) → List (DataW H) → Bool := fun _ ds => decide (uptoBulkAll ds ≤ 1048576)
def OpenSpec.upto (s : _root_.Go.ChangeSpec) : _root_.Go.OpenSpec := { _root_.Go.OpenSpec.ofChange s with cond := some uptoSmall }

/-- 'laws.FnExactValidGlyph', WHERE WHAT IT READS IS OF BULK AT MOST 1048576: true; the input reads as it did. -/
def fnExactValidGlyphUptoRow : OpenClaim := { program := "ytelefmogmloniaa", sum := "4b6c27f4dd9390a132ee31a855cb6de62e7499f388e9f5fd2e4e11f6dff057d6", func := "loop.example/g00883/laws.FnExactValidGlyph", spec := "fnExactValidGlyph", unfollowed := true, recurses := true, apart := false, narrowed := true }
def FnExactValidGlyphUptoSaid : Prop := fnExactValidGlyphUptoRow.holds Try.pinned (OpenSpec.upto fnExactValidGlyphSpec)

/-- 'laws.FnExactSameGlyph', WHERE WHAT IT READS IS OF BULK AT MOST 1048576: true; the input reads as it did. -/
def fnExactSameGlyphUptoRow : OpenClaim := { program := "ytelefmogmloniaa", sum := "4b6c27f4dd9390a132ee31a855cb6de62e7499f388e9f5fd2e4e11f6dff057d6", func := "loop.example/g00883/laws.FnExactSameGlyph", spec := "fnExactSameGlyph", unfollowed := true, recurses := true, apart := false, narrowed := true }
def FnExactSameGlyphUptoSaid : Prop := fnExactSameGlyphUptoRow.holds Try.pinned (OpenSpec.upto fnExactSameGlyphSpec)

/-- 'laws.FnExactSameGlyphSet', WHERE WHAT IT READS IS OF BULK AT MOST 1048576: true; the input reads as it did. -/
def fnExactSameGlyphSetUptoRow : OpenClaim := { program := "ytelefmogmloniaa", sum := "4b6c27f4dd9390a132ee31a855cb6de62e7499f388e9f5fd2e4e11f6dff057d6", func := "loop.example/g00883/laws.FnExactSameGlyphSet", spec := "fnExactSameGlyphSet", unfollowed := true, recurses := true, apart := false, narrowed := true }
def FnExactSameGlyphSetUptoSaid : Prop := fnExactSameGlyphSetUptoRow.holds Try.pinned (OpenSpec.upto fnExactSameGlyphSetSpec)

/-- 'laws.FnExactNewScene', WHERE WHAT IT READS IS OF BULK AT MOST 1048576: true; the input reads as it did. -/
def fnExactNewSceneUptoRow : OpenClaim := { program := "ytelefmogmloniaa", sum := "4b6c27f4dd9390a132ee31a855cb6de62e7499f388e9f5fd2e4e11f6dff057d6", func := "loop.example/g00883/laws.FnExactNewScene", spec := "fnExactNewScene", apart := false, narrowed := true }
def FnExactNewSceneUptoSaid : Prop := fnExactNewSceneUptoRow.holds Try.pinned (OpenSpec.upto fnExactNewSceneSpec)

/-- 'laws.FnExactValidGlyphSet', WHERE WHAT IT READS IS OF BULK AT MOST 1048576: true; the input reads as it did. -/
def fnExactValidGlyphSetUptoRow : OpenClaim := { program := "ytelefmogmloniaa", sum := "4b6c27f4dd9390a132ee31a855cb6de62e7499f388e9f5fd2e4e11f6dff057d6", func := "loop.example/g00883/laws.FnExactValidGlyphSet", spec := "fnExactValidGlyphSet", unfollowed := true, recurses := true, apart := false, narrowed := true }
def FnExactValidGlyphSetUptoSaid : Prop := fnExactValidGlyphSetUptoRow.holds Try.pinned (OpenSpec.upto fnExactValidGlyphSetSpec)

/-- 'laws.FnExactGlyphNamed', WHERE WHAT IT READS IS OF BULK AT MOST 1048576: true; the input reads as it did. -/
def fnExactGlyphNamedUptoRow : OpenClaim := { program := "ytelefmogmloniaa", sum := "4b6c27f4dd9390a132ee31a855cb6de62e7499f388e9f5fd2e4e11f6dff057d6", func := "loop.example/g00883/laws.FnExactGlyphNamed", spec := "fnExactGlyphNamed", unfollowed := true, recurses := true, apart := false, narrowed := true }
def FnExactGlyphNamedUptoSaid : Prop := fnExactGlyphNamedUptoRow.holds Try.pinned (OpenSpec.upto fnExactGlyphNamedSpec)

/-- 'laws.FnExactGlyphOfChar', WHERE WHAT IT READS IS OF BULK AT MOST 1048576: true; the input reads as it did. -/
def fnExactGlyphOfCharUptoRow : OpenClaim := { program := "ytelefmogmloniaa", sum := "4b6c27f4dd9390a132ee31a855cb6de62e7499f388e9f5fd2e4e11f6dff057d6", func := "loop.example/g00883/laws.FnExactGlyphOfChar", spec := "fnExactGlyphOfChar", unfollowed := true, recurses := true, apart := false, narrowed := true }
def FnExactGlyphOfCharUptoSaid : Prop := fnExactGlyphOfCharUptoRow.holds Try.pinned (OpenSpec.upto fnExactGlyphOfCharSpec)

/-- 'laws.FnExactGlyphUsers', WHERE WHAT IT READS IS OF BULK AT MOST 1048576: true; the input reads as it did. -/
def fnExactGlyphUsersUptoRow : OpenClaim := { program := "ytelefmogmloniaa", sum := "4b6c27f4dd9390a132ee31a855cb6de62e7499f388e9f5fd2e4e11f6dff057d6", func := "loop.example/g00883/laws.FnExactGlyphUsers", spec := "fnExactGlyphUsers", unfollowed := true, recurses := true, apart := false, narrowed := true }
def FnExactGlyphUsersUptoSaid : Prop := fnExactGlyphUsersUptoRow.holds Try.pinned (OpenSpec.upto fnExactGlyphUsersSpec)

/-- 'laws.FnExactGlyphDepth', WHERE WHAT IT READS IS OF BULK AT MOST 1048576: true; the input reads as it did. -/
def fnExactGlyphDepthUptoRow : OpenClaim := { program := "ytelefmogmloniaa", sum := "4b6c27f4dd9390a132ee31a855cb6de62e7499f388e9f5fd2e4e11f6dff057d6", func := "loop.example/g00883/laws.FnExactGlyphDepth", spec := "fnExactGlyphDepth", unfollowed := true, recurses := true, apart := false, narrowed := true }
def FnExactGlyphDepthUptoSaid : Prop := fnExactGlyphDepthUptoRow.holds Try.pinned (OpenSpec.upto fnExactGlyphDepthSpec)

/-- 'laws.FnExactLoopCount', WHERE WHAT IT READS IS OF BULK AT MOST 1048576: true; the input reads as it did. -/
def fnExactLoopCountUptoRow : OpenClaim := { program := "ytelefmogmloniaa", sum := "4b6c27f4dd9390a132ee31a855cb6de62e7499f388e9f5fd2e4e11f6dff057d6", func := "loop.example/g00883/laws.FnExactLoopCount", spec := "fnExactLoopCount", unfollowed := true, recurses := true, apart := false, narrowed := true }
def FnExactLoopCountUptoSaid : Prop := fnExactLoopCountUptoRow.holds Try.pinned (OpenSpec.upto fnExactLoopCountSpec)

end Rows
end Go.Proofs.Ytelefmogmloniaa
