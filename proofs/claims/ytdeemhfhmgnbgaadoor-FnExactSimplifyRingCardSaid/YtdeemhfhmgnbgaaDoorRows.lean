/-
  NARROWER THAN 'FOR EVERY INPUT', by the rows' own cells (each row's printed sentence says how): FnExactSimplifyRing: ifaces, laid.
  DERIVED. THE GIVEN ROWS OF THIS SEAT. 1 by the template 'for every input the law returns true; each argument reads behind the call as it read before'; 0 by the template 'total and deterministic' (their statements: YtdeemhfhmgnbgaaDoorTotals.lean).
  GIVEN WITH THE SEED: the statements are not yours to turn. If you find one false, say at which input.
  Laid BY PROGRAM, IN A SANDBOX (cutbox-rows.mjs): the forced cells as the released guide's own fill.sh prints them over the translation 249dbac69de4e08f… (all of the seat's roots in one cut). By AI agents, Wed Nov 11 2026. No macro, syntax, notation, axiom, sorry.
-/
import Derived.Test.YtdeemhfhmgnbgaaDoorChecked
import GoSem.Claim
import GoSem.ClaimJoined
import GoSem.ClaimMapViews
import Derived.JoinedTies
import Derived.KernelRfl
namespace Go.Proofs.YtdeemhfhmgnbgaaDoor
/- THE CELL 'sum', in the pinned program and in every row, IS THE sha256 OF THE DUMP (.gsa) THAT YtdeemhfhmgnbgaaDoorProg.lean LOADS. Nothing in Lean hashes anything: it is a label: what it is worth is what the hold of that sum in a sandbox is worth. -/
noncomputable def Tryd.pinned : Pinned := { name := "ytdeemhfhmgnbgaadoor", sum := "249dbac69de4e08fa8a49a1c1ba8eb3b4fa888baeb9dc4bdbf222460a2b1742f", checked := Tryd.checked }
namespace Rows
def none {H : Type} : Left H := { results := [], args := [] }

/- WHAT THE LISTED PACKAGE-LEVEL VARIABLES READ AS WHEN THE CALL BEGINS. Each datum BY PROGRAM (the guide's laid-datum.mjs) off the statement by which the dump's own 'gosem.cut.vars' lays the variable. In a bare row this is a premise. The card (YtdeemhfhmgnbgaaDoorCards.lean) ties it to the program's text. -/
def laid_loop_example_g00883_impl_errStraight {H : Type} : DataW H := .iface "*errors.errorString" (.ptr (.agg [.lit (.string [116, 104, 101, 32, 114, 105, 110, 103, 32, 116, 117, 114, 110, 115, 32, 97, 116, 32, 110, 111, 32, 112, 111, 105, 110, 116])]))

/-- 'laws.FnExactSimplifyRing': WHATEVER THE INPUT: true; the input reads as it did. -/
def fnExactSimplifyRingSpec : ChangeSpec := { name := "fnExactSimplifyRing", vars := ["loop.example/g00883/impl.errStraight"], fn := fun _ => fun
  | [d, g1] => { results := [.lit (.bool true)], args := [d], vars := [g1] }
  | _ => none }
def fnExactSimplifyRingRow : OpenClaim := { program := "ytdeemhfhmgnbgaadoor", sum := "249dbac69de4e08fa8a49a1c1ba8eb3b4fa888baeb9dc4bdbf222460a2b1742f", func := "loop.example/g00883/laws.FnExactSimplifyRing", spec := "fnExactSimplifyRing", inPlace := ["internal/reflectlite.TypeOf"], unfollowed := true, recurses := true, named := ["loop.example/g00883/impl.errStraight"], ifaces := true, apart := false, laid := [("loop.example/g00883/impl.errStraight", laid_loop_example_g00883_impl_errStraight)] }
def FnExactSimplifyRingSaid : Prop := fnExactSimplifyRingRow.holds Tryd.pinned (OpenSpec.ofChange fnExactSimplifyRingSpec)

/-- ITS FALSE NEIGHBOUR: 'it returns false'. Refute it at one input. -/
def fnExactSimplifyRingWrong : ChangeSpec := { name := "fnExactSimplifyRing", vars := ["loop.example/g00883/impl.errStraight"], fn := fun _ => fun
  | [d, g1] => { results := [.lit (.bool false)], args := [d], vars := [g1] }
  | _ => none }
def FnExactSimplifyRingWrongFalsely : Prop := fnExactSimplifyRingRow.holds Tryd.pinned (OpenSpec.ofChange fnExactSimplifyRingWrong)

/- THE SECOND FORM. 'bulk': how many values and letters a reading holds, each counted each time it is reached (what is shared counts as often as it is met; a slice's spare places count too). A statement '..UptoSaid' is the law's where the arguments, and the package variables that the reading takes, are together of bulk at most 1048576: NARROWER than '..Said'. Prove '..Said' where nothing that the law and all that it calls make is longer than what came in: it says more and counts as full. Else prove '..UptoSaid'. A law counts once. -/
mutual
def uptoBulk {H : Type} : DataW H → Nat
  | .lit (.string bytes) => bytes.length + 1
  | .lit _ => 1
  | .nil => 1
  | .ptr d => uptoBulk d + 1
  | .slice elems spare => uptoBulkAll elems + uptoBulkAll spare + 1
  | .agg parts => uptoBulkAll parts + 1
  | .iface _ d => uptoBulk d + 1
  | .map entries => uptoBulkEntries entries + 1
  | .held _ => 1
def uptoBulkAll {H : Type} : List (DataW H) → Nat
  | [] => 0
  | d :: r => uptoBulk d + uptoBulkAll r
def uptoBulkEntries {H : Type} : List (Lit × DataW H) → Nat
  | [] => 0
  | x :: r => uptoBulkEntry x + uptoBulkEntries r
def uptoBulkEntry {H : Type} : Lit × DataW H → Nat
  | (.string bytes, d) => bytes.length + uptoBulk d + 1
  | (_, d) => uptoBulk d + 1
 end
def uptoSmall : (H : Type) → List (DataW H) → Bool := fun _ ds => decide (uptoBulkAll ds ≤ 1048576)
def OpenSpec.upto (s : _root_.Go.ChangeSpec) : _root_.Go.OpenSpec := { _root_.Go.OpenSpec.ofChange s with cond := some uptoSmall }

/-- 'laws.FnExactSimplifyRing', WHERE WHAT IT READS IS OF BULK AT MOST 1048576: true; the input reads as it did. -/
def fnExactSimplifyRingUptoRow : OpenClaim := { program := "ytdeemhfhmgnbgaadoor", sum := "249dbac69de4e08fa8a49a1c1ba8eb3b4fa888baeb9dc4bdbf222460a2b1742f", func := "loop.example/g00883/laws.FnExactSimplifyRing", spec := "fnExactSimplifyRing", inPlace := ["internal/reflectlite.TypeOf"], unfollowed := true, recurses := true, named := ["loop.example/g00883/impl.errStraight"], ifaces := true, apart := false, laid := [("loop.example/g00883/impl.errStraight", laid_loop_example_g00883_impl_errStraight)], narrowed := true }
def FnExactSimplifyRingUptoSaid : Prop := fnExactSimplifyRingUptoRow.holds Tryd.pinned (OpenSpec.upto fnExactSimplifyRingSpec)

end Rows
end Go.Proofs.YtdeemhfhmgnbgaaDoor
