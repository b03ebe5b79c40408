/-
  NARROWER THAN 'FOR EVERY INPUT', by the rows' own cells (each row's printed sentence says how): FnExactStateName: laid · FnExactStateNamed: laid · FnExactHintName: laid · FnExactHintNamed: laid.
  DERIVED. THE GIVEN ROWS OF THIS SEAT. 4 by the template 'for every input the law returns true; each argument reads behind the call as it read before'; 0 by the template 'total and deterministic' (their statements: YtofaolbgjhpopaaDoorTotals.lean).
  GIVEN WITH THE SEED: the statements are not yours to turn. If you find one false, say at which input.
  Laid BY PROGRAM, IN A SANDBOX (cutbox-rows.mjs): the forced cells as the released guide's own fill.sh prints them over the translation 33572a7b23fb84a4… (all of the seat's roots in one cut). By AI agents, Wed Nov 11 2026. No macro, syntax, notation, axiom, sorry.
-/
import Derived.Test.YtofaolbgjhpopaaDoorChecked
import GoSem.Claim
import GoSem.ClaimJoined
import GoSem.ClaimMapViews
import Derived.JoinedTies
import Derived.KernelRfl
namespace Go.Proofs.YtofaolbgjhpopaaDoor
/- THE CELL 'sum', in the pinned program and in every row, IS THE sha256 OF THE DUMP (.gsa) THAT YtofaolbgjhpopaaDoorProg.lean LOADS. Nothing in Lean hashes anything: it is a label: what it is worth is what the hold of that sum in a sandbox is worth. -/
noncomputable def Tryd.pinned : Pinned := { name := "ytofaolbgjhpopaadoor", sum := "33572a7b23fb84a430be14f6fc2e4a59a64dd2306af3c1956cc4beda313ea756", checked := Tryd.checked }
namespace Rows
def none {H : Type} : Left H := { results := [], args := [] }

/- WHAT THE LISTED PACKAGE-LEVEL VARIABLES READ AS WHEN THE CALL BEGINS. Each datum BY PROGRAM (the guide's laid-datum.mjs) off the statement by which the dump's own 'gosem.cut.vars' lays the variable. In a bare row this is a premise. The card (YtofaolbgjhpopaaDoorCards.lean) ties it to the program's text. -/
def laid_loop_example_g00883_impl_stateNames {H : Type} : DataW H := .agg [.lit (.string [111, 102, 102]), .lit (.string [103, 114, 105, 100]), .lit (.string [104, 97, 108, 102]), .lit (.string [100, 111, 117, 98, 108, 101]), .lit (.string [100, 111, 119, 110]), .lit (.string [117, 112])]
def laid_loop_example_g00883_impl_hintWords {H : Type} : DataW H := .agg [.lit (.string [115, 116, 111, 112]), .lit (.string [112, 111, 112]), .lit (.string [100, 117, 112]), .lit (.string [115, 119, 97, 112]), .lit (.string [97, 100, 100]), .lit (.string [115, 117, 98]), .lit (.string [109, 117, 108]), .lit (.string [100, 105, 118]), .lit (.string [110, 101, 103]), .lit (.string [97, 98, 115]), .lit (.string [109, 105, 110]), .lit (.string [109, 97, 120]), .lit (.string [108, 101, 115, 115]), .lit (.string [101, 113, 117, 97, 108]), .lit (.string [110, 111, 116]), .lit (.string [114, 111, 117, 110, 100]), .lit (.string [97, 120, 105, 115, 120]), .lit (.string [97, 120, 105, 115, 121]), .lit (.string [114, 101, 102]), .lit (.string [103, 101, 116]), .lit (.string [111, 114, 105, 103]), .lit (.string [112, 117, 116]), .lit (.string [115, 104, 105, 102, 116]), .lit (.string [103, 114, 105, 100]), .lit (.string [108, 105, 110, 107]), .lit (.string [115, 116, 101, 109]), .lit (.string [101, 118, 101, 110]), .lit (.string [115, 109, 111, 111, 116, 104]), .lit (.string [116, 111, 117, 99, 104]), .lit (.string [102, 114, 101, 101]), .lit (.string [118, 97, 108, 117, 101]), .lit (.string [115, 116, 111, 114, 101]), .lit (.string [115, 105, 122, 101]), .lit (.string [99, 111, 117, 110, 116]), .lit (.string [100, 101, 108, 116, 97]), .lit (.string [105, 102]), .lit (.string [101, 108, 115, 101]), .lit (.string [101, 110, 100]), .lit (.string [97, 103, 97, 105, 110]), .lit (.string [112, 117, 115, 104]), .lit (.string [119, 111, 114, 100]), .lit (.string [115, 116, 97, 116, 101]), .lit (.string [99, 117, 116]), .lit (.string [108, 101, 97, 115, 116]), .lit (.string [114, 101, 112, 101, 97, 116])]

/-- 'laws.FnExactStateName': WHATEVER THE INPUT: true; the input reads as it did. -/
def fnExactStateNameSpec : ChangeSpec := { name := "fnExactStateName", vars := ["loop.example/g00883/impl.stateNames"], fn := fun _ => fun
  | [d, g1] => { results := [.lit (.bool true)], args := [d], vars := [g1] }
  | _ => none }
def fnExactStateNameRow : OpenClaim := { program := "ytofaolbgjhpopaadoor", sum := "33572a7b23fb84a430be14f6fc2e4a59a64dd2306af3c1956cc4beda313ea756", func := "loop.example/g00883/laws.FnExactStateName", spec := "fnExactStateName", named := ["loop.example/g00883/impl.stateNames"], apart := false, laid := [("loop.example/g00883/impl.stateNames", laid_loop_example_g00883_impl_stateNames)] }
def FnExactStateNameSaid : Prop := fnExactStateNameRow.holds Tryd.pinned (OpenSpec.ofChange fnExactStateNameSpec)

/-- ITS FALSE NEIGHBOUR: 'it returns false'. Refute it at one input. -/
def fnExactStateNameWrong : ChangeSpec := { name := "fnExactStateName", vars := ["loop.example/g00883/impl.stateNames"], fn := fun _ => fun
  | [d, g1] => { results := [.lit (.bool false)], args := [d], vars := [g1] }
  | _ => none }
def FnExactStateNameWrongFalsely : Prop := fnExactStateNameRow.holds Tryd.pinned (OpenSpec.ofChange fnExactStateNameWrong)

/-- 'laws.FnExactStateNamed': WHATEVER THE INPUT: true; the input reads as it did. -/
def fnExactStateNamedSpec : ChangeSpec := { name := "fnExactStateNamed", vars := ["loop.example/g00883/impl.stateNames"], fn := fun _ => fun
  | [d, g1] => { results := [.lit (.bool true)], args := [d], vars := [g1] }
  | _ => none }
def fnExactStateNamedRow : OpenClaim := { program := "ytofaolbgjhpopaadoor", sum := "33572a7b23fb84a430be14f6fc2e4a59a64dd2306af3c1956cc4beda313ea756", func := "loop.example/g00883/laws.FnExactStateNamed", spec := "fnExactStateNamed", named := ["loop.example/g00883/impl.stateNames"], apart := false, laid := [("loop.example/g00883/impl.stateNames", laid_loop_example_g00883_impl_stateNames)] }
def FnExactStateNamedSaid : Prop := fnExactStateNamedRow.holds Tryd.pinned (OpenSpec.ofChange fnExactStateNamedSpec)

/-- ITS FALSE NEIGHBOUR: 'it returns false'. Refute it at one input. -/
def fnExactStateNamedWrong : ChangeSpec := { name := "fnExactStateNamed", vars := ["loop.example/g00883/impl.stateNames"], fn := fun _ => fun
  | [d, g1] => { results := [.lit (.bool false)], args := [d], vars := [g1] }
  | _ => none }
def FnExactStateNamedWrongFalsely : Prop := fnExactStateNamedRow.holds Tryd.pinned (OpenSpec.ofChange fnExactStateNamedWrong)

/-- 'laws.FnExactHintName': WHATEVER THE INPUT: true; the input reads as it did. -/
def fnExactHintNameSpec : ChangeSpec := { name := "fnExactHintName", vars := ["loop.example/g00883/impl.hintWords"], fn := fun _ => fun
  | [d, g1] => { results := [.lit (.bool true)], args := [d], vars := [g1] }
  | _ => none }
def fnExactHintNameRow : OpenClaim := { program := "ytofaolbgjhpopaadoor", sum := "33572a7b23fb84a430be14f6fc2e4a59a64dd2306af3c1956cc4beda313ea756", func := "loop.example/g00883/laws.FnExactHintName", spec := "fnExactHintName", named := ["loop.example/g00883/impl.hintWords"], apart := false, laid := [("loop.example/g00883/impl.hintWords", laid_loop_example_g00883_impl_hintWords)] }
def FnExactHintNameSaid : Prop := fnExactHintNameRow.holds Tryd.pinned (OpenSpec.ofChange fnExactHintNameSpec)

/-- ITS FALSE NEIGHBOUR: 'it returns false'. Refute it at one input. -/
def fnExactHintNameWrong : ChangeSpec := { name := "fnExactHintName", vars := ["loop.example/g00883/impl.hintWords"], fn := fun _ => fun
  | [d, g1] => { results := [.lit (.bool false)], args := [d], vars := [g1] }
  | _ => none }
def FnExactHintNameWrongFalsely : Prop := fnExactHintNameRow.holds Tryd.pinned (OpenSpec.ofChange fnExactHintNameWrong)

/-- 'laws.FnExactHintNamed': WHATEVER THE INPUT: true; the input reads as it did. -/
def fnExactHintNamedSpec : ChangeSpec := { name := "fnExactHintNamed", vars := ["loop.example/g00883/impl.hintWords"], fn := fun _ => fun
  | [d, g1] => { results := [.lit (.bool true)], args := [d], vars := [g1] }
  | _ => none }
def fnExactHintNamedRow : OpenClaim := { program := "ytofaolbgjhpopaadoor", sum := "33572a7b23fb84a430be14f6fc2e4a59a64dd2306af3c1956cc4beda313ea756", func := "loop.example/g00883/laws.FnExactHintNamed", spec := "fnExactHintNamed", inPlace := ["sync/atomic.LoadUint32", "(*internal/sync.Mutex).Lock", "internal/race.Disable", "sync/atomic.CompareAndSwapInt32", "internal/race.Enable", "internal/race.Acquire", "(*internal/sync.Mutex).lockSlow", "internal/sync.runtime_canSpin", "internal/sync.runtime_doSpin", "internal/sync.throw", "internal/sync.runtime_nanotime", "internal/sync.runtime_SemacquireMutex", "sync/atomic.AddInt32", "(*internal/sync.Mutex).Unlock", "internal/race.ReleaseMerge", "(*internal/sync.Mutex).unlockSlow", "internal/sync.fatal", "internal/sync.runtime_Semrelease", "sync/atomic.StoreUint32"], unfollowed := true, recurses := true, named := ["loop.example/g00883/impl.hintWords"], apart := false, laid := [("loop.example/g00883/impl.hintWords", laid_loop_example_g00883_impl_hintWords)] }
def FnExactHintNamedSaid : Prop := fnExactHintNamedRow.holds Tryd.pinned (OpenSpec.ofChange fnExactHintNamedSpec)

/-- ITS FALSE NEIGHBOUR: 'it returns false'. Refute it at one input. -/
def fnExactHintNamedWrong : ChangeSpec := { name := "fnExactHintNamed", vars := ["loop.example/g00883/impl.hintWords"], fn := fun _ => fun
  | [d, g1] => { results := [.lit (.bool false)], args := [d], vars := [g1] }
  | _ => none }
def FnExactHintNamedWrongFalsely : Prop := fnExactHintNamedRow.holds Tryd.pinned (OpenSpec.ofChange fnExactHintNamedWrong)

/- THE SECOND FORM. 'bulk': how many values and letters a reading holds, each counted each time it is reached (what is shared counts as often as it is met; a slice's spare places count too). A statement '..UptoSaid' is the law's where the arguments, and the package variables that the reading takes, are together of bulk at most 1048576: NARROWER than '..Said'. Prove '..Said' where nothing that the law and all that it calls make is longer than what came in: it says more and counts as full. Else prove '..UptoSaid'. A law counts once. -/
mutual
def uptoBulk {H : Type} : DataW H → Nat
  | .lit (.string bytes) => bytes.length + 1
  | .lit _ => 1
  | .nil => 1
  | .ptr d => uptoBulk d + 1
  | .slice elems spare => uptoBulkAll elems + uptoBulkAll spare + 1
  | .agg parts => uptoBulkAll parts + 1
  | .iface _ d => uptoBulk d + 1
  | .map entries => uptoBulkEntries entries + 1
  | .held _ => 1
def uptoBulkAll {H : Type} : List (DataW H) → Nat
  | [] => 0
  | d :: r => uptoBulk d + uptoBulkAll r
def uptoBulkEntries {H : Type} : List (Lit × DataW H) → Nat
  | [] => 0
  | x :: r => uptoBulkEntry x + uptoBulkEntries r
def uptoBulkEntry {H : Type} : Lit × DataW H → Nat
  | (.string bytes, d) => bytes.length + uptoBulk d + 1
  | (_, d) => uptoBulk d + 1
 end
def uptoSmall : (H : Type) → List (DataW H) → Bool := fun _ ds => decide (uptoBulkAll ds ≤ 1048576)
def OpenSpec.upto (s : _root_.Go.ChangeSpec) : _root_.Go.OpenSpec := { _root_.Go.OpenSpec.ofChange s with cond := some uptoSmall }

/-- 'laws.FnExactStateName', WHERE WHAT IT READS IS OF BULK AT MOST 1048576: true; the input reads as it did. -/
def fnExactStateNameUptoRow : OpenClaim := { program := "ytofaolbgjhpopaadoor", sum := "33572a7b23fb84a430be14f6fc2e4a59a64dd2306af3c1956cc4beda313ea756", func := "loop.example/g00883/laws.FnExactStateName", spec := "fnExactStateName", named := ["loop.example/g00883/impl.stateNames"], apart := false, laid := [("loop.example/g00883/impl.stateNames", laid_loop_example_g00883_impl_stateNames)], narrowed := true }
def FnExactStateNameUptoSaid : Prop := fnExactStateNameUptoRow.holds Tryd.pinned (OpenSpec.upto fnExactStateNameSpec)

/-- 'laws.FnExactStateNamed', WHERE WHAT IT READS IS OF BULK AT MOST 1048576: true; the input reads as it did. -/
def fnExactStateNamedUptoRow : OpenClaim := { program := "ytofaolbgjhpopaadoor", sum := "33572a7b23fb84a430be14f6fc2e4a59a64dd2306af3c1956cc4beda313ea756", func := "loop.example/g00883/laws.FnExactStateNamed", spec := "fnExactStateNamed", named := ["loop.example/g00883/impl.stateNames"], apart := false, laid := [("loop.example/g00883/impl.stateNames", laid_loop_example_g00883_impl_stateNames)], narrowed := true }
def FnExactStateNamedUptoSaid : Prop := fnExactStateNamedUptoRow.holds Tryd.pinned (OpenSpec.upto fnExactStateNamedSpec)

/-- 'laws.FnExactHintName', WHERE WHAT IT READS IS OF BULK AT MOST 1048576: true; the input reads as it did. -/
def fnExactHintNameUptoRow : OpenClaim := { program := "ytofaolbgjhpopaadoor", sum := "33572a7b23fb84a430be14f6fc2e4a59a64dd2306af3c1956cc4beda313ea756", func := "loop.example/g00883/laws.FnExactHintName", spec := "fnExactHintName", named := ["loop.example/g00883/impl.hintWords"], apart := false, laid := [("loop.example/g00883/impl.hintWords", laid_loop_example_g00883_impl_hintWords)], narrowed := true }
def FnExactHintNameUptoSaid : Prop := fnExactHintNameUptoRow.holds Tryd.pinned (OpenSpec.upto fnExactHintNameSpec)

/-- 'laws.FnExactHintNamed', WHERE WHAT IT READS IS OF BULK AT MOST 1048576: true; the input reads as it did. -/
def fnExactHintNamedUptoRow : OpenClaim := { program := "ytofaolbgjhpopaadoor", sum := "33572a7b23fb84a430be14f6fc2e4a59a64dd2306af3c1956cc4beda313ea756", func := "loop.example/g00883/laws.FnExactHintNamed", spec := "fnExactHintNamed", inPlace := ["sync/atomic.LoadUint32", "(*internal/sync.Mutex).Lock", "internal/race.Disable", "sync/atomic.CompareAndSwapInt32", "internal/race.Enable", "internal/race.Acquire", "(*internal/sync.Mutex).lockSlow", "internal/sync.runtime_canSpin", "internal/sync.runtime_doSpin", "internal/sync.throw", "internal/sync.runtime_nanotime", "internal/sync.runtime_SemacquireMutex", "sync/atomic.AddInt32", "(*internal/sync.Mutex).Unlock", "internal/race.ReleaseMerge", "(*internal/sync.Mutex).unlockSlow", "internal/sync.fatal", "internal/sync.runtime_Semrelease", "sync/atomic.StoreUint32"], unfollowed := true, recurses := true, named := ["loop.example/g00883/impl.hintWords"], apart := false, laid := [("loop.example/g00883/impl.hintWords", laid_loop_example_g00883_impl_hintWords)], narrowed := true }
def FnExactHintNamedUptoSaid : Prop := fnExactHintNamedUptoRow.holds Tryd.pinned (OpenSpec.upto fnExactHintNamedSpec)

end Rows
end Go.Proofs.YtofaolbgjhpopaaDoor
