/- Walks: a region turned round, the program's side. -/
import Derived.Test.YtdeemhfhmgnbgaaYf
namespace Go.Proofs.Ytdeemhfhmgnbgaa
open Go.RowKit
set_option linter.unusedVariables false
end Go.Proofs.Ytdeemhfhmgnbgaa
