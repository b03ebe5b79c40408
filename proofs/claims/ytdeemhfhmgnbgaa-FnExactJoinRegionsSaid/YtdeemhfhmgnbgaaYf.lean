/- Walks: a region turned round, the reference's side, the good case. -/
import Derived.Test.YtdeemhfhmgnbgaaYe
import Derived.Test.YtdeemhfhmgnbgaaXa
namespace Go.Proofs.Ytdeemhfhmgnbgaa
open Go.RowKit
set_option linter.unusedVariables false
end Go.Proofs.Ytdeemhfhmgnbgaa
