/- Dynamics: the program's lists: clipped samples. -/
import Derived.Test.YtbgjmmncjmcjfaaEd
import Derived.Test.YtbgjmmncjmcjfaaDr
import Derived.Test.YtbgjmmncjmcjfaaDs
set_option linter.unusedVariables false
set_option linter.unusedSimpArgs false
namespace Go.Proofs.Ytbgjmmncjmcjfaa
open Fl Go.RowKit
end Go.Proofs.Ytbgjmmncjmcjfaa
