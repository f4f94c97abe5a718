/- Dynamics: levels, the program's. -/
import Derived.Test.YtbgjmmncjmcjfaaEo
import Derived.Test.YtbgjmmncjmcjfaaEf
set_option linter.unusedVariables false
set_option linter.unusedSimpArgs false
namespace Go.Proofs.Ytbgjmmncjmcjfaa
open Fl Go.RowKit
end Go.Proofs.Ytbgjmmncjmcjfaa
