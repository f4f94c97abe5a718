/- Dynamics: the model's lists: clipped samples, a fade. -/
import Derived.Test.YtbgjmmncjmcjfaaEa
import Derived.Test.YtbgjmmncjmcjfaaEc
set_option linter.unusedVariables false
set_option linter.unusedSimpArgs false
namespace Go.Proofs.Ytbgjmmncjmcjfaa
open Fl Go.RowKit
end Go.Proofs.Ytbgjmmncjmcjfaa
