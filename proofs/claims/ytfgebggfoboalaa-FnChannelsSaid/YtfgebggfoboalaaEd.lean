/- Dynamics: the model's lists: clipped samples, a fade. -/
import Derived.Test.YtfgebggfoboalaaEa
import Derived.Test.YtfgebggfoboalaaEc
set_option linter.unusedVariables false
set_option linter.unusedSimpArgs false
namespace Go.Proofs.Ytfgebggfoboalaa
open Fl Go.RowKit
end Go.Proofs.Ytfgebggfoboalaa
