/- Dynamics: the model's lists: clipped samples, a fade. -/
import Derived.Test.YtbjhioolfighdaaEa
import Derived.Test.YtbjhioolfighdaaEc
set_option linter.unusedVariables false
set_option linter.unusedSimpArgs false
namespace Go.Proofs.Ytbjhioolfighdaa
open Fl Go.RowKit
end Go.Proofs.Ytbjhioolfighdaa
