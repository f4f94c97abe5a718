/- Dynamics: the model's lists: clipped samples, a fade. -/
import Derived.Test.YtagcepankiinpaaEa
import Derived.Test.YtagcepankiinpaaEc
set_option linter.unusedVariables false
set_option linter.unusedSimpArgs false
namespace Go.Proofs.Ytagcepankiinpaa
open Fl Go.RowKit
end Go.Proofs.Ytagcepankiinpaa
