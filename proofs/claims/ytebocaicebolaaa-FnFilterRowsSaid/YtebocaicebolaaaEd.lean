/- Dynamics: the model's lists: clipped samples, a fade. -/
import Derived.Test.YtebocaicebolaaaEa
import Derived.Test.YtebocaicebolaaaEc
set_option linter.unusedVariables false
set_option linter.unusedSimpArgs false
namespace Go.Proofs.Ytebocaicebolaaa
open Fl Go.RowKit
end Go.Proofs.Ytebocaicebolaaa
