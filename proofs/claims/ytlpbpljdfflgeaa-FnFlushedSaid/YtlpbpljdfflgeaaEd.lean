/- Dynamics: the model's lists: clipped samples, a fade. -/
import Derived.Test.YtlpbpljdfflgeaaEa
import Derived.Test.YtlpbpljdfflgeaaEc
set_option linter.unusedVariables false
set_option linter.unusedSimpArgs false
namespace Go.Proofs.Ytlpbpljdfflgeaa
open Fl Go.RowKit
end Go.Proofs.Ytlpbpljdfflgeaa
