/- Dynamics: the program's lists: clipped samples. -/
import Derived.Test.YtlpbpljdfflgeaaEd
import Derived.Test.YtlpbpljdfflgeaaDr
import Derived.Test.YtlpbpljdfflgeaaDs
set_option linter.unusedVariables false
set_option linter.unusedSimpArgs false
namespace Go.Proofs.Ytlpbpljdfflgeaa
open Fl Go.RowKit
end Go.Proofs.Ytlpbpljdfflgeaa
