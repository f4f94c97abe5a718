/- Dynamics: the program's lists: clipped samples. -/
import Derived.Test.YtebocaicebolaaaEd
import Derived.Test.YtebocaicebolaaaDr
import Derived.Test.YtebocaicebolaaaDs
set_option linter.unusedVariables false
set_option linter.unusedSimpArgs false
namespace Go.Proofs.Ytebocaicebolaaa
open Fl Go.RowKit
end Go.Proofs.Ytebocaicebolaaa
