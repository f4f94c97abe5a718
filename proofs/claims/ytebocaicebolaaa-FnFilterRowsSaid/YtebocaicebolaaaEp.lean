/- Dynamics: levels, the program's. -/
import Derived.Test.YtebocaicebolaaaEo
import Derived.Test.YtebocaicebolaaaEf
set_option linter.unusedVariables false
set_option linter.unusedSimpArgs false
namespace Go.Proofs.Ytebocaicebolaaa
open Fl Go.RowKit
end Go.Proofs.Ytebocaicebolaaa
