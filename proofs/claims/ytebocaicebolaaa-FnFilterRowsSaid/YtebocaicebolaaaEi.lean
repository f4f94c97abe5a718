/- Dynamics: the program's gate, all samples. -/
import Derived.Test.YtebocaicebolaaaEh
set_option linter.unusedVariables false
set_option linter.unusedSimpArgs false
namespace Go.Proofs.Ytebocaicebolaaa
open Fl Go.RowKit
end Go.Proofs.Ytebocaicebolaaa
