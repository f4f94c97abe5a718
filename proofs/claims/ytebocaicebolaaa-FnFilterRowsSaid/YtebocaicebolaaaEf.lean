/- What a step makes of all samples, for bound methods; products of samples and gains. -/
import Derived.Test.YtebocaicebolaaaDr
import Derived.Test.YtebocaicebolaaaEa
set_option linter.unusedVariables false
set_option linter.unusedSimpArgs false
namespace Go.Proofs.Ytebocaicebolaaa
open Fl Go.RowKit
end Go.Proofs.Ytebocaicebolaaa
