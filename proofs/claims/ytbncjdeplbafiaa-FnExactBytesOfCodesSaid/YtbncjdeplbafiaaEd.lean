/- Dynamics: the model's lists: clipped samples, a fade. -/
import Derived.Test.YtbncjdeplbafiaaEa
import Derived.Test.YtbncjdeplbafiaaEc
set_option linter.unusedVariables false
set_option linter.unusedSimpArgs false
namespace Go.Proofs.Ytbncjdeplbafiaa
open Fl Go.RowKit
end Go.Proofs.Ytbncjdeplbafiaa
