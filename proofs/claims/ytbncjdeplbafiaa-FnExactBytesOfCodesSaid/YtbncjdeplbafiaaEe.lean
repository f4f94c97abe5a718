/- Dynamics: the program's lists: clipped samples. -/
import Derived.Test.YtbncjdeplbafiaaEd
import Derived.Test.YtbncjdeplbafiaaDr
import Derived.Test.YtbncjdeplbafiaaDs
set_option linter.unusedVariables false
set_option linter.unusedSimpArgs false
namespace Go.Proofs.Ytbncjdeplbafiaa
open Fl Go.RowKit
end Go.Proofs.Ytbncjdeplbafiaa
