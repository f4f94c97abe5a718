/- Dynamics: levels, the program's. -/
import Derived.Test.YtbncjdeplbafiaaEo
import Derived.Test.YtbncjdeplbafiaaEf
set_option linter.unusedVariables false
set_option linter.unusedSimpArgs false
namespace Go.Proofs.Ytbncjdeplbafiaa
open Fl Go.RowKit
end Go.Proofs.Ytbncjdeplbafiaa
