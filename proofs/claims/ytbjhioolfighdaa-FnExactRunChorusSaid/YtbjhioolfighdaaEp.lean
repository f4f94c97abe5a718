/- Dynamics: levels, the program's. -/
import Derived.Test.YtbjhioolfighdaaEo
import Derived.Test.YtbjhioolfighdaaEf
set_option linter.unusedVariables false
set_option linter.unusedSimpArgs false
namespace Go.Proofs.Ytbjhioolfighdaa
open Fl Go.RowKit
end Go.Proofs.Ytbjhioolfighdaa
