/- Dynamics: the program's lists: clipped samples. -/
import Derived.Test.YtbjhioolfighdaaEd
import Derived.Test.YtbjhioolfighdaaDr
import Derived.Test.YtbjhioolfighdaaDs
set_option linter.unusedVariables false
set_option linter.unusedSimpArgs false
namespace Go.Proofs.Ytbjhioolfighdaa
open Fl Go.RowKit
end Go.Proofs.Ytbjhioolfighdaa
