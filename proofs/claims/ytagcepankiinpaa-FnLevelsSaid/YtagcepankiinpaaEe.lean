/- Dynamics: the program's lists: clipped samples. -/
import Derived.Test.YtagcepankiinpaaEd
import Derived.Test.YtagcepankiinpaaDr
import Derived.Test.YtagcepankiinpaaDs
set_option linter.unusedVariables false
set_option linter.unusedSimpArgs false
namespace Go.Proofs.Ytagcepankiinpaa
open Fl Go.RowKit
end Go.Proofs.Ytagcepankiinpaa
