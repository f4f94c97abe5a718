/- Dynamics: the program's lists: clipped samples. -/
import Derived.Test.YtfgebggfoboalaaEd
import Derived.Test.YtfgebggfoboalaaDr
import Derived.Test.YtfgebggfoboalaaDs
set_option linter.unusedVariables false
set_option linter.unusedSimpArgs false
namespace Go.Proofs.Ytfgebggfoboalaa
open Fl Go.RowKit
end Go.Proofs.Ytfgebggfoboalaa
