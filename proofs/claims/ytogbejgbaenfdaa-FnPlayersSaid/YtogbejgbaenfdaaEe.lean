/- Dynamics: the program's lists: clipped samples. -/
import Derived.Test.YtogbejgbaenfdaaEd
import Derived.Test.YtogbejgbaenfdaaDr
import Derived.Test.YtogbejgbaenfdaaDs
set_option linter.unusedVariables false
set_option linter.unusedSimpArgs false
namespace Go.Proofs.Ytogbejgbaenfdaa
open Fl Go.RowKit
end Go.Proofs.Ytogbejgbaenfdaa
