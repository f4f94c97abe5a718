/- Dynamics: levels, the program's. -/
import Derived.Test.YtogbejgbaenfdaaEo
import Derived.Test.YtogbejgbaenfdaaEf
set_option linter.unusedVariables false
set_option linter.unusedSimpArgs false
namespace Go.Proofs.Ytogbejgbaenfdaa
open Fl Go.RowKit
end Go.Proofs.Ytogbejgbaenfdaa
