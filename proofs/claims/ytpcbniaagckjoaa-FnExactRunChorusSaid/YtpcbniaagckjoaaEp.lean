/- Dynamics: levels, the program's. -/
import Derived.Test.YtpcbniaagckjoaaEo
import Derived.Test.YtpcbniaagckjoaaEf
set_option linter.unusedVariables false
set_option linter.unusedSimpArgs false
namespace Go.Proofs.Ytpcbniaagckjoaa
open Fl Go.RowKit
end Go.Proofs.Ytpcbniaagckjoaa
