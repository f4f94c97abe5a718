/- Dynamics: the program's lists: clipped samples. -/
import Derived.Test.YtpcbniaagckjoaaEd
import Derived.Test.YtpcbniaagckjoaaDr
import Derived.Test.YtpcbniaagckjoaaDs
set_option linter.unusedVariables false
set_option linter.unusedSimpArgs false
namespace Go.Proofs.Ytpcbniaagckjoaa
open Fl Go.RowKit
end Go.Proofs.Ytpcbniaagckjoaa
