/- Dynamics: the model's lists: clipped samples, a fade. -/
import Derived.Test.YtpcbniaagckjoaaEa
import Derived.Test.YtpcbniaagckjoaaEc
set_option linter.unusedVariables false
set_option linter.unusedSimpArgs false
namespace Go.Proofs.Ytpcbniaagckjoaa
open Fl Go.RowKit
end Go.Proofs.Ytpcbniaagckjoaa
