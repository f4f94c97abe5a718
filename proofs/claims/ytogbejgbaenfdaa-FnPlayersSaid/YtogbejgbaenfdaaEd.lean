/- Dynamics: the model's lists: clipped samples, a fade. -/
import Derived.Test.YtogbejgbaenfdaaEa
import Derived.Test.YtogbejgbaenfdaaEc
set_option linter.unusedVariables false
set_option linter.unusedSimpArgs false
namespace Go.Proofs.Ytogbejgbaenfdaa
open Fl Go.RowKit
end Go.Proofs.Ytogbejgbaenfdaa
