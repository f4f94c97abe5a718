/- Dynamics: the model's lists: clipped samples, a fade. -/
import Derived.Test.YtbhigpfpnbdilaaEa
import Derived.Test.YtbhigpfpnbdilaaEc
set_option linter.unusedVariables false
set_option linter.unusedSimpArgs false
namespace Go.Proofs.Ytbhigpfpnbdilaa
open Fl Go.RowKit
end Go.Proofs.Ytbhigpfpnbdilaa
