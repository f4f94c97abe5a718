/- Dynamics: the program's lists: clipped samples. -/
import Derived.Test.YtbhigpfpnbdilaaEd
import Derived.Test.YtbhigpfpnbdilaaDr
import Derived.Test.YtbhigpfpnbdilaaDs
set_option linter.unusedVariables false
set_option linter.unusedSimpArgs false
namespace Go.Proofs.Ytbhigpfpnbdilaa
open Fl Go.RowKit
end Go.Proofs.Ytbhigpfpnbdilaa
