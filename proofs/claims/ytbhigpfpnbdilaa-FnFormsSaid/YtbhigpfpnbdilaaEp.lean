/- Dynamics: levels, the program's. -/
import Derived.Test.YtbhigpfpnbdilaaEo
import Derived.Test.YtbhigpfpnbdilaaEf
set_option linter.unusedVariables false
set_option linter.unusedSimpArgs false
namespace Go.Proofs.Ytbhigpfpnbdilaa
open Fl Go.RowKit
end Go.Proofs.Ytbhigpfpnbdilaa
