/- What a step makes of all samples, for bound methods; products of samples and gains. -/
import Derived.Test.YtbhigpfpnbdilaaDr
import Derived.Test.YtbhigpfpnbdilaaEa
set_option linter.unusedVariables false
set_option linter.unusedSimpArgs false
namespace Go.Proofs.Ytbhigpfpnbdilaa
open Fl Go.RowKit
end Go.Proofs.Ytbhigpfpnbdilaa
