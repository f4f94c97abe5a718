/- The law's own comparison of two floats. -/
import Derived.Test.YtbhigpfpnbdilaaChecked
import Derived.Test.YtbhigpfpnbdilaaFl
import Derived.KernelRfl
set_option linter.unusedVariables false
set_option linter.unusedSimpArgs false
namespace Go.Proofs.Ytbhigpfpnbdilaa
open Fl

end Go.Proofs.Ytbhigpfpnbdilaa
