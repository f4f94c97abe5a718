/- The law's own comparison of two floats. -/
import Derived.Test.YtflpackchlpedaaChecked
import Derived.Test.YtflpackchlpedaaFl
import Derived.KernelRfl
set_option linter.unusedVariables false
set_option linter.unusedSimpArgs false
namespace Go.Proofs.Ytflpackchlpedaa
open Fl

end Go.Proofs.Ytflpackchlpedaa
