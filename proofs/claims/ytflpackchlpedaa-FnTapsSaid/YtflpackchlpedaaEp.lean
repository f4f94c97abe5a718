/- Dynamics: levels, the program's. -/
import Derived.Test.YtflpackchlpedaaEo
import Derived.Test.YtflpackchlpedaaEf
set_option linter.unusedVariables false
set_option linter.unusedSimpArgs false
namespace Go.Proofs.Ytflpackchlpedaa
open Fl Go.RowKit
end Go.Proofs.Ytflpackchlpedaa
