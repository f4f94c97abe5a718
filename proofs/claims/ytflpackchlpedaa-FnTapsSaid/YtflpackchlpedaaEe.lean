/- Dynamics: the program's lists: clipped samples. -/
import Derived.Test.YtflpackchlpedaaEd
import Derived.Test.YtflpackchlpedaaDr
import Derived.Test.YtflpackchlpedaaDs
set_option linter.unusedVariables false
set_option linter.unusedSimpArgs false
namespace Go.Proofs.Ytflpackchlpedaa
open Fl Go.RowKit
end Go.Proofs.Ytflpackchlpedaa
