/- Dynamics: the model's lists: clipped samples, a fade. -/
import Derived.Test.YtflpackchlpedaaEa
import Derived.Test.YtflpackchlpedaaEc
set_option linter.unusedVariables false
set_option linter.unusedSimpArgs false
namespace Go.Proofs.Ytflpackchlpedaa
open Fl Go.RowKit
end Go.Proofs.Ytflpackchlpedaa
