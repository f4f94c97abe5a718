/- Dynamics: the model's lists: clipped samples, a fade. -/
import Derived.Test.YtcpcfgdncinpgaaEa
import Derived.Test.YtcpcfgdncinpgaaEc
set_option linter.unusedVariables false
set_option linter.unusedSimpArgs false
namespace Go.Proofs.Ytcpcfgdncinpgaa
open Fl Go.RowKit
end Go.Proofs.Ytcpcfgdncinpgaa
