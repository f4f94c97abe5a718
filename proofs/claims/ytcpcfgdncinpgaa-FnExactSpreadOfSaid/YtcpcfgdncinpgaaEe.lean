/- Dynamics: the program's lists: clipped samples. -/
import Derived.Test.YtcpcfgdncinpgaaEd
import Derived.Test.YtcpcfgdncinpgaaDr
import Derived.Test.YtcpcfgdncinpgaaDs
set_option linter.unusedVariables false
set_option linter.unusedSimpArgs false
namespace Go.Proofs.Ytcpcfgdncinpgaa
open Fl Go.RowKit
end Go.Proofs.Ytcpcfgdncinpgaa
