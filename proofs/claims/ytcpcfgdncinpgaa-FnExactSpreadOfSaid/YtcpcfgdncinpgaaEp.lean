/- Dynamics: levels, the program's. -/
import Derived.Test.YtcpcfgdncinpgaaEo
import Derived.Test.YtcpcfgdncinpgaaEf
set_option linter.unusedVariables false
set_option linter.unusedSimpArgs false
namespace Go.Proofs.Ytcpcfgdncinpgaa
open Fl Go.RowKit
end Go.Proofs.Ytcpcfgdncinpgaa
