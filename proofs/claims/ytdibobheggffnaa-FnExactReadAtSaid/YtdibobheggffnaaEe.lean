/- Dynamics: the program's lists: clipped samples. -/
import Derived.Test.YtdibobheggffnaaEd
import Derived.Test.YtdibobheggffnaaDr
import Derived.Test.YtdibobheggffnaaDs
set_option linter.unusedVariables false
set_option linter.unusedSimpArgs false
namespace Go.Proofs.Ytdibobheggffnaa
open Fl Go.RowKit
end Go.Proofs.Ytdibobheggffnaa
