/- Dynamics: levels, the program's. -/
import Derived.Test.YtdibobheggffnaaEo
import Derived.Test.YtdibobheggffnaaEf
set_option linter.unusedVariables false
set_option linter.unusedSimpArgs false
namespace Go.Proofs.Ytdibobheggffnaa
open Fl Go.RowKit
end Go.Proofs.Ytdibobheggffnaa
