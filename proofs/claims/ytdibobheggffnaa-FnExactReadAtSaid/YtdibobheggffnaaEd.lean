/- Dynamics: the model's lists: clipped samples, a fade. -/
import Derived.Test.YtdibobheggffnaaEa
import Derived.Test.YtdibobheggffnaaEc
set_option linter.unusedVariables false
set_option linter.unusedSimpArgs false
namespace Go.Proofs.Ytdibobheggffnaa
open Fl Go.RowKit
end Go.Proofs.Ytdibobheggffnaa
