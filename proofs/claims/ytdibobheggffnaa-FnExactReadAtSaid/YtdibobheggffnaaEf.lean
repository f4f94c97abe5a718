/- What a step makes of all samples, for bound methods; products of samples and gains. -/
import Derived.Test.YtdibobheggffnaaDr
import Derived.Test.YtdibobheggffnaaEa
set_option linter.unusedVariables false
set_option linter.unusedSimpArgs false
namespace Go.Proofs.Ytdibobheggffnaa
open Fl Go.RowKit
end Go.Proofs.Ytdibobheggffnaa
