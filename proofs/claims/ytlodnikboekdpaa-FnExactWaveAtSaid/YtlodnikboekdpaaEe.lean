/- Dynamics: the program's lists: clipped samples. -/
import Derived.Test.YtlodnikboekdpaaEd
import Derived.Test.YtlodnikboekdpaaDr
import Derived.Test.YtlodnikboekdpaaDs
set_option linter.unusedVariables false
set_option linter.unusedSimpArgs false
namespace Go.Proofs.Ytlodnikboekdpaa
open Fl Go.RowKit
end Go.Proofs.Ytlodnikboekdpaa
