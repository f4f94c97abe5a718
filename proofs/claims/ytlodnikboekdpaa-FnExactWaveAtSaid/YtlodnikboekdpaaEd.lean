/- Dynamics: the model's lists: clipped samples, a fade. -/
import Derived.Test.YtlodnikboekdpaaEa
import Derived.Test.YtlodnikboekdpaaEc
set_option linter.unusedVariables false
set_option linter.unusedSimpArgs false
namespace Go.Proofs.Ytlodnikboekdpaa
open Fl Go.RowKit
end Go.Proofs.Ytlodnikboekdpaa
