/- Dynamics: levels, the program's. -/
import Derived.Test.YtlodnikboekdpaaEo
import Derived.Test.YtlodnikboekdpaaEf
set_option linter.unusedVariables false
set_option linter.unusedSimpArgs false
namespace Go.Proofs.Ytlodnikboekdpaa
open Fl Go.RowKit
end Go.Proofs.Ytlodnikboekdpaa
