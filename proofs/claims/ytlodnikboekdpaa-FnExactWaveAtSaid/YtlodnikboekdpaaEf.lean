/- What a step makes of all samples, for bound methods; products of samples and gains. -/
import Derived.Test.YtlodnikboekdpaaDr
import Derived.Test.YtlodnikboekdpaaEa
set_option linter.unusedVariables false
set_option linter.unusedSimpArgs false
namespace Go.Proofs.Ytlodnikboekdpaa
open Fl Go.RowKit
end Go.Proofs.Ytlodnikboekdpaa
