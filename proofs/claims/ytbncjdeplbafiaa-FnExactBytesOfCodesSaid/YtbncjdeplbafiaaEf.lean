/- What a step makes of all samples, for bound methods; products of samples and gains. -/
import Derived.Test.YtbncjdeplbafiaaDr
import Derived.Test.YtbncjdeplbafiaaEa
set_option linter.unusedVariables false
set_option linter.unusedSimpArgs false
namespace Go.Proofs.Ytbncjdeplbafiaa
open Fl Go.RowKit
end Go.Proofs.Ytbncjdeplbafiaa
