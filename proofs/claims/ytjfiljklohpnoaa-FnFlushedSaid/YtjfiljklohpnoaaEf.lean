/- What a step makes of all samples, for bound methods; products of samples and gains. -/
import Derived.Test.YtjfiljklohpnoaaDr
import Derived.Test.YtjfiljklohpnoaaEa
set_option linter.unusedVariables false
set_option linter.unusedSimpArgs false
namespace Go.Proofs.Ytjfiljklohpnoaa
open Fl Go.RowKit
end Go.Proofs.Ytjfiljklohpnoaa
