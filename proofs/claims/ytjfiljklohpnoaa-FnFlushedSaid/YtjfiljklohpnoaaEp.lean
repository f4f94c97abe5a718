/- Dynamics: levels, the program's. -/
import Derived.Test.YtjfiljklohpnoaaEo
import Derived.Test.YtjfiljklohpnoaaEf
set_option linter.unusedVariables false
set_option linter.unusedSimpArgs false
namespace Go.Proofs.Ytjfiljklohpnoaa
open Fl Go.RowKit
end Go.Proofs.Ytjfiljklohpnoaa
