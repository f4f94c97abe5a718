/- Dynamics: the program's lists: clipped samples. -/
import Derived.Test.YtjfiljklohpnoaaEd
import Derived.Test.YtjfiljklohpnoaaDr
import Derived.Test.YtjfiljklohpnoaaDs
set_option linter.unusedVariables false
set_option linter.unusedSimpArgs false
namespace Go.Proofs.Ytjfiljklohpnoaa
open Fl Go.RowKit
end Go.Proofs.Ytjfiljklohpnoaa
