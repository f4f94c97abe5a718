/- Dynamics: the model's lists: clipped samples, a fade. -/
import Derived.Test.YtjfiljklohpnoaaEa
import Derived.Test.YtjfiljklohpnoaaEc
set_option linter.unusedVariables false
set_option linter.unusedSimpArgs false
namespace Go.Proofs.Ytjfiljklohpnoaa
open Fl Go.RowKit
end Go.Proofs.Ytjfiljklohpnoaa
