/- Dynamics: the model's lists: clipped samples, a fade. -/
import Derived.Test.YthcmboiccpdmjaaEa
import Derived.Test.YthcmboiccpdmjaaEc
set_option linter.unusedVariables false
set_option linter.unusedSimpArgs false
namespace Go.Proofs.Ythcmboiccpdmjaa
open Fl Go.RowKit
end Go.Proofs.Ythcmboiccpdmjaa
