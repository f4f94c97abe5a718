/- Dynamics: the program's lists: clipped samples. -/
import Derived.Test.YthcmboiccpdmjaaEd
import Derived.Test.YthcmboiccpdmjaaDr
import Derived.Test.YthcmboiccpdmjaaDs
set_option linter.unusedVariables false
set_option linter.unusedSimpArgs false
namespace Go.Proofs.Ythcmboiccpdmjaa
open Fl Go.RowKit
end Go.Proofs.Ythcmboiccpdmjaa
