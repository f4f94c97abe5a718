/- What a step makes of all samples, for bound methods; products of samples and gains. -/
import Derived.Test.YthcmboiccpdmjaaDr
import Derived.Test.YthcmboiccpdmjaaEa
set_option linter.unusedVariables false
set_option linter.unusedSimpArgs false
namespace Go.Proofs.Ythcmboiccpdmjaa
open Fl Go.RowKit
end Go.Proofs.Ythcmboiccpdmjaa
