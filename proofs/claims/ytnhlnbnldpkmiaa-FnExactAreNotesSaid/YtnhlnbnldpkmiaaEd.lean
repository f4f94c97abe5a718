/- Dynamics: the model's lists: clipped samples, a fade. -/
import Derived.Test.YtnhlnbnldpkmiaaEa
import Derived.Test.YtnhlnbnldpkmiaaEc
set_option linter.unusedVariables false
set_option linter.unusedSimpArgs false
namespace Go.Proofs.Ytnhlnbnldpkmiaa
open Fl Go.RowKit
end Go.Proofs.Ytnhlnbnldpkmiaa
