/- Dynamics: the program's lists: clipped samples. -/
import Derived.Test.YtnhlnbnldpkmiaaEd
import Derived.Test.YtnhlnbnldpkmiaaDr
import Derived.Test.YtnhlnbnldpkmiaaDs
set_option linter.unusedVariables false
set_option linter.unusedSimpArgs false
namespace Go.Proofs.Ytnhlnbnldpkmiaa
open Fl Go.RowKit
end Go.Proofs.Ytnhlnbnldpkmiaa
