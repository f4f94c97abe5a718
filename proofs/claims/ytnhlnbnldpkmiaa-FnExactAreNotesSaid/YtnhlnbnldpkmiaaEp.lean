/- Dynamics: levels, the program's. -/
import Derived.Test.YtnhlnbnldpkmiaaEo
import Derived.Test.YtnhlnbnldpkmiaaEf
set_option linter.unusedVariables false
set_option linter.unusedSimpArgs false
namespace Go.Proofs.Ytnhlnbnldpkmiaa
open Fl Go.RowKit
end Go.Proofs.Ytnhlnbnldpkmiaa
