/- Dynamics: levels, the program's. -/
import Derived.Test.YtlddppnaakjamaaEo
import Derived.Test.YtlddppnaakjamaaEf
set_option linter.unusedVariables false
set_option linter.unusedSimpArgs false
namespace Go.Proofs.Ytlddppnaakjamaa
open Fl Go.RowKit
end Go.Proofs.Ytlddppnaakjamaa
