/- Dynamics: the program's lists: clipped samples. -/
import Derived.Test.YtlddppnaakjamaaEd
import Derived.Test.YtlddppnaakjamaaDr
import Derived.Test.YtlddppnaakjamaaDs
set_option linter.unusedVariables false
set_option linter.unusedSimpArgs false
namespace Go.Proofs.Ytlddppnaakjamaa
open Fl Go.RowKit
end Go.Proofs.Ytlddppnaakjamaa
