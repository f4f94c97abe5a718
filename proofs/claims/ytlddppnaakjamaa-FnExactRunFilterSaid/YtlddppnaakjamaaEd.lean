/- Dynamics: the model's lists: clipped samples, a fade. -/
import Derived.Test.YtlddppnaakjamaaEa
import Derived.Test.YtlddppnaakjamaaEc
set_option linter.unusedVariables false
set_option linter.unusedSimpArgs false
namespace Go.Proofs.Ytlddppnaakjamaa
open Fl Go.RowKit
end Go.Proofs.Ytlddppnaakjamaa
