/- What a step makes of all samples, for bound methods; products of samples and gains. -/
import Derived.Test.YtlddppnaakjamaaDr
import Derived.Test.YtlddppnaakjamaaEa
set_option linter.unusedVariables false
set_option linter.unusedSimpArgs false
namespace Go.Proofs.Ytlddppnaakjamaa
open Fl Go.RowKit
end Go.Proofs.Ytlddppnaakjamaa
