/- Dynamics: the program's gate, all samples. -/
import Derived.Test.YtlpbpljdfflgeaaEh
set_option linter.unusedVariables false
set_option linter.unusedSimpArgs false
namespace Go.Proofs.Ytlpbpljdfflgeaa
open Fl Go.RowKit
end Go.Proofs.Ytlpbpljdfflgeaa
