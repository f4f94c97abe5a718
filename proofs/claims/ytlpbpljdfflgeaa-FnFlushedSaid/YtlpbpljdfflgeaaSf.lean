/- The law's own comparison of two floats. -/
import Derived.Test.YtlpbpljdfflgeaaChecked
import Derived.Test.YtlpbpljdfflgeaaFl
import Derived.KernelRfl
set_option linter.unusedVariables false
set_option linter.unusedSimpArgs false
namespace Go.Proofs.Ytlpbpljdfflgeaa
open Fl

end Go.Proofs.Ytlpbpljdfflgeaa
