/- The law's own comparison of two floats. -/
import Derived.Test.YtbncjdeplbafiaaChecked
import Derived.Test.YtbncjdeplbafiaaFl
import Derived.KernelRfl
set_option linter.unusedVariables false
set_option linter.unusedSimpArgs false
namespace Go.Proofs.Ytbncjdeplbafiaa
open Fl

end Go.Proofs.Ytbncjdeplbafiaa
