/- The law's own comparison of two floats. -/
import Derived.Test.YtagcepankiinpaaChecked
import Derived.Test.YtagcepankiinpaaFl
import Derived.KernelRfl
set_option linter.unusedVariables false
set_option linter.unusedSimpArgs false
namespace Go.Proofs.Ytagcepankiinpaa
open Fl

end Go.Proofs.Ytagcepankiinpaa
