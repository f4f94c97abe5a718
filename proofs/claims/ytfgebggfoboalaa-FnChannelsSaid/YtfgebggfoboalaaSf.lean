/- The law's own comparison of two floats. -/
import Derived.Test.YtfgebggfoboalaaChecked
import Derived.Test.YtfgebggfoboalaaFl
import Derived.KernelRfl
set_option linter.unusedVariables false
set_option linter.unusedSimpArgs false
namespace Go.Proofs.Ytfgebggfoboalaa
open Fl

end Go.Proofs.Ytfgebggfoboalaa
