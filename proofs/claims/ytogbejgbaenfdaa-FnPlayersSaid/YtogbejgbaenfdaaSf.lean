/- The law's own comparison of two floats. -/
import Derived.Test.YtogbejgbaenfdaaChecked
import Derived.Test.YtogbejgbaenfdaaFl
import Derived.KernelRfl
set_option linter.unusedVariables false
set_option linter.unusedSimpArgs false
namespace Go.Proofs.Ytogbejgbaenfdaa
open Fl

end Go.Proofs.Ytogbejgbaenfdaa
