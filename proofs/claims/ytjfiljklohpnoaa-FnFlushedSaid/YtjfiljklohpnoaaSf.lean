/- The law's own comparison of two floats. -/
import Derived.Test.YtjfiljklohpnoaaChecked
import Derived.Test.YtjfiljklohpnoaaFl
import Derived.KernelRfl
set_option linter.unusedVariables false
set_option linter.unusedSimpArgs false
namespace Go.Proofs.Ytjfiljklohpnoaa
open Fl

end Go.Proofs.Ytjfiljklohpnoaa
