/- The law's own comparison of two floats. -/
import Derived.Test.YtipdgnhbmfmhnaaChecked
import Derived.Test.YtipdgnhbmfmhnaaFl
import Derived.KernelRfl
set_option linter.unusedVariables false
set_option linter.unusedSimpArgs false
namespace Go.Proofs.Ytipdgnhbmfmhnaa
open Fl

end Go.Proofs.Ytipdgnhbmfmhnaa
