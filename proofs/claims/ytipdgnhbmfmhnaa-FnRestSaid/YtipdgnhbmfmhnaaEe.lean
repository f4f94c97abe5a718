/- Dynamics: the program's lists: clipped samples. -/
import Derived.Test.YtipdgnhbmfmhnaaEd
import Derived.Test.YtipdgnhbmfmhnaaDr
import Derived.Test.YtipdgnhbmfmhnaaDs
set_option linter.unusedVariables false
set_option linter.unusedSimpArgs false
namespace Go.Proofs.Ytipdgnhbmfmhnaa
open Fl Go.RowKit
end Go.Proofs.Ytipdgnhbmfmhnaa
