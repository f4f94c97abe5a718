/- Dynamics: the model's lists: clipped samples, a fade. -/
import Derived.Test.YtipdgnhbmfmhnaaEa
import Derived.Test.YtipdgnhbmfmhnaaEc
set_option linter.unusedVariables false
set_option linter.unusedSimpArgs false
namespace Go.Proofs.Ytipdgnhbmfmhnaa
open Fl Go.RowKit
end Go.Proofs.Ytipdgnhbmfmhnaa
