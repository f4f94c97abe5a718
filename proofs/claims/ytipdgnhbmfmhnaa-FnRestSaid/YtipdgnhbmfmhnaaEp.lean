/- Dynamics: levels, the program's. -/
import Derived.Test.YtipdgnhbmfmhnaaEo
import Derived.Test.YtipdgnhbmfmhnaaEf
set_option linter.unusedVariables false
set_option linter.unusedSimpArgs false
namespace Go.Proofs.Ytipdgnhbmfmhnaa
open Fl Go.RowKit
end Go.Proofs.Ytipdgnhbmfmhnaa
