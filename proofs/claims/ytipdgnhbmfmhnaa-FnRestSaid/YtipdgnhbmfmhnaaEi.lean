/- Dynamics: the program's gate, all samples. -/
import Derived.Test.YtipdgnhbmfmhnaaEh
set_option linter.unusedVariables false
set_option linter.unusedSimpArgs false
namespace Go.Proofs.Ytipdgnhbmfmhnaa
open Fl Go.RowKit
end Go.Proofs.Ytipdgnhbmfmhnaa
