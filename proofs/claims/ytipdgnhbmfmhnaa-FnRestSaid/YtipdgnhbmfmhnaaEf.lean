/- What a step makes of all samples, for bound methods; products of samples and gains. -/
import Derived.Test.YtipdgnhbmfmhnaaDr
import Derived.Test.YtipdgnhbmfmhnaaEa
set_option linter.unusedVariables false
set_option linter.unusedSimpArgs false
namespace Go.Proofs.Ytipdgnhbmfmhnaa
open Fl Go.RowKit
end Go.Proofs.Ytipdgnhbmfmhnaa
