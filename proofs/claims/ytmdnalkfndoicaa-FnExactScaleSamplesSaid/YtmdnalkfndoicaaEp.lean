/- Dynamics: levels, the program's. -/
import Derived.Test.YtmdnalkfndoicaaEo
import Derived.Test.YtmdnalkfndoicaaEf
set_option linter.unusedVariables false
set_option linter.unusedSimpArgs false
namespace Go.Proofs.Ytmdnalkfndoicaa
open Fl Go.RowKit
end Go.Proofs.Ytmdnalkfndoicaa
