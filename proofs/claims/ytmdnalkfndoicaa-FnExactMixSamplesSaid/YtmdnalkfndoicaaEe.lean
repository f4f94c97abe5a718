/- Dynamics: the program's lists: clipped samples. -/
import Derived.Test.YtmdnalkfndoicaaEd
import Derived.Test.YtmdnalkfndoicaaDr
import Derived.Test.YtmdnalkfndoicaaDs
set_option linter.unusedVariables false
set_option linter.unusedSimpArgs false
namespace Go.Proofs.Ytmdnalkfndoicaa
open Fl Go.RowKit
end Go.Proofs.Ytmdnalkfndoicaa
