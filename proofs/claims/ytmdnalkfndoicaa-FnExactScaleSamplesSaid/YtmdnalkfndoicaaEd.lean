/- Dynamics: the model's lists: clipped samples, a fade. -/
import Derived.Test.YtmdnalkfndoicaaEa
import Derived.Test.YtmdnalkfndoicaaEc
set_option linter.unusedVariables false
set_option linter.unusedSimpArgs false
namespace Go.Proofs.Ytmdnalkfndoicaa
open Fl Go.RowKit
end Go.Proofs.Ytmdnalkfndoicaa
