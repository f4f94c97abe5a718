/- The laws' helpers on slices of floats: a copy, and a comparison. -/
import Derived.Test.YtflpackchlpedaaSf
import Derived.Test.YtflpackchlpedaaSm
import Derived.RegionTactic
import Derived.BigRegion
import Derived.Deep.QuietTactic
import Derived.BigQuiet
import Derived.Deep.RegionWith
import Derived.Lib.Hide
set_option linter.unusedVariables false
set_option linter.unusedSimpArgs false
namespace Go.Proofs.Ytflpackchlpedaa
open Fl Go.RowKit

theorem Try.infoF : (Try.prog.info? 33).map (fun i => (i.zero, i.size, i.bytes)) = some (some (.float .f32 0), 1, 4) := by kernel_rfl

/-- what a copy's row holds when k words have been copied -/
def part (xs : List Nat) (k j : Nat) : Value := if j < k then fv xs j else .float .f32 0

end Go.Proofs.Ytflpackchlpedaa
