/- Contracts: the next lesser number, flushing, the root; and the laws on them. -/
import Derived.Test.YtfgebggfoboalaaWb
set_option linter.unusedVariables false
set_option linter.unusedSimpArgs false
namespace Go.Proofs.Ytfgebggfoboalaa
open Fl

def negN (b : Nat) : Nat := Op.negFloat .f32 b
theorem negN_lt {b : Nat} (h : b < 4294967296) : negN b < 4294967296 := neg_lt .f32 h
/-! flushing -/
def flushN (b : Nat) : Nat := if b % 2147483648 < 8388608 then b / 2147483648 * 2147483648 else b
theorem flushN_lt {b : Nat} (h : b < 4294967296) : flushN b < 4294967296 := by unfold flushN; split <;> omega
end Go.Proofs.Ytfgebggfoboalaa
