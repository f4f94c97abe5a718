/- Contracts: the next lesser number, flushing, the root; and the laws on them. -/
import Derived.Test.YtecgipilamefmaaWb
set_option linter.unusedVariables false
set_option linter.unusedSimpArgs false
namespace Go.Proofs.Ytecgipilamefmaa
open Fl

def negN (b : Nat) : Nat := Op.negFloat .f32 b
theorem negN_lt {b : Nat} (h : b < 4294967296) : negN b < 4294967296 := neg_lt .f32 h
theorem specUp_any (b : Nat) (w : World) (hb : b < 4294967296) :
    Calls Try.prog 30 #[.float .f32 b] w fun e w' => e = .returned (.float .f32 (nextN b)) ∧ w = w' := by
  go_enter Try.func30, Try.ntmps30
  go_wp2_with (first | (go_at_call 60; refine (specNext_any _ _ hb).mono ?_; rintro e w' ⟨rfl, rfl⟩))
  go_ret
  exact ⟨rfl, rfl⟩
/-! flushing -/
def flushN (b : Nat) : Nat := if b % 2147483648 < 8388608 then b / 2147483648 * 2147483648 else b
theorem flushN_lt {b : Nat} (h : b < 4294967296) : flushN b < 4294967296 := by unfold flushN; split <;> omega
end Go.Proofs.Ytecgipilamefmaa
