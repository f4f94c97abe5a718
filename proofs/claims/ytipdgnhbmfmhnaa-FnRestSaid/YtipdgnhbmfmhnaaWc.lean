/- Contracts: the next lesser number, flushing, the root; and the laws on them. -/
import Derived.Test.YtipdgnhbmfmhnaaWb
set_option linter.unusedVariables false
set_option linter.unusedSimpArgs false
namespace Go.Proofs.Ytipdgnhbmfmhnaa
open Fl

def negN (b : Nat) : Nat := Op.negFloat .f32 b
theorem negN_lt {b : Nat} (h : b < 4294967296) : negN b < 4294967296 := neg_lt .f32 h
/-! flushing -/
def flushN (b : Nat) : Nat := if b % 2147483648 < 8388608 then b / 2147483648 * 2147483648 else b
theorem flushN_lt {b : Nat} (h : b < 4294967296) : flushN b < 4294967296 := by unfold flushN; split <;> omega
theorem implFlush_any (b : Nat) (w : World) (hb : b < 4294967296) :
    Calls Try.prog 28 #[.float .f32 b] w fun e w' => e = .returned (.float .f32 (flushN b)) ∧ w = w' := by
  cases hs : subB b
  · have e : flushN b = b := by
      unfold flushN; split
      · simp [subB, zeroB] at hs; omega
      · rfl
    rw [e]
    go_enter Try.func28, Try.ntmps28
    go_wp2_with (first | (go_at_call 24; refine (patternOf_any _ _).mono ?_; rintro e w' ⟨rfl, rfl⟩) | (go_at_call 31; refine (isSubnormal_any _ _ hb).mono ?_; rintro e w' ⟨rfl, rfl⟩))
    go_ret
    exact ⟨rfl, rfl⟩
  · have e : flushN b = b / 2147483648 * 2147483648 := by
      unfold flushN; split
      · rfl
      · simp [subB, zeroB] at hs; omega
    rw [e]
    go_enter Try.func28, Try.ntmps28
    go_wp2_with (first | (go_at_call 24; refine (patternOf_any _ _).mono ?_; rintro e w' ⟨rfl, rfl⟩) | (go_at_call 31; refine (isSubnormal_any _ _ hb).mono ?_; rintro e w' ⟨rfl, rfl⟩) | (go_at_call 26; refine (number_any (b / 2147483648 * 2147483648) _).mono ?_; rintro e w' ⟨rfl, rfl⟩))
    go_ret
    exact ⟨rfl, rfl⟩
end Go.Proofs.Ytipdgnhbmfmhnaa
