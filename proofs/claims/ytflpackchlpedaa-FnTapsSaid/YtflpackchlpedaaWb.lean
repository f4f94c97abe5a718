/- Contracts of the functions of the first chapter on bits, of the program and of the model. -/
import Derived.Test.YtflpackchlpedaaWa
import Derived.Test.YtflpackchlpedaaFk
set_option linter.unusedVariables false
set_option linter.unusedSimpArgs false
namespace Go.Proofs.Ytflpackchlpedaa
open Fl

theorem lt32 {b : Nat} (h : b < 4294967296) : b < 2 ^ FloatKind.f32.format.width := h
theorem rung32 (b : Nat) : rung .f32 b = b % 2147483648 := by unfold rung; rw [sw32]

theorem implFinite_any (b : Nat) (w : World) (hb : b < 4294967296) :
    Calls Try.prog 49 #[.float .f32 b] w fun e w' => e = .returned (.bool (finB b)) ∧ w = w' := by
  go_enter Try.func49, Try.ntmps49
  go_wp2_with (first | (go_at_call 68; refine (patternOf_any _ _).mono ?_; rintro e w' ⟨rfl, rfl⟩) | (go_at_call 69; refine (isFinite_any _ _ (by assumption)).mono ?_; rintro e w' ⟨rfl, rfl⟩))
  go_ret
  exact ⟨rfl, rfl⟩

def inB (n lo hi : Int) : Bool := decide (lo ≤ n) && decide (n ≤ hi)
theorem l00In_any (n lo hi : Int) (w : World) :
    Calls Try.prog 70 #[.int .i64 n, .int .i64 lo, .int .i64 hi] w fun e w' => e = .returned (.bool (inB n lo hi)) ∧ w = w' := by
  by_cases h : lo ≤ n
  all_goals
    go_enter Try.func70, Try.ntmps70
    go_wp2
    go_ret
    exact ⟨ret_bool (by simp [inB]; omega), rfl⟩

theorem l01From_any (n : Nat) (w : World) (h : n < 4294967296) :
    Calls Try.prog 59 #[.int .i64 n] w fun e w' => e = .returned (.float .f32 n) ∧ w = w' := by
  go_enter Try.func59, Try.ntmps59
  go_wp2
  go_ret
  exact ⟨rfl, rfl⟩

/-! the next greater number -/
def nextN (b : Nat) : Nat := if nanB b then b else if b = 2139095040 then b else if b % 2147483648 = 0 then 1 else if b < 2147483648 then b + 1 else b - 1
theorem nextN_lt {b : Nat} (hb : b < 4294967296) : nextN b < 4294967296 := by
  unfold nextN nanB; repeat (first | omega | split)
theorem ab_of_nan {b : Nat} (h : nanB b = false) : ab .f32 b = some b := by
  rw [nanB_ab] at h
  cases hv : ab .f32 b with
  | none => rw [hv] at h; cases h
  | some c => rw [ab_some hv]
theorem ab_of_nan' {b : Nat} (h : nanB b = true) : ab .f32 b = none := by
  rw [nanB_ab] at h; simpa using h

end Go.Proofs.Ytflpackchlpedaa
