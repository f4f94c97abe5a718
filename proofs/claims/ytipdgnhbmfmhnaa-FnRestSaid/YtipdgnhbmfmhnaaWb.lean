/- Contracts of the functions of the first chapter on bits, of the program and of the model. -/
import Derived.Test.YtipdgnhbmfmhnaaWa
import Derived.Test.YtipdgnhbmfmhnaaFk
set_option linter.unusedVariables false
set_option linter.unusedSimpArgs false
namespace Go.Proofs.Ytipdgnhbmfmhnaa
open Fl

theorem lt32 {b : Nat} (h : b < 4294967296) : b < 2 ^ FloatKind.f32.format.width := h
theorem rung32 (b : Nat) : rung .f32 b = b % 2147483648 := by unfold rung; rw [sw32]

def inB (n lo hi : Int) : Bool := decide (lo ≤ n) && decide (n ≤ hi)
/-! the next greater number -/
def nextN (b : Nat) : Nat := if nanB b then b else if b = 2139095040 then b else if b % 2147483648 = 0 then 1 else if b < 2147483648 then b + 1 else b - 1
theorem nextN_lt {b : Nat} (hb : b < 4294967296) : nextN b < 4294967296 := by
  unfold nextN nanB; repeat (first | omega | split)
theorem ab_of_nan {b : Nat} (h : nanB b = false) : ab .f32 b = some b := by
  rw [nanB_ab] at h
  cases hv : ab .f32 b with
  | none => rw [hv] at h; cases h
  | some c => rw [ab_some hv]
theorem ab_of_nan' {b : Nat} (h : nanB b = true) : ab .f32 b = none := by
  rw [nanB_ab] at h; simpa using h

end Go.Proofs.Ytipdgnhbmfmhnaa
