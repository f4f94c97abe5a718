/- Sums from left to right. -/
import Derived.Test.YtipdgnhbmfmhnaaSa
set_option linter.unusedVariables false
set_option linter.unusedSimpArgs false
namespace Go.Proofs.Ytipdgnhbmfmhnaa
open Fl Go.RowKit

/-- the sum of the first words, from left to right -/
def sumO (xs : List Nat) : Nat → Option Nat
  | 0 => some 0
  | k + 1 => opO .add .f32 (sumO xs k) (ab .f32 (wd xs k))

theorem ab32z : ab .f32 0 = some 0 := by rw [ab32]; rfl
theorem fv32z : Fv .f32 0 (some 0) := ⟨by decide, ab32z⟩
theorem fv_ab {r : Nat} {v : Option Nat} {k : FloatKind} (h : Fv k r v) : ab k r = v := h.2

end Go.Proofs.Ytipdgnhbmfmhnaa
