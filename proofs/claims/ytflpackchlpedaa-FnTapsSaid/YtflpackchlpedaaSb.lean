/- Sums from left to right. -/
import Derived.Test.YtflpackchlpedaaSa
set_option linter.unusedVariables false
set_option linter.unusedSimpArgs false
namespace Go.Proofs.Ytflpackchlpedaa
open Fl Go.RowKit

/-- the sum of the first words, from left to right -/
def sumO (xs : List Nat) : Nat → Option Nat
  | 0 => some 0
  | k + 1 => opO .add .f32 (sumO xs k) (ab .f32 (wd xs k))

theorem ab32z : ab .f32 0 = some 0 := by rw [ab32]; rfl
theorem fv32z : Fv .f32 0 (some 0) := ⟨by decide, ab32z⟩
theorem fv_ab {r : Nat} {v : Option Nat} {k : FloatKind} (h : Fv k r v) : ab k r = v := h.2

theorem implFew_any (A : Option Addr) (n c : Nat) (b : Bool) (w : World) (hd : decide ((n : Int) ≤ 256) = b) :
    Calls Try.prog 27 #[.slice A n c] w fun e w' => e = .returned (.bool b) ∧ w = w' := by
  go_enter Try.func27, Try.ntmps27
  go_wp2
  go_ret
  exact ⟨by simp, rfl⟩
end Go.Proofs.Ytflpackchlpedaa
