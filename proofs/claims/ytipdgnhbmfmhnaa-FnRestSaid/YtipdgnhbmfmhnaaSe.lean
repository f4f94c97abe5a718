/- The exponential function in 64 bits. -/
import Derived.Test.YtipdgnhbmfmhnaaWb
import Derived.Test.YtipdgnhbmfmhnaaSm
import Derived.Lib.Hide
set_option linter.unusedVariables false
set_option linter.unusedSimpArgs false
namespace Go.Proofs.Ytipdgnhbmfmhnaa
open Fl Go.RowKit

def cOne : Nat := 4607182418800017408
def c256 : Nat := 4643211215818981376
def cP200 : Nat := 4641240890982006784
def cM200 : Nat := 13864612927836782592
def cInf : Nat := 9218868437227405312
theorem ab_one : ab .f64 4607182418800017408 = some cOne := by rw [ab64]; rfl
theorem ab_256 : ab .f64 4643211215818981376 = some c256 := by rw [ab64]; rfl
theorem ab_p200 : ab .f64 4641240890982006784 = some cP200 := by rw [ab64]; rfl
theorem ab_m200 : ab .f64 13864612927836782592 = some cM200 := by rw [ab64]; rfl
theorem ab_int64 (n : Int) : ab .f64 (floatOfInt .f64 n) = some (floatOfInt .f64 n) := ab_write .f64 (d := .number (decide (n < 0)) n.natAbs 0) rfl

def polyO (t : Option Nat) : Nat → Option Nat
  | 0 => some cOne
  | i + 1 => opO .add .f64 (some cOne) (opO .quo .f64 (opO .mul .f64 t (polyO t i)) (some (floatOfInt .f64 ((12 - i : Nat) : Int))))
def sqsO (p : Option Nat) : Nat → Option Nat
  | 0 => p
  | i + 1 => opO .mul .f64 (sqsO p i) (sqsO p i)
def expO (v : Option Nat) : Option Nat :=
  if (ordO .f64 v (some cP200) == some .gt) = true then some cInf
  else if (ordO .f64 v (some cM200) == some .lt) = true then some 0
  else sqsO (polyO (opO .quo .f64 v (some c256)) 12) 8
theorem fv_one : Fv .f64 4607182418800017408 (some cOne) := ⟨by decide, ab_one⟩
theorem fv_inf : Fv .f64 9218868437227405312 (some cInf) := ⟨by decide, by rw [ab64]; rfl⟩
theorem fv_zero64 : Fv .f64 0 (some 0) := ⟨by decide, by rw [ab64]; rfl⟩

end Go.Proofs.Ytipdgnhbmfmhnaa
