/- The exponential function in 64 bits. -/
import Derived.Test.YtcpcfgdncinpgaaWb
import Derived.Test.YtcpcfgdncinpgaaSm
import Derived.Lib.Hide
set_option linter.unusedVariables false
set_option linter.unusedSimpArgs false
namespace Go.Proofs.Ytcpcfgdncinpgaa
open Fl Go.RowKit

@[go_sem] theorem Try.f64from (n : Int) (w : World) : (callFunc 128 #[.int .u64 n]).run Try.prog w = .ok (.value (.float .f64 n.toNat)) w := by
  rw [run_callFunc_extern (P := Try.prog) (fn := Try.f128) (e := Extern.MathFloatBits.float64frombits) (by kernel_rfl) (by kernel_rfl) (by kernel_rfl) (by kernel_rfl) (by kernel_rfl)]
  rfl

def cOne : Nat := 4607182418800017408
def c256 : Nat := 4643211215818981376
def cP200 : Nat := 4641240890982006784
def cM200 : Nat := 13864612927836782592
def cInf : Nat := 9218868437227405312
theorem ab_one : ab .f64 4607182418800017408 = some cOne := by rw [ab64]; rfl
theorem ab_256 : ab .f64 4643211215818981376 = some c256 := by rw [ab64]; rfl
theorem ab_p200 : ab .f64 4641240890982006784 = some cP200 := by rw [ab64]; rfl
theorem ab_m200 : ab .f64 13864612927836782592 = some cM200 := by rw [ab64]; rfl
theorem ab_int64 (n : Int) : ab .f64 (floatOfInt .f64 n) = some (floatOfInt .f64 n) := ab_write .f64 (d := .number (decide (n < 0)) n.natAbs 0) rfl

def polyO (t : Option Nat) : Nat → Option Nat
  | 0 => some cOne
  | i + 1 => opO .add .f64 (some cOne) (opO .quo .f64 (opO .mul .f64 t (polyO t i)) (some (floatOfInt .f64 ((12 - i : Nat) : Int))))
def sqsO (p : Option Nat) : Nat → Option Nat
  | 0 => p
  | i + 1 => opO .mul .f64 (sqsO p i) (sqsO p i)
def expO (v : Option Nat) : Option Nat :=
  if (ordO .f64 v (some cP200) == some .gt) = true then some cInf
  else if (ordO .f64 v (some cM200) == some .lt) = true then some 0
  else sqsO (polyO (opO .quo .f64 v (some c256)) 12) 8
theorem fv_one : Fv .f64 4607182418800017408 (some cOne) := ⟨by decide, ab_one⟩
theorem fv_inf : Fv .f64 9218868437227405312 (some cInf) := ⟨by decide, by rw [ab64]; rfl⟩
theorem fv_zero64 : Fv .f64 0 (some 0) := ⟨by decide, by rw [ab64]; rfl⟩

theorem mathInf_any (w : World) : Calls Try.prog 112 #[.int .i64 1] w fun e w' => e = .returned (.float .f64 9218868437227405312) ∧ w = w' := by
  go_enter Try.func112, Try.ntmps112
  go_wp2
  go_ret
  exact ⟨rfl, rfl⟩

end Go.Proofs.Ytcpcfgdncinpgaa
