/- Contracts of the small functions on bits: what each returns, in words of what its arguments stand for. -/
import Derived.Test.YtdibobheggffnaaChecked
import Derived.Test.YtdibobheggffnaaSf
import Derived.KernelRfl
set_option linter.unusedVariables false
set_option linter.unusedSimpArgs false
namespace Go.Proofs.Ytdibobheggffnaa
open Fl

@[go_sem] theorem Try.f32bits (b : Nat) (w : World) : (callFunc 98 #[.float .f32 b]).run Try.prog w = .ok (.value (.int .u32 b)) w := by
  rw [run_callFunc_extern (P := Try.prog) (fn := Try.f98) (e := Extern.MathFloatBits.float32bits) (by kernel_rfl) (by kernel_rfl) (by kernel_rfl) (by kernel_rfl) (by kernel_rfl)]
  rfl
/-! the patterns -/
theorem withoutSign_any (p : Nat) (w : World) (hp : p < 4294967296) :
    Calls Try.prog 99 #[.int .u32 p] w fun e w' => e = .returned (.int .u32 (p % 2147483648 : Nat)) ∧ w = w' := by
  go_enter Try.func99, Try.ntmps99
  go_wp2
  go_ret
  exact ⟨rfl, rfl⟩

def nanB (p : Nat) : Bool := decide (2139095040 < p % 2147483648)
def zeroB (p : Nat) : Bool := decide (p % 2147483648 = 0)
def finB (p : Nat) : Bool := decide (p % 2147483648 < 2139095040)
theorem isFinite_any (p : Nat) (w : World) (hp : p < 4294967296) :
    Calls Try.prog 88 #[.int .u32 p] w fun e w' => e = .returned (.bool (finB p)) ∧ w = w' := by
  go_enter Try.func88, Try.ntmps88
  go_wp2_with (go_at_call 99; refine (withoutSign_any _ _ hp).mono ?_; rintro e w' ⟨rfl, rfl⟩)
  go_ret
  exact ⟨ret_bool (by rw [Bool.eq_iff_iff]; simp [finB]; omega), rfl⟩
def signB (p : Nat) : Bool := decide (2147483648 ≤ p)
def subB (p : Nat) : Bool := !zeroB p && decide (p % 2147483648 < 8388608)
def singleN (p : Nat) : Nat := if nanB p then 2143289344 else p
theorem single_lt {p : Nat} (hp : p < 4294967296) : singleN p < 4294967296 := by unfold singleN; split <;> omega

/-- The bits of what a word stands for, as an integer. -/
def bitsO : Option Nat → Nat
  | none => 2143289344
  | some b => b
theorem single_bits (p : Nat) : singleN p = bitsO (ab .f32 p) := by
  unfold singleN nanB; rw [ab32]
  by_cases h : 2139095040 < p % 2147483648 <;> simp [h, bitsO]
theorem nanB_ab (p : Nat) : nanB p = (ab .f32 p).isNone := by
  unfold nanB; rw [ab32]
  by_cases h : 2139095040 < p % 2147483648 <;> simp [h]

theorem patternOf_any (b : Nat) (w : World) :
    Calls Try.prog 87 #[.float .f32 b] w fun e w' => e = .returned (.int .u32 b) ∧ w = w' := by
  go_enter Try.func87, Try.ntmps87
  go_wp2
  go_ret
  exact ⟨rfl, rfl⟩

end Go.Proofs.Ytdibobheggffnaa
