/- Contracts of the small functions on bits: what each returns, in words of what its arguments stand for. -/
import Derived.Test.YthcmboiccpdmjaaChecked
import Derived.Test.YthcmboiccpdmjaaSf
import Derived.KernelRfl
set_option linter.unusedVariables false
set_option linter.unusedSimpArgs false
namespace Go.Proofs.Ythcmboiccpdmjaa
open Fl

/-! the patterns -/
def nanB (p : Nat) : Bool := decide (2139095040 < p % 2147483648)
def zeroB (p : Nat) : Bool := decide (p % 2147483648 = 0)
def finB (p : Nat) : Bool := decide (p % 2147483648 < 2139095040)
def signB (p : Nat) : Bool := decide (2147483648 ≤ p)
def subB (p : Nat) : Bool := !zeroB p && decide (p % 2147483648 < 8388608)
def singleN (p : Nat) : Nat := if nanB p then 2143289344 else p
theorem single_lt {p : Nat} (hp : p < 4294967296) : singleN p < 4294967296 := by unfold singleN; split <;> omega

/-- The bits of what a word stands for, as an integer. -/
def bitsO : Option Nat → Nat
  | none => 2143289344
  | some b => b
theorem single_bits (p : Nat) : singleN p = bitsO (ab .f32 p) := by
  unfold singleN nanB; rw [ab32]
  by_cases h : 2139095040 < p % 2147483648 <;> simp [h, bitsO]
theorem nanB_ab (p : Nat) : nanB p = (ab .f32 p).isNone := by
  unfold nanB; rw [ab32]
  by_cases h : 2139095040 < p % 2147483648 <;> simp [h]

end Go.Proofs.Ythcmboiccpdmjaa
