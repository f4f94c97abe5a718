/- Contracts of the small functions on bits: what each returns, in words of what its arguments stand for. -/
import Derived.Test.YtebocaicebolaaaChecked
import Derived.Test.YtebocaicebolaaaSf
import Derived.KernelRfl
set_option linter.unusedVariables false
set_option linter.unusedSimpArgs false
namespace Go.Proofs.Ytebocaicebolaaa
open Fl

@[go_sem] theorem Try.f32bits (b : Nat) (w : World) : (callFunc 97 #[.float .f32 b]).run Try.prog w = .ok (.value (.int .u32 b)) w := by
  rw [run_callFunc_extern (P := Try.prog) (fn := Try.f97) (e := Extern.MathFloatBits.float32bits) (by kernel_rfl) (by kernel_rfl) (by kernel_rfl) (by kernel_rfl) (by kernel_rfl)]
  rfl
@[go_sem] theorem Try.f32from (n : Int) (w : World) : (callFunc 106 #[.int .u32 n]).run Try.prog w = .ok (.value (.float .f32 n.toNat)) w := by
  rw [run_callFunc_extern (P := Try.prog) (fn := Try.f106) (e := Extern.MathFloatBits.float32frombits) (by kernel_rfl) (by kernel_rfl) (by kernel_rfl) (by kernel_rfl) (by kernel_rfl)]
  rfl

/-! the patterns -/
theorem withoutSign_any (p : Nat) (w : World) (hp : p < 4294967296) :
    Calls Try.prog 100 #[.int .u32 p] w fun e w' => e = .returned (.int .u32 (p % 2147483648 : Nat)) ∧ w = w' := by
  go_enter Try.func100, Try.ntmps100
  go_wp2
  go_ret
  exact ⟨rfl, rfl⟩

def nanB (p : Nat) : Bool := decide (2139095040 < p % 2147483648)
theorem isNaN_any (p : Nat) (w : World) (hp : p < 4294967296) :
    Calls Try.prog 98 #[.int .u32 p] w fun e w' => e = .returned (.bool (nanB p)) ∧ w = w' := by
  go_enter Try.func98, Try.ntmps98
  go_wp2_with (go_at_call 100; refine (withoutSign_any _ _ hp).mono ?_; rintro e w' ⟨rfl, rfl⟩)
  go_ret
  exact ⟨ret_bool (by rw [Bool.eq_iff_iff]; simp [nanB]; omega), rfl⟩
def zeroB (p : Nat) : Bool := decide (p % 2147483648 = 0)
theorem isZero_any (p : Nat) (w : World) (hp : p < 4294967296) :
    Calls Try.prog 99 #[.int .u32 p] w fun e w' => e = .returned (.bool (zeroB p)) ∧ w = w' := by
  go_enter Try.func99, Try.ntmps99
  go_wp2_with (go_at_call 100; refine (withoutSign_any _ _ hp).mono ?_; rintro e w' ⟨rfl, rfl⟩)
  go_ret
  exact ⟨ret_bool (by rw [Bool.eq_iff_iff]; simp [zeroB]; omega), rfl⟩
def finB (p : Nat) : Bool := decide (p % 2147483648 < 2139095040)
def signB (p : Nat) : Bool := decide (2147483648 ≤ p)
def subB (p : Nat) : Bool := !zeroB p && decide (p % 2147483648 < 8388608)
theorem isSubnormal_any (p : Nat) (w : World) (hp : p < 4294967296) :
    Calls Try.prog 85 #[.int .u32 p] w fun e w' => e = .returned (.bool (subB p)) ∧ w = w' := by
  cases hz : zeroB p
  all_goals
    go_enter Try.func85, Try.ntmps85
    go_wp2_with (first | (go_at_call 100; refine (withoutSign_any _ _ hp).mono ?_; rintro e w' ⟨rfl, rfl⟩) | (go_at_call 99; refine (isZero_any _ _ hp).mono ?_; rintro e w' ⟨rfl, rfl⟩))
    go_ret
  · exact ⟨ret_bool (by rw [Bool.eq_iff_iff]; simp [subB, hz]; omega), rfl⟩
  · exact ⟨ret_bool (by rw [Bool.eq_iff_iff]; simp [subB, hz]), rfl⟩
def singleN (p : Nat) : Nat := if nanB p then 2143289344 else p
theorem single_any (p : Nat) (w : World) (hp : p < 4294967296) :
    Calls Try.prog 84 #[.int .u32 p] w fun e w' => e = .returned (.int .u32 (singleN p : Nat)) ∧ w = w' := by
  cases hn : nanB p
  all_goals
    go_enter Try.func84, Try.ntmps84
    go_wp2_with (go_at_call 98; refine (isNaN_any _ _ hp).mono ?_; rintro e w' ⟨rfl, rfl⟩)
    go_ret
    exact ⟨ret_int (by simp [singleN, hn]), rfl⟩
theorem single_lt {p : Nat} (hp : p < 4294967296) : singleN p < 4294967296 := by unfold singleN; split <;> omega

/-- The bits of what a word stands for, as an integer. -/
def bitsO : Option Nat → Nat
  | none => 2143289344
  | some b => b
theorem single_bits (p : Nat) : singleN p = bitsO (ab .f32 p) := by
  unfold singleN nanB; rw [ab32]
  by_cases h : 2139095040 < p % 2147483648 <;> simp [h, bitsO]
theorem nanB_ab (p : Nat) : nanB p = (ab .f32 p).isNone := by
  unfold nanB; rw [ab32]
  by_cases h : 2139095040 < p % 2147483648 <;> simp [h]

theorem number_any (p : Nat) (w : World) :
    Calls Try.prog 101 #[.int .u32 p] w fun e w' => e = .returned (.float .f32 p) ∧ w = w' := by
  go_enter Try.func101, Try.ntmps101
  go_wp2
  go_ret
  exact ⟨rfl, rfl⟩

theorem patternOf_any (b : Nat) (w : World) :
    Calls Try.prog 83 #[.float .f32 b] w fun e w' => e = .returned (.int .u32 b) ∧ w = w' := by
  go_enter Try.func83, Try.ntmps83
  go_wp2
  go_ret
  exact ⟨rfl, rfl⟩

theorem implSame_any (a b : Nat) (w : World) (ha : a < 4294967296) (hb : b < 4294967296) :
    Calls Try.prog 47 #[.float .f32 a, .float .f32 b] w fun e w' => e = .returned (.bool (decide (bitsO (ab .f32 a) = bitsO (ab .f32 b)))) ∧ w = w' := by
  go_enter Try.func47, Try.ntmps47
  go_wp2_with (first | (go_at_call 83; refine (patternOf_any _ _).mono ?_; rintro e w' ⟨rfl, rfl⟩) | (go_at_call 84; refine (single_any _ _ (by assumption)).mono ?_; rintro e w' ⟨rfl, rfl⟩))
  go_ret
  exact ⟨ret_bool (by rw [Bool.eq_iff_iff]; simp [single_bits]; omega), rfl⟩

theorem l01Bits_any (b : Nat) (w : World) (hb : b < 4294967296) :
    Calls Try.prog 103 #[.float .f32 b] w fun e w' => e = .returned (.int .i64 (bitsO (ab .f32 b) : Nat)) ∧ w = w' := by
  have ho := order_self .f32 b
  cases hv : ab .f32 b
  all_goals
    rw [hv] at ho
    simp only [Option.map_none, Option.map_some] at ho
    go_enter Try.func103, Try.ntmps103
    go_wp2
    go_ret
  · exact ⟨rfl, rfl⟩
  · obtain rfl := ab_some hv
    exact ⟨rfl, rfl⟩

end Go.Proofs.Ytebocaicebolaaa
