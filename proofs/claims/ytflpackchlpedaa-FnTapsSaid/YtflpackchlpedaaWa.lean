/- Contracts of the small functions on bits: what each returns, in words of what its arguments stand for. -/
import Derived.Test.YtflpackchlpedaaChecked
import Derived.Test.YtflpackchlpedaaSf
import Derived.KernelRfl
set_option linter.unusedVariables false
set_option linter.unusedSimpArgs false
namespace Go.Proofs.Ytflpackchlpedaa
open Fl

@[go_sem] theorem Try.f32bits (b : Nat) (w : World) : (callFunc 74 #[.float .f32 b]).run Try.prog w = .ok (.value (.int .u32 b)) w := by
  rw [run_callFunc_extern (P := Try.prog) (fn := Try.f74) (e := Extern.MathFloatBits.float32bits) (by kernel_rfl) (by kernel_rfl) (by kernel_rfl) (by kernel_rfl) (by kernel_rfl)]
  rfl
@[go_sem] theorem Try.f32from (n : Int) (w : World) : (callFunc 73 #[.int .u32 n]).run Try.prog w = .ok (.value (.float .f32 n.toNat)) w := by
  rw [run_callFunc_extern (P := Try.prog) (fn := Try.f73) (e := Extern.MathFloatBits.float32frombits) (by kernel_rfl) (by kernel_rfl) (by kernel_rfl) (by kernel_rfl) (by kernel_rfl)]
  rfl

/-! the patterns -/
theorem withoutSign_any (p : Nat) (w : World) (hp : p < 4294967296) :
    Calls Try.prog 77 #[.int .u32 p] w fun e w' => e = .returned (.int .u32 (p % 2147483648 : Nat)) ∧ w = w' := by
  go_enter Try.func77, Try.ntmps77
  go_wp2
  go_ret
  exact ⟨rfl, rfl⟩

def nanB (p : Nat) : Bool := decide (2139095040 < p % 2147483648)
def zeroB (p : Nat) : Bool := decide (p % 2147483648 = 0)
theorem isZero_any (p : Nat) (w : World) (hp : p < 4294967296) :
    Calls Try.prog 78 #[.int .u32 p] w fun e w' => e = .returned (.bool (zeroB p)) ∧ w = w' := by
  go_enter Try.func78, Try.ntmps78
  go_wp2_with (go_at_call 77; refine (withoutSign_any _ _ hp).mono ?_; rintro e w' ⟨rfl, rfl⟩)
  go_ret
  exact ⟨ret_bool (by rw [Bool.eq_iff_iff]; simp [zeroB]; omega), rfl⟩
def finB (p : Nat) : Bool := decide (p % 2147483648 < 2139095040)
theorem isFinite_any (p : Nat) (w : World) (hp : p < 4294967296) :
    Calls Try.prog 69 #[.int .u32 p] w fun e w' => e = .returned (.bool (finB p)) ∧ w = w' := by
  go_enter Try.func69, Try.ntmps69
  go_wp2_with (go_at_call 77; refine (withoutSign_any _ _ hp).mono ?_; rintro e w' ⟨rfl, rfl⟩)
  go_ret
  exact ⟨ret_bool (by rw [Bool.eq_iff_iff]; simp [finB]; omega), rfl⟩
def signB (p : Nat) : Bool := decide (2147483648 ≤ p)
def subB (p : Nat) : Bool := !zeroB p && decide (p % 2147483648 < 8388608)
theorem isSubnormal_any (p : Nat) (w : World) (hp : p < 4294967296) :
    Calls Try.prog 75 #[.int .u32 p] w fun e w' => e = .returned (.bool (subB p)) ∧ w = w' := by
  cases hz : zeroB p
  all_goals
    go_enter Try.func75, Try.ntmps75
    go_wp2_with (first | (go_at_call 77; refine (withoutSign_any _ _ hp).mono ?_; rintro e w' ⟨rfl, rfl⟩) | (go_at_call 78; refine (isZero_any _ _ hp).mono ?_; rintro e w' ⟨rfl, rfl⟩))
    go_ret
  · exact ⟨ret_bool (by rw [Bool.eq_iff_iff]; simp [subB, hz]; omega), rfl⟩
  · exact ⟨ret_bool (by rw [Bool.eq_iff_iff]; simp [subB, hz]), rfl⟩
def singleN (p : Nat) : Nat := if nanB p then 2143289344 else p
theorem single_lt {p : Nat} (hp : p < 4294967296) : singleN p < 4294967296 := by unfold singleN; split <;> omega

/-- The bits of what a word stands for, as an integer. -/
def bitsO : Option Nat → Nat
  | none => 2143289344
  | some b => b
theorem single_bits (p : Nat) : singleN p = bitsO (ab .f32 p) := by
  unfold singleN nanB; rw [ab32]
  by_cases h : 2139095040 < p % 2147483648 <;> simp [h, bitsO]
theorem nanB_ab (p : Nat) : nanB p = (ab .f32 p).isNone := by
  unfold nanB; rw [ab32]
  by_cases h : 2139095040 < p % 2147483648 <;> simp [h]

theorem number_any (p : Nat) (w : World) :
    Calls Try.prog 76 #[.int .u32 p] w fun e w' => e = .returned (.float .f32 p) ∧ w = w' := by
  go_enter Try.func76, Try.ntmps76
  go_wp2
  go_ret
  exact ⟨rfl, rfl⟩

theorem patternOf_any (b : Nat) (w : World) :
    Calls Try.prog 68 #[.float .f32 b] w fun e w' => e = .returned (.int .u32 b) ∧ w = w' := by
  go_enter Try.func68, Try.ntmps68
  go_wp2
  go_ret
  exact ⟨rfl, rfl⟩

theorem l01Bits_any (b : Nat) (w : World) (hb : b < 4294967296) :
    Calls Try.prog 63 #[.float .f32 b] w fun e w' => e = .returned (.int .i64 (bitsO (ab .f32 b) : Nat)) ∧ w = w' := by
  have ho := order_self .f32 b
  cases hv : ab .f32 b
  all_goals
    rw [hv] at ho
    simp only [Option.map_none, Option.map_some] at ho
    go_enter Try.func63, Try.ntmps63
    go_wp2
    go_ret
  · exact ⟨rfl, rfl⟩
  · obtain rfl := ab_some hv
    exact ⟨rfl, rfl⟩

theorem specSame_any (a b : Nat) (w : World) (ha : a < 4294967296) (hb : b < 4294967296) :
    Calls Try.prog 14 #[.float .f32 a, .float .f32 b] w fun e w' => e = .returned (.bool (decide (bitsO (ab .f32 a) = bitsO (ab .f32 b)))) ∧ w = w' := by
  go_enter Try.func14, Try.ntmps14
  go_wp2_with (first | (go_at_call 63; refine (l01Bits_any _ _ (by assumption)).mono ?_; rintro e w' ⟨rfl, rfl⟩) | go_in)
  go_ret
  exact ⟨ret_bool (by rw [Bool.eq_iff_iff]; simp; omega), rfl⟩

end Go.Proofs.Ytflpackchlpedaa
