/- Contracts of the small functions on bits: what each returns, in words of what its arguments stand for. -/
import Derived.Test.YtcckoplpdehgoaaChecked
import Derived.Test.YtcckoplpdehgoaaFl
import Derived.KernelRfl
set_option linter.unusedVariables false
set_option linter.unusedSimpArgs false
namespace Go.Proofs.Ytcckoplpdehgoaa
open Fl

@[go_sem] theorem Try.f32bits (b : Nat) (w : World) : (callFunc 60 #[.float .f32 b]).run Try.prog w = .ok (.value (.int .u32 b)) w := by
  rw [run_callFunc_extern (P := Try.prog) (fn := Try.f60) (e := Extern.MathFloatBits.float32bits) (by kernel_rfl) (by kernel_rfl) (by kernel_rfl) (by kernel_rfl) (by kernel_rfl)]
  rfl
@[go_sem] theorem Try.f32from (n : Int) (w : World) : (callFunc 62 #[.int .u32 n]).run Try.prog w = .ok (.value (.float .f32 n.toNat)) w := by
  rw [run_callFunc_extern (P := Try.prog) (fn := Try.f62) (e := Extern.MathFloatBits.float32frombits) (by kernel_rfl) (by kernel_rfl) (by kernel_rfl) (by kernel_rfl) (by kernel_rfl)]
  rfl

theorem sameFloat_none (x y : Nat) (w : World) (hx : ab .f64 x = none) (hy : ab .f64 y = none) :
    Calls Try.prog 23 #[.float .f64 x, .float .f64 y] w fun e w' => e = .returned (.bool true) ∧ ∃ n, w' = w.drewN n := by
  have h1 : FloatKind.f64.format.order x x = none := ord_none hx
  have h2 : FloatKind.f64.format.order y y = none := ord_none hy
  clear hx hy
  go_enter Try.func23, Try.ntmps23
  go_wp2
  go_ret
  exact ⟨rfl, 0, rfl⟩

theorem sameFloat_some (b : Nat) (w : World) (hx : ab .f64 b = some b) :
    Calls Try.prog 23 #[.float .f64 b, .float .f64 b] w fun e w' => e = .returned (.bool true) ∧ ∃ n, w' = w.drewN n := by
  have h1 : FloatKind.f64.format.order b b = some .eq := ord_self b hx
  clear hx
  go_enter Try.func23, Try.ntmps23
  go_wp2_with (with_reducible_and_instances refine wpList_fop _ rfl _ _ _ _ _ rfl _ _ _ rfl rfl rfl ?_; intro r n hr)
  · go_ret
    rename_i _ _ hr1
    refine ⟨?_, _, rfl⟩
    rw [order_ab, order_ab _ r, hr.2, hr1.2]
    simp
  · go_ret
    exact ⟨rfl, 0, rfl⟩

/-- Two words that stand for the same are the same to the law. -/
theorem sameFloat_any (x y : Nat) (v : Option Nat) (w : World) (hx : Fv .f64 x v) (hy : Fv .f64 y v) :
    Calls Try.prog 23 #[.float .f64 x, .float .f64 y] w fun e w' => e = .returned (.bool true) ∧ ∃ n, w' = w.drewN n := by
  cases v with
  | none => exact sameFloat_none x y w hx.2 hy.2
  | some b =>
    obtain rfl := ab_some hx.2
    obtain rfl := ab_some hy.2
    exact sameFloat_some _ w hx.2

/-! the patterns -/
theorem withoutSign_any (p : Nat) (w : World) (hp : p < 4294967296) :
    Calls Try.prog 61 #[.int .u32 p] w fun e w' => e = .returned (.int .u32 (p % 2147483648 : Nat)) ∧ w = w' := by
  go_enter Try.func61, Try.ntmps61
  go_wp2
  go_ret
  exact ⟨rfl, rfl⟩

def nanB (p : Nat) : Bool := decide (2139095040 < p % 2147483648)
theorem isNaN_any (p : Nat) (w : World) (hp : p < 4294967296) :
    Calls Try.prog 49 #[.int .u32 p] w fun e w' => e = .returned (.bool (nanB p)) ∧ w = w' := by
  go_enter Try.func49, Try.ntmps49
  go_wp2_with (go_at_call 61; refine (withoutSign_any _ _ hp).mono ?_; rintro e w' ⟨rfl, rfl⟩)
  go_ret
  exact ⟨ret_bool (by rw [Bool.eq_iff_iff]; simp [nanB]; omega), rfl⟩
def zeroB (p : Nat) : Bool := decide (p % 2147483648 = 0)
theorem isZero_any (p : Nat) (w : World) (hp : p < 4294967296) :
    Calls Try.prog 50 #[.int .u32 p] w fun e w' => e = .returned (.bool (zeroB p)) ∧ w = w' := by
  go_enter Try.func50, Try.ntmps50
  go_wp2_with (go_at_call 61; refine (withoutSign_any _ _ hp).mono ?_; rintro e w' ⟨rfl, rfl⟩)
  go_ret
  exact ⟨ret_bool (by rw [Bool.eq_iff_iff]; simp [zeroB]; omega), rfl⟩
def finB (p : Nat) : Bool := decide (p % 2147483648 < 2139095040)
theorem isFinite_any (p : Nat) (w : World) (hp : p < 4294967296) :
    Calls Try.prog 42 #[.int .u32 p] w fun e w' => e = .returned (.bool (finB p)) ∧ w = w' := by
  go_enter Try.func42, Try.ntmps42
  go_wp2_with (go_at_call 61; refine (withoutSign_any _ _ hp).mono ?_; rintro e w' ⟨rfl, rfl⟩)
  go_ret
  exact ⟨ret_bool (by rw [Bool.eq_iff_iff]; simp [finB]; omega), rfl⟩
def signB (p : Nat) : Bool := decide (2147483648 ≤ p)
theorem hasSign_any (p : Nat) (w : World) (hp : p < 4294967296) :
    Calls Try.prog 51 #[.int .u32 p] w fun e w' => e = .returned (.bool (signB p)) ∧ w = w' := by
  go_enter Try.func51, Try.ntmps51
  go_wp2
  go_ret
  exact ⟨ret_bool (by rw [Bool.eq_iff_iff]; simp [signB]; omega), rfl⟩
def subB (p : Nat) : Bool := !zeroB p && decide (p % 2147483648 < 8388608)
theorem isSubnormal_any (p : Nat) (w : World) (hp : p < 4294967296) :
    Calls Try.prog 53 #[.int .u32 p] w fun e w' => e = .returned (.bool (subB p)) ∧ w = w' := by
  cases hz : zeroB p
  all_goals
    go_enter Try.func53, Try.ntmps53
    go_wp2_with (first | (go_at_call 61; refine (withoutSign_any _ _ hp).mono ?_; rintro e w' ⟨rfl, rfl⟩) | (go_at_call 50; refine (isZero_any _ _ hp).mono ?_; rintro e w' ⟨rfl, rfl⟩))
    go_ret
  · exact ⟨ret_bool (by rw [Bool.eq_iff_iff]; simp [subB, hz]; omega), rfl⟩
  · exact ⟨ret_bool (by rw [Bool.eq_iff_iff]; simp [subB, hz]), rfl⟩
def singleN (p : Nat) : Nat := if nanB p then 2143289344 else p
theorem single_any (p : Nat) (w : World) (hp : p < 4294967296) :
    Calls Try.prog 40 #[.int .u32 p] w fun e w' => e = .returned (.int .u32 (singleN p : Nat)) ∧ w = w' := by
  cases hn : nanB p
  all_goals
    go_enter Try.func40, Try.ntmps40
    go_wp2_with (go_at_call 49; refine (isNaN_any _ _ hp).mono ?_; rintro e w' ⟨rfl, rfl⟩)
    go_ret
    exact ⟨ret_int (by simp [singleN, hn]), rfl⟩
theorem single_lt {p : Nat} (hp : p < 4294967296) : singleN p < 4294967296 := by unfold singleN; split <;> omega

/-- The bits of what a word stands for, as an integer. -/
def bitsO : Option Nat → Nat
  | none => 2143289344
  | some b => b
theorem single_bits (p : Nat) : singleN p = bitsO (ab .f32 p) := by
  unfold singleN nanB; rw [ab32]
  by_cases h : 2139095040 < p % 2147483648 <;> simp [h, bitsO]
theorem nanB_ab (p : Nat) : nanB p = (ab .f32 p).isNone := by
  unfold nanB; rw [ab32]
  by_cases h : 2139095040 < p % 2147483648 <;> simp [h]

theorem number_any (p : Nat) (w : World) :
    Calls Try.prog 46 #[.int .u32 p] w fun e w' => e = .returned (.float .f32 p) ∧ w = w' := by
  go_enter Try.func46, Try.ntmps46
  go_wp2
  go_ret
  exact ⟨rfl, rfl⟩

theorem patternOf_any (b : Nat) (w : World) :
    Calls Try.prog 39 #[.float .f32 b] w fun e w' => e = .returned (.int .u32 b) ∧ w = w' := by
  go_enter Try.func39, Try.ntmps39
  go_wp2
  go_ret
  exact ⟨rfl, rfl⟩

theorem implSame_any (a b : Nat) (w : World) (ha : a < 4294967296) (hb : b < 4294967296) :
    Calls Try.prog 16 #[.float .f32 a, .float .f32 b] w fun e w' => e = .returned (.bool (decide (bitsO (ab .f32 a) = bitsO (ab .f32 b)))) ∧ w = w' := by
  go_enter Try.func16, Try.ntmps16
  go_wp2_with (first | (go_at_call 39; refine (patternOf_any _ _).mono ?_; rintro e w' ⟨rfl, rfl⟩) | (go_at_call 40; refine (single_any _ _ (by assumption)).mono ?_; rintro e w' ⟨rfl, rfl⟩))
  go_ret
  exact ⟨ret_bool (by rw [Bool.eq_iff_iff]; simp [single_bits]; omega), rfl⟩

theorem l01Bits_any (b : Nat) (w : World) (hb : b < 4294967296) :
    Calls Try.prog 43 #[.float .f32 b] w fun e w' => e = .returned (.int .i64 (bitsO (ab .f32 b) : Nat)) ∧ w = w' := by
  have ho := order_self .f32 b
  cases hv : ab .f32 b
  all_goals
    rw [hv] at ho
    simp only [Option.map_none, Option.map_some] at ho
    go_enter Try.func43, Try.ntmps43
    go_wp2
    go_ret
  · exact ⟨rfl, rfl⟩
  · obtain rfl := ab_some hv
    exact ⟨rfl, rfl⟩

theorem specSame_any (a b : Nat) (w : World) (ha : a < 4294967296) (hb : b < 4294967296) :
    Calls Try.prog 15 #[.float .f32 a, .float .f32 b] w fun e w' => e = .returned (.bool (decide (bitsO (ab .f32 a) = bitsO (ab .f32 b)))) ∧ w = w' := by
  go_enter Try.func15, Try.ntmps15
  go_wp2_with (first | (go_at_call 43; refine (l01Bits_any _ _ (by assumption)).mono ?_; rintro e w' ⟨rfl, rfl⟩) | go_in)
  go_ret
  exact ⟨ret_bool (by rw [Bool.eq_iff_iff]; simp; omega), rfl⟩

theorem implBits_any (b : Nat) (w : World) (hb : b < 4294967296) :
    Calls Try.prog 20 #[.float .f32 b] w fun e w' => e = .returned (.int .i64 (bitsO (ab .f32 b) : Nat)) ∧ w = w' := by
  have hs := single_lt hb
  go_enter Try.func20, Try.ntmps20
  go_wp2_with (first | (go_at_call 39; refine (patternOf_any _ _).mono ?_; rintro e w' ⟨rfl, rfl⟩) | (go_at_call 40; refine (single_any _ _ (by assumption)).mono ?_; rintro e w' ⟨rfl, rfl⟩))
  go_ret
  exact ⟨ret_int (by rw [single_bits]), rfl⟩
end Go.Proofs.Ytcckoplpdehgoaa
