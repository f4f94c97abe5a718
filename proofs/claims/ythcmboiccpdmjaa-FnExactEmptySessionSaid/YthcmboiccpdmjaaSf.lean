/- The law's own comparison of two floats. -/
import Derived.Test.YthcmboiccpdmjaaChecked
import Derived.Test.YthcmboiccpdmjaaFl
import Derived.KernelRfl
set_option linter.unusedVariables false
set_option linter.unusedSimpArgs false
namespace Go.Proofs.Ythcmboiccpdmjaa
open Fl

theorem sameFloat_none (x y : Nat) (w : World) (hx : ab .f64 x = none) (hy : ab .f64 y = none) :
    Calls Try.prog 26 #[.float .f64 x, .float .f64 y] w fun e w' => e = .returned (.bool true) ∧ ∃ n, w' = w.drewN n := by
  have h1 : FloatKind.f64.format.order x x = none := ord_none hx
  have h2 : FloatKind.f64.format.order y y = none := ord_none hy
  clear hx hy
  go_enter Try.func26, Try.ntmps26
  go_wp2
  go_ret
  exact ⟨rfl, 0, rfl⟩

theorem sameFloat_some (b : Nat) (w : World) (hx : ab .f64 b = some b) :
    Calls Try.prog 26 #[.float .f64 b, .float .f64 b] w fun e w' => e = .returned (.bool true) ∧ ∃ n, w' = w.drewN n := by
  have h1 : FloatKind.f64.format.order b b = some .eq := ord_self b hx
  clear hx
  go_enter Try.func26, Try.ntmps26
  go_wp2_with (with_reducible_and_instances refine wpList_fop _ rfl _ _ _ _ _ rfl _ _ _ rfl rfl rfl ?_; intro r n hr)
  · go_ret
    rename_i _ _ hr1
    refine ⟨?_, _, rfl⟩
    rw [order_ab, order_ab _ r, hr.2, hr1.2]
    simp
  · go_ret
    exact ⟨rfl, 0, rfl⟩

/-- Two words that stand for the same are the same to the law. -/
theorem sameFloat_any (x y : Nat) (v : Option Nat) (w : World) (hx : Fv .f64 x v) (hy : Fv .f64 y v) :
    Calls Try.prog 26 #[.float .f64 x, .float .f64 y] w fun e w' => e = .returned (.bool true) ∧ ∃ n, w' = w.drewN n := by
  cases v with
  | none => exact sameFloat_none x y w hx.2 hy.2
  | some b =>
    obtain rfl := ab_some hx.2
    obtain rfl := ab_some hy.2
    exact sameFloat_some _ w hx.2

end Go.Proofs.Ythcmboiccpdmjaa
