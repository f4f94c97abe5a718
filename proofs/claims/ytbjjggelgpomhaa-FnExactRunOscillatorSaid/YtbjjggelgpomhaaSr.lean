/- The square root. -/
import Derived.Test.YtbjjggelgpomhaaSf
import Derived.Test.YtbjjggelgpomhaaFx
import Derived.Lib.Hide
set_option linter.unusedVariables false
set_option linter.unusedSimpArgs false
namespace Go.Proofs.Ytbjjggelgpomhaa
open Fl Go.RowKit

def rootO (v : Option Nat) : Option Nat := convO .f64 .f32 (sqrtO (wide v))
theorem specNarrow_any (x : Nat) (w : World) (hx : x < 2 ^ FloatKind.f64.format.width) (hfit : Fits .f64 .f32 x) :
    Calls Try.prog 28 #[.float .f64 x] w (RetF .f32 (convO .f64 .f32 (ab .f64 x)) w) := by
  go_enter Try.func28, Try.ntmps28
  go_wp2_with (with_reducible_and_instances refine wpList_conv _ rfl _ _ _ rfl .f64 .f32 _ rfl (by kernel_rfl) (by kernel_rfl) hx hfit ?_; intro r n hr; have HR := Lib.hid hr; clear hr)
  go_ret
  exact ⟨r, n, rfl, HR.out, rfl⟩
theorem implNarrow_any (x : Nat) (w : World) (hx : x < 2 ^ FloatKind.f64.format.width) (hfit : Fits .f64 .f32 x) :
    Calls Try.prog 53 #[.float .f64 x] w (RetF .f32 (convO .f64 .f32 (ab .f64 x)) w) := by
  go_enter Try.func53, Try.ntmps53
  go_wp2_with (with_reducible_and_instances refine wpList_conv _ rfl _ _ _ rfl .f64 .f32 _ rfl (by kernel_rfl) (by kernel_rfl) hx hfit ?_; intro r n hr; have HR := Lib.hid hr; clear hr)
  go_ret
  exact ⟨r, n, rfl, HR.out, rfl⟩

end Go.Proofs.Ytbjjggelgpomhaa
