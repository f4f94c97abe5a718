/- The square root. -/
import Derived.Test.YtfgebggfoboalaaSf
import Derived.Test.YtfgebggfoboalaaFx
import Derived.Lib.Hide
set_option linter.unusedVariables false
set_option linter.unusedSimpArgs false
namespace Go.Proofs.Ytfgebggfoboalaa
open Fl Go.RowKit

@[go_sem] theorem Try.callSqrt (x : Nat) (w : World) : (callFunc 57 #[.float .f64 x]).run Try.prog w = .ok (.value (.float .f64 (sqv x w))) (w.drewN (sqn x)) := by
  rw [run_callFunc_extern (P := Try.prog) (fn := Try.f57) (e := Extern.MathSqrt.sqrt) (by kernel_rfl) (by kernel_rfl) (by kernel_rfl) (by kernel_rfl) (by kernel_rfl), run_sqrt]
  rfl
theorem mathSqrt_any (x : Nat) (w : World) :
    Calls Try.prog 44 #[.float .f64 x] w (RetF .f64 (sqrtO (ab .f64 x)) w) := by
  go_enter Try.func44, Try.ntmps44
  go_wp2
  go_ret
  exact ⟨_, _, rfl, sqv_fv x w, rfl⟩

def rootO (v : Option Nat) : Option Nat := convO .f64 .f32 (sqrtO (wide v))
theorem implNarrow_any (x : Nat) (w : World) (hx : x < 2 ^ FloatKind.f64.format.width) (hfit : Fits .f64 .f32 x) :
    Calls Try.prog 43 #[.float .f64 x] w (RetF .f32 (convO .f64 .f32 (ab .f64 x)) w) := by
  go_enter Try.func43, Try.ntmps43
  go_wp2_with (with_reducible_and_instances refine wpList_conv _ rfl _ _ _ rfl .f64 .f32 _ rfl (by kernel_rfl) (by kernel_rfl) hx hfit ?_; intro r n hr; have HR := Lib.hid hr; clear hr)
  go_ret
  exact ⟨r, n, rfl, HR.out, rfl⟩

theorem implRoot_any (b : Nat) (w : World) (hb : b < 4294967296) :
    Calls Try.prog 24 #[.float .f32 b] w (RetF .f32 (rootO (ab .f32 b)) w) := by
  go_enter Try.func24, Try.ntmps24
  go_wp2_with (with_reducible_and_instances refine wpList_wide _ rfl _ _ _ rfl _ rfl (by kernel_rfl) (by kernel_rfl) hb ?_; intro r1 q1 hr; have V1 := Lib.hid hr; clear hr)
  refine (mathSqrt_any _ _).mono ?_
  rintro e w' ⟨r2, q2, rfl, hv, rfl⟩
  have hv' : Fv .f64 r2 (sqrtO (wide (ab .f32 b))) := by rw [V1.out.2] at hv; exact hv
  have V2 := Lib.hid hv'
  clear hv hv'
  go_wp2_with fail
  refine (implNarrow_any _ _ V2.out.1 (fits_root V2.out)).mono ?_
  rintro e w' ⟨r3, q3, rfl, hv, rfl⟩
  have V3 := Lib.hid hv
  clear hv
  go_wp2
  go_ret
  exact ⟨r3, _, rfl, by have := V3.out; rw [V2.out.2] at this; exact this, rfl⟩

end Go.Proofs.Ytfgebggfoboalaa
