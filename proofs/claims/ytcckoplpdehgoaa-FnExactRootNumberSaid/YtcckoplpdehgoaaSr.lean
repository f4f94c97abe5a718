/- The square root. -/
import Derived.Test.YtcckoplpdehgoaaSf
import Derived.Test.YtcckoplpdehgoaaFx
import Derived.Lib.Hide
set_option linter.unusedVariables false
set_option linter.unusedSimpArgs false
namespace Go.Proofs.Ytcckoplpdehgoaa
open Fl Go.RowKit

@[go_sem] theorem Try.callSqrt (x : Nat) (w : World) : (callFunc 63 #[.float .f64 x]).run Try.prog w = .ok (.value (.float .f64 (sqv x w))) (w.drewN (sqn x)) := by
  rw [run_callFunc_extern (P := Try.prog) (fn := Try.f63) (e := Extern.MathSqrt.sqrt) (by kernel_rfl) (by kernel_rfl) (by kernel_rfl) (by kernel_rfl) (by kernel_rfl), run_sqrt]
  rfl
theorem mathSqrt_any (x : Nat) (w : World) :
    Calls Try.prog 55 #[.float .f64 x] w (RetF .f64 (sqrtO (ab .f64 x)) w) := by
  go_enter Try.func55, Try.ntmps55
  go_wp2
  go_ret
  exact ⟨_, _, rfl, sqv_fv x w, rfl⟩

def rootO (v : Option Nat) : Option Nat := convO .f64 .f32 (sqrtO (wide v))
theorem specNarrow_any (x : Nat) (w : World) (hx : x < 2 ^ FloatKind.f64.format.width) (hfit : Fits .f64 .f32 x) :
    Calls Try.prog 47 #[.float .f64 x] w (RetF .f32 (convO .f64 .f32 (ab .f64 x)) w) := by
  go_enter Try.func47, Try.ntmps47
  go_wp2_with (with_reducible_and_instances refine wpList_conv _ rfl _ _ _ rfl .f64 .f32 _ rfl (by kernel_rfl) (by kernel_rfl) hx hfit ?_; intro r n hr; have HR := Lib.hid hr; clear hr)
  go_ret
  exact ⟨r, n, rfl, HR.out, rfl⟩
theorem implNarrow_any (x : Nat) (w : World) (hx : x < 2 ^ FloatKind.f64.format.width) (hfit : Fits .f64 .f32 x) :
    Calls Try.prog 25 #[.float .f64 x] w (RetF .f32 (convO .f64 .f32 (ab .f64 x)) w) := by
  go_enter Try.func25, Try.ntmps25
  go_wp2_with (with_reducible_and_instances refine wpList_conv _ rfl _ _ _ rfl .f64 .f32 _ rfl (by kernel_rfl) (by kernel_rfl) hx hfit ?_; intro r n hr; have HR := Lib.hid hr; clear hr)
  go_ret
  exact ⟨r, n, rfl, HR.out, rfl⟩

theorem specSqrt_any (b : Nat) (w : World) (hb : b < 4294967296) :
    Calls Try.prog 54 #[.float .f32 b] w (RetF .f32 (rootO (ab .f32 b)) w) := by
  go_enter Try.func54, Try.ntmps54
  go_wp2_with (with_reducible_and_instances refine wpList_wide _ rfl _ _ _ rfl _ rfl (by kernel_rfl) (by kernel_rfl) hb ?_; intro r1 q1 hr; have V1 := Lib.hid hr; clear hr)
  refine (mathSqrt_any _ _).mono ?_
  rintro e w' ⟨r2, q2, rfl, hv, rfl⟩
  have hv' : Fv .f64 r2 (sqrtO (wide (ab .f32 b))) := by rw [V1.out.2] at hv; exact hv
  have V2 := Lib.hid hv'
  clear hv hv'
  go_wp2_with fail
  refine (specNarrow_any _ _ V2.out.1 (fits_root V2.out)).mono ?_
  rintro e w' ⟨r3, q3, rfl, hv, rfl⟩
  have V3 := Lib.hid hv
  clear hv
  go_wp2
  go_ret
  exact ⟨r3, _, rfl, by have := V3.out; rw [V2.out.2] at this; exact this, rfl⟩
theorem specRoot_any (b : Nat) (w : World) (hb : b < 4294967296) :
    Calls Try.prog 34 #[.float .f32 b] w (RetF .f32 (rootO (ab .f32 b)) w) := by
  go_enter Try.func34, Try.ntmps34
  go_wp2_with (go_at_call 54; refine (specSqrt_any _ _ hb).mono ?_; rintro e w' ⟨r3, q3, rfl, hv, rfl⟩; have V3 := Lib.hid hv; clear hv)
  go_ret
  exact ⟨r3, _, rfl, V3.out, rfl⟩
theorem implRoot_any (b : Nat) (w : World) (hb : b < 4294967296) :
    Calls Try.prog 35 #[.float .f32 b] w (RetF .f32 (rootO (ab .f32 b)) w) := by
  go_enter Try.func35, Try.ntmps35
  go_wp2_with (with_reducible_and_instances refine wpList_wide _ rfl _ _ _ rfl _ rfl (by kernel_rfl) (by kernel_rfl) hb ?_; intro r1 q1 hr; have V1 := Lib.hid hr; clear hr)
  refine (mathSqrt_any _ _).mono ?_
  rintro e w' ⟨r2, q2, rfl, hv, rfl⟩
  have hv' : Fv .f64 r2 (sqrtO (wide (ab .f32 b))) := by rw [V1.out.2] at hv; exact hv
  have V2 := Lib.hid hv'
  clear hv hv'
  go_wp2_with fail
  refine (implNarrow_any _ _ V2.out.1 (fits_root V2.out)).mono ?_
  rintro e w' ⟨r3, q3, rfl, hv, rfl⟩
  have V3 := Lib.hid hv
  clear hv
  go_wp2
  go_ret
  exact ⟨r3, _, rfl, by have := V3.out; rw [V2.out.2] at this; exact this, rfl⟩

theorem lawRootNumber (b : Nat) (w : World) (hb : b < 4294967296) :
    Calls Try.prog 12 #[.float .f32 b] w fun e w' => e = .returned (.bool true) ∧ w.Since w.heap.size w' := by
  go_enter Try.func12, Try.ntmps12
  go_wp2_with (first | (go_at_call 34; refine (specRoot_any _ _ hb).mono ?_; rintro e w' ⟨r1, q1, rfl, hv, rfl⟩; have V1 := Lib.hid hv; have L1 : r1 < 4294967296 := hv.1; clear hv) | (go_at_call 35; refine (implRoot_any _ _ hb).mono ?_; rintro e w' ⟨r2, q2, rfl, hv, rfl⟩; have V2 := Lib.hid hv; have L2 : r2 < 4294967296 := hv.1; clear hv) | (with_reducible_and_instances refine wpList_wide _ rfl _ _ _ rfl _ rfl (by kernel_rfl) (by kernel_rfl) L1 ?_; intro r3 q3 hr; have X1 := Lib.hid hr; clear hr) | (with_reducible_and_instances refine wpList_wide _ rfl _ _ _ rfl _ rfl (by kernel_rfl) (by kernel_rfl) L2 ?_; intro r4 q4 hr; have X2 := Lib.hid hr; clear hr))
  refine (sameFloat_any _ _ _ _ X2.out (by have := X1.out; rw [V1.out.2, ← V2.out.2] at this; exact this)).mono ?_
  rintro e w' ⟨rfl, q5, rfl⟩
  go_wp2
  go_ret
  exact ⟨rfl, since_drewN (World.Since.refl _ _) _⟩
end Go.Proofs.Ytcckoplpdehgoaa
