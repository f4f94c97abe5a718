/- Walks of laws of numbers. -/
import Derived.Test.YtfpoaaojbgmkpaaEa
import Derived.Test.YtfpoaaojbgmkpaaSf
set_option linter.unusedVariables false
set_option linter.unusedSimpArgs false
namespace Go.Proofs.Ytfpoaaojbgmkpaa
open Fl Go.RowKit
theorem lawBendSample_any (a0 : Nat) (w : World) (ha0 : Fv .f32 a0 (ab .f32 a0)) :
    Calls Try.prog 11 #[.float .f32 a0] w fun e w' => e = .returned (.bool true) ∧ w.Since w.heap.size w' := by
  have Ha0 := Lib.hid (Lib.hid ha0); clear ha0
  go_enter Try.func11, Try.ntmps11
  go_wp2_with fail
  refine (specBend_any a0 (ab .f32 a0) _ Ha0.out).mono ?_
  rintro e w' ⟨r1, m1, rfl, hv1, rfl⟩
  have V1 := Lib.hid hv1; clear hv1
  go_wp2_with fail
  refine (implBend_any a0 (ab .f32 a0) _ Ha0.out).mono ?_
  rintro e w' ⟨r2, m2, rfl, hv2, rfl⟩
  have V2 := Lib.hid hv2; clear hv2
  have L1 : r1 < 4294967296 := V1.out.1
  have L2 : r2 < 4294967296 := V2.out.1
  go_wp2_with (first | (with_reducible_and_instances refine wpList_wide _ rfl _ _ _ rfl _ rfl (by kernel_rfl) (by kernel_rfl) L1 ?_; intro r3 m3 hr; have X1 := Lib.hid hr; clear hr) | (with_reducible_and_instances refine wpList_wide _ rfl _ _ _ rfl _ rfl (by kernel_rfl) (by kernel_rfl) L2 ?_; intro r4 m4 hr; have X2 := Lib.hid hr; clear hr))
  refine (sameFloat_any _ _ _ _ X2.out (by have := X1.out; rw [V1.out.2, ← V2.out.2] at this; exact this)).mono ?_
  rintro e w' ⟨rfl, m5, rfl⟩
  go_wp2
  go_ret
  exact ⟨rfl, by (repeat (first | (with_reducible refine Fl.sinDrew ?_) | (with_reducible refine World.Since.drew ?_) | (with_reducible refine Fl.sinSet ?_ ?_; rotate_left) | (with_reducible refine Fl.sinAlloc ?_ ?_; rotate_left) | with_reducible exact World.Since.refl _ _ | with_reducible assumption | (with_reducible refine Fl.sinStep (by with_reducible assumption) ?_))); all_goals (first | omega | (simp; done) | (simp; omega) | (simp [go_sem]; done) | (simp [go_sem]; omega))⟩
theorem lawGainFor_any (a0 : Nat) (a1 : Nat) (a2 : Nat) (w : World) (ha0 : Fv .f32 a0 (ab .f32 a0)) (ha1 : Fv .f32 a1 (ab .f32 a1)) (ha2 : Fv .f32 a2 (ab .f32 a2)) :
    Calls Try.prog 4 #[.float .f32 a0, .float .f32 a1, .float .f32 a2] w fun e w' => e = .returned (.bool true) ∧ w.Since w.heap.size w' := by
  have Ha0 := Lib.hid (Lib.hid ha0); clear ha0
  have Ha1 := Lib.hid (Lib.hid ha1); clear ha1
  have Ha2 := Lib.hid (Lib.hid ha2); clear ha2
  go_enter Try.func4, Try.ntmps4
  go_wp2_with fail
  refine (specGain_any a0 a1 a2 (ab .f32 a0) (ab .f32 a1) (ab .f32 a2) _ Ha0.out Ha1.out Ha2.out).mono ?_
  rintro e w' ⟨r1, m1, rfl, hv1, rfl⟩
  have V1 := Lib.hid hv1; clear hv1
  go_wp2_with fail
  refine (implGain_any a0 a1 a2 (ab .f32 a0) (ab .f32 a1) (ab .f32 a2) _ Ha0.out Ha1.out Ha2.out).mono ?_
  rintro e w' ⟨r2, m2, rfl, hv2, rfl⟩
  have V2 := Lib.hid hv2; clear hv2
  have L1 : r1 < 4294967296 := V1.out.1
  have L2 : r2 < 4294967296 := V2.out.1
  go_wp2_with (first | (with_reducible_and_instances refine wpList_wide _ rfl _ _ _ rfl _ rfl (by kernel_rfl) (by kernel_rfl) L1 ?_; intro r3 m3 hr; have X1 := Lib.hid hr; clear hr) | (with_reducible_and_instances refine wpList_wide _ rfl _ _ _ rfl _ rfl (by kernel_rfl) (by kernel_rfl) L2 ?_; intro r4 m4 hr; have X2 := Lib.hid hr; clear hr))
  refine (sameFloat_any _ _ _ _ X2.out (by have := X1.out; rw [V1.out.2, ← V2.out.2] at this; exact this)).mono ?_
  rintro e w' ⟨rfl, m5, rfl⟩
  go_wp2
  go_ret
  exact ⟨rfl, by (repeat (first | (with_reducible refine Fl.sinDrew ?_) | (with_reducible refine World.Since.drew ?_) | (with_reducible refine Fl.sinSet ?_ ?_; rotate_left) | (with_reducible refine Fl.sinAlloc ?_ ?_; rotate_left) | with_reducible exact World.Since.refl _ _ | with_reducible assumption | (with_reducible refine Fl.sinStep (by with_reducible assumption) ?_))); all_goals (first | omega | (simp; done) | (simp; omega) | (simp [go_sem]; done) | (simp [go_sem]; omega))⟩
end Go.Proofs.Ytfpoaaojbgmkpaa
