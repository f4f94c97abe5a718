/- More laws on bits, walked. -/
import Derived.Test.YtcckoplpdehgoaaWc
set_option linter.unusedVariables false
set_option linter.unusedSimpArgs false
namespace Go.Proofs.Ytcckoplpdehgoaa
open Fl
theorem down_lt {b : Nat} (h : b < 4294967296) : negN (nextN (negN b)) < 4294967296 := negN_lt (nextN_lt (negN_lt h))

theorem lawNextUp (b : Nat) (w : World) (hb : b < 4294967296) :
    Calls Try.prog 8 #[.float .f32 b] w fun e w' => e = .returned (.bool true) ∧ ∃ n, w' = w.drewN n := by
  have hl := nextN_lt hb
  go_enter Try.func8, Try.ntmps8
  go_wp2_with (first | (go_at_call 26; refine (specUp_any _ _ hb).mono ?_; rintro e w' ⟨rfl, rfl⟩) | (go_at_call 27; refine (implNext_any _ _ hb).mono ?_; rintro e w' ⟨rfl, rfl⟩) | (with_reducible_and_instances refine wpList_wide _ rfl _ _ _ rfl _ rfl (by kernel_rfl) (by kernel_rfl) hl ?_; intro r n hr) | (go_at_call 23; refine (sameFloat_any _ _ _ _ (by assumption) (by assumption)).mono ?_; rintro e w' ⟨rfl, n, rfl⟩))
  go_ret
  exact ⟨rfl, _, rfl⟩

theorem lawNextDown (b : Nat) (w : World) (hb : b < 4294967296) :
    Calls Try.prog 9 #[.float .f32 b] w fun e w' => e = .returned (.bool true) ∧ ∃ n, w' = w.drewN n := by
  have hl := down_lt hb
  go_enter Try.func9, Try.ntmps9
  go_wp2_with (first | (go_at_call 28; refine (specDown_any _ _ hb).mono ?_; rintro e w' ⟨rfl, rfl⟩) | (go_at_call 29; refine (implDown_any _ _ hb).mono ?_; rintro e w' ⟨rfl, rfl⟩) | (with_reducible_and_instances refine wpList_wide _ rfl _ _ _ rfl _ rfl (by kernel_rfl) (by kernel_rfl) hl ?_; intro r n hr) | (go_at_call 23; refine (sameFloat_any _ _ _ _ (by assumption) (by assumption)).mono ?_; rintro e w' ⟨rfl, n, rfl⟩))
  go_ret
  exact ⟨rfl, _, rfl⟩

theorem lawFlushNumber (b : Nat) (w : World) (hb : b < 4294967296) :
    Calls Try.prog 10 #[.float .f32 b] w fun e w' => e = .returned (.bool true) ∧ ∃ n, w' = w.drewN n := by
  have hl := flushN_lt hb
  go_enter Try.func10, Try.ntmps10
  go_wp2_with (first | (go_at_call 30; refine (specFlushNumber_any _ _ hb).mono ?_; rintro e w' ⟨rfl, rfl⟩) | (go_at_call 31; refine (implFlush_any _ _ hb).mono ?_; rintro e w' ⟨rfl, rfl⟩) | (with_reducible_and_instances refine wpList_wide _ rfl _ _ _ rfl _ rfl (by kernel_rfl) (by kernel_rfl) hl ?_; intro r n hr) | (go_at_call 23; refine (sameFloat_any _ _ _ _ (by assumption) (by assumption)).mono ?_; rintro e w' ⟨rfl, n, rfl⟩))
  go_ret
  exact ⟨rfl, _, rfl⟩

theorem lawIsSubnormal (b : Nat) (w : World) (hb : b < 4294967296) :
    Calls Try.prog 11 #[.float .f32 b] w fun e w' => e = .returned (.bool true) ∧ ∃ n, w' = w.drewN n := by
  go_enter Try.func11, Try.ntmps11
  go_wp2_with (first | (go_at_call 32; refine (specSub_any _ _ hb).mono ?_; rintro e w' ⟨rfl, rfl⟩) | (go_at_call 33; refine (implSub_any _ _ hb).mono ?_; rintro e w' ⟨rfl, rfl⟩))
  go_ret
  exact ⟨rfl, 0, rfl⟩
end Go.Proofs.Ytcckoplpdehgoaa
