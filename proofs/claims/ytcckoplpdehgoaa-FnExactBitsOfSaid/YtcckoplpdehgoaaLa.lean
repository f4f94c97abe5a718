/- The laws on bits, walked: each returns true, whatever it is called with. -/
import Derived.Test.YtcckoplpdehgoaaWc
set_option linter.unusedVariables false
set_option linter.unusedSimpArgs false
namespace Go.Proofs.Ytcckoplpdehgoaa
open Fl

theorem lawSameNumber (a b : Nat) (w : World) (ha : a < 4294967296) (hb : b < 4294967296) :
    Calls Try.prog 3 #[.float .f32 a, .float .f32 b] w fun e w' => e = .returned (.bool true) ∧ ∃ n, w' = w.drewN n := by
  go_enter Try.func3, Try.ntmps3
  go_wp2_with (first | (go_at_call 15; refine (specSame_any _ _ _ ha hb).mono ?_; rintro e w' ⟨rfl, rfl⟩) | (go_at_call 16; refine (implSame_any _ _ _ ha hb).mono ?_; rintro e w' ⟨rfl, rfl⟩))
  go_ret
  exact ⟨rfl, 0, rfl⟩

theorem lawIsFinite (b : Nat) (w : World) (hb : b < 4294967296) :
    Calls Try.prog 4 #[.float .f32 b] w fun e w' => e = .returned (.bool true) ∧ ∃ n, w' = w.drewN n := by
  go_enter Try.func4, Try.ntmps4
  go_wp2_with (first | (go_at_call 17; refine (specFinite_any _ _ hb).mono ?_; rintro e w' ⟨rfl, n, rfl⟩) | (go_at_call 18; refine (implFinite_any _ _ hb).mono ?_; rintro e w' ⟨rfl, rfl⟩))
  go_ret
  exact ⟨rfl, n, rfl⟩

theorem specBits_any (b : Nat) (w : World) (hb : b < 4294967296) :
    Calls Try.prog 19 #[.float .f32 b] w fun e w' => e = .returned (.int .i64 (bitsO (ab .f32 b) : Nat)) ∧ w = w' := by
  go_enter Try.func19, Try.ntmps19
  go_wp2_with (first | (go_at_call 43; refine (l01Bits_any _ _ hb).mono ?_; rintro e w' ⟨rfl, rfl⟩))
  go_ret
  exact ⟨rfl, rfl⟩

theorem lawBitsOf (b : Nat) (w : World) (hb : b < 4294967296) :
    Calls Try.prog 5 #[.float .f32 b] w fun e w' => e = .returned (.bool true) ∧ ∃ n, w' = w.drewN n := by
  go_enter Try.func5, Try.ntmps5
  go_wp2_with (first | (go_at_call 19; refine (specBits_any _ _ hb).mono ?_; rintro e w' ⟨rfl, rfl⟩) | (go_at_call 20; refine (implBits_any _ _ hb).mono ?_; rintro e w' ⟨rfl, rfl⟩))
  go_ret
  exact ⟨rfl, 0, rfl⟩

theorem lawFromBits (n : Int) (w : World) (_ : (Lit.int .i64 n).wf = true) :
    Calls Try.prog 6 #[.int .i64 n] w fun e w' => e = .returned (.bool true) ∧ ∃ n, w' = w.drewN n := by
  cases h : inB n 0 4294967295
  · go_enter Try.func6, Try.ntmps6
    go_wp2_with (first | (go_at_call 21; refine (specFrom_out _ _ h).mono ?_; rintro e w' ⟨rfl, rfl⟩) | (go_at_call 22; refine (implFrom_out _ _ h).mono ?_; rintro e w' ⟨rfl, rfl⟩) | (with_reducible_and_instances refine wpList_wide _ rfl _ _ _ rfl _ rfl (by kernel_rfl) (by kernel_rfl) (by decide) ?_; intro r n hr) | (go_at_call 23; refine (sameFloat_any _ _ _ _ (by assumption) (by assumption)).mono ?_; rintro e w' ⟨rfl, n, rfl⟩))
    go_ret
    exact ⟨rfl, _, rfl⟩
  · obtain ⟨m, rfl⟩ : ∃ m : Nat, n = m := ⟨n.toNat, by simp [inB] at h; omega⟩
    have hm : m < 4294967296 := by simp [inB] at h; omega
    clear h
    go_enter Try.func6, Try.ntmps6
    go_wp2_with (first | (go_at_call 21; refine (specFrom_in _ _ hm).mono ?_; rintro e w' ⟨rfl, rfl⟩) | (go_at_call 22; refine (implFrom_in _ _ hm).mono ?_; rintro e w' ⟨rfl, rfl⟩) | (with_reducible_and_instances refine wpList_wide _ rfl _ _ _ rfl _ rfl (by kernel_rfl) (by kernel_rfl) hm ?_; intro r n hr) | (go_at_call 23; refine (sameFloat_any _ _ _ _ (by assumption) (by assumption)).mono ?_; rintro e w' ⟨rfl, n, rfl⟩))
    go_ret
    exact ⟨rfl, _, rfl⟩
end Go.Proofs.Ytcckoplpdehgoaa
