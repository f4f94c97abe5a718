/- Contracts: the next lesser number, flushing, the root; and the laws on them. -/
import Derived.Test.YtflpackchlpedaaWb
set_option linter.unusedVariables false
set_option linter.unusedSimpArgs false
namespace Go.Proofs.Ytflpackchlpedaa
open Fl

def negN (b : Nat) : Nat := Op.negFloat .f32 b
theorem negN_lt {b : Nat} (h : b < 4294967296) : negN b < 4294967296 := neg_lt .f32 h
/-! flushing -/
def flushN (b : Nat) : Nat := if b % 2147483648 < 8388608 then b / 2147483648 * 2147483648 else b
theorem flushN_lt {b : Nat} (h : b < 4294967296) : flushN b < 4294967296 := by unfold flushN; split <;> omega
theorem implFlush_any (b : Nat) (w : World) (hb : b < 4294967296) :
    Calls Try.prog 66 #[.float .f32 b] w fun e w' => e = .returned (.float .f32 (flushN b)) ∧ w = w' := by
  cases hs : subB b
  · have e : flushN b = b := by
      unfold flushN; split
      · simp [subB, zeroB] at hs; omega
      · rfl
    rw [e]
    go_enter Try.func66, Try.ntmps66
    go_wp2_with (first | (go_at_call 68; refine (patternOf_any _ _).mono ?_; rintro e w' ⟨rfl, rfl⟩) | (go_at_call 75; refine (isSubnormal_any _ _ hb).mono ?_; rintro e w' ⟨rfl, rfl⟩))
    go_ret
    exact ⟨rfl, rfl⟩
  · have e : flushN b = b / 2147483648 * 2147483648 := by
      unfold flushN; split
      · rfl
      · simp [subB, zeroB] at hs; omega
    rw [e]
    go_enter Try.func66, Try.ntmps66
    go_wp2_with (first | (go_at_call 68; refine (patternOf_any _ _).mono ?_; rintro e w' ⟨rfl, rfl⟩) | (go_at_call 75; refine (isSubnormal_any _ _ hb).mono ?_; rintro e w' ⟨rfl, rfl⟩) | (go_at_call 76; refine (number_any (b / 2147483648 * 2147483648) _).mono ?_; rintro e w' ⟨rfl, rfl⟩))
    go_ret
    exact ⟨rfl, rfl⟩
theorem specFlush_any (b : Nat) (w : World) (hb : b < 4294967296) :
    Calls Try.prog 71 #[.float .f32 b] w fun e w' => e = .returned (.float .f32 (flushN b)) ∧ w = w' := by
  cases hn : nanB b
  · have hbits : bitsO (ab .f32 b) = b := by rw [ab_of_nan hn]; rfl
    have hexp := bits_exp hb
    have htop := bits_top64 hb
    by_cases h : b % 2147483648 < 8388608
    · have e : flushN b = b / 2147483648 * 2147483648 := by unfold flushN; rw [if_pos h]
      rw [e]
      rw [if_pos h] at hexp
      go_enter Try.func71, Try.ntmps71
      go_wp2_with (first | (go_at_call 63; refine (l01Bits_any _ _ hb).mono ?_; rw [hbits]; rintro e w' ⟨rfl, rfl⟩) | (go_at_call 59; refine (l01From_any (b / 2147483648 * 2147483648) _ (by omega)).mono ?_; rintro e w' ⟨rfl, rfl⟩))
      go_ret
      exact ⟨rfl, rfl⟩
    · have e : flushN b = b := by unfold flushN; rw [if_neg h]
      rw [e]
      rw [if_neg h] at hexp
      go_enter Try.func71, Try.ntmps71
      go_wp2_with (first | (go_at_call 63; refine (l01Bits_any _ _ hb).mono ?_; rw [hbits]; rintro e w' ⟨rfl, rfl⟩))
      go_ret
      exact ⟨rfl, rfl⟩
  · have hbits : bitsO (ab .f32 b) = 2143289344 := by rw [ab_of_nan' hn]; rfl
    have e : flushN b = b := by unfold flushN; rw [if_neg]; simp [nanB] at hn; omega
    rw [e]
    go_enter Try.func71, Try.ntmps71
    go_wp2_with (first | (go_at_call 63; refine (l01Bits_any _ _ hb).mono ?_; rw [hbits]; rintro e w' ⟨rfl, rfl⟩))
    go_ret
    exact ⟨rfl, rfl⟩

end Go.Proofs.Ytflpackchlpedaa
