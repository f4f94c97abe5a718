/- Contracts of the functions of the first chapter on bits, of the program and of the model. -/
import Derived.Test.YtogbejgbaenfdaaWa
import Derived.Test.YtogbejgbaenfdaaFk
set_option linter.unusedVariables false
set_option linter.unusedSimpArgs false
namespace Go.Proofs.Ytogbejgbaenfdaa
open Fl

theorem lt32 {b : Nat} (h : b < 4294967296) : b < 2 ^ FloatKind.f32.format.width := h
theorem rung32 (b : Nat) : rung .f32 b = b % 2147483648 := by unfold rung; rw [sw32]

theorem implFinite_any (b : Nat) (w : World) (hb : b < 4294967296) :
    Calls Try.prog 13 #[.float .f32 b] w fun e w' => e = .returned (.bool (finB b)) ∧ w = w' := by
  go_enter Try.func13, Try.ntmps13
  go_wp2_with (first | (go_at_call 46; refine (patternOf_any _ _).mono ?_; rintro e w' ⟨rfl, rfl⟩) | (go_at_call 49; refine (isFinite_any _ _ (by assumption)).mono ?_; rintro e w' ⟨rfl, rfl⟩))
  go_ret
  exact ⟨rfl, rfl⟩

def inB (n lo hi : Int) : Bool := decide (lo ≤ n) && decide (n ≤ hi)
theorem l00In_any (n lo hi : Int) (w : World) :
    Calls Try.prog 54 #[.int .i64 n, .int .i64 lo, .int .i64 hi] w fun e w' => e = .returned (.bool (inB n lo hi)) ∧ w = w' := by
  by_cases h : lo ≤ n
  all_goals
    go_enter Try.func54, Try.ntmps54
    go_wp2
    go_ret
    exact ⟨ret_bool (by simp [inB]; omega), rfl⟩

theorem l01From_any (n : Nat) (w : World) (h : n < 4294967296) :
    Calls Try.prog 44 #[.int .i64 n] w fun e w' => e = .returned (.float .f32 n) ∧ w = w' := by
  go_enter Try.func44, Try.ntmps44
  go_wp2
  go_ret
  exact ⟨rfl, rfl⟩

theorem specFrom_in (n : Nat) (w : World) (h : n < 4294967296) :
    Calls Try.prog 17 #[.int .i64 n] w fun e w' => e = .returned (.tuple #[.float .f32 n, .bool true]) ∧ w = w' := by
  have hi : inB n 0 4294967295 = true := by simp [inB]; omega
  go_enter Try.func17, Try.ntmps17
  go_wp2_with (first | (go_at_call 54; refine (l00In_any _ _ _ _).mono ?_; rintro e w' ⟨rfl, rfl⟩) | (go_at_call 44; refine (l01From_any _ _ h).mono ?_; rintro e w' ⟨rfl, rfl⟩))
  go_ret2
  exact ⟨rfl, rfl⟩
theorem specFrom_out (n : Int) (w : World) (h : inB n 0 4294967295 = false) :
    Calls Try.prog 17 #[.int .i64 n] w fun e w' => e = .returned (.tuple #[.float .f32 0, .bool false]) ∧ w = w' := by
  go_enter Try.func17, Try.ntmps17
  go_wp2_with (first | (go_at_call 54; refine (l00In_any _ _ _ _).mono ?_; rintro e w' ⟨rfl, rfl⟩))
  go_ret2
  exact ⟨rfl, rfl⟩
theorem implFrom_in (n : Nat) (w : World) (h : n < 4294967296) :
    Calls Try.prog 11 #[.int .i64 n] w fun e w' => e = .returned (.tuple #[.float .f32 n, .bool true]) ∧ w = w' := by
  go_enter Try.func11, Try.ntmps11
  go_wp2_with (first | (go_at_call 48; refine (number_any _ _).mono ?_; rintro e w' ⟨rfl, rfl⟩))
  go_ret2
  exact ⟨rfl, rfl⟩
theorem implFrom_out (n : Int) (w : World) (h : inB n 0 4294967295 = false) :
    Calls Try.prog 11 #[.int .i64 n] w fun e w' => e = .returned (.tuple #[.float .f32 0, .bool false]) ∧ w = w' := by
  have h2 : n < 0 ∨ (0 ≤ n ∧ 4294967295 < n) := by simp [inB] at h; omega
  clear h
  rcases h2 with h | ⟨h, h'⟩
  all_goals
    go_enter Try.func11, Try.ntmps11
    go_wp2
    go_ret2
    exact ⟨rfl, rfl⟩

/-! the next greater number -/
def nextN (b : Nat) : Nat := if nanB b then b else if b = 2139095040 then b else if b % 2147483648 = 0 then 1 else if b < 2147483648 then b + 1 else b - 1
theorem nextN_lt {b : Nat} (hb : b < 4294967296) : nextN b < 4294967296 := by
  unfold nextN nanB; repeat (first | omega | split)
theorem ab_of_nan {b : Nat} (h : nanB b = false) : ab .f32 b = some b := by
  rw [nanB_ab] at h
  cases hv : ab .f32 b with
  | none => rw [hv] at h; cases h
  | some c => rw [ab_some hv]
theorem ab_of_nan' {b : Nat} (h : nanB b = true) : ab .f32 b = none := by
  rw [nanB_ab] at h; simpa using h

theorem implNext_any (b : Nat) (w : World) (hb : b < 4294967296) :
    Calls Try.prog 14 #[.float .f32 b] w fun e w' => e = .returned (.float .f32 (nextN b)) ∧ w = w' := by
  cases hn : nanB b
  · by_cases h1 : b = 2139095040
    · subst h1
      have e : nextN 2139095040 = 2139095040 := rfl
      rw [e]
      go_enter Try.func14, Try.ntmps14
      go_wp2_with (first | (go_at_call 46; refine (patternOf_any _ _).mono ?_; rintro e w' ⟨rfl, rfl⟩) | (go_at_call 50; refine (isNaN_any 2139095040 _ (by omega)).mono ?_; rintro e w' ⟨rfl, rfl⟩))
      go_ret
      exact ⟨rfl, rfl⟩
    · cases hz : zeroB b
      · have hz' : ¬ b % 2147483648 = 0 := by simpa [zeroB] using hz
        cases hs : signB b
        · have hs' : b < 2147483648 := by simpa [signB] using hs
          have e : nextN b = b + 1 := by simp [nextN, hn, h1, hz', hs']
          have hlt : b < 2139095040 := by simp [nanB] at hn; omega
          rw [e]
          have hn' := nanB b
          go_enter Try.func14, Try.ntmps14
          go_wp2_with (first | (go_at_call 46; refine (patternOf_any _ _).mono ?_; rintro e w' ⟨rfl, rfl⟩) | (go_at_call 50; refine (isNaN_any _ _ hb).mono ?_; rintro e w' ⟨rfl, rfl⟩) | (go_at_call 51; refine (isZero_any _ _ hb).mono ?_; rintro e w' ⟨rfl, rfl⟩) | (go_at_call 52; refine (hasSign_any _ _ hb).mono ?_; rintro e w' ⟨rfl, rfl⟩) | (go_at_call 48; refine (number_any (b + 1) _).mono ?_; rintro e w' ⟨rfl, rfl⟩))
          go_ret
          exact ⟨rfl, rfl⟩
        · have hs' : 2147483648 ≤ b := by simpa [signB] using hs
          obtain ⟨c, rfl⟩ : ∃ c, b = c + 1 := ⟨b - 1, by omega⟩
          have e : nextN (c + 1) = c := by simp [nextN, hn, h1, hz']; omega
          rw [e]
          go_enter Try.func14, Try.ntmps14
          go_wp2_with (first | (go_at_call 46; refine (patternOf_any _ _).mono ?_; rintro e w' ⟨rfl, rfl⟩) | (go_at_call 50; refine (isNaN_any _ _ hb).mono ?_; rintro e w' ⟨rfl, rfl⟩) | (go_at_call 51; refine (isZero_any _ _ hb).mono ?_; rintro e w' ⟨rfl, rfl⟩) | (go_at_call 52; refine (hasSign_any _ _ hb).mono ?_; rintro e w' ⟨rfl, rfl⟩) | (go_at_call 48; refine (number_any c _).mono ?_; rintro e w' ⟨rfl, rfl⟩))
          go_ret
          exact ⟨rfl, rfl⟩
      · have hz' : b % 2147483648 = 0 := by simpa [zeroB] using hz
        have e : nextN b = 1 := by simp [nextN, hn, h1, hz']
        rw [e]
        clear e hz'
        go_enter Try.func14, Try.ntmps14
        go_wp2_with (first | (go_at_call 46; refine (patternOf_any _ _).mono ?_; rintro e w' ⟨rfl, rfl⟩) | (go_at_call 50; refine (isNaN_any _ _ hb).mono ?_; rintro e w' ⟨rfl, rfl⟩) | (go_at_call 51; refine (isZero_any _ _ hb).mono ?_; rintro e w' ⟨rfl, rfl⟩) | (go_at_call 48; refine (number_any 1 _).mono ?_; rintro e w' ⟨rfl, rfl⟩))
        go_ret
        exact ⟨rfl, rfl⟩
  · have e : nextN b = b := by simp [nextN, hn]
    rw [e]
    go_enter Try.func14, Try.ntmps14
    go_wp2_with (first | (go_at_call 46; refine (patternOf_any _ _).mono ?_; rintro e w' ⟨rfl, rfl⟩) | (go_at_call 50; refine (isNaN_any _ _ hb).mono ?_; rintro e w' ⟨rfl, rfl⟩))
    go_ret
    exact ⟨rfl, rfl⟩

end Go.Proofs.Ytogbejgbaenfdaa
