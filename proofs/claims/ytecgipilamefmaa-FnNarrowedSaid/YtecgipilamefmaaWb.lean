/- Contracts of the functions of the first chapter on bits, of the program and of the model. -/
import Derived.Test.YtecgipilamefmaaWa
import Derived.Test.YtecgipilamefmaaFk
set_option linter.unusedVariables false
set_option linter.unusedSimpArgs false
namespace Go.Proofs.Ytecgipilamefmaa
open Fl

theorem lt32 {b : Nat} (h : b < 4294967296) : b < 2 ^ FloatKind.f32.format.width := h
theorem rung32 (b : Nat) : rung .f32 b = b % 2147483648 := by unfold rung; rw [sw32]

theorem specFinite_any (b : Nat) (w : World) (hb : b < 4294967296) :
    Calls Try.prog 31 #[.float .f32 b] w fun e w' => e = .returned (.bool (finB b)) ∧ ∃ n, w' = w.drewN n := by
  go_enter Try.func31, Try.ntmps31
  go_wp2_with (first | (with_reducible_and_instances refine wpList_fop _ rfl _ _ _ _ _ rfl _ _ _ rfl rfl rfl ?_; intro r n hr) | go_in)
  go_ret
  refine ⟨ret_bool ?_, n, rfl⟩
  rw [order_ab, hr.2, sub_self_any, rung32, ir32]
  unfold finB
  by_cases h : b % 2147483648 < 2139095040
  · rw [if_pos h, decide_eq_true h]; rfl
  · rw [if_neg h, decide_eq_false h]; rfl

theorem implFinite_any (b : Nat) (w : World) (hb : b < 4294967296) :
    Calls Try.prog 44 #[.float .f32 b] w fun e w' => e = .returned (.bool (finB b)) ∧ w = w' := by
  go_enter Try.func44, Try.ntmps44
  go_wp2_with (first | (go_at_call 70; refine (patternOf_any _ _).mono ?_; rintro e w' ⟨rfl, rfl⟩) | (go_at_call 71; refine (isFinite_any _ _ (by assumption)).mono ?_; rintro e w' ⟨rfl, rfl⟩))
  go_ret
  exact ⟨rfl, rfl⟩

def inB (n lo hi : Int) : Bool := decide (lo ≤ n) && decide (n ≤ hi)
theorem l01From_any (n : Nat) (w : World) (h : n < 4294967296) :
    Calls Try.prog 57 #[.int .i64 n] w fun e w' => e = .returned (.float .f32 n) ∧ w = w' := by
  go_enter Try.func57, Try.ntmps57
  go_wp2
  go_ret
  exact ⟨rfl, rfl⟩

/-! the next greater number -/
def nextN (b : Nat) : Nat := if nanB b then b else if b = 2139095040 then b else if b % 2147483648 = 0 then 1 else if b < 2147483648 then b + 1 else b - 1
theorem nextN_lt {b : Nat} (hb : b < 4294967296) : nextN b < 4294967296 := by
  unfold nextN nanB; repeat (first | omega | split)
theorem ab_of_nan {b : Nat} (h : nanB b = false) : ab .f32 b = some b := by
  rw [nanB_ab] at h
  cases hv : ab .f32 b with
  | none => rw [hv] at h; cases h
  | some c => rw [ab_some hv]
theorem ab_of_nan' {b : Nat} (h : nanB b = true) : ab .f32 b = none := by
  rw [nanB_ab] at h; simpa using h

theorem specNext_any (b : Nat) (w : World) (hb : b < 4294967296) :
    Calls Try.prog 60 #[.float .f32 b] w fun e w' => e = .returned (.float .f32 (nextN b)) ∧ w = w' := by
  have ho := order_self .f32 b
  cases hn : nanB b
  · have hab := ab_of_nan hn
    have hz := ord_zero32 hb hab
    have hbits : bitsO (ab .f32 b) = b := by rw [hab]; rfl
    rw [hab] at ho
    simp only [Option.map_some] at ho
    by_cases h1 : b = 2139095040
    · subst h1
      have e : nextN 2139095040 = 2139095040 := rfl
      rw [e]
      clear hz
      go_enter Try.func60, Try.ntmps60
      go_wp2_with (first | (go_at_call 61; refine (l01Bits_any _ _ hb).mono ?_; rw [hbits]; rintro e w' ⟨rfl, rfl⟩))
      go_ret
      exact ⟨rfl, rfl⟩
    · by_cases h2 : b % 2147483648 = 0
      · have e : nextN b = 1 := by simp [nextN, hn, h1, h2]
        rw [if_pos h2] at hz
        rw [e]
        clear e h2
        go_enter Try.func60, Try.ntmps60
        go_wp2_with (first | (go_at_call 61; refine (l01Bits_any _ _ hb).mono ?_; rw [hbits]; rintro e w' ⟨rfl, rfl⟩) | (go_at_call 57; refine (l01From_any 1 _ (by omega)).mono ?_; rintro e w' ⟨rfl, rfl⟩))
        go_ret
        exact ⟨rfl, rfl⟩
      · rw [if_neg h2] at hz
        by_cases h3 : b < 2147483648
        · have e : nextN b = b + 1 := by simp [nextN, hn, h1, h2, h3]
          rw [if_pos h3] at hz
          rw [e]
          clear e
          go_enter Try.func60, Try.ntmps60
          go_wp2_with (first | (go_at_call 61; refine (l01Bits_any _ _ hb).mono ?_; rw [hbits]; rintro e w' ⟨rfl, rfl⟩) | (go_at_call 57; refine (l01From_any (b + 1) _ (by omega)).mono ?_; rintro e w' ⟨rfl, rfl⟩))
          go_ret
          exact ⟨rfl, rfl⟩
        · rw [if_neg h3] at hz
          obtain ⟨c, rfl⟩ : ∃ c, b = c + 1 := ⟨b - 1, by omega⟩
          have e : nextN (c + 1) = c := by simp [nextN, hn, h1, h2, h3]
          rw [e]
          clear e
          go_enter Try.func60, Try.ntmps60
          go_wp2_with (first | (go_at_call 61; refine (l01Bits_any _ _ hb).mono ?_; rw [hbits]; rintro e w' ⟨rfl, rfl⟩) | (go_at_call 57; refine (l01From_any c _ (by omega)).mono ?_; rintro e w' ⟨rfl, rfl⟩))
          go_ret
          exact ⟨rfl, rfl⟩
  · have e : nextN b = b := by simp [nextN, hn]
    have hbits : bitsO (ab .f32 b) = 2143289344 := by rw [ab_of_nan' hn]; rfl
    rw [ab_of_nan' hn] at ho
    simp only [Option.map_none] at ho
    rw [e]
    go_enter Try.func60, Try.ntmps60
    go_wp2_with (first | (go_at_call 61; refine (l01Bits_any _ _ hb).mono ?_; rw [hbits]; rintro e w' ⟨rfl, rfl⟩))
    go_ret
    exact ⟨rfl, rfl⟩
end Go.Proofs.Ytecgipilamefmaa
