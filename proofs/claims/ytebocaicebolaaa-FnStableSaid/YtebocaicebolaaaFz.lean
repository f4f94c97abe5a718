/- The size of a number of 32 bits, made wide, is the size of what is made wide. -/
import Derived.Test.YtebocaicebolaaaSm
set_option linter.unusedVariables false
set_option linter.unusedSimpArgs false
namespace Go.Proofs.Ytebocaicebolaaa
namespace Fl
open Ieee

theorem cut_neg (neg : Bool) (n d : Nat) : Toward.even.cut neg n d = Toward.even.cut false n d := rfl
theorem nearest_neg (f : Format) (neg : Bool) (mag : Nat) (place : Int) : ∃ r, r ≤ f.infRung ∧ f.nearest neg mag place = f.word neg r ∧ f.nearest false mag place = f.word false r := by
  unfold Format.nearest
  dsimp only
  by_cases hm : mag = 0
  · rw [if_pos hm, if_pos hm]
    exact ⟨0, Nat.zero_le _, rfl, rfl⟩
  · rw [if_neg hm, if_neg hm]
    exact ⟨_, Nat.min_le_right .., rfl, rfl⟩
theorem word_false (f : Format) (r : Nat) : f.word false r = r := by unfold Format.word; simp

theorem read_size (b : Nat) : (∀ g m e, FloatKind.f32.decode b = .number g m e → FloatKind.f32.decode (b % 2147483648) = .number false m e) ∧ (∀ g, FloatKind.f32.decode b = .infinity g → FloatKind.f32.decode (b % 2147483648) = .infinity false) := by
  have hs : Format.signWeight { exponentBits := 8, fractionBits := 23 } = 2147483648 := by decide
  unfold FloatKind.decode FloatKind.format single Format.read
  dsimp only
  rw [hs, Nat.mod_mod]
  have h0 : b % 2147483648 / 2147483648 = 0 := Nat.div_eq_of_lt (Nat.mod_lt _ (by omega))
  refine ⟨fun g m e h => ?_, fun g h => ?_⟩
  all_goals
    rw [h0]
    by_cases c1 : b % 2147483648 < Format.binade { exponentBits := 8, fractionBits := 23 }
    · simp only [if_pos c1] at h ⊢
      first | (cases h; rfl) | cases h
    · simp only [if_neg c1] at h ⊢
      by_cases c2 : b % 2147483648 < Format.infRung { exponentBits := 8, fractionBits := 23 }
      · simp only [if_pos c2] at h ⊢
        first | (cases h; rfl) | cases h
      · simp only [if_neg c2] at h ⊢
        by_cases c3 : b % 2147483648 = Format.infRung { exponentBits := 8, fractionBits := 23 }
        · simp only [if_pos c3] at h ⊢
          first | (cases h; rfl) | cases h
        · simp only [if_neg c3] at h ⊢
          cases h

/-- the sign struck behind the widening, or ahead of it -/
theorem wide_size {b x : Nat} (hx : Fv .f64 x (wide (ab .f32 b))) : Fv .f64 (x % 9223372036854775808) (wide (ab .f32 (b % 2147483648))) := by
  obtain ⟨h1, h2⟩ := hx
  have h1' : x < 18446744073709551616 := h1
  refine ⟨by rw [w64]; omega, ?_⟩
  cases hb : ab .f32 b with
  | none =>
    rw [hb] at h2
    have e : ab .f32 (b % 2147483648) = none := by
      rw [ab32] at hb ⊢
      rw [Nat.mod_mod]
      split at hb
      · rw [if_pos ‹_›]
      · cases hb
    rw [e]
    have h3 : ab .f64 x = none := h2
    show ab .f64 (x % 9223372036854775808) = none
    rw [ab64] at h3 ⊢
    rw [Nat.mod_mod]
    split at h3
    · rw [if_pos ‹_›]
    · cases h3
  | some c =>
    rw [ab_some hb] at hb
    rw [hb] at h2
    have e : ab .f32 (b % 2147483648) = some (b % 2147483648) := by
      have hb2 := hb
      rw [ab32] at hb2 ⊢
      rw [Nat.mod_mod]
      split at hb2
      · cases hb2
      · rw [if_neg ‹_›]
    rw [e]
    have h3 : ab .f64 x = some (FloatKind.f64.encode (FloatKind.f32.decode b)) := h2
    show ab .f64 (x % 9223372036854775808) = some (FloatKind.f64.encode (FloatKind.f32.decode (b % 2147483648)))
    have hxe := ab_some h3
    rw [← hxe]
    obtain ⟨hr1, hr2⟩ := read_size b
    have hn := read_nan (k := .f32) (b := b)
    rw [hb] at hn
    cases hd : FloatKind.f32.decode b with
    | nan g f =>
      have h9 : FloatKind.f32.format.read b = .nan g f := hd
      rw [h9] at hn
      simp [Datum.isNaN] at hn
    | infinity g =>
      rw [hr2 g hd]
      show ab .f64 (FloatKind.f64.format.word g FloatKind.f64.format.infRung % 9223372036854775808) = some (FloatKind.f64.format.word false FloatKind.f64.format.infRung)
      rw [← sw64, word_rung_mod _ _ (Nat.le_refl _), word_false]
      have := ab_word .f64 false (Nat.le_refl FloatKind.f64.format.infRung)
      rwa [word_false] at this
    | number g m e =>
      rw [hr1 g m e hd]
      show ab .f64 (FloatKind.f64.format.nearest g m e % 9223372036854775808) = some (FloatKind.f64.format.nearest false m e)
      obtain ⟨r, hr, e1, e2⟩ := nearest_neg FloatKind.f64.format g m e
      rw [e1, e2, ← sw64, word_rung_mod _ _ hr, word_false]
      have := ab_word .f64 false hr
      rwa [word_false] at this
end Fl
end Go.Proofs.Ytebocaicebolaaa
