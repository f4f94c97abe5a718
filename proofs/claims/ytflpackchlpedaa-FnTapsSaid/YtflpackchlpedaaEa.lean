/- Dynamics: sizes, gains, clipped and bent numbers: both sides, modulo the bits of not-a-numbers. -/
import Derived.Test.YtflpackchlpedaaLq
import Derived.Test.YtflpackchlpedaaSc
import Derived.Test.YtflpackchlpedaaGa
import Derived.Test.YtflpackchlpedaaFk
set_option linter.unusedVariables false
set_option linter.unusedSimpArgs false
namespace Go.Proofs.Ytflpackchlpedaa
open Fl Go.RowKit
abbrev qu (a b : O) : O := opO .quo .f32 a b
def sizeO (x : O) : O := x.map sizeN
theorem sizeN_fv {b : Nat} {X : O} (h : Hid (Fv .f32 b X)) : Hid (Fv .f32 (sizeN b) (sizeO X)) := by
  obtain ⟨h1, h2⟩ := h
  refine Lib.hid ⟨sizeN_lt b, ?_⟩
  rw [← h2, ab32, ab32]
  unfold sizeN sizeO
  by_cases e : 2139095040 < b % 2147483648
  · rw [if_pos (by omega), if_pos e]; rfl
  · rw [if_neg (by omega), if_neg e]; rfl
/-- the model's size -/
def sizeS (b : Nat) : Nat := if nanB b then b else sizeN b
theorem sizeS_fv {b : Nat} {X : O} (h : Hid (Fv .f32 b X)) : Hid (Fv .f32 (sizeS b) (sizeO X)) := by
  unfold sizeS
  cases e : nanB b
  · exact sizeN_fv h
  · obtain ⟨h1, h2⟩ := h
    have h3 := ab_of_nan' e
    rw [h3] at h2
    subst h2
    exact Lib.hid ⟨h1, h3⟩
theorem sizeS_lt {b : Nat} (h : b < 4294967296) : sizeS b < 4294967296 := by unfold sizeS; split; exact h; exact sizeN_lt b
theorem ord_fv {k : FloatKind} {p q : Nat} {P Q : O} (hp : Hid (Fv k p P)) (hq : Hid (Fv k q Q)) : k.format.order p q = ordO k P Q := by rw [order_ab, hp.out.2, hq.out.2]
def gtO (x y : O) : Bool := ordO .f32 x y == some .gt
def ltO (x y : O) : Bool := ordO .f32 x y == some .lt
theorem gt_fv {p q : Nat} {P Q : O} (hp : Hid (Fv .f32 p P)) (hq : Hid (Fv .f32 q Q)) : (FloatKind.f32.format.order p q == some .gt) = gtO P Q := by rw [ord_fv hp hq]; rfl
theorem lt_fv {p q : Nat} {P Q : O} (hp : Hid (Fv .f32 p P)) (hq : Hid (Fv .f32 q Q)) : (FloatKind.f32.format.order p q == some .lt) = ltO P Q := by rw [ord_fv hp hq]; rfl
theorem fvc {b : Nat} (h : b < 4294967296) (h2 : b % 2147483648 ≤ 2139095040) : Hid (Fv .f32 b (some b)) := Lib.hid ⟨h, by rw [ab32, if_neg (by omega)]⟩
theorem fv0 : Hid (Fv .f32 0 (some 0)) := fvc (by decide) (by decide)
theorem fv1 : Hid (Fv .f32 1065353216 (some 1065353216)) := fvc (by decide) (by decide)
theorem fvm1 : Hid (Fv .f32 3212836864 (some 3212836864)) := fvc (by decide) (by decide)
theorem fvh : Hid (Fv .f32 1056964608 (some 1056964608)) := fvc (by decide) (by decide)
theorem fvoh : Hid (Fv .f32 1069547520 (some 1069547520)) := fvc (by decide) (by decide)
theorem negN_fv {b : Nat} {X : O} (h : Hid (Fv .f32 b X)) : Hid (Fv .f32 (negN b) (X.map negN)) := Lib.hid ⟨negN_lt h.out.1, by unfold negN; rw [ab_neg, h.out.2]⟩
theorem negN_big {b : Nat} (h : b < 4294967296) (h2 : 2147483648 ≤ b) : negN b = sizeN b := by
  unfold negN sizeN Op.negFloat
  have e2 := neg_mod .f32 b
  rw [sw32] at e2
  unfold Op.negFloat at e2
  have e3 : (b ^^^ (2 ^ (FloatKind.f32.format.exponentBits + FloatKind.f32.format.fractionBits))) / 2147483648 = 0 := by
    rw [show (2 : Nat) ^ (FloatKind.f32.format.exponentBits + FloatKind.f32.format.fractionBits) = 2 ^ 31 by decide, show (2147483648 : Nat) = 2 ^ 31 by decide, ← Nat.shiftRight_eq_div_pow, Nat.shiftRight_xor_distrib, Nat.shiftRight_eq_div_pow, show b / 2 ^ 31 = 1 by omega]
    rfl
  omega
/-- which of the two branches a size takes -/
theorem sizeS_case {b : Nat} (hb : b < 4294967296) : ((FloatKind.f32.format.order b 0 == some .lt) = true ∧ sizeS b = negN b) ∨ ((FloatKind.f32.format.order b 0 == some .lt) = false ∧ (((bitsO (ab .f32 b) : Int) == 2147483648) = true ∧ sizeS b = negN b ∨ ((bitsO (ab .f32 b) : Int) == 2147483648) = false ∧ sizeS b = b)) := by
  unfold sizeS
  cases e : nanB b
  · have h := ab_of_nan e
    have ho := ord_zero32 hb h
    rw [h]
    simp only [bitsO]
    by_cases h1 : b < 2147483648
    · refine .inr ⟨?_, .inr ⟨?_, ?_⟩⟩
      · rw [ho]; by_cases h2 : b % 2147483648 = 0
        · rw [if_pos h2]; rfl
        · rw [if_neg h2, if_pos h1]; rfl
      · simp; omega
      · simp only [Bool.false_eq_true, if_false]; unfold sizeN; omega
    · have hs : sizeN b = negN b := (negN_big hb (by omega)).symm
      by_cases h2 : b % 2147483648 = 0
      · refine .inr ⟨?_, .inl ⟨?_, hs⟩⟩
        · rw [ho, if_pos h2]; rfl
        · simp; omega
      · refine .inl ⟨?_, hs⟩
        rw [ho, if_neg h2, if_neg h1]; rfl
  · have h := ab_of_nan' e
    rw [ord_none h, h]
    exact .inr ⟨rfl, .inr ⟨rfl, rfl⟩⟩
/-- a gain, and a bent number -/
def gainO (l t r : O) : O := if gtO l t then qu (ad t (qu (su l t) r)) l else some 1065353216
/-- a clipped number -/
def clipO (x l : O) : O := if gtO (sizeO x) l then (if ltO x (some 0) then l.map negN else l) else x
/-- a bent number -/
def bendR (x : O) : O := mu x (su (some 1069547520) (mu (some 1056964608) (mu x x)))
def eqO (x y : O) : Bool := ordO .f32 x y == some .eq
theorem eq_fv {p q : Nat} {P Q : O} (hp : Hid (Fv .f32 p P)) (hq : Hid (Fv .f32 q Q)) : (FloatKind.f32.format.order p q == some .eq) = eqO P Q := by rw [ord_fv hp hq]; rfl
def geO (x y : O) : Bool := gtO x y || eqO x y
def leO (x y : O) : Bool := ltO x y || eqO x y
def bendO (x : O) : O := if geO x (some 1065353216) then some 1065353216 else if leO x (some 3212836864) then some 3212836864 else bendR x
end Go.Proofs.Ytflpackchlpedaa
