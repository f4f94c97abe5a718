/- The greatest size, and sums of products. -/
import Derived.Test.YtflpackchlpedaaSb
import Derived.Test.YtflpackchlpedaaWb
import Derived.StillTailTactics
set_option linter.unusedVariables false
set_option linter.unusedSimpArgs false
namespace Go.Proofs.Ytflpackchlpedaa
open Fl Go.RowKit

def sizeN (b : Nat) : Nat := b % 2147483648
/-- the greatest size of the first words -/
def peakN (xs : List Nat) : Nat → Nat
  | 0 => 0
  | k + 1 => if (FloatKind.f32.format.order (sizeN (wd xs k)) (peakN xs k) == some .gt) = true then sizeN (wd xs k) else peakN xs k
theorem sizeN_lt (b : Nat) : sizeN b < 4294967296 := by unfold sizeN; omega
theorem peakN_lt (xs : List Nat) (k : Nat) : peakN xs k < 4294967296 := by
  induction k with
  | zero => exact (by decide : (0 : Nat) < 4294967296)
  | succ k ih => unfold peakN; split; exact sizeN_lt _; exact ih
theorem fv_self {r : Nat} (h : r < 4294967296) : Fv .f32 r (ab .f32 r) := ⟨h, rfl⟩
/-- what the model compares: all not-a-numbers are one -/
def sizeM (b : Nat) : Nat := bitsO (ab .f32 b) % 2147483648
theorem sizeM_ord (b p : Nat) : (FloatKind.f32.format.order (sizeM b) p == some .gt) = (FloatKind.f32.format.order (sizeN b) p == some .gt) ∧ ((FloatKind.f32.format.order (sizeN b) p == some .gt) = true → sizeM b = sizeN b) := by
  unfold sizeM
  cases h : ab .f32 b with
  | none =>
    have e1 : ab .f32 (sizeN b) = none := by
      rw [ab32] at h ⊢; unfold sizeN
      split at h
      · rw [if_pos (by omega)]
      · cases h
    have e2 : ab .f32 (2143289344 % 2147483648) = none := by rw [ab32]; rfl
    have o1 : FloatKind.f32.format.order (sizeN b) p = none := ord_none e1
    have o2 : FloatKind.f32.format.order (2143289344 % 2147483648) p = none := ord_none e2
    simp only [bitsO]
    rw [o1, o2]
    exact ⟨rfl, fun h => by cases h⟩
  | some c =>
    obtain rfl := ab_some h
    exact ⟨rfl, fun _ => rfl⟩
theorem bits_clear64 {p : Nat} (hp : p < 4294967296) : bits .andNot .i64 (p : Int) 2147483648 = ((p % 2147483648 : Nat) : Int) := by
  have h : (BitVec.ofInt 64 (p : Int) &&& ~~~ BitVec.ofInt 64 2147483648).toNat = p % 2147483648 := by
    have e1 : BitVec.ofInt 64 2147483648 = BitVec.ofNat 64 (2 ^ 31) := rfl
    have e2 : BitVec.ofInt 64 (p : Int) = BitVec.ofNat 64 p := BitVec.ofInt_natCast ..
    rw [e1, e2]
    apply Nat.eq_of_testBit_eq
    intro i
    rw [BitVec.toNat_and, Nat.testBit_and]
    have e3 : (2147483648 : Nat) = 2 ^ 31 := rfl
    rw [e3, Nat.testBit_mod_two_pow]
    rw [BitVec.toNat_ofNat, Nat.mod_eq_of_lt (by omega : p < 2 ^ 64)]
    rw [show (~~~BitVec.ofNat 64 (2 ^ 31)).toNat = 2 ^ 64 - 1 - 2 ^ 31 from rfl]
    by_cases hi : i < 31
    · have : (2 ^ 64 - 1 - 2 ^ 31 : Nat).testBit i = true := by
        have : ∀ j : Fin 31, (2 ^ 64 - 1 - 2 ^ 31 : Nat).testBit j.val = true := by decide
        exact this ⟨i, hi⟩
      rw [this]; simp [hi]
    · by_cases h31 : i = 31
      · subst h31
        have : (2 ^ 64 - 1 - 2 ^ 31 : Nat).testBit 31 = false := by decide
        rw [this]; simp
      · have : p.testBit i = false := Nat.testBit_lt_two_pow (Nat.lt_of_lt_of_le hp (by
          have : (4294967296 : Nat) = 2 ^ 32 := rfl
          rw [this]; exact Nat.pow_le_pow_right (by omega) (by omega)))
        rw [this]; simp
  show IntKind.i64.wrap ((BitVec.ofInt 64 (p : Int) &&& ~~~ BitVec.ofInt 64 2147483648).toNat : Int) = _
  rw [h, IntKind.wrap_i64]
  omega

/-- sums of products, from left to right -/
def dotO (xs ys : List Nat) : Nat → Option Nat
  | 0 => some 0
  | k + 1 => opO .add .f32 (dotO xs ys k) (opO .mul .f32 (ab .f32 (wd xs k)) (ab .f32 (wd ys k)))

end Go.Proofs.Ytflpackchlpedaa
