/- Halving and doubling move a normal number by one binade. -/
import Derived.Test.YtecgipilamefmaaFw
set_option linter.unusedVariables false
set_option linter.unusedSimpArgs false
namespace Go.Proofs.Ytecgipilamefmaa
namespace Fl
open Ieee
def cTwo : Nat := 4611686018427387904

theorem zv_step (k : FloatKind) {r : Nat} (h : k.format.binade ≤ r) : zv k (r + k.format.binade) = 2 * zv k r := by
  have hp := bin_pos k
  unfold zv
  rw [if_neg (by omega), if_neg (by omega), Nat.add_mod_right, Nat.add_div_right _ hp]
  have hq : 1 ≤ r / k.format.binade := (Nat.one_le_div_iff hp).2 h
  generalize r / k.format.binade = q at *
  obtain ⟨p, rfl⟩ : ∃ p, q = p + 1 := ⟨q - 1, by omega⟩
  rw [show (p + 1).succ - 1 = p + 1 by omega, show p + 1 - 1 = p by omega, Nat.pow_succ]
  generalize (k.format.binade + r % k.format.binade) = u
  rw [← Nat.mul_assoc, Nat.mul_comm]

theorem half {x : Nat} (hx : rung .f64 x < FloatKind.f64.format.infRung) (h : 2 * FloatKind.f64.format.binade ≤ rung .f64 x) :
    ∃ r, floatBits .quo .f64 x cTwo = some r ∧ rung .f64 r + FloatKind.f64.format.binade ≤ rung .f64 x := by
  have hb : FloatKind.f64.format.binade = 4503599627370496 := by decide
  have hi : FloatKind.f64.format.infRung = 9218868437227405312 := by decide
  obtain ⟨y, hy⟩ : ∃ y, y = FloatKind.f64.format.word false (rung .f64 x - FloatKind.f64.format.binade) := ⟨_, rfl⟩
  have ry : rung .f64 y = rung .f64 x - FloatKind.f64.format.binade := by
    rw [hy]; unfold rung; rw [word_rung_mod _ _ (by have : x % FloatKind.f64.format.signWeight = rung .f64 x := rfl; omega)]
  obtain ⟨r, hr, hle⟩ := div_size .f64 (x := x) (y := cTwo) (t := y) hx (by decide : rung .f64 cTwo < _) (by show rung .f64 y < _; omega) (by decide) 1074 (by decide) (by
    have e := zv_step .f64 (r := rung .f64 y) (by omega)
    rw [ry, Nat.sub_add_cancel (by omega)] at e
    rw [e, ry]
    have e0 : zv .f64 (rung .f64 cTwo) = 2 * 2 ^ 1074 := by decide +kernel
    rw [e0]
    generalize zv .f64 (rung .f64 x - FloatKind.f64.format.binade) = z
    generalize (2 : Nat) ^ 1074 = E
    rw [Nat.mul_comm 2 z, Nat.mul_assoc]
    exact Nat.le_refl _)
  exact ⟨r, hr, by omega⟩

theorem double {x : Nat} (h : FloatKind.f64.format.binade ≤ rung .f64 x) (hx : rung .f64 x + FloatKind.f64.format.binade < FloatKind.f64.format.infRung) :
    ∃ r, floatBits .mul .f64 x cTwo = some r ∧ rung .f64 x + FloatKind.f64.format.binade ≤ rung .f64 r ∧ sgn .f64 r = sgn .f64 x := by
  obtain ⟨m, e, hm, hz⟩ := read_fin .f64 (b := x) (by omega)
  obtain ⟨n, f, hn, hz2⟩ := read_fin .f64 (b := cTwo) (by decide)
  rw [show sgn .f64 cTwo = false by decide] at hn
  simp only [floatBits, Format.mul, hm, hn, Datum.product, Option.map_some]
  refine ⟨_, rfl, ?_, ?_⟩
  · obtain ⟨M, E, hZ, hform, hML⟩ := rung_form .f64 (rung .f64 x + FloatKind.f64.format.binade)
    have hT := nearest_rung .f64 false hx hZ hform
    rw [← hT]
    refine nearest_mono .f64 _ _ (b := FloatKind.f64.format.leastPlace + FloatKind.f64.format.leastPlace) (by have := lp_neg .f64; omega) (by omega) (by have := lp_neg .f64; omega) ?_
    have e1 : (FloatKind.f64.format.leastPlace + (e : Int) + (FloatKind.f64.format.leastPlace + (f : Int)) - (FloatKind.f64.format.leastPlace + FloatKind.f64.format.leastPlace)).toNat = e + f := by omega
    have lp : FloatKind.f64.format.leastPlace = -1074 := by decide
    have e2 : (FloatKind.f64.format.leastPlace + (E : Int) - (FloatKind.f64.format.leastPlace + FloatKind.f64.format.leastPlace)).toNat = E + 1074 := by omega
    rw [e1, e2, Nat.pow_add, Nat.pow_add]
    have g1 : m * n * (2 ^ e * 2 ^ f) = (m * 2 ^ e) * (n * 2 ^ f) := by
      rw [Nat.mul_assoc, Nat.mul_assoc, Nat.mul_left_comm n]
    rw [g1, ← hz, ← hz2, ← Nat.mul_assoc, ← hZ, zv_step .f64 h]
    have e0 : zv .f64 (rung .f64 cTwo) = 2 * 2 ^ 1074 := by decide +kernel
    rw [e0]
    generalize zv .f64 (rung .f64 x) = z
    generalize (2 : Nat) ^ 1074 = F
    rw [Nat.mul_comm 2 z, Nat.mul_assoc]
    exact Nat.le_refl _
  · have := sgn_nearest .f64 (sgn .f64 x != false) (m * n) (FloatKind.f64.format.leastPlace + (e : Int) + (FloatKind.f64.format.leastPlace + (f : Int)))
    have e2 : (sgn .f64 x != false) = sgn .f64 x := by cases sgn .f64 x <;> rfl
    exact this.trans e2
end Fl
end Go.Proofs.Ytecgipilamefmaa
