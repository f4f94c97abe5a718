/- Products of gains are nearly gains. -/
import Derived.Test.YtecgipilamefmaaP2
set_option linter.unusedVariables false
set_option linter.unusedSimpArgs false
namespace Go.Proofs.Ytecgipilamefmaa
open Fl Go.RowKit
theorem four_mul (p q r t : Nat) : p * q * (r * t) = p * r * (q * t) := by ac_rfl
theorem gPw_mul (a b : Nat) (h : a + b ≤ 510) (ha : a ≤ 255) (hb : b ≤ 255) : gPw (a + 128) * gPw (b + 128) = gPw 256 * gPw (a + b) := by
  unfold gPw
  generalize 1166271706434695346 = c
  generalize 1152921504606846976 = s
  obtain ⟨k, hk⟩ : ∃ k, k = a + 128 := ⟨_, rfl⟩
  obtain ⟨l, hl⟩ : ∃ l, l = b + 128 := ⟨_, rfl⟩
  obtain ⟨m, hm⟩ : ∃ m, m = 256 := ⟨_, rfl⟩
  obtain ⟨z, hz⟩ : ∃ z, z = 511 := ⟨_, rfl⟩
  rw [← hk, ← hl, ← hm, ← hz, four_mul, ← Nat.pow_add, ← Nat.pow_add, four_mul, ← Nat.pow_add, ← Nat.pow_add, show k + l = m + (a + b) by omega, show z - k + (z - l) = z - m + (z - (a + b)) by omega]
theorem gPw_pos (k : Nat) : 0 < gPw k := Nat.mul_pos (Nat.pow_pos (by decide)) (Nat.pow_pos (by decide))
/-- from near powers to near products -/
theorem near_mul {A B S G P Q R T : Nat} (hT : 0 < T) (hG : 0 < G) (e : P * Q = G * R) (hA1 : 8388607 * T * P ≤ 8388608 * A * G) (hA2 : 8388608 * A * G ≤ 8388609 * T * P) (hB1 : 8388607 * T * Q ≤ 8388608 * B * G) (hB2 : 8388608 * B * G ≤ 8388609 * T * Q) (hS1 : 8388607 * T * R ≤ 8388608 * S * G) (hS2 : 8388608 * S * G ≤ 8388609 * T * R) :
    1048575 * T * S ≤ 1048576 * (A * B) ∧ 1048576 * (A * B) ≤ 1048577 * T * S := by
  have hGG : 0 < G * G := Nat.mul_pos hG hG
  have m1 := Nat.mul_le_mul hA1 hB1
  have m2 := Nat.mul_le_mul hA2 hB2
  have l1 : 8388608 * A * G * (8388608 * B * G) = 70368744177664 * ((A * B) * (G * G)) := by
    have : 8388608 * A * G * (8388608 * B * G) = (8388608 * 8388608) * ((A * B) * (G * G)) := by ac_rfl
    rw [this]
  have l2 : 8388607 * T * P * (8388607 * T * Q) = 70368727400449 * (T * (T * (G * R))) := by
    have : 8388607 * T * P * (8388607 * T * Q) = (8388607 * 8388607) * (T * (T * (P * Q))) := by ac_rfl
    rw [this, e]
  have l3 : 8388609 * T * P * (8388609 * T * Q) = 70368760954881 * (T * (T * (G * R))) := by
    have : 8388609 * T * P * (8388609 * T * Q) = (8388609 * 8388609) * (T * (T * (P * Q))) := by ac_rfl
    rw [this, e]
  rw [l1, l2] at m1
  rw [l1, l3] at m2
  have s1 := Nat.mul_le_mul_right (T * G) hS1
  have s2 := Nat.mul_le_mul_right (T * G) hS2
  have l4 : 8388608 * S * G * (T * G) = 8388608 * ((T * S) * (G * G)) := by ac_rfl
  have l5 : 8388607 * T * R * (T * G) = 8388607 * (T * (T * (G * R))) := by ac_rfl
  have l6 : 8388609 * T * R * (T * G) = 8388609 * (T * (T * (G * R))) := by ac_rfl
  rw [l4, l5] at s1
  rw [l4, l6] at s2
  generalize T * (T * (G * R)) = X at *
  have g1 : 1048575 * T * S * (G * G) ≤ 1048576 * (A * B) * (G * G) := by
    have a1 : 1048575 * T * S * (G * G) = 1048575 * ((T * S) * (G * G)) := by ac_rfl
    have a2 : 1048576 * (A * B) * (G * G) = 1048576 * ((A * B) * (G * G)) := by ac_rfl
    rw [a1, a2]
    omega
  have g2 : 1048576 * (A * B) * (G * G) ≤ 1048577 * T * S * (G * G) := by
    have a1 : 1048577 * T * S * (G * G) = 1048577 * ((T * S) * (G * G)) := by ac_rfl
    have a2 : 1048576 * (A * B) * (G * G) = 1048576 * ((A * B) * (G * G)) := by ac_rfl
    rw [a1, a2]
    omega
  exact ⟨Nat.le_of_mul_le_mul_right g1 hGG, Nat.le_of_mul_le_mul_right g2 hGG⟩
theorem gOk_at {k : Nat} (h : gOk k = true) : 8388607 * 2 ^ 149 * gPw k ≤ 8388608 * zv .f32 (rung .f32 (gW k)) * gPw 256 ∧ 8388608 * zv .f32 (rung .f32 (gW k)) * gPw 256 ≤ 8388609 * 2 ^ 149 * gPw k ∧ gW k < 2139095040 ∧ 8388608 ≤ gW k := by
  unfold gOk at h
  simp only [Bool.and_eq_true, Nat.ble_eq, Nat.blt_eq] at h
  exact ⟨h.1.1.1, h.1.1.2, h.1.2, h.2⟩
theorem gain_mul (a b : Nat) (ha : a < 256) (hb : b < 256) : 1048575 * 2 ^ 149 * zv .f32 (rung .f32 (gW (a + b))) ≤ 1048576 * (zv .f32 (rung .f32 (gW (a + 128))) * zv .f32 (rung .f32 (gW (b + 128)))) ∧ 1048576 * (zv .f32 (rung .f32 (gW (a + 128))) * zv .f32 (rung .f32 (gW (b + 128)))) ≤ 1048577 * 2 ^ 149 * zv .f32 (rung .f32 (gW (a + b))) := by
  have hA := gOk_at (gain_lit (a + 128) (by omega)).2
  have hB := gOk_at (gain_lit (b + 128) (by omega)).2
  have hS := gOk_at (gain_lit (a + b) (by omega)).2
  exact near_mul (Nat.two_pow_pos 149) (gPw_pos 256) (gPw_mul a b (by omega) (by omega) (by omega)) hA.1 hA.2.1 hB.1 hB.2.1 hS.1 hS.2.1
end Go.Proofs.Ytecgipilamefmaa
