/- GainOf. -/
import Derived.Test.YtecgipilamefmaaSr
import Derived.Test.YtecgipilamefmaaFe
import Derived.Test.YtecgipilamefmaaSf
import Derived.Test.YtecgipilamefmaaSb
set_option linter.unusedVariables false
set_option linter.unusedSimpArgs false
namespace Go.Proofs.Ytecgipilamefmaa
open Fl Go.RowKit Ieee

def cGain : Nat := 4577790371455803420
theorem ab_gain : ab .f64 4577790371455803420 = some cGain := by rw [ab64]; rfl
def gain64 (n : Int) : Option Nat := expO (opO .mul .f64 (some (floatOfInt .f64 n)) (some cGain))
def gainNO (n : Int) : Option Nat := convO .f64 .f32 (gain64 n)
theorem tenths_size2 : ∀ a < 64, ∀ b < 64, rung .f64 (floatOfInt .f64 (((64 * a + b : Nat) : Int) - 2048)) ≤ rung .f64 4656722014701092864 := by decide +kernel
theorem tenths_size (n : Nat) (h : n < 4096) : rung .f64 (floatOfInt .f64 ((n : Int) - 2048)) ≤ rung .f64 4656722014701092864 := by
  have := tenths_size2 (n / 64) (by omega) (n % 64) (by omega)
  rw [Nat.div_add_mod] at this
  exact this
theorem fits_gain {n : Int} (h1 : -2000 ≤ n) (h2 : n ≤ 2000) {r : Nat} (h : Fv .f64 r (gain64 n)) : Fits .f64 .f32 r := by
  have hs := tenths_size (n + 2048).toNat (by omega)
  rw [show (((n + 2048).toNat : Nat) : Int) - 2048 = n by omega] at hs
  obtain ⟨m, m', hm, hm', hle⟩ := mul_size .f64 (x := floatOfInt .f64 n) (y := cGain) (c := 4656722014701092864) (d := cGain) (Nat.lt_of_le_of_lt hs (by decide)) (by decide : rung .f64 cGain < _) (by decide : rung .f64 4656722014701092864 < _) (by decide : rung .f64 cGain < _) hs (Nat.le_refl _)
  rw [show floatBits .mul .f64 4656722014701092864 cGain = some 4627329967356878876 by decide +kernel] at hm'
  injection hm' with hm'
  subst hm'
  have h40 : rung .f64 m ≤ rung .f64 w40 := Nat.le_trans hle (by decide)
  have habm : ab .f64 m = some m := (fv_op (op := .mul) (.inr (.inr (.inl rfl))) hm).2
  obtain ⟨q, hq, hql, _⟩ := exp_size habm h40
  have e : gain64 n = some q := by
    unfold gain64
    show expO (floatBits .mul .f64 (floatOfInt .f64 n) cGain) = some q
    rw [hm]; exact hq
  have h3 := h.2
  rw [e] at h3
  obtain rfl := ab_some h3
  exact fits_size hql

def gainS (n : Int) : Option Nat := if inB n (-2000) 2000 = true then gainNO n else some 0
theorem implGainOf_any (n : Int) (w : World) :
    Calls Try.prog 19 #[.int .i64 n] w (RetFB .f32 (gainS n) (inB n (-2000) 2000) w) := by
  unfold gainS
  by_cases h1 : n < -2000
  · rw [show inB n (-2000) 2000 = false by simp [inB]; omega, if_neg (by decide)]
    go_enter Try.func19, Try.ntmps19
    go_wp2
    go_ret2
    exact ⟨0, 0, rfl, fv32z, rfl⟩
  · by_cases h2 : 2000 < n
    · rw [show inB n (-2000) 2000 = false by simp [inB]; omega, if_neg (by decide)]
      go_enter Try.func19, Try.ntmps19
      go_wp2
      go_ret2
      exact ⟨0, 0, rfl, fv32z, rfl⟩
    · rw [show inB n (-2000) 2000 = true by simp [inB]; omega, if_pos rfl]
      go_enter Try.func19, Try.ntmps19
      go_wp2_with (with_reducible_and_instances refine wpList_fop _ rfl .mul _ _ _ _ rfl _ _ _ rfl rfl rfl ?_; intro r1 q1 hr; have V1 := Lib.hid hr; clear hr)
      refine (implExp_any _ _ V1.out.1).mono ?_
      rintro e w' ⟨r2, q2, rfl, hv, rfl⟩
      have hv' : Fv .f64 r2 (gain64 n) := by rw [V1.out.2, ab_gain, ab_int64] at hv; exact hv
      have V2 := Lib.hid hv'
      clear hv hv'
      go_wp2_with fail
      refine (implNarrow_any _ _ V2.out.1 (fits_gain (by omega) (by omega) V2.out)).mono ?_
      rintro e w' ⟨r3, q3, rfl, hv, rfl⟩
      have V3 := Lib.hid hv
      clear hv
      go_wp2
      go_ret2
      exact ⟨r3, _, rfl, by have := V3.out; rw [V2.out.2] at this; exact this, rfl⟩

end Go.Proofs.Ytecgipilamefmaa
