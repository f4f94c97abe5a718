/- A float made whole, to the nearest even: it keeps to whole bounds. -/
import Derived.Test.YtdibobheggffnaaFi
set_option linter.unusedVariables false
set_option linter.unusedSimpArgs false
namespace Go.Proofs.Ytdibobheggffnaa
namespace Fl
open Ieee
/-- a 64-bit word rounded to a whole number -/
def rneW (x : Nat) : Nat := match FloatKind.f64.decode x with
  | .nan _ _ => x
  | d => FloatKind.f64.encode (d.integral .even)
def fd (c : Int) : Nat := floatOfInt .f64 c
theorem cutze (s : Bool) (n d : Nat) : Toward.zero.cut s n d ≤ n / 2 ^ d := by
  unfold Toward.cut
  dsimp only
  rw [Nat.shiftLeft_eq, Nat.one_mul]
  show n / 2 ^ min d (n.log2 + 2) + 0 ≤ _
  rcases Nat.le_total d (n.log2 + 2) with h1 | h1
  · rw [Nat.min_eq_left h1]; exact Nat.le_refl _
  · rw [Nat.min_eq_right h1, Nat.div_eq_of_lt (Nat.lt_trans Nat.lt_log2_self (Nat.pow_lt_pow_right (by decide) (by omega)))]
    exact Nat.zero_le _
/-- what lies within 2^20 goes into an integer -/
theorem toInt_some {y : Nat} (h : rung .f64 y ≤ 1043 * 4503599627370496) : ∃ v, floatToIntVal .f64 y .i64 = some v := by
  have hf : rung .f64 y < FloatKind.f64.format.infRung := Nat.lt_of_le_of_lt h (by decide)
  obtain ⟨m, e, hr, hz⟩ := read_fin .f64 hf
  obtain ⟨D, hD⟩ : ∃ D : Nat, D = 1074 := ⟨_, rfl⟩
  have h1 : zv .f64 (1043 * 4503599627370496) = 2 ^ 20 * 2 ^ D := by rw [hD]; decide +kernel
  have h2 : FloatKind.f64.format.leastPlace = -(D : Int) := by rw [hD]; decide
  have h3 : m * 2 ^ e ≤ 2 ^ 20 * 2 ^ D := by rw [← hz, ← h1]; exact (zv_le .f64).2 h
  clear hD h1
  have hd : FloatKind.f64.decode y = .number (sgn .f64 y) m (-(D : Int) + e) := by rw [← h2]; exact hr
  have hc : Toward.zero.cut (sgn .f64 y) (m <<< (-(D : Int) + e).toNat) (-(-(D : Int) + e)).toNat ≤ 1048576 := by
    refine Nat.le_trans (cutze _ _ _) ?_
    rw [Nat.shiftLeft_eq, Nat.div_le_iff_le_mul_add_pred (Nat.two_pow_pos _)]
    rcases Nat.le_total e D with h4 | h4
    · rw [show (-(D : Int) + e).toNat = 0 by omega, show (-(-(D : Int) + e)).toNat = D - e by omega, Nat.pow_zero, Nat.mul_one]
      have h5 : 2 ^ D = 2 ^ (D - e) * 2 ^ e := by rw [← Nat.pow_add]; congr 1; omega
      rw [h5, ← Nat.mul_assoc] at h3
      have := Nat.le_of_mul_le_mul_right h3 (Nat.two_pow_pos e)
      rw [Nat.mul_comm] at this
      exact Nat.le_trans this (Nat.le_add_right _ _)
    · rw [show (-(D : Int) + e).toNat = e - D by omega, show (-(-(D : Int) + e)).toNat = 0 by omega]
      have h5 : 2 ^ e = 2 ^ (e - D) * 2 ^ D := by rw [← Nat.pow_add]; congr 1; omega
      rw [h5, ← Nat.mul_assoc] at h3
      have := Nat.le_of_mul_le_mul_right h3 (Nat.two_pow_pos D)
      simp only [Nat.pow_zero, Nat.one_mul]
      omega
  have hi : ∃ v : Int, (Datum.number (sgn .f64 y) m (-(D : Int) + e)).toInt .zero = some v ∧ -1048576 ≤ v ∧ v ≤ 1048576 := by
    unfold Datum.toInt Datum.integral
    dsimp only
    generalize Toward.zero.cut (sgn .f64 y) (m <<< (-(D : Int) + e).toNat) (-(-(D : Int) + e)).toNat = c at *
    refine ⟨_, rfl, ?_, ?_⟩ <;> (unfold signed; rw [Nat.shiftLeft_zero]; split <;> omega)
  obtain ⟨v, hv, v1, v2⟩ := hi
  refine ⟨v, ?_⟩
  unfold floatToIntVal
  rw [hd, hv]
  dsimp only
  have r1 : IntKind.i64.min ≤ v := by show (-9223372036854775808 : Int) ≤ v; omega
  have r2 : v ≤ IntKind.i64.max := by show v ≤ (9223372036854775807 : Int); omega
  rw [if_pos ⟨r1, r2⟩]
theorem sgn_word0 (k : FloatKind) {r : Nat} (h : r ≤ k.format.infRung) : sgn k (k.format.word false r) = false := by
  have h1 := k.format.infRung_lt
  have e : k.format.word false r = r := by unfold Format.word; simp
  rw [e]
  unfold sgn
  rw [Nat.div_eq_of_lt (by omega)]
  rfl

theorem sgn_wordR (k : FloatKind) (s : Bool) {r : Nat} (h : r ≤ k.format.infRung) : sgn k (k.format.word s r) = s := by
  have h1 := k.format.infRung_lt
  have h0 := sw_pos k
  cases s
  · exact sgn_word0 k h
  · have e : k.format.word true r = k.format.signWeight + r := by unfold Format.word; simp
    rw [e]
    unfold sgn
    rw [Nat.add_div_left _ h0, Nat.div_eq_of_lt (by omega)]
    rfl
theorem sgn_nearR (k : FloatKind) (s : Bool) (mag : Nat) (place : Int) : sgn k (k.format.nearest s mag place) = s := by
  unfold Format.nearest
  dsimp only
  split
  · exact sgn_wordR k s (Nat.zero_le _)
  · exact sgn_wordR k s (Nat.min_le_right ..)
theorem rne_fin {x : Nat} (h : rung .f64 x < FloatKind.f64.format.infRung) (D : Nat) (hD : FloatKind.f64.format.leastPlace = -(D : Int)) : ∃ m e : Nat, zv .f64 (rung .f64 x) = m * 2 ^ e ∧
    rneW x = FloatKind.f64.format.nearest (sgn .f64 x) (Toward.even.cut (sgn .f64 x) (m * 2 ^ (e - D)) (D - e)) 0 := by
  obtain ⟨m, e, hr, hz⟩ := read_fin .f64 h
  refine ⟨m, e, hz, ?_⟩
  have hd : FloatKind.f64.decode x = .number (sgn .f64 x) m (-(D : Int) + e) := by rw [← hD]; exact hr
  unfold rneW
  rw [hd]
  dsimp only
  show FloatKind.f64.format.nearest _ _ _ = _
  rw [Nat.shiftLeft_eq, show (-(D : Int) + e).toNat = e - D by omega, show (-(-(D : Int) + e)).toNat = D - e by omega]
theorem rne_inf {x : Nat} (h : rung .f64 x = FloatKind.f64.format.infRung) : rneW x = FloatKind.f64.format.word (sgn .f64 x) FloatKind.f64.format.infRung := by
  have hd : FloatKind.f64.decode x = .infinity (sgn .f64 x) := read_inf .f64 h
  unfold rneW
  rw [hd]
  rfl
/-- c stands for the whole number C -/
def Whl (c C : Nat) : Prop := rung .f64 c = rung .f64 (FloatKind.f64.format.nearest false C 0) ∧ zv .f64 (rung .f64 c) = C * 2 ^ 1074
theorem rne_ge {x c C : Nat} (hx : rung .f64 x ≤ FloatKind.f64.format.infRung) (hc : Whl c C) (h : rung .f64 c ≤ rung .f64 x) : rung .f64 c ≤ rung .f64 (rneW x) := by
  obtain ⟨D, hD⟩ : ∃ D : Nat, D = 1074 := ⟨_, rfl⟩
  obtain ⟨hc1, hc2⟩ := hc
  rw [← hD] at hc2
  have h2 : FloatKind.f64.format.leastPlace = -(D : Int) := by rw [hD]; decide
  clear hD
  rcases Nat.lt_or_eq_of_le hx with h1 | h1
  · obtain ⟨m, e, hz, hr⟩ := rne_fin h1 D h2
    have h3 : C * 2 ^ D ≤ m * 2 ^ e := by rw [← hz, ← hc2]; exact (zv_le .f64).2 h
    rw [hr, hc1]
    refine nearest_mono .f64 _ _ (b := FloatKind.f64.format.leastPlace) (by have := lp_neg .f64; omega) (by have := lp_neg .f64; omega) (Int.le_refl _) (Nat.mul_le_mul_right _ ?_)
    have h4 := cut_mono false (sgn .f64 x) (n := C) (d := 0) (n' := m * 2 ^ (e - D)) (d' := D - e) (by
      rw [Nat.pow_zero, Nat.mul_one]
      rcases Nat.le_total e D with h4 | h4
      · rw [show e - D = 0 by omega, Nat.pow_zero, Nat.mul_one]
        have h5 : 2 ^ D = 2 ^ (D - e) * 2 ^ e := by rw [← Nat.pow_add]; congr 1; omega
        rw [h5, ← Nat.mul_assoc] at h3
        exact Nat.le_of_mul_le_mul_right h3 (Nat.two_pow_pos e)
      · rw [show D - e = 0 by omega, Nat.pow_zero, Nat.mul_one]
        have h5 : 2 ^ e = 2 ^ (e - D) * 2 ^ D := by rw [← Nat.pow_add]; congr 1; omega
        rw [h5, ← Nat.mul_assoc] at h3
        exact Nat.le_of_mul_le_mul_right h3 (Nat.two_pow_pos D))
    rw [cut_zero] at h4
    exact h4
  · rw [rne_inf h1]
    have h5 : rung .f64 (FloatKind.f64.format.word (sgn .f64 x) FloatKind.f64.format.infRung) = FloatKind.f64.format.infRung := by unfold rung; rw [word_rung_mod _ _ (Nat.le_refl _)]
    omega
theorem rne_le {x c C : Nat} (hx : rung .f64 x ≤ FloatKind.f64.format.infRung) (hc : Whl c C) (hcf : rung .f64 c < FloatKind.f64.format.infRung) (h : rung .f64 x ≤ rung .f64 c) : rung .f64 (rneW x) ≤ rung .f64 c := by
  obtain ⟨D, hD⟩ : ∃ D : Nat, D = 1074 := ⟨_, rfl⟩
  obtain ⟨hc1, hc2⟩ := hc
  rw [← hD] at hc2
  have h2 : FloatKind.f64.format.leastPlace = -(D : Int) := by rw [hD]; decide
  clear hD
  have h1 : rung .f64 x < FloatKind.f64.format.infRung := by omega
  obtain ⟨m, e, hz, hr⟩ := rne_fin h1 D h2
  have h3 : m * 2 ^ e ≤ C * 2 ^ D := by rw [← hz, ← hc2]; exact (zv_le .f64).2 h
  rw [hr, hc1]
  refine nearest_mono .f64 _ _ (b := FloatKind.f64.format.leastPlace) (by have := lp_neg .f64; omega) (by have := lp_neg .f64; omega) (Int.le_refl _) (Nat.mul_le_mul_right _ ?_)
  have h4 := cut_mono (sgn .f64 x) false (n := m * 2 ^ (e - D)) (d := D - e) (n' := C) (d' := 0) (by
    rw [Nat.pow_zero, Nat.mul_one]
    rcases Nat.le_total e D with h4 | h4
    · rw [show e - D = 0 by omega, Nat.pow_zero, Nat.mul_one]
      have h5 : 2 ^ D = 2 ^ (D - e) * 2 ^ e := by rw [← Nat.pow_add]; congr 1; omega
      rw [h5, ← Nat.mul_assoc] at h3
      exact Nat.le_of_mul_le_mul_right h3 (Nat.two_pow_pos e)
    · rw [show D - e = 0 by omega, Nat.pow_zero, Nat.mul_one]
      have h5 : 2 ^ e = 2 ^ (e - D) * 2 ^ D := by rw [← Nat.pow_add]; congr 1; omega
      rw [h5, ← Nat.mul_assoc] at h3
      exact Nat.le_of_mul_le_mul_right h3 (Nat.two_pow_pos D))
  rw [cut_zero] at h4
  exact h4
theorem rne_sgn {x : Nat} (hx : rung .f64 x ≤ FloatKind.f64.format.infRung) : sgn .f64 (rneW x) = sgn .f64 x := by
  rcases Nat.lt_or_eq_of_le hx with h1 | h1
  · obtain ⟨m, e, hz, hr⟩ := rne_fin h1 1074 (by decide)
    rw [hr]; exact sgn_nearR _ _ _ _
  · rw [rne_inf h1]; exact sgn_wordR _ _ (Nat.le_refl _)
theorem rne_fits {x : Nat} (hx : rung .f64 x ≤ FloatKind.f64.format.infRung) : rung .f64 (rneW x) ≤ FloatKind.f64.format.infRung ∧ rneW x < 2 ^ 64 := by
  rcases Nat.lt_or_eq_of_le hx with h1 | h1
  · obtain ⟨m, e, hz, hr⟩ := rne_fin h1 1074 (by decide)
    rw [hr]
    exact ⟨nearest_fin _ _ _ _, (fv_write .f64 (d := .number (sgn .f64 x) _ 0) rfl).1⟩
  · rw [rne_inf h1]
    refine ⟨?_, (fv_write .f64 (d := .infinity (sgn .f64 x)) rfl).1⟩
    unfold rung; rw [word_rung_mod _ _ (Nat.le_refl _)]; exact Nat.le_refl _
theorem ab_of_rung {x : Nat} (h : rung .f64 x ≤ FloatKind.f64.format.infRung) : ab .f64 x = some x := by
  unfold ab rung at *
  rw [if_neg (by omega)]
end Fl
end Go.Proofs.Ytdibobheggffnaa
