/- Rounding is monotone, and leaves what the format has. -/
import Derived.Test.YtipdgnhbmfmhnaaFx
set_option linter.unusedVariables false
set_option linter.unusedSimpArgs false
namespace Go.Proofs.Ytipdgnhbmfmhnaa
namespace Fl
open Ieee

theorem toNat_le_one (b : Bool) : b.toNat ≤ 1 := by cases b <;> decide

/-- what the cut to the nearest whole number says -/
theorem cut_spec (neg : Bool) (n d : Nat) : ∃ c, Toward.even.cut neg n d = c ∧ 2 * (c * 2 ^ d) ≤ 2 * n + 2 ^ d ∧ 2 * n ≤ 2 * (c * 2 ^ d) + 2 ^ d ∧
    (2 * n = 2 * (c * 2 ^ d) + 2 ^ d → c % 2 = 0) ∧ (2 * (c * 2 ^ d) = 2 * n + 2 ^ d → c % 2 = 0) := by
  refine ⟨_, rfl, ?_⟩
  unfold Toward.cut
  dsimp only
  rw [Nat.one_shiftLeft]
  rcases Nat.le_total d (n.log2 + 2) with hd | hd
  · rw [Nat.min_eq_left hd]
    have hg : 0 < 2 ^ d := Nat.two_pow_pos d
    generalize 2 ^ d = g at *
    have hdiv := Nat.div_add_mod n g
    have hmod := Nat.mod_lt n hg
    generalize n / g = low at *
    generalize n % g = rest at *
    have hc : g * low = low * g := Nat.mul_comm _ _
    cases hm : (decide (g < 2 * rest) || g == 2 * rest && low % 2 == 1)
    · simp only [Bool.toNat_false, Nat.add_zero]
      simp at hm
      omega
    · simp only [Bool.toNat_true]
      have hs : (low + 1) * g = low * g + g := Nat.succ_mul _ _
      rw [hs]
      simp at hm
      omega
  · rw [Nat.min_eq_right hd]
    have h1 := Nat.lt_log2_self (n := n)
    have h2 : 2 ^ (n.log2 + 2) = 2 * 2 ^ (n.log2 + 1) := by rw [show n.log2 + 2 = n.log2 + 1 + 1 from rfl, Nat.pow_succ]; omega
    have h3 : 2 ^ (n.log2 + 2) ≤ 2 ^ d := Nat.pow_le_pow_right (by omega) hd
    have hlow : n / 2 ^ (n.log2 + 2) = 0 := Nat.div_eq_of_lt (by omega)
    have hrest : n % 2 ^ (n.log2 + 2) = n := Nat.mod_eq_of_lt (by omega)
    rw [hlow, hrest]
    have hm : (decide (2 ^ (n.log2 + 2) < 2 * n) || 2 ^ (n.log2 + 2) == 2 * n && 0 % 2 == 1) = false := by simp; omega
    rw [hm]
    simp
    omega

theorem cut_mono (neg neg' : Bool) {n d n' d' : Nat} (h : n * 2 ^ d' ≤ n' * 2 ^ d) : Toward.even.cut neg n d ≤ Toward.even.cut neg' n' d' := by
  obtain ⟨c, e, h1, h2, h3, h4⟩ := cut_spec neg n d
  obtain ⟨c', e', h1', h2', h3', h4'⟩ := cut_spec neg' n' d'
  rw [e, e']
  rcases Nat.lt_or_ge c' c with hlt | hge
  · exfalso
    have hP : 0 < 2 ^ d := Nat.two_pow_pos d
    have hP' : 0 < 2 ^ d' := Nat.two_pow_pos d'
    generalize 2 ^ d = P at *
    generalize 2 ^ d' = P' at *
    have a1 := Nat.mul_le_mul_right P' h1
    have a2 := Nat.mul_le_mul_right P h2'
    rw [Nat.add_mul, Nat.mul_assoc, Nat.mul_assoc 2 n P'] at a1
    rw [Nat.add_mul, Nat.mul_assoc, Nat.mul_assoc 2 (c' * P') P] at a2
    have e1 : c' * P' * P = c' * (P * P') := by rw [Nat.mul_assoc, Nat.mul_comm P' P]
    have e2 : c * P * P' = c * (P * P') := Nat.mul_assoc _ _ _
    have e3 : P' * P = P * P' := Nat.mul_comm _ _
    rw [e2] at a1
    rw [e1, e3] at a2
    have hX : 0 < P * P' := Nat.mul_pos hP hP'
    have h5 : (c' + 1) * (P * P') ≤ c * (P * P') := Nat.mul_le_mul_right _ hlt
    rw [Nat.succ_mul] at h5
    have hc : c = c' + 1 := by
      rcases Nat.lt_or_ge (c' + 1) c with h6 | h6
      · have h7 : (c' + 2) * (P * P') ≤ c * (P * P') := Nat.mul_le_mul_right _ h6
        rw [Nat.add_mul] at h7
        omega
      · omega
    subst hc
    have hs : (c' + 1) * (P * P') = c' * (P * P') + P * P' := Nat.succ_mul _ _
    have l1 : 2 * ((c' + 1) * P) * P' = 2 * ((c' + 1) * (P * P')) := by rw [Nat.mul_assoc 2, Nat.mul_assoc (c' + 1)]
    have l2 : (2 * n + P) * P' = 2 * (n * P') + P * P' := by rw [Nat.add_mul, Nat.mul_assoc 2 n P']
    have l3 : 2 * n' * P = 2 * (n' * P) := Nat.mul_assoc _ _ _
    have l4 : (2 * (c' * P') + P') * P = 2 * (c' * (P * P')) + P * P' := by rw [Nat.add_mul, Nat.mul_assoc 2 (c' * P') P, e1, e3]
    have t1 : 2 * ((c' + 1) * P) * P' = (2 * n + P) * P' := by omega
    have t2 : 2 * n' * P = (2 * (c' * P') + P') * P := by omega
    have u1 := h4 (Nat.eq_of_mul_eq_mul_right hP' t1)
    have u2 := h3' (Nat.eq_of_mul_eq_mul_right hP t2)
    omega
  · exact hge

theorem cut_zero (neg : Bool) (n : Nat) : Toward.even.cut neg n 0 = n := by
  obtain ⟨c, e, h1, h2, _, _⟩ := cut_spec neg n 0
  rw [e]
  simp at h1 h2
  omega

/-- the sum of two exponents of two, cancelled -/
theorem scale_le {x y p p' q u u' d d' : Nat} (h : x * 2 ^ p ≤ y * 2 ^ p') (h1 : p + d = q + u) (h2 : p' + d' = q + u') : x * 2 ^ u * 2 ^ d' ≤ y * 2 ^ u' * 2 ^ d := by
  have h3 := Nat.mul_le_mul_right (2 ^ d * 2 ^ d') h
  have e1 : x * 2 ^ p * (2 ^ d * 2 ^ d') = (x * 2 ^ u * 2 ^ d') * 2 ^ q := by
    rw [Nat.mul_assoc x, ← Nat.mul_assoc (2 ^ p), ← Nat.pow_add, h1, Nat.pow_add, Nat.mul_assoc, Nat.mul_assoc, Nat.mul_comm (2 ^ q), ← Nat.mul_assoc, Nat.mul_assoc x]
    rw [Nat.mul_assoc, Nat.mul_assoc]
  have e2 : y * 2 ^ p' * (2 ^ d * 2 ^ d') = (y * 2 ^ u' * 2 ^ d) * 2 ^ q := by
    rw [Nat.mul_comm (2 ^ d), Nat.mul_assoc y, ← Nat.mul_assoc (2 ^ p'), ← Nat.pow_add, h2, Nat.pow_add, Nat.mul_assoc, Nat.mul_assoc, Nat.mul_comm (2 ^ q), ← Nat.mul_assoc, Nat.mul_assoc y]
    rw [Nat.mul_assoc, Nat.mul_assoc]
  rw [e1, e2] at h3
  exact Nat.le_of_mul_le_mul_right h3 (Nat.two_pow_pos q)

theorem nearest_form (k : FloatKind) (neg : Bool) (mag : Nat) (place : Int) (hm : mag ≠ 0) (l : Int) (hl : max (place + (mag.log2 : Int) - k.format.fractionBits) k.format.leastPlace = l) :
    rung k (k.format.nearest neg mag place) = min ((l - k.format.leastPlace).toNat * k.format.binade + Toward.even.cut neg (mag * 2 ^ (place - l).toNat) (l - place).toNat) k.format.infRung := by
  unfold Format.nearest
  rw [if_neg hm]
  dsimp only
  rw [hl]
  unfold rung
  rw [word_rung_mod _ _ (Nat.min_le_right ..), Nat.shiftLeft_eq]

theorem kept_le (k : FloatKind) (neg : Bool) (mag : Nat) (place l : Int) (hl : max (place + (mag.log2 : Int) - k.format.fractionBits) k.format.leastPlace = l) :
    Toward.even.cut neg (mag * 2 ^ (place - l).toNat) (l - place).toNat ≤ 2 * k.format.binade := by
  have h1 : Toward.even.cut neg (mag * 2 ^ (place - l).toNat) (l - place).toNat ≤ 2 ^ (k.format.fractionBits + 1) := by
    refine cut_le neg _ _ _ ?_
    have hlt : mag < 2 ^ (mag.log2 + 1) := Nat.lt_log2_self
    calc mag * 2 ^ (place - l).toNat < 2 ^ (mag.log2 + 1) * 2 ^ (place - l).toNat := Nat.mul_lt_mul_of_pos_right hlt (Nat.two_pow_pos _)
      _ = 2 ^ (mag.log2 + 1 + (place - l).toNat) := (Nat.pow_add ..).symm
      _ ≤ 2 ^ (k.format.fractionBits + 1 + (l - place).toNat) := Nat.pow_le_pow_right (by omega) (by omega)
  have hbin : 2 ^ (k.format.fractionBits + 1) = 2 * k.format.binade := by unfold Format.binade; rw [Nat.pow_succ]; omega
  omega

theorem kept_ge (k : FloatKind) (neg : Bool) (mag : Nat) (place l : Int) (hm : mag ≠ 0) (hl : place + (mag.log2 : Int) - k.format.fractionBits = l) :
    k.format.binade ≤ Toward.even.cut neg (mag * 2 ^ (place - l).toNat) (l - place).toNat := by
  have h1 : 2 ^ mag.log2 ≤ mag := Nat.log2_self_le hm
  have h2 := cut_mono neg neg (n := 2 ^ k.format.fractionBits) (d := 0) (n' := mag * 2 ^ (place - l).toNat) (d' := (l - place).toNat) (by
    rw [Nat.pow_zero, Nat.mul_one, ← Nat.pow_add]
    calc 2 ^ (k.format.fractionBits + (l - place).toNat) ≤ 2 ^ (mag.log2 + (place - l).toNat) := Nat.pow_le_pow_right (by omega) (by omega)
      _ = 2 ^ mag.log2 * 2 ^ (place - l).toNat := Nat.pow_add ..
      _ ≤ mag * 2 ^ (place - l).toNat := Nat.mul_le_mul_right _ h1)
  rw [cut_zero] at h2
  exact h2

/-- ROUNDING IS MONOTONE in the exact number's size. -/
theorem nearest_mono (k : FloatKind) (neg neg' : Bool) {mag mag' : Nat} {place place' b : Int} (hb : b ≤ place) (hb' : b ≤ place') (hbl : b ≤ k.format.leastPlace)
    (h : mag * 2 ^ (place - b).toNat ≤ mag' * 2 ^ (place' - b).toNat) : rung k (k.format.nearest neg mag place) ≤ rung k (k.format.nearest neg' mag' place') := by
  by_cases hm : mag = 0
  · subst hm
    have : rung k (k.format.nearest neg 0 place) = 0 := by
      have e : k.format.nearest neg 0 place = k.format.word neg 0 := rfl
      rw [e]; unfold rung; rw [word_rung_mod _ _ (Nat.zero_le _)]
    omega
  · have hm' : mag' ≠ 0 := by
      intro e
      subst e
      rw [Nat.zero_mul] at h
      have := Nat.mul_pos (Nat.pos_of_ne_zero hm) (Nat.two_pow_pos (place - b).toNat)
      omega
    have hlog : mag.log2 + (place - b).toNat ≤ mag'.log2 + (place' - b).toNat := by
      rw [← log2_shift mag _ hm, ← log2_shift mag' _ hm', Nat.shiftLeft_eq, Nat.shiftLeft_eq]
      have h0 : mag * 2 ^ (place - b).toNat ≠ 0 := Nat.mul_ne_zero hm (Nat.pos_iff_ne_zero.1 (Nat.two_pow_pos _))
      have h0' : mag' * 2 ^ (place' - b).toNat ≠ 0 := Nat.mul_ne_zero hm' (Nat.pos_iff_ne_zero.1 (Nat.two_pow_pos _))
      exact (Nat.le_log2 h0').2 (Nat.le_trans (Nat.log2_self_le h0) h)
    obtain ⟨l, hl⟩ : ∃ l, max (place + (mag.log2 : Int) - k.format.fractionBits) k.format.leastPlace = l := ⟨_, rfl⟩
    obtain ⟨l', hl'⟩ : ∃ l', max (place' + (mag'.log2 : Int) - k.format.fractionBits) k.format.leastPlace = l' := ⟨_, rfl⟩
    rw [nearest_form k neg mag place hm l hl, nearest_form k neg' mag' place' hm' l' hl']
    have hll : l ≤ l' := by omega
    have hcore : (l - k.format.leastPlace).toNat * k.format.binade + Toward.even.cut neg (mag * 2 ^ (place - l).toNat) (l - place).toNat ≤ (l' - k.format.leastPlace).toNat * k.format.binade + Toward.even.cut neg' (mag' * 2 ^ (place' - l').toNat) (l' - place').toNat := by
      rcases Int.lt_or_eq_of_le hll with hlt | heq
      · have h1 := kept_le k neg mag place l hl
        have h2 := kept_ge k neg' mag' place' l' hm' (by omega)
        have h3 : (l' - k.format.leastPlace).toNat = (l' - k.format.leastPlace).toNat - 1 + 1 := by omega
        have h4 : (l - k.format.leastPlace).toNat ≤ (l' - k.format.leastPlace).toNat - 1 := by omega
        have h5 := Nat.mul_le_mul_right k.format.binade h4
        rw [h3, Nat.succ_mul]
        omega
      · subst heq
        have h1 := cut_mono neg neg' (scale_le (q := (l - b).toNat) (d := (l - place).toNat) (d' := (l - place').toNat) (u := (place - l).toNat) (u' := (place' - l).toNat) h (by omega) (by omega))
        omega
    omega

theorem width_two (k : FloatKind) : 2 ^ k.format.width = 2 * k.format.signWeight := by
  unfold Format.width Format.signWeight
  rw [Nat.add_assoc, Nat.add_comm 1, Nat.pow_succ, Nat.mul_comm]
theorem sw_pos (k : FloatKind) : 0 < k.format.signWeight := Nat.two_pow_pos _
/-- a word is its sign and its rung -/
theorem word_of (k : FloatKind) {b : Nat} (hb : b < 2 ^ k.format.width) : k.format.word (sgn k b) (rung k b) = b := by
  rw [width_two] at hb
  have hs := sw_pos k
  have hdm := Nat.div_add_mod b k.format.signWeight
  have hq : b / k.format.signWeight < 2 := (Nat.div_lt_iff_lt_mul hs).2 hb
  unfold sgn rung Format.word
  generalize b / k.format.signWeight = q at *
  obtain rfl | rfl : q = 0 ∨ q = 1 := by omega
  · simp at hdm ⊢; omega
  · simp at hdm ⊢; omega

/-- rounding leaves a finite rung's own number as it is -/
theorem nearest_rung (k : FloatKind) (neg : Bool) {r : Nat} (h : r < k.format.infRung) {m e : Nat} (hz : zv k r = m * 2 ^ e) (hme : (r < k.format.binade ∧ m = r ∧ e = 0) ∨ (¬ r < k.format.binade ∧ m = k.format.binade + r % k.format.binade ∧ e = r / k.format.binade - 1)) :
    rung k (k.format.nearest neg m (k.format.leastPlace + e)) = r := by
  have hB : k.format.binade = 2 ^ k.format.fractionBits := rfl
  have hp := bin_pos k
  rcases hme with ⟨h1, rfl, rfl⟩ | ⟨h1, rfl, rfl⟩
  · by_cases h0 : m = 0
    · subst h0
      have e : k.format.nearest neg 0 (k.format.leastPlace + (0 : Nat)) = k.format.word neg 0 := rfl
      rw [e]; unfold rung; rw [word_rung_mod _ _ (Nat.zero_le _)]
    · have hl : m.log2 < k.format.fractionBits := (Nat.log2_lt h0).2 (by rw [← hB]; exact h1)
      rw [nearest_form k neg m _ h0 k.format.leastPlace (by omega)]
      have e1 : (k.format.leastPlace + ((0 : Nat) : Int) - k.format.leastPlace).toNat = 0 := by omega
      have e2 : (k.format.leastPlace - (k.format.leastPlace + ((0 : Nat) : Int))).toNat = 0 := by omega
      have e3 : (k.format.leastPlace - k.format.leastPlace).toNat = 0 := by omega
      rw [e1, e2, e3, cut_zero]
      simp
      omega
  · have hmod := Nat.mod_lt r hp
    have hdm := Nat.div_add_mod r k.format.binade
    have hq : 1 ≤ r / k.format.binade := (Nat.one_le_div_iff hp).2 (by omega)
    generalize r / k.format.binade = q at *
    generalize r % k.format.binade = a at *
    have hne : k.format.binade + a ≠ 0 := by omega
    have hl : (k.format.binade + a).log2 = k.format.fractionBits := by
      refine Nat.le_antisymm ?_ ?_
      · refine Nat.lt_succ_iff.1 ((Nat.log2_lt hne).2 ?_)
        have : 2 ^ k.format.fractionBits.succ = 2 * 2 ^ k.format.fractionBits := by rw [Nat.pow_succ]; omega
        omega
      · exact (Nat.le_log2 hne).2 (by omega)
    rw [nearest_form k neg _ _ hne (k.format.leastPlace + ((q - 1 : Nat) : Int)) (by rw [hl]; omega)]
    have e1 : (k.format.leastPlace + ((q - 1 : Nat) : Int) - (k.format.leastPlace + ((q - 1 : Nat) : Int))).toNat = 0 := by omega
    have e3 : (k.format.leastPlace + ((q - 1 : Nat) : Int) - k.format.leastPlace).toNat = q - 1 := by omega
    rw [e1, e3, cut_zero, Nat.pow_zero, Nat.mul_one]
    have h5 : k.format.binade * q = (q - 1) * k.format.binade + k.format.binade := by
      rw [← Nat.succ_mul, Nat.mul_comm]; congr 1; omega
    omega
end Fl
end Go.Proofs.Ytipdgnhbmfmhnaa
