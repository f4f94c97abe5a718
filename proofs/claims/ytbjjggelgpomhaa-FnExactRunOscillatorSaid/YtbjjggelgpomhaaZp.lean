/- Joined: Fm Fi Se Fe Fw Ea Ec Ed Ee Ef Eg Eh Va En Eo Lw Vb Vq Fj Vw Vx Jo Il Lx Ep Ly Ja Jb Jh Jp Jq Jr Js Ua Vy Vz -/
import Derived.Test.YtbjjggelgpomhaaFx
import Derived.Test.YtbjjggelgpomhaaWb
import Derived.Test.YtbjjggelgpomhaaSm
import Derived.Lib.Hide
import Derived.Test.YtbjjggelgpomhaaLq
import Derived.Test.YtbjjggelgpomhaaSc
import Derived.Test.YtbjjggelgpomhaaGa
import Derived.Test.YtbjjggelgpomhaaFk
import Derived.Test.YtbjjggelgpomhaaDm
import Derived.Test.YtbjjggelgpomhaaRz
import Derived.Test.YtbjjggelgpomhaaDr
import Derived.Test.YtbjjggelgpomhaaDs
import Derived.Test.YtbjjggelgpomhaaDi
import Derived.Deep.MidRow
import Derived.Test.YtbjjggelgpomhaaSr
import Derived.Test.YtbjjggelgpomhaaSg
import Derived.Test.YtbjjggelgpomhaaLv
/- Rounding is monotone, and leaves what the format has. -/
set_option linter.unusedVariables false
set_option linter.unusedSimpArgs false
namespace Go.Proofs.Ytbjjggelgpomhaa
namespace Fl
open Ieee

theorem toNat_le_one (b : Bool) : b.toNat ≤ 1 := by cases b <;> decide

/-- what the cut to the nearest whole number says -/
theorem cut_spec (neg : Bool) (n d : Nat) : ∃ c, Toward.even.cut neg n d = c ∧ 2 * (c * 2 ^ d) ≤ 2 * n + 2 ^ d ∧ 2 * n ≤ 2 * (c * 2 ^ d) + 2 ^ d ∧
    (2 * n = 2 * (c * 2 ^ d) + 2 ^ d → c % 2 = 0) ∧ (2 * (c * 2 ^ d) = 2 * n + 2 ^ d → c % 2 = 0) := by
  refine ⟨_, rfl, ?_⟩
  unfold Toward.cut
  dsimp only
  rw [Nat.one_shiftLeft]
  rcases Nat.le_total d (n.log2 + 2) with hd | hd
  · rw [Nat.min_eq_left hd]
    have hg : 0 < 2 ^ d := Nat.two_pow_pos d
    generalize 2 ^ d = g at *
    have hdiv := Nat.div_add_mod n g
    have hmod := Nat.mod_lt n hg
    generalize n / g = low at *
    generalize n % g = rest at *
    have hc : g * low = low * g := Nat.mul_comm _ _
    cases hm : (decide (g < 2 * rest) || g == 2 * rest && low % 2 == 1)
    · simp only [Bool.toNat_false, Nat.add_zero]
      simp at hm
      omega
    · simp only [Bool.toNat_true]
      have hs : (low + 1) * g = low * g + g := Nat.succ_mul _ _
      rw [hs]
      simp at hm
      omega
  · rw [Nat.min_eq_right hd]
    have h1 := Nat.lt_log2_self (n := n)
    have h2 : 2 ^ (n.log2 + 2) = 2 * 2 ^ (n.log2 + 1) := by rw [show n.log2 + 2 = n.log2 + 1 + 1 from rfl, Nat.pow_succ]; omega
    have h3 : 2 ^ (n.log2 + 2) ≤ 2 ^ d := Nat.pow_le_pow_right (by omega) hd
    have hlow : n / 2 ^ (n.log2 + 2) = 0 := Nat.div_eq_of_lt (by omega)
    have hrest : n % 2 ^ (n.log2 + 2) = n := Nat.mod_eq_of_lt (by omega)
    rw [hlow, hrest]
    have hm : (decide (2 ^ (n.log2 + 2) < 2 * n) || 2 ^ (n.log2 + 2) == 2 * n && 0 % 2 == 1) = false := by simp; omega
    rw [hm]
    simp
    omega

theorem cut_mono (neg neg' : Bool) {n d n' d' : Nat} (h : n * 2 ^ d' ≤ n' * 2 ^ d) : Toward.even.cut neg n d ≤ Toward.even.cut neg' n' d' := by
  obtain ⟨c, e, h1, h2, h3, h4⟩ := cut_spec neg n d
  obtain ⟨c', e', h1', h2', h3', h4'⟩ := cut_spec neg' n' d'
  rw [e, e']
  rcases Nat.lt_or_ge c' c with hlt | hge
  · exfalso
    have hP : 0 < 2 ^ d := Nat.two_pow_pos d
    have hP' : 0 < 2 ^ d' := Nat.two_pow_pos d'
    generalize 2 ^ d = P at *
    generalize 2 ^ d' = P' at *
    have a1 := Nat.mul_le_mul_right P' h1
    have a2 := Nat.mul_le_mul_right P h2'
    rw [Nat.add_mul, Nat.mul_assoc, Nat.mul_assoc 2 n P'] at a1
    rw [Nat.add_mul, Nat.mul_assoc, Nat.mul_assoc 2 (c' * P') P] at a2
    have e1 : c' * P' * P = c' * (P * P') := by rw [Nat.mul_assoc, Nat.mul_comm P' P]
    have e2 : c * P * P' = c * (P * P') := Nat.mul_assoc _ _ _
    have e3 : P' * P = P * P' := Nat.mul_comm _ _
    rw [e2] at a1
    rw [e1, e3] at a2
    have hX : 0 < P * P' := Nat.mul_pos hP hP'
    have h5 : (c' + 1) * (P * P') ≤ c * (P * P') := Nat.mul_le_mul_right _ hlt
    rw [Nat.succ_mul] at h5
    have hc : c = c' + 1 := by
      rcases Nat.lt_or_ge (c' + 1) c with h6 | h6
      · have h7 : (c' + 2) * (P * P') ≤ c * (P * P') := Nat.mul_le_mul_right _ h6
        rw [Nat.add_mul] at h7
        omega
      · omega
    subst hc
    have hs : (c' + 1) * (P * P') = c' * (P * P') + P * P' := Nat.succ_mul _ _
    have l1 : 2 * ((c' + 1) * P) * P' = 2 * ((c' + 1) * (P * P')) := by rw [Nat.mul_assoc 2, Nat.mul_assoc (c' + 1)]
    have l2 : (2 * n + P) * P' = 2 * (n * P') + P * P' := by rw [Nat.add_mul, Nat.mul_assoc 2 n P']
    have l3 : 2 * n' * P = 2 * (n' * P) := Nat.mul_assoc _ _ _
    have l4 : (2 * (c' * P') + P') * P = 2 * (c' * (P * P')) + P * P' := by rw [Nat.add_mul, Nat.mul_assoc 2 (c' * P') P, e1, e3]
    have t1 : 2 * ((c' + 1) * P) * P' = (2 * n + P) * P' := by omega
    have t2 : 2 * n' * P = (2 * (c' * P') + P') * P := by omega
    have u1 := h4 (Nat.eq_of_mul_eq_mul_right hP' t1)
    have u2 := h3' (Nat.eq_of_mul_eq_mul_right hP t2)
    omega
  · exact hge

theorem cut_zero (neg : Bool) (n : Nat) : Toward.even.cut neg n 0 = n := by
  obtain ⟨c, e, h1, h2, _, _⟩ := cut_spec neg n 0
  rw [e]
  simp at h1 h2
  omega

/-- the sum of two exponents of two, cancelled -/
theorem scale_le {x y p p' q u u' d d' : Nat} (h : x * 2 ^ p ≤ y * 2 ^ p') (h1 : p + d = q + u) (h2 : p' + d' = q + u') : x * 2 ^ u * 2 ^ d' ≤ y * 2 ^ u' * 2 ^ d := by
  have h3 := Nat.mul_le_mul_right (2 ^ d * 2 ^ d') h
  have e1 : x * 2 ^ p * (2 ^ d * 2 ^ d') = (x * 2 ^ u * 2 ^ d') * 2 ^ q := by
    rw [Nat.mul_assoc x, ← Nat.mul_assoc (2 ^ p), ← Nat.pow_add, h1, Nat.pow_add, Nat.mul_assoc, Nat.mul_assoc, Nat.mul_comm (2 ^ q), ← Nat.mul_assoc, Nat.mul_assoc x]
    rw [Nat.mul_assoc, Nat.mul_assoc]
  have e2 : y * 2 ^ p' * (2 ^ d * 2 ^ d') = (y * 2 ^ u' * 2 ^ d) * 2 ^ q := by
    rw [Nat.mul_comm (2 ^ d), Nat.mul_assoc y, ← Nat.mul_assoc (2 ^ p'), ← Nat.pow_add, h2, Nat.pow_add, Nat.mul_assoc, Nat.mul_assoc, Nat.mul_comm (2 ^ q), ← Nat.mul_assoc, Nat.mul_assoc y]
    rw [Nat.mul_assoc, Nat.mul_assoc]
  rw [e1, e2] at h3
  exact Nat.le_of_mul_le_mul_right h3 (Nat.two_pow_pos q)

theorem nearest_form (k : FloatKind) (neg : Bool) (mag : Nat) (place : Int) (hm : mag ≠ 0) (l : Int) (hl : max (place + (mag.log2 : Int) - k.format.fractionBits) k.format.leastPlace = l) :
    rung k (k.format.nearest neg mag place) = min ((l - k.format.leastPlace).toNat * k.format.binade + Toward.even.cut neg (mag * 2 ^ (place - l).toNat) (l - place).toNat) k.format.infRung := by
  unfold Format.nearest
  rw [if_neg hm]
  dsimp only
  rw [hl]
  unfold rung
  rw [word_rung_mod _ _ (Nat.min_le_right ..), Nat.shiftLeft_eq]

theorem kept_le (k : FloatKind) (neg : Bool) (mag : Nat) (place l : Int) (hl : max (place + (mag.log2 : Int) - k.format.fractionBits) k.format.leastPlace = l) :
    Toward.even.cut neg (mag * 2 ^ (place - l).toNat) (l - place).toNat ≤ 2 * k.format.binade := by
  have h1 : Toward.even.cut neg (mag * 2 ^ (place - l).toNat) (l - place).toNat ≤ 2 ^ (k.format.fractionBits + 1) := by
    refine cut_le neg _ _ _ ?_
    have hlt : mag < 2 ^ (mag.log2 + 1) := Nat.lt_log2_self
    calc mag * 2 ^ (place - l).toNat < 2 ^ (mag.log2 + 1) * 2 ^ (place - l).toNat := Nat.mul_lt_mul_of_pos_right hlt (Nat.two_pow_pos _)
      _ = 2 ^ (mag.log2 + 1 + (place - l).toNat) := (Nat.pow_add ..).symm
      _ ≤ 2 ^ (k.format.fractionBits + 1 + (l - place).toNat) := Nat.pow_le_pow_right (by omega) (by omega)
  have hbin : 2 ^ (k.format.fractionBits + 1) = 2 * k.format.binade := by unfold Format.binade; rw [Nat.pow_succ]; omega
  omega

theorem kept_ge (k : FloatKind) (neg : Bool) (mag : Nat) (place l : Int) (hm : mag ≠ 0) (hl : place + (mag.log2 : Int) - k.format.fractionBits = l) :
    k.format.binade ≤ Toward.even.cut neg (mag * 2 ^ (place - l).toNat) (l - place).toNat := by
  have h1 : 2 ^ mag.log2 ≤ mag := Nat.log2_self_le hm
  have h2 := cut_mono neg neg (n := 2 ^ k.format.fractionBits) (d := 0) (n' := mag * 2 ^ (place - l).toNat) (d' := (l - place).toNat) (by
    rw [Nat.pow_zero, Nat.mul_one, ← Nat.pow_add]
    calc 2 ^ (k.format.fractionBits + (l - place).toNat) ≤ 2 ^ (mag.log2 + (place - l).toNat) := Nat.pow_le_pow_right (by omega) (by omega)
      _ = 2 ^ mag.log2 * 2 ^ (place - l).toNat := Nat.pow_add ..
      _ ≤ mag * 2 ^ (place - l).toNat := Nat.mul_le_mul_right _ h1)
  rw [cut_zero] at h2
  exact h2

/-- ROUNDING IS MONOTONE in the exact number's size. -/
theorem nearest_mono (k : FloatKind) (neg neg' : Bool) {mag mag' : Nat} {place place' b : Int} (hb : b ≤ place) (hb' : b ≤ place') (hbl : b ≤ k.format.leastPlace)
    (h : mag * 2 ^ (place - b).toNat ≤ mag' * 2 ^ (place' - b).toNat) : rung k (k.format.nearest neg mag place) ≤ rung k (k.format.nearest neg' mag' place') := by
  by_cases hm : mag = 0
  · subst hm
    have : rung k (k.format.nearest neg 0 place) = 0 := by
      have e : k.format.nearest neg 0 place = k.format.word neg 0 := rfl
      rw [e]; unfold rung; rw [word_rung_mod _ _ (Nat.zero_le _)]
    omega
  · have hm' : mag' ≠ 0 := by
      intro e
      subst e
      rw [Nat.zero_mul] at h
      have := Nat.mul_pos (Nat.pos_of_ne_zero hm) (Nat.two_pow_pos (place - b).toNat)
      omega
    have hlog : mag.log2 + (place - b).toNat ≤ mag'.log2 + (place' - b).toNat := by
      rw [← log2_shift mag _ hm, ← log2_shift mag' _ hm', Nat.shiftLeft_eq, Nat.shiftLeft_eq]
      have h0 : mag * 2 ^ (place - b).toNat ≠ 0 := Nat.mul_ne_zero hm (Nat.pos_iff_ne_zero.1 (Nat.two_pow_pos _))
      have h0' : mag' * 2 ^ (place' - b).toNat ≠ 0 := Nat.mul_ne_zero hm' (Nat.pos_iff_ne_zero.1 (Nat.two_pow_pos _))
      exact (Nat.le_log2 h0').2 (Nat.le_trans (Nat.log2_self_le h0) h)
    obtain ⟨l, hl⟩ : ∃ l, max (place + (mag.log2 : Int) - k.format.fractionBits) k.format.leastPlace = l := ⟨_, rfl⟩
    obtain ⟨l', hl'⟩ : ∃ l', max (place' + (mag'.log2 : Int) - k.format.fractionBits) k.format.leastPlace = l' := ⟨_, rfl⟩
    rw [nearest_form k neg mag place hm l hl, nearest_form k neg' mag' place' hm' l' hl']
    have hll : l ≤ l' := by omega
    have hcore : (l - k.format.leastPlace).toNat * k.format.binade + Toward.even.cut neg (mag * 2 ^ (place - l).toNat) (l - place).toNat ≤ (l' - k.format.leastPlace).toNat * k.format.binade + Toward.even.cut neg' (mag' * 2 ^ (place' - l').toNat) (l' - place').toNat := by
      rcases Int.lt_or_eq_of_le hll with hlt | heq
      · have h1 := kept_le k neg mag place l hl
        have h2 := kept_ge k neg' mag' place' l' hm' (by omega)
        have h3 : (l' - k.format.leastPlace).toNat = (l' - k.format.leastPlace).toNat - 1 + 1 := by omega
        have h4 : (l - k.format.leastPlace).toNat ≤ (l' - k.format.leastPlace).toNat - 1 := by omega
        have h5 := Nat.mul_le_mul_right k.format.binade h4
        rw [h3, Nat.succ_mul]
        omega
      · subst heq
        have h1 := cut_mono neg neg' (scale_le (q := (l - b).toNat) (d := (l - place).toNat) (d' := (l - place').toNat) (u := (place - l).toNat) (u' := (place' - l).toNat) h (by omega) (by omega))
        omega
    omega

theorem width_two (k : FloatKind) : 2 ^ k.format.width = 2 * k.format.signWeight := by
  unfold Format.width Format.signWeight
  rw [Nat.add_assoc, Nat.add_comm 1, Nat.pow_succ, Nat.mul_comm]
theorem sw_pos (k : FloatKind) : 0 < k.format.signWeight := Nat.two_pow_pos _
/-- a word is its sign and its rung -/
theorem word_of (k : FloatKind) {b : Nat} (hb : b < 2 ^ k.format.width) : k.format.word (sgn k b) (rung k b) = b := by
  rw [width_two] at hb
  have hs := sw_pos k
  have hdm := Nat.div_add_mod b k.format.signWeight
  have hq : b / k.format.signWeight < 2 := (Nat.div_lt_iff_lt_mul hs).2 hb
  unfold sgn rung Format.word
  generalize b / k.format.signWeight = q at *
  obtain rfl | rfl : q = 0 ∨ q = 1 := by omega
  · simp at hdm ⊢; omega
  · simp at hdm ⊢; omega

/-- rounding leaves a finite rung's own number as it is -/
theorem nearest_rung (k : FloatKind) (neg : Bool) {r : Nat} (h : r < k.format.infRung) {m e : Nat} (hz : zv k r = m * 2 ^ e) (hme : (r < k.format.binade ∧ m = r ∧ e = 0) ∨ (¬ r < k.format.binade ∧ m = k.format.binade + r % k.format.binade ∧ e = r / k.format.binade - 1)) :
    rung k (k.format.nearest neg m (k.format.leastPlace + e)) = r := by
  have hB : k.format.binade = 2 ^ k.format.fractionBits := rfl
  have hp := bin_pos k
  rcases hme with ⟨h1, rfl, rfl⟩ | ⟨h1, rfl, rfl⟩
  · by_cases h0 : m = 0
    · subst h0
      have e : k.format.nearest neg 0 (k.format.leastPlace + (0 : Nat)) = k.format.word neg 0 := rfl
      rw [e]; unfold rung; rw [word_rung_mod _ _ (Nat.zero_le _)]
    · have hl : m.log2 < k.format.fractionBits := (Nat.log2_lt h0).2 (by rw [← hB]; exact h1)
      rw [nearest_form k neg m _ h0 k.format.leastPlace (by omega)]
      have e1 : (k.format.leastPlace + ((0 : Nat) : Int) - k.format.leastPlace).toNat = 0 := by omega
      have e2 : (k.format.leastPlace - (k.format.leastPlace + ((0 : Nat) : Int))).toNat = 0 := by omega
      have e3 : (k.format.leastPlace - k.format.leastPlace).toNat = 0 := by omega
      rw [e1, e2, e3, cut_zero]
      simp
      omega
  · have hmod := Nat.mod_lt r hp
    have hdm := Nat.div_add_mod r k.format.binade
    have hq : 1 ≤ r / k.format.binade := (Nat.one_le_div_iff hp).2 (by omega)
    generalize r / k.format.binade = q at *
    generalize r % k.format.binade = a at *
    have hne : k.format.binade + a ≠ 0 := by omega
    have hl : (k.format.binade + a).log2 = k.format.fractionBits := by
      refine Nat.le_antisymm ?_ ?_
      · refine Nat.lt_succ_iff.1 ((Nat.log2_lt hne).2 ?_)
        have : 2 ^ k.format.fractionBits.succ = 2 * 2 ^ k.format.fractionBits := by rw [Nat.pow_succ]; omega
        omega
      · exact (Nat.le_log2 hne).2 (by omega)
    rw [nearest_form k neg _ _ hne (k.format.leastPlace + ((q - 1 : Nat) : Int)) (by rw [hl]; omega)]
    have e1 : (k.format.leastPlace + ((q - 1 : Nat) : Int) - (k.format.leastPlace + ((q - 1 : Nat) : Int))).toNat = 0 := by omega
    have e3 : (k.format.leastPlace + ((q - 1 : Nat) : Int) - k.format.leastPlace).toNat = q - 1 := by omega
    rw [e1, e3, cut_zero, Nat.pow_zero, Nat.mul_one]
    have h5 : k.format.binade * q = (q - 1) * k.format.binade + k.format.binade := by
      rw [← Nat.succ_mul, Nat.mul_comm]; congr 1; omega
    omega
end Fl
end Go.Proofs.Ytbjjggelgpomhaa

/- Sizes of sums, products and quotients of floats, bounded by those of greater ones. -/
set_option linter.unusedVariables false
set_option linter.unusedSimpArgs false
namespace Go.Proofs.Ytbjjggelgpomhaa
namespace Fl
open Ieee

/-- a finite word -/
def Fin (k : FloatKind) (b : Nat) : Prop := rung k b < k.format.infRung
theorem lp_neg (k : FloatKind) : k.format.leastPlace ≤ 0 := by cases k <;> decide

theorem zv_le (k : FloatKind) {r s : Nat} : zv k r ≤ zv k s ↔ r ≤ s := by
  have := zv_lt k (r := s) (s := r)
  omega

theorem nearest_fin (k : FloatKind) (neg : Bool) (mag : Nat) (place : Int) : rung k (k.format.nearest neg mag place) ≤ k.format.infRung := by
  unfold Format.nearest
  dsimp only
  split
  · unfold rung; rw [word_rung_mod _ _ (Nat.zero_le _)]; exact Nat.zero_le _
  · unfold rung; rw [word_rung_mod _ _ (Nat.min_le_right ..)]; exact Nat.min_le_right ..

/-- THE SIZE OF A PRODUCT -/
theorem mul_size (k : FloatKind) {x y c d : Nat} (hx : Fin k x) (hy : Fin k y) (hc : Fin k c) (hd : Fin k d) (h1 : rung k x ≤ rung k c) (h2 : rung k y ≤ rung k d) :
    ∃ r t, floatBits .mul k x y = some r ∧ floatBits .mul k c d = some t ∧ rung k r ≤ rung k t := by
  obtain ⟨m, e, hm, hz⟩ := read_fin k hx
  obtain ⟨n, f, hn, hz2⟩ := read_fin k hy
  obtain ⟨M, E, hM, hZ⟩ := read_fin k hc
  obtain ⟨N', F, hN, hZ2⟩ := read_fin k hd
  simp only [floatBits, Format.mul, hm, hn, hM, hN, Datum.product, Option.map_some]
  refine ⟨_, _, rfl, rfl, ?_⟩
  refine nearest_mono k _ _ (b := k.format.leastPlace + k.format.leastPlace) (by omega) (by omega) (by have := lp_neg k; omega) ?_
  have e1 : (k.format.leastPlace + (e : Int) + (k.format.leastPlace + (f : Int)) - (k.format.leastPlace + k.format.leastPlace)).toNat = e + f := by omega
  have e2 : (k.format.leastPlace + (E : Int) + (k.format.leastPlace + (F : Int)) - (k.format.leastPlace + k.format.leastPlace)).toNat = E + F := by omega
  rw [e1, e2, Nat.pow_add, Nat.pow_add]
  have g1 : m * n * (2 ^ e * 2 ^ f) = (m * 2 ^ e) * (n * 2 ^ f) := by
    rw [Nat.mul_assoc, Nat.mul_assoc, Nat.mul_left_comm n]
  have g2 : M * N' * (2 ^ E * 2 ^ F) = (M * 2 ^ E) * (N' * 2 ^ F) := by
    rw [Nat.mul_assoc, Nat.mul_assoc, Nat.mul_left_comm N']
  rw [g1, g2, ← hz, ← hz2, ← hZ, ← hZ2]
  exact Nat.mul_le_mul ((zv_le k).2 h1) ((zv_le k).2 h2)

theorem sum_abs (s t : Bool) (a b : Nat) : (sg s a + sg t b).natAbs ≤ a + b := by
  cases s <;> cases t <;> simp [sg] <;> omega

theorem sum_pos (a b : Nat) : (sg false a + sg false b).natAbs = a + b := by simp [sg]; omega
/-- THE SIZE OF A SUM, bounded by that of two numbers without sign -/
theorem add_size (k : FloatKind) {x y c d : Nat} (hx : Fin k x) (hy : Fin k y) (hc : Fin k c) (hd : Fin k d) (sc : sgn k c = false) (sd : sgn k d = false) (h1 : rung k x ≤ rung k c) (h2 : rung k y ≤ rung k d) :
    ∃ r t, floatBits .add k x y = some r ∧ floatBits .add k c d = some t ∧ rung k r ≤ rung k t := by
  obtain ⟨m, e, hm, hz⟩ := read_fin k hx
  obtain ⟨n, f, hn, hz2⟩ := read_fin k hy
  obtain ⟨M, E, hM, hZ⟩ := read_fin k hc
  obtain ⟨N', F, hN, hZ2⟩ := read_fin k hd
  rw [sc] at hM
  rw [sd] at hN
  simp only [floatBits, Format.add, hm, hn, hM, hN, Datum.sum, Option.map_some]
  refine ⟨_, _, rfl, rfl, ?_⟩
  refine nearest_mono k _ _ (b := k.format.leastPlace) (by omega) (by omega) (by omega) ?_
  have e1 : (min (k.format.leastPlace + (e : Int)) (k.format.leastPlace + (f : Int)) - k.format.leastPlace).toNat = min e f := by omega
  have e2 : (min (k.format.leastPlace + (E : Int)) (k.format.leastPlace + (F : Int)) - k.format.leastPlace).toNat = min E F := by omega
  have e3 : (k.format.leastPlace + (e : Int) - min (k.format.leastPlace + (e : Int)) (k.format.leastPlace + (f : Int))).toNat = e - min e f := by omega
  have e4 : (k.format.leastPlace + (f : Int) - min (k.format.leastPlace + (e : Int)) (k.format.leastPlace + (f : Int))).toNat = f - min e f := by omega
  have e5 : (k.format.leastPlace + (E : Int) - min (k.format.leastPlace + (E : Int)) (k.format.leastPlace + (F : Int))).toNat = E - min E F := by omega
  have e6 : (k.format.leastPlace + (F : Int) - min (k.format.leastPlace + (E : Int)) (k.format.leastPlace + (F : Int))).toNat = F - min E F := by omega
  rw [e1, e2, e3, e4, e5, e6]
  have sgd : ∀ (s : Bool) (a u : Nat), signed s a u = sg s (a * 2 ^ u) := by intro s a u; simp only [signed, sg, Nat.shiftLeft_eq]
  rw [sgd, sgd, sgd, sgd]
  have a1 := sum_abs (sgn k x) (sgn k y) (m * 2 ^ (e - min e f)) (n * 2 ^ (f - min e f))
  have a2 : (sg false (M * 2 ^ (E - min E F)) + sg false (N' * 2 ^ (F - min E F))).natAbs = M * 2 ^ (E - min E F) + N' * 2 ^ (F - min E F) := sum_pos _ _
  rw [a2]
  have b1 := Nat.mul_le_mul_right (2 ^ min e f) a1
  rw [Nat.add_mul, Nat.mul_assoc, Nat.mul_assoc, ← Nat.pow_add, ← Nat.pow_add, Nat.sub_add_cancel (Nat.min_le_left ..), Nat.sub_add_cancel (Nat.min_le_right ..), ← hz, ← hz2] at b1
  rw [Nat.add_mul, Nat.mul_assoc, Nat.mul_assoc, ← Nat.pow_add, ← Nat.pow_add, Nat.sub_add_cancel (Nat.min_le_left ..), Nat.sub_add_cancel (Nat.min_le_right ..), ← hZ, ← hZ2]
  have c1 := (zv_le k).2 h1
  have c2 := (zv_le k).2 h2
  omega

theorem rung_form (k : FloatKind) (r : Nat) : ∃ m e : Nat, zv k r = m * 2 ^ e ∧ ((r < k.format.binade ∧ m = r ∧ e = 0) ∨ (¬ r < k.format.binade ∧ m = k.format.binade + r % k.format.binade ∧ e = r / k.format.binade - 1)) ∧ m < 2 ^ (k.format.fractionBits + 1) := by
  have hp := bin_pos k
  have hB : k.format.binade = 2 ^ k.format.fractionBits := rfl
  have h2 : 2 ^ (k.format.fractionBits + 1) = 2 * k.format.binade := by rw [Nat.pow_succ, ← hB]; omega
  unfold zv
  by_cases h : r < k.format.binade
  · exact ⟨r, 0, by rw [if_pos h]; omega, .inl ⟨h, rfl, rfl⟩, by omega⟩
  · exact ⟨_, _, by rw [if_neg h], .inr ⟨h, rfl, rfl⟩, by have := Nat.mod_lt r hp; omega⟩
/-- THE SIZE OF A QUOTIENT: where x is at most t times y, x / y is rounded to at most t. -/
theorem div_size (k : FloatKind) {x y t : Nat} (hx : Fin k x) (hy : Fin k y) (ht : Fin k t) (hy0 : rung k y ≠ 0) (P : Nat) (hP : (P : Int) = -k.format.leastPlace)
    (h : zv k (rung k x) * 2 ^ P ≤ zv k (rung k t) * zv k (rung k y)) :
    ∃ r, floatBits .quo k x y = some r ∧ rung k r ≤ rung k t := by
  obtain ⟨m, e, hm, hz⟩ := read_fin k hx
  obtain ⟨n, f, hn, hz2⟩ := read_fin k hy
  obtain ⟨M, E, hZ, hform, hML⟩ := rung_form k (rung k t)
  have hn0 : n ≠ 0 := by
    intro e0
    subst e0
    rw [Nat.zero_mul] at hz2
    have := (zv_inj k (r := rung k y) (s := 0)).1 (by rw [zv_zero]; exact hz2)
    exact hy0 this
  simp only [floatBits, Format.div, hm, hn, Datum.quotient, if_neg hn0, Option.map_some]
  refine ⟨_, rfl, ?_⟩
  show rung k (k.format.nearest _ _ _) ≤ _
  have hT := nearest_rung k false ht hZ hform
  rw [← hT]
  generalize hmo : k.format.fractionBits + 2 + n.log2 - m.log2 = more
  have hsh : m <<< more = m * 2 ^ more := Nat.shiftLeft_eq ..
  rw [hsh]
  rw [hz, hz2, hZ] at h
  by_cases hm0 : m = 0
  · subst hm0
    have e1 : (2 * (0 * 2 ^ more / n) + (0 * 2 ^ more % n != 0).toNat) = 0 := by simp
    rw [e1]
    refine nearest_mono k _ _ (b := min (k.format.leastPlace + (e : Int) - (k.format.leastPlace + (f : Int)) - (more : Int) - 1) k.format.leastPlace) (by omega) (by omega) (by omega) ?_
    rw [Nat.zero_mul]; exact Nat.zero_le _
  · have hD : 2 ^ (k.format.fractionBits + 2 + n.log2) ≤ m * 2 ^ more := by
      have h1 : 2 ^ m.log2 ≤ m := Nat.log2_self_le hm0
      calc 2 ^ (k.format.fractionBits + 2 + n.log2) ≤ 2 ^ (m.log2 + more) := Nat.pow_le_pow_right (by omega) (by omega)
        _ = 2 ^ m.log2 * 2 ^ more := Nat.pow_add ..
        _ ≤ m * 2 ^ more := Nat.mul_le_mul_right _ h1
    have hn1 : n < 2 ^ (n.log2 + 1) := Nat.lt_log2_self
    -- the unit of the quotient is no greater than that of t
    have hu : e + P ≤ E + f + more + 1 := by
      rcases Nat.lt_or_ge (E + f + more + 1) (e + P) with hlt | hge
      · exfalso
        have h2 := Nat.mul_le_mul_right (2 ^ more) h
        have l1 : m * 2 ^ e * 2 ^ P * 2 ^ more = (m * 2 ^ more) * 2 ^ (e + P) := by
          rw [Nat.pow_add]; ac_rfl
        have l2 : M * 2 ^ E * (n * 2 ^ f) * 2 ^ more = (M * n) * 2 ^ (E + f + more) := by
          rw [Nat.pow_add, Nat.pow_add]; ac_rfl
        rw [l1, l2] at h2
        have h3 : 2 ^ (E + f + more + 2) ≤ 2 ^ (e + P) := Nat.pow_le_pow_right (by omega) (by omega)
        have h4 : 2 ^ (E + f + more + 2) = 4 * 2 ^ (E + f + more) := by rw [Nat.pow_add]; omega
        have h5 : m * 2 ^ more * (4 * 2 ^ (E + f + more)) ≤ m * 2 ^ more * 2 ^ (e + P) := Nat.mul_le_mul_left _ (by omega)
        have h6 : (m * 2 ^ more * 4) * 2 ^ (E + f + more) ≤ (M * n) * 2 ^ (E + f + more) := by rw [Nat.mul_assoc]; omega
        have h7 := Nat.le_of_mul_le_mul_right h6 (Nat.two_pow_pos _)
        have h8 : M * n ≤ 2 ^ (k.format.fractionBits + 1) * 2 ^ (n.log2 + 1) := Nat.mul_le_mul (Nat.le_of_lt hML) (Nat.le_of_lt hn1)
        rw [← Nat.pow_add] at h8
        have h9 : 2 ^ (k.format.fractionBits + 1 + (n.log2 + 1)) = 2 ^ (k.format.fractionBits + 2 + n.log2) := by congr 1; omega
        have hpos := Nat.two_pow_pos (k.format.fractionBits + 2 + n.log2)
        omega
      · exact hge
    obtain ⟨u, hu2⟩ : ∃ u, u + (e + P) = E + f + more + 1 := ⟨E + f + more + 1 - (e + P), by omega⟩
    have hK : 2 * (m * 2 ^ more) ≤ M * 2 ^ u * n := by
      have h2 := Nat.mul_le_mul_right (2 ^ (more + 1)) h
      have l1 : m * 2 ^ e * 2 ^ P * 2 ^ (more + 1) = (2 * (m * 2 ^ more)) * 2 ^ (e + P) := by
        rw [Nat.pow_succ, Nat.pow_add]; ac_rfl
      have l2 : M * 2 ^ E * (n * 2 ^ f) * 2 ^ (more + 1) = (M * 2 ^ u * n) * 2 ^ (e + P) := by
        have l3 : M * 2 ^ E * (n * 2 ^ f) * 2 ^ (more + 1) = (M * n) * 2 ^ (E + f + more + 1) := by
          rw [show E + f + more + 1 = E + f + (more + 1) from rfl, Nat.pow_add 2 (E + f), Nat.pow_add 2 E]; ac_rfl
        have l4 : (M * 2 ^ u * n) * 2 ^ (e + P) = (M * n) * 2 ^ (u + (e + P)) := by
          rw [Nat.pow_add 2 u]; ac_rfl
        rw [l3, l4, hu2]
      rw [l1, l2] at h2
      exact Nat.le_of_mul_le_mul_right h2 (Nat.two_pow_pos _)
    have hq : 2 * (m * 2 ^ more / n) + (m * 2 ^ more % n != 0).toNat ≤ M * 2 ^ u := by
      have hnp := Nat.pos_of_ne_zero hn0
      have hdm := Nat.div_add_mod (m * 2 ^ more) n
      generalize m * 2 ^ more = D at *
      generalize M * 2 ^ u = K at *
      generalize D / n = q at *
      cases hr : (D % n != 0)
      · simp at hr
        rw [hr] at hdm
        have h1 : (2 * q) * n ≤ K * n := by rw [Nat.mul_assoc, Nat.mul_comm q]; omega
        have := Nat.le_of_mul_le_mul_right h1 hnp
        simp only [Bool.toNat_false]; omega
      · simp at hr
        simp only [Bool.toNat_true]
        rcases Nat.lt_or_ge (2 * q) K with h1 | h1
        · omega
        · exfalso
          have h2 := Nat.mul_le_mul_right n h1
          rw [Nat.mul_assoc, Nat.mul_comm q] at h2
          omega
    refine nearest_mono k _ _ (b := min (k.format.leastPlace + (e : Int) - (k.format.leastPlace + (f : Int)) - (more : Int) - 1) k.format.leastPlace) (by omega) (by omega) (by omega) ?_
    generalize hb : min (k.format.leastPlace + (e : Int) - (k.format.leastPlace + (f : Int)) - (more : Int) - 1) k.format.leastPlace = b
    have hE : (k.format.leastPlace + (E : Int) - b).toNat = u + (k.format.leastPlace + (e : Int) - (k.format.leastPlace + (f : Int)) - (more : Int) - 1 - b).toNat := by omega
    rw [hE, Nat.pow_add, ← Nat.mul_assoc]
    exact Nat.mul_le_mul_right _ hq
end Fl
end Go.Proofs.Ytbjjggelgpomhaa

/- The exponential function in 64 bits. -/
set_option linter.unusedVariables false
set_option linter.unusedSimpArgs false
namespace Go.Proofs.Ytbjjggelgpomhaa
open Fl Go.RowKit

@[go_sem] theorem Try.f64from (n : Int) (w : World) : (callFunc 35 #[.int .u64 n]).run Try.prog w = .ok (.value (.float .f64 n.toNat)) w := by
  rw [run_callFunc_extern (P := Try.prog) (fn := Try.f35) (e := Extern.MathFloatBits.float64frombits) (by kernel_rfl) (by kernel_rfl) (by kernel_rfl) (by kernel_rfl) (by kernel_rfl)]
  rfl

def cOne : Nat := 4607182418800017408
def c256 : Nat := 4643211215818981376
def cP200 : Nat := 4641240890982006784
def cM200 : Nat := 13864612927836782592
def cInf : Nat := 9218868437227405312
theorem ab_one : ab .f64 4607182418800017408 = some cOne := by rw [ab64]; rfl
theorem ab_256 : ab .f64 4643211215818981376 = some c256 := by rw [ab64]; rfl
theorem ab_p200 : ab .f64 4641240890982006784 = some cP200 := by rw [ab64]; rfl
theorem ab_m200 : ab .f64 13864612927836782592 = some cM200 := by rw [ab64]; rfl
theorem ab_int64 (n : Int) : ab .f64 (floatOfInt .f64 n) = some (floatOfInt .f64 n) := ab_write .f64 (d := .number (decide (n < 0)) n.natAbs 0) rfl

def polyO (t : Option Nat) : Nat → Option Nat
  | 0 => some cOne
  | i + 1 => opO .add .f64 (some cOne) (opO .quo .f64 (opO .mul .f64 t (polyO t i)) (some (floatOfInt .f64 ((12 - i : Nat) : Int))))
def sqsO (p : Option Nat) : Nat → Option Nat
  | 0 => p
  | i + 1 => opO .mul .f64 (sqsO p i) (sqsO p i)
def expO (v : Option Nat) : Option Nat :=
  if (ordO .f64 v (some cP200) == some .gt) = true then some cInf
  else if (ordO .f64 v (some cM200) == some .lt) = true then some 0
  else sqsO (polyO (opO .quo .f64 v (some c256)) 12) 8
theorem fv_one : Fv .f64 4607182418800017408 (some cOne) := ⟨by decide, ab_one⟩
theorem fv_inf : Fv .f64 9218868437227405312 (some cInf) := ⟨by decide, by rw [ab64]; rfl⟩
theorem fv_zero64 : Fv .f64 0 (some 0) := ⟨by decide, by rw [ab64]; rfl⟩

end Go.Proofs.Ytbjjggelgpomhaa

/- How great the exponential function in 64 bits is for numbers from -40 to 40, and what fits in 32 bits. -/
set_option linter.unusedVariables false
set_option linter.unusedSimpArgs false
namespace Go.Proofs.Ytbjjggelgpomhaa
namespace Fl
open Ieee

def w40 : Nat := 4630826316843712512
def wT : Nat := 4594797519824748544
def w125 : Nat := 4608308318706860032
def w025 : Nat := 4598175219545276416
def w100 : Nat := 5057542381537067008

theorem fits_size {b : Nat} (h : rung .f64 b ≤ rung .f64 w100) : Fits .f64 .f32 b := by
  refine fits_of .f64 .f32 100 (fun g m e hd hm => ?_) (by decide) (by decide)
  have hf : rung .f64 b < FloatKind.f64.format.infRung := Nat.lt_of_le_of_lt h (by decide)
  obtain ⟨M, E, hr, hz⟩ := read_fin .f64 hf
  have hd' : FloatKind.f64.format.read b = .number g m e := hd
  rw [hr] at hd'
  injection hd' with h1 h2 h3
  subst h2
  have hle := (zv_le .f64).2 h
  rw [hz, show zv .f64 (rung .f64 w100) = 2 ^ 1174 by decide +kernel] at hle
  have h4 : 2 ^ M.log2 ≤ M := Nat.log2_self_le hm
  have h5 : 2 ^ (M.log2 + E) ≤ 2 ^ 1174 := by
    rw [Nat.pow_add]
    exact Nat.le_trans (Nat.mul_le_mul_right _ h4) hle
  have h6 := (Nat.pow_le_pow_iff_right (a := 2) (by decide)).1 h5
  have h7 : FloatKind.f64.format.leastPlace = -1074 := by decide
  omega

theorem t_size {x : Nat} (h : rung .f64 x ≤ rung .f64 w40) : ∃ t, opO .quo .f64 (some x) (some c256) = some t ∧ rung .f64 t ≤ rung .f64 wT := by
  refine div_size .f64 (Nat.lt_of_le_of_lt h (by decide)) (by decide : rung .f64 c256 < FloatKind.f64.format.infRung) (by decide : rung .f64 wT < FloatKind.f64.format.infRung) (by decide) 1074 (by decide) ?_
  refine Nat.le_trans (Nat.mul_le_mul_right _ ((zv_le .f64).2 h)) ?_
  decide +kernel

theorem ints : ∀ i < 12, rung .f64 (floatOfInt .f64 ((12 - i : Nat) : Int)) < FloatKind.f64.format.infRung ∧ rung .f64 cOne ≤ rung .f64 (floatOfInt .f64 ((12 - i : Nat) : Int)) := by decide +kernel

theorem poly_size {t : Nat} (h : rung .f64 t ≤ rung .f64 wT) : ∀ i, i ≤ 12 → ∃ p, polyO (some t) i = some p ∧ rung .f64 p ≤ rung .f64 w125
  | 0, _ => ⟨cOne, rfl, by decide⟩
  | i + 1, hi => by
    obtain ⟨p, hp, hb⟩ := poly_size h i (by omega)
    obtain ⟨i1, i2⟩ := ints i (by omega)
    obtain ⟨m, m', hm, hm', hle⟩ := mul_size .f64 (x := t) (y := p) (c := wT) (d := w125) (Nat.lt_of_le_of_lt h (by decide)) (Nat.lt_of_le_of_lt hb (by decide)) (by decide : rung .f64 wT < _) (by decide : rung .f64 w125 < _) h hb
    rw [show floatBits .mul .f64 wT w125 = some 4596204894708301824 by decide +kernel] at hm'
    injection hm' with hm'
    subst hm'
    have h25 : rung .f64 m ≤ rung .f64 w025 := Nat.le_trans hle (by decide)
    obtain ⟨q, hq, hqle⟩ := div_size .f64 (x := m) (y := floatOfInt .f64 ((12 - i : Nat) : Int)) (t := w025) (Nat.lt_of_le_of_lt h25 (by decide)) i1 (by decide : rung .f64 w025 < _) (by
      have : 0 < rung .f64 cOne := by decide
      omega) 1074 (by decide) (by
      have e1 := (zv_le .f64).2 i2
      rw [show zv .f64 (rung .f64 cOne) = 2 ^ 1074 by decide +kernel] at e1
      exact Nat.mul_le_mul ((zv_le .f64).2 h25) e1)
    obtain ⟨r, r', hr, hr', hrle⟩ := add_size .f64 (x := cOne) (y := q) (c := cOne) (d := w025) (by decide : rung .f64 cOne < _) (Nat.lt_of_le_of_lt hqle (by decide)) (by decide : rung .f64 cOne < _) (by decide : rung .f64 w025 < _) (by decide) (by decide) (Nat.le_refl _) hqle
    rw [show floatBits .add .f64 cOne w025 = some w125 by decide +kernel] at hr'
    injection hr' with hr'
    subst hr'
    refine ⟨r, ?_, hrle⟩
    show opO .add .f64 (some cOne) (opO .quo .f64 (opO .mul .f64 (some t) (polyO (some t) i)) (some (floatOfInt .f64 ((12 - i : Nat) : Int)))) = some r
    rw [hp]
    show opO .add .f64 (some cOne) (opO .quo .f64 (floatBits .mul .f64 t p) (some (floatOfInt .f64 ((12 - i : Nat) : Int)))) = some r
    rw [hm]
    show opO .add .f64 (some cOne) (floatBits .quo .f64 m (floatOfInt .f64 ((12 - i : Nat) : Int))) = some r
    rw [hq]
    exact hr

def sqW : Nat → Nat
  | 0 => w125
  | i + 1 => (floatBits .mul .f64 (sqW i) (sqW i)).getD 0
theorem sqW_step : ∀ i < 8, floatBits .mul .f64 (sqW i) (sqW i) = some (sqW (i + 1)) ∧ rung .f64 (sqW i) < FloatKind.f64.format.infRung := by decide +kernel

theorem sgn_word (k : FloatKind) {r : Nat} (h : r ≤ k.format.infRung) : sgn k (k.format.word false r) = false := by
  have h1 := k.format.infRung_lt
  have e : k.format.word false r = r := by unfold Format.word; simp
  rw [e]
  unfold sgn
  rw [Nat.div_eq_of_lt (by omega)]
  rfl

theorem sqs_size {p : Nat} (h : rung .f64 p ≤ rung .f64 w125) : ∀ i, i ≤ 8 → ∃ r, sqsO (some p) i = some r ∧ rung .f64 r ≤ rung .f64 (sqW i)
  | 0, _ => ⟨p, rfl, h⟩
  | i + 1, hi => by
    obtain ⟨r, hr, hb⟩ := sqs_size h i (by omega)
    obtain ⟨s1, s2⟩ := sqW_step i (by omega)
    obtain ⟨m, m', hm, hm', hle⟩ := mul_size .f64 (x := r) (y := r) (Nat.lt_of_le_of_lt hb s2) (Nat.lt_of_le_of_lt hb s2) s2 s2 hb hb
    rw [s1] at hm'
    injection hm' with hm'
    subst hm'
    refine ⟨m, ?_, hle⟩
    show opO .mul .f64 (sqsO (some p) i) (sqsO (some p) i) = some m
    rw [hr]
    exact hm

theorem exp_size {x : Nat} (hx : ab .f64 x = some x) (h : rung .f64 x ≤ rung .f64 w40) : ∃ r, expO (some x) = some r ∧ rung .f64 r ≤ rung .f64 w100 ∧ ∃ q, rung .f64 q < FloatKind.f64.format.infRung ∧ floatBits .mul .f64 q q = some r := by
  have hk : key .f64 x ≤ rung .f64 x ∧ -(rung .f64 x : Int) ≤ key .f64 x := by
    unfold key sg
    split <;> omega
  have o1 : (ordO .f64 (some x) (some cP200) == some .gt) = false := by
    show (FloatKind.f64.format.order x cP200 == some .gt) = false
    rw [order_key .f64 hx (by rw [ab64]; rfl : ab .f64 cP200 = some cP200)]
    have : key .f64 x < key .f64 cP200 := by
      have e : key .f64 cP200 = (rung .f64 cP200 : Int) := by decide
      have e2 : rung .f64 w40 < rung .f64 cP200 := by decide
      omega
    have e3 : compare (key .f64 x) (key .f64 cP200) = .lt := Int.compare_eq_lt.2 this
    rw [e3]; rfl
  have o2 : (ordO .f64 (some x) (some cM200) == some .lt) = false := by
    show (FloatKind.f64.format.order x cM200 == some .lt) = false
    rw [order_key .f64 hx (by rw [ab64]; rfl : ab .f64 cM200 = some cM200)]
    have : key .f64 cM200 < key .f64 x := by
      have e : key .f64 cM200 = -(rung .f64 cM200 : Int) := by decide
      have e2 : rung .f64 w40 < rung .f64 cM200 := by decide
      omega
    have e3 : compare (key .f64 x) (key .f64 cM200) = .gt := Int.compare_eq_gt.2 this
    rw [e3]; rfl
  unfold expO
  rw [o1, o2]
  obtain ⟨t, ht, htl⟩ := t_size h
  obtain ⟨p, hp, hpl⟩ := poly_size htl 12 (by omega)
  obtain ⟨r, hr, hrl⟩ := sqs_size hpl 8 (by omega)
  obtain ⟨q, hq, hql⟩ := sqs_size hpl 7 (by omega)
  have hqr : opO .mul .f64 (sqsO (some p) 7) (sqsO (some p) 7) = some r := hr
  rw [hq] at hqr
  refine ⟨r, ?_, Nat.le_trans hrl (by decide +kernel), q, Nat.lt_of_le_of_lt hql (sqW_step 7 (by omega)).2, hqr⟩
  rw [ht, hp]
  exact hr
end Fl
end Go.Proofs.Ytbjjggelgpomhaa

/- A number of 32 bits keeps its value, and so its place in the order, in 64 bits; sizes of differences. -/
set_option linter.unusedVariables false
set_option linter.unusedSimpArgs false
namespace Go.Proofs.Ytbjjggelgpomhaa
namespace Fl
open Ieee

theorem sgn_word2 (k : FloatKind) (s : Bool) {r : Nat} (h : r ≤ k.format.infRung) : sgn k (k.format.word s r) = s := by
  have h1 := k.format.infRung_lt
  have h0 := sw_pos k
  cases s
  · exact sgn_word k h
  · have e : k.format.word true r = k.format.signWeight + r := by unfold Format.word; simp
    rw [e]
    unfold sgn
    rw [Nat.add_div_left _ h0, Nat.div_eq_of_lt (by omega)]
    rfl
theorem sgn_nearest (k : FloatKind) (s : Bool) (mag : Nat) (place : Int) : sgn k (k.format.nearest s mag place) = s := by
  unfold Format.nearest
  dsimp only
  split
  · exact sgn_word2 k s (Nat.zero_le _)
  · exact sgn_word2 k s (Nat.min_le_right ..)

theorem wide_zv {b : Nat} (h : rung .f32 b < FloatKind.f32.format.infRung) (D : Nat) (hD : D = 925) :
    sgn .f64 (FloatKind.f64.encode (FloatKind.f32.decode b)) = sgn .f32 b ∧ zv .f64 (rung .f64 (FloatKind.f64.encode (FloatKind.f32.decode b))) = zv .f32 (rung .f32 b) * 2 ^ D := by
  obtain ⟨m, e, hr, hz⟩ := read_fin .f32 h
  have hd : FloatKind.f32.decode b = .number (sgn .f32 b) m (FloatKind.f32.format.leastPlace + e) := hr
  obtain ⟨h1, h2, h3⟩ := read32_bound hd
  have lp : FloatKind.f32.format.leastPlace = -149 := by decide
  have lp2 : FloatKind.f64.format.leastPlace = -1074 := by decide
  have fb : FloatKind.f64.format.fractionBits = 52 := rfl
  rw [hd]
  show sgn .f64 (FloatKind.f64.format.nearest (sgn .f32 b) m (FloatKind.f32.format.leastPlace + e)) = _ ∧ zv .f64 (rung .f64 (FloatKind.f64.format.nearest (sgn .f32 b) m (FloatKind.f32.format.leastPlace + e))) = _
  refine ⟨sgn_nearest _ _ _ _, ?_⟩
  rw [hz]
  by_cases hm : m = 0
  · subst hm
    rw [Nat.zero_mul, Nat.zero_mul]
    have e0 : FloatKind.f64.format.nearest (sgn .f32 b) 0 (FloatKind.f32.format.leastPlace + e) = FloatKind.f64.format.word (sgn .f32 b) 0 := rfl
    rw [e0]
    unfold rung
    rw [word_rung_mod _ _ (Nat.zero_le _)]
    exact zv_zero .f64
  · have hl := log2_lt (n := 23) h1
    have hl1 : 2 ^ m.log2 ≤ m := Nat.log2_self_le hm
    have hl2 : m < 2 ^ (m.log2 + 1) := Nat.lt_log2_self
    generalize hL : m.log2 = L at *
    rw [lp] at h2 h3 ⊢
    rw [nearest_form .f64 _ m _ hm (-149 + (e : Int) + L - 52) (by rw [hL, fb, lp2]; omega)]
    have e1 : ((-149 + (e : Int)) - (-149 + (e : Int) + L - 52)).toNat = 52 - L := by omega
    have e2 : ((-149 + (e : Int) + L - 52) - (-149 + (e : Int))).toNat = 0 := by omega
    have e3 : ((-149 + (e : Int) + L - 52) - FloatKind.f64.format.leastPlace).toNat = e + L + 873 := by rw [lp2]; omega
    rw [e1, e2, e3, cut_zero]
    have hb : FloatKind.f64.format.binade = 2 ^ 52 := rfl
    have hi : FloatKind.f64.format.infRung = 2047 * 2 ^ 52 := by decide
    have k1 : 2 ^ 52 ≤ m * 2 ^ (52 - L) := by
      have := Nat.mul_le_mul_right (2 ^ (52 - L)) hl1
      rw [← Nat.pow_add, show L + (52 - L) = 52 by omega] at this
      exact this
    have k2 : m * 2 ^ (52 - L) < 2 ^ 53 := by
      have := Nat.mul_lt_mul_of_pos_right hl2 (Nat.two_pow_pos (52 - L))
      rw [← Nat.pow_add, show L + 1 + (52 - L) = 53 by omega] at this
      exact this
    have hK : m * 2 ^ (52 - L) * 2 ^ (e + L + 873) = m * 2 ^ e * 2 ^ D := by
      rw [Nat.mul_assoc, ← Nat.pow_add, Nat.mul_assoc, ← Nat.pow_add, show 52 - L + (e + L + 873) = e + D by omega]
    generalize m * 2 ^ (52 - L) = K at *
    have hB : (2 : Nat) ^ 52 = 4503599627370496 := by decide
    have hB2 : (2 : Nat) ^ 53 = 9007199254740992 := by decide
    rw [hb, hi]
    rw [hB] at k1 ⊢
    rw [hB2] at k2
    have he : e ≤ 253 := by omega
    rw [Nat.min_eq_left (by omega), ← hK]
    unfold zv
    rw [hb, hB, if_neg (by omega)]
    have q1 : ((e + L + 873) * 4503599627370496 + K) / 4503599627370496 = e + L + 874 := by omega
    have q2 : ((e + L + 873) * 4503599627370496 + K) % 4503599627370496 = K - 4503599627370496 := by omega
    rw [q1, q2]
    rw [show e + L + 874 - 1 = e + L + 873 by omega, show 4503599627370496 + (K - 4503599627370496) = K by omega]

theorem ab_wide {b : Nat} (h : ab .f32 b = some b) : ab .f64 (FloatKind.f64.encode (FloatKind.f32.decode b)) = some (FloatKind.f64.encode (FloatKind.f32.decode b)) := by
  have hn := read_nan (k := .f32) (b := b)
  rw [h] at hn
  exact (fv_write .f64 (d := FloatKind.f32.decode b) hn).2
/-- THE ORDER IS THE SAME in 64 bits. -/
theorem ord_wide {b c : Nat} (hb : ab .f32 b = some b) (hc : ab .f32 c = some c) (hf : rung .f32 c < FloatKind.f32.format.infRung) :
    ordO .f64 (wide (some b)) (wide (some c)) = ordO .f32 (some b) (some c) := by
  show FloatKind.f64.format.order (FloatKind.f64.encode (FloatKind.f32.decode b)) (FloatKind.f64.encode (FloatKind.f32.decode c)) = FloatKind.f32.format.order b c
  have bc : ab .f64 (FloatKind.f64.encode (FloatKind.f32.decode c)) = some (FloatKind.f64.encode (FloatKind.f32.decode c)) := ab_wide hc
  have bb : ab .f64 (FloatKind.f64.encode (FloatKind.f32.decode b)) = some (FloatKind.f64.encode (FloatKind.f32.decode b)) := ab_wide hb
  obtain ⟨D, hD⟩ : ∃ D, D = 925 := ⟨_, rfl⟩
  obtain ⟨sc, zc⟩ := wide_zv hf D hD
  have rb := rung_of_ab .f32 hb
  rw [order_key .f64 bb bc, order_key .f32 hb hc]
  congr 1
  unfold key
  have hp := Nat.two_pow_pos D
  have z32 := zv_zero .f32
  have z64 := zv_zero .f64
  by_cases hfb : rung .f32 b < FloatKind.f32.format.infRung
  · obtain ⟨sb, zb⟩ := wide_zv hfb D hD
    rw [sb, sc]
    have key0 : ∀ x y x' y' : Nat, zv .f64 x = zv .f32 x' * 2 ^ D → zv .f64 y = zv .f32 y' * 2 ^ D → (x ≤ y ↔ x' ≤ y') := fun x y x' y' h1 h2 => by
      have u1 := zv_le .f64 (r := x) (s := y)
      have u2 := zv_le .f32 (r := x') (s := y')
      rw [← u1, h1, h2, ← u2]
      exact Nat.mul_le_mul_right_iff hp
    have a1 := key0 _ _ _ _ zb zc
    have a2 := key0 _ _ _ _ zc zb
    have a3 := key0 _ 0 _ 0 zb (by rw [z32, z64, Nat.zero_mul])
    have a4 := key0 _ 0 _ 0 zc (by rw [z32, z64, Nat.zero_mul])
    exact cmp_sg _ _ (by omega) (by omega) (by omega) (by omega)
  · have hbe : rung .f32 b = FloatKind.f32.format.infRung := by omega
    have hr : FloatKind.f32.decode b = .infinity (sgn .f32 b) := read_inf .f32 hbe
    have e1 : sgn .f64 (FloatKind.f64.encode (FloatKind.f32.decode b)) = sgn .f32 b := by rw [hr]; cases sgn .f32 b <;> decide
    have e2 : rung .f64 (FloatKind.f64.encode (FloatKind.f32.decode b)) = FloatKind.f64.format.infRung := by rw [hr]; cases sgn .f32 b <;> decide
    rw [e1, e2, sc, hbe]
    have key0 : ∀ x y x' y' : Nat, zv .f64 x = zv .f32 x' * 2 ^ D → zv .f64 y = zv .f32 y' * 2 ^ D → (x ≤ y ↔ x' ≤ y') := fun x y x' y' h1 h2 => by
      have u1 := zv_le .f64 (r := x) (s := y)
      have u2 := zv_le .f32 (r := x') (s := y')
      rw [← u1, h1, h2, ← u2]
      exact Nat.mul_le_mul_right_iff hp
    have a4 := key0 _ 0 _ 0 zc (by rw [z32, z64, Nat.zero_mul])
    have i64 : 0 < FloatKind.f64.format.infRung := by decide
    have i32 : 0 < FloatKind.f32.format.infRung := by decide
    have fin64 : rung .f64 (FloatKind.f64.encode (FloatKind.f32.decode c)) < FloatKind.f64.format.infRung := by
      refine Nat.lt_of_le_of_ne (rung_of_ab .f64 bc) fun he => ?_
      have hi := read_inf .f64 he
      obtain ⟨m, e, hr2, _⟩ := read_fin .f32 hf
      have hd : FloatKind.f32.decode c = .number (sgn .f32 c) m (FloatKind.f32.format.leastPlace + e) := hr2
      rcases fits_wide c with h | h
      · cases h
      · rw [hd] at h
        rw [hd] at hi
        have h' : (FloatKind.f64.format.read (FloatKind.f64.encode (.number (sgn .f32 c) m (FloatKind.f32.format.leastPlace + e)))).isInfinity = false := h
        rw [hi] at h'
        cases h'
    exact cmp_sg _ _ (by omega) (by omega) (by omega) (by omega)
end Fl
end Go.Proofs.Ytbjjggelgpomhaa

/- Dynamics: sizes, gains, clipped and bent numbers: both sides, modulo the bits of not-a-numbers. -/
set_option linter.unusedVariables false
set_option linter.unusedSimpArgs false
namespace Go.Proofs.Ytbjjggelgpomhaa
open Fl Go.RowKit
abbrev qu (a b : O) : O := opO .quo .f32 a b
def sizeO (x : O) : O := x.map sizeN
theorem sizeN_fv {b : Nat} {X : O} (h : Hid (Fv .f32 b X)) : Hid (Fv .f32 (sizeN b) (sizeO X)) := by
  obtain ⟨h1, h2⟩ := h
  refine Lib.hid ⟨sizeN_lt b, ?_⟩
  rw [← h2, ab32, ab32]
  unfold sizeN sizeO
  by_cases e : 2139095040 < b % 2147483648
  · rw [if_pos (by omega), if_pos e]; rfl
  · rw [if_neg (by omega), if_neg e]; rfl
/-- the model's size -/
def sizeS (b : Nat) : Nat := if nanB b then b else sizeN b
theorem sizeS_fv {b : Nat} {X : O} (h : Hid (Fv .f32 b X)) : Hid (Fv .f32 (sizeS b) (sizeO X)) := by
  unfold sizeS
  cases e : nanB b
  · exact sizeN_fv h
  · obtain ⟨h1, h2⟩ := h
    have h3 := ab_of_nan' e
    rw [h3] at h2
    subst h2
    exact Lib.hid ⟨h1, h3⟩
theorem sizeS_lt {b : Nat} (h : b < 4294967296) : sizeS b < 4294967296 := by unfold sizeS; split; exact h; exact sizeN_lt b
theorem ord_fv {k : FloatKind} {p q : Nat} {P Q : O} (hp : Hid (Fv k p P)) (hq : Hid (Fv k q Q)) : k.format.order p q = ordO k P Q := by rw [order_ab, hp.out.2, hq.out.2]
def gtO (x y : O) : Bool := ordO .f32 x y == some .gt
def ltO (x y : O) : Bool := ordO .f32 x y == some .lt
theorem gt_fv {p q : Nat} {P Q : O} (hp : Hid (Fv .f32 p P)) (hq : Hid (Fv .f32 q Q)) : (FloatKind.f32.format.order p q == some .gt) = gtO P Q := by rw [ord_fv hp hq]; rfl
theorem lt_fv {p q : Nat} {P Q : O} (hp : Hid (Fv .f32 p P)) (hq : Hid (Fv .f32 q Q)) : (FloatKind.f32.format.order p q == some .lt) = ltO P Q := by rw [ord_fv hp hq]; rfl
theorem fvc {b : Nat} (h : b < 4294967296) (h2 : b % 2147483648 ≤ 2139095040) : Hid (Fv .f32 b (some b)) := Lib.hid ⟨h, by rw [ab32, if_neg (by omega)]⟩
theorem fv0 : Hid (Fv .f32 0 (some 0)) := fvc (by decide) (by decide)
theorem fv1 : Hid (Fv .f32 1065353216 (some 1065353216)) := fvc (by decide) (by decide)
theorem fvm1 : Hid (Fv .f32 3212836864 (some 3212836864)) := fvc (by decide) (by decide)
theorem fvh : Hid (Fv .f32 1056964608 (some 1056964608)) := fvc (by decide) (by decide)
theorem fvoh : Hid (Fv .f32 1069547520 (some 1069547520)) := fvc (by decide) (by decide)
theorem negN_fv {b : Nat} {X : O} (h : Hid (Fv .f32 b X)) : Hid (Fv .f32 (negN b) (X.map negN)) := Lib.hid ⟨negN_lt h.out.1, by unfold negN; rw [ab_neg, h.out.2]⟩
theorem negN_big {b : Nat} (h : b < 4294967296) (h2 : 2147483648 ≤ b) : negN b = sizeN b := by
  unfold negN sizeN Op.negFloat
  have e2 := neg_mod .f32 b
  rw [sw32] at e2
  unfold Op.negFloat at e2
  have e3 : (b ^^^ (2 ^ (FloatKind.f32.format.exponentBits + FloatKind.f32.format.fractionBits))) / 2147483648 = 0 := by
    rw [show (2 : Nat) ^ (FloatKind.f32.format.exponentBits + FloatKind.f32.format.fractionBits) = 2 ^ 31 by decide, show (2147483648 : Nat) = 2 ^ 31 by decide, ← Nat.shiftRight_eq_div_pow, Nat.shiftRight_xor_distrib, Nat.shiftRight_eq_div_pow, show b / 2 ^ 31 = 1 by omega]
    rfl
  omega
/-- which of the two branches a size takes -/
theorem sizeS_case {b : Nat} (hb : b < 4294967296) : ((FloatKind.f32.format.order b 0 == some .lt) = true ∧ sizeS b = negN b) ∨ ((FloatKind.f32.format.order b 0 == some .lt) = false ∧ (((bitsO (ab .f32 b) : Int) == 2147483648) = true ∧ sizeS b = negN b ∨ ((bitsO (ab .f32 b) : Int) == 2147483648) = false ∧ sizeS b = b)) := by
  unfold sizeS
  cases e : nanB b
  · have h := ab_of_nan e
    have ho := ord_zero32 hb h
    rw [h]
    simp only [bitsO]
    by_cases h1 : b < 2147483648
    · refine .inr ⟨?_, .inr ⟨?_, ?_⟩⟩
      · rw [ho]; by_cases h2 : b % 2147483648 = 0
        · rw [if_pos h2]; rfl
        · rw [if_neg h2, if_pos h1]; rfl
      · simp; omega
      · simp only [Bool.false_eq_true, if_false]; unfold sizeN; omega
    · have hs : sizeN b = negN b := (negN_big hb (by omega)).symm
      by_cases h2 : b % 2147483648 = 0
      · refine .inr ⟨?_, .inl ⟨?_, hs⟩⟩
        · rw [ho, if_pos h2]; rfl
        · simp; omega
      · refine .inl ⟨?_, hs⟩
        rw [ho, if_neg h2, if_neg h1]; rfl
  · have h := ab_of_nan' e
    rw [ord_none h, h]
    exact .inr ⟨rfl, .inr ⟨rfl, rfl⟩⟩
/-- a gain, and a bent number -/
def gainO (l t r : O) : O := if gtO l t then qu (ad t (qu (su l t) r)) l else some 1065353216
/-- a clipped number -/
def clipO (x l : O) : O := if gtO (sizeO x) l then (if ltO x (some 0) then l.map negN else l) else x
/-- a bent number -/
def bendR (x : O) : O := mu x (su (some 1069547520) (mu (some 1056964608) (mu x x)))
def eqO (x y : O) : Bool := ordO .f32 x y == some .eq
theorem eq_fv {p q : Nat} {P Q : O} (hp : Hid (Fv .f32 p P)) (hq : Hid (Fv .f32 q Q)) : (FloatKind.f32.format.order p q == some .eq) = eqO P Q := by rw [ord_fv hp hq]; rfl
def geO (x y : O) : Bool := gtO x y || eqO x y
def leO (x y : O) : Bool := ltO x y || eqO x y
def bendO (x : O) : O := if geO x (some 1065353216) then some 1065353216 else if leO x (some 3212836864) then some 3212836864 else bendR x
end Go.Proofs.Ytbjjggelgpomhaa

/- Rows of floats that a loop appends to, one number a round. -/
set_option linter.unusedVariables false
set_option linter.unusedSimpArgs false
namespace Go.Proofs.Ytbjjggelgpomhaa
open Fl Go.RowKit
/-- v is a row of the loop's own, from block lo on, whose k numbers stand for F -/
def Rw (lo : Nat) (w : World) (v : Value) (k : Nat) (F : Nat → O) : Prop := ∃ os, w.ownsRow lo 22 1 v k (fvl os) ∧ Small os ∧ ∀ j, j < k → ab .f32 (wd os j) = F j
theorem Rw.start (w : World) (lo : Nat) (h : lo ≤ w.heap.size) (F : Nat → O) : Rw lo (w.alloc (.cells #[] 22)) (.slice (some ⟨w.heap.size, 0, none⟩) 0 0) 0 F :=
  ⟨[], ⟨rfl, .inr ⟨w.heap.size, 0, #[], rfl, h, Go.Deep.blk_alloc_new _ _, Nat.le_refl _, Nat.zero_le _, rfl, rfl⟩⟩, (fun x hx => by cases hx), fun j hj => by omega⟩
theorem Rw.keep {lo : Nat} {w w' : World} {v : Value} {k : Nat} {F : Nat → O} (h : Rw lo w v k F) (e : ∀ b, lo ≤ b → b < w.heap.size → w'.heap[b]? = w.heap[b]?) : Rw lo w' v k F := by
  obtain ⟨os, ⟨h1, h2⟩, hs, hf⟩ := h
  refine ⟨os, ⟨h1, ?_⟩, hs, hf⟩
  rcases h2 with h2 | ⟨g, cap, cur, e1, h3, h4, r⟩
  · exact .inl h2
  · exact .inr ⟨g, cap, cur, e1, h3, (e g h3 (Array.getElem?_eq_some_iff.1 h4).1).trans h4, r⟩
theorem Rw.since {lo : Nat} {w w' : World} {v : Value} {k : Nat} {F : Nat → O} (h : Rw lo w v k F) (s : w.Since w.heap.size w') : Rw lo w' v k F := h.keep fun b _ hb => s.block b hb
theorem Rw.on {lo g : Nat} {w w' : World} {v : Value} {k : Nat} {F : Nat → O} (h : Rw lo w v k F) (o : On g w w') (hg : g < lo) : Rw lo w' v k F := h.keep fun b hb hl => o.2 b hl (by omega)
theorem Rw.drewN {lo : Nat} {w : World} {v : Value} {k : Nat} {F : Nat → O} (h : Rw lo w v k F) (n : Nat) : Rw lo (w.drewN n) v k F := h
theorem Rw.alloc {lo : Nat} {w : World} {v : Value} {k : Nat} {F : Nat → O} (h : Rw lo w v k F) (o : Obj) : Rw lo (w.alloc o) v k F := h.since ((World.Since.refl _ _).alloc (Nat.le_refl _) _)
/-- what it is in the end -/
theorem Rw.done {lo : Nat} {w : World} {v : Value} {k : Nat} {F : Nat → O} (h : Rw lo w v k F) : ∃ (p : Ls) (c : Nat), v = .slice p.A p.n c ∧ p.n = k ∧ Gs 22 w lo p.A p.n p.xs ∧ Are p F := by
  obtain ⟨os, h1, hs, hf⟩ := h
  have hf' : v = .slice none 0 0 ∧ k = 0 ∨ ∃ g cap, v = .slice (some ⟨g, 0, none⟩) k cap := by
    rcases h1.2 with h2 | ⟨g, cap, cur, e, _⟩
    · exact .inl h2
    · exact .inr ⟨g, cap, e⟩
  rcases hf' with ⟨rfl, rfl⟩ | ⟨g, cap, rfl⟩
  · exact ⟨⟨none, 0, os⟩, 0, rfl, rfl, Gs.of_own h1 hs, hf⟩
  · exact ⟨⟨some ⟨g, 0, none⟩, k, os⟩, cap, rfl, rfl, Gs.of_own h1 hs, hf⟩
theorem wpList_app1 {ops : Array Oper} {rest : List Oper} {o : Oper} {a : Act} {Q : Exit → Act → World → Prop} {w : World} (hgd : o.guard = none) (s x : Operand)
    (ho : o.op = .call { callee := .builtin .append, args := #[s, x], argTypes := #[25, 25] }) (lo : Nat) (v : Value) (k : Nat) (F : Nat → O) (hs : a.eval s = v) (b r : Nat)
    (hx : a.eval x = .slice (some ⟨b, 0, none⟩) 1 1) (hc : w.cell? ⟨b, 0, none⟩ = some (.float .f32 r)) (hk : k < 1048576) (hlo : lo ≤ w.heap.size) (hr : Hid (Fv .f32 r (F k))) (hR : Rw lo w v k F)
    (h : ∀ v' w', Hid (Rw lo w' v' (k + 1) F) → Hid (w.Since lo w') → wpList Try.prog ops Q rest (a.put o.dst v') w') : wpList Try.prog ops Q (o :: rest) a w := by
  obtain ⟨os, h1, h2, h3⟩ := hR
  obtain ⟨i0, hi, hz0, hz1, hz2⟩ := info_parts Try.infoF
  refine wpList_append_own (P := Try.prog) w hgd s x 25 ho lo 22 i0 (.float .f32 0) 1 4 Try.underlying25 hi hz0 hz1 hz2 rfl (by omega) v k (fvl os) hs h1 ⟨b, 0, none⟩ 1 1 [.float .f32 r] hx rfl ?_ ?_ ?_ ?_ hlo ?_
  · intro j u hj
    rcases j with _ | j
    · simp at hj; subst hj; simpa [Addr.add] using hc
    · simp at hj
  · intro u hu; simp at hu; subst hu; rfl
  · unfold maxLen; omega
  · omega
  · intro v' w' hown hg _
    refine h v' w' (Lib.hid ⟨os ++ [r], ?_, h2.snoc hr.out.1, fun j hj => ?_⟩) (Lib.hid ⟨hg.os, hg.tape, hg.output, hg.size, fun i hi => ?_⟩)
    · rw [← fvl_snoc]; exact hown
    · have hyl : os.length = k := by simpa [fvl] using h1.1
      rw [wd_snoc hyl]
      by_cases e : j < k
      · rw [if_pos e]; exact h3 j e
      · obtain rfl : j = k := by omega
        rw [if_neg e, if_pos rfl]; exact hr.out.2
    · refine hg.block i (by omega) fun e => ?_
      have := own_lo h1 i e.symm
      omega
end Go.Proofs.Ytbjjggelgpomhaa

/- Dynamics: the model's lists: clipped samples, a fade. -/
set_option linter.unusedVariables false
set_option linter.unusedSimpArgs false
namespace Go.Proofs.Ytbjjggelgpomhaa
open Fl Go.RowKit
end Go.Proofs.Ytbjjggelgpomhaa

/- Dynamics: the program's lists: clipped samples. -/
set_option linter.unusedVariables false
set_option linter.unusedSimpArgs false
namespace Go.Proofs.Ytbjjggelgpomhaa
open Fl Go.RowKit
end Go.Proofs.Ytbjjggelgpomhaa

/- What a step makes of all samples, for bound methods; products of samples and gains. -/
set_option linter.unusedVariables false
set_option linter.unusedSimpArgs false
namespace Go.Proofs.Ytbjjggelgpomhaa
open Fl Go.RowKit
end Go.Proofs.Ytbjjggelgpomhaa

/- Dynamics: fades. -/
set_option linter.unusedVariables false
set_option linter.unusedSimpArgs false
namespace Go.Proofs.Ytbjjggelgpomhaa
open Fl Go.RowKit
def fI (k : Int) : Nat := floatOfInt .f32 k
theorem fI_fv (k : Int) : Hid (Fv .f32 (floatOfInt .f32 k) (some (fI k))) := Lib.hid (fv_write .f32 (d := .number (decide (k < 0)) k.natAbs 0) rfl)
def fadeG (f t : O) (i n : Int) : O := ad f (mu (su t f) (qu (some (fI i)) (some (fI n))))
/-! the gate -/
def PLIB (n0 : Nat) (f0 : Nat → Option Nat) (i : Int) (b : Bool) (w : World) (e : Ending) (w' : World) : Prop :=
  ∃ (p : Ls) (c : Nat), e = .returned (.tuple #[.slice p.A p.n c, .int .i64 i, .bool b]) ∧ p.n = n0 ∧ Gs 22 w' w.heap.size p.A p.n p.xs ∧ Are p f0 ∧ w.Since w.heap.size w'
theorem PLIB.none_ {w w' : World} (s : w.Since w.heap.size w') (f0 : Nat → Option Nat) : PLIB 0 f0 0 false w (.returned (.tuple #[.slice none 0 0, .int .i64 0, .bool false])) w' :=
  ⟨⟨none, 0, []⟩, 0, rfl, rfl, Gs.nil_, (fun k hk => by simp at hk), s⟩
def gateH (X : Nat → O) (T : O) (hold held : Int) : Nat → Int
  | 0 => held
  | k + 1 => if geO (sizeO (X k)) T then hold else if 0 < gateH X T hold held k then gateH X T hold held k - 1 else gateH X T hold held k
def gateY (X : Nat → O) (T : O) (hold held : Int) (k : Nat) : O := if geO (sizeO (X k)) T then X k else if 0 < gateH X T hold held k then X k else some 0
theorem gateH_in {X : Nat → O} {T : O} {hold held : Int} (h1 : 0 ≤ held) (h2 : held ≤ hold) (k : Nat) : 0 ≤ gateH X T hold held k ∧ gateH X T hold held k ≤ hold := by
  induction k with
  | zero => exact ⟨h1, h2⟩
  | succ k ih => unfold gateH; split; omega; split <;> omega
def okHold (hold held : Int) : Bool := inB hold 0 10000 && inB held 0 hold
theorem allow_any (a b x : Int) (w : World) :
    Calls Try.prog 26 #[.agg #[.int .i64 a, .int .i64 b], .int .i64 x] w fun e w' => e = .returned (.bool (inB x a b)) ∧ w.Since w.heap.size w' := by
  by_cases h : a ≤ x
  all_goals
    go_enter Try.func26, Try.ntmps26
    go_wp2
    go_ret
    exact ⟨ret_bool (by simp [inB]; omega), by (repeat (first | (with_reducible refine Fl.sinDrew ?_) | (with_reducible refine World.Since.drew ?_) | (with_reducible refine Fl.sinSet ?_ ?_; rotate_left) | (with_reducible refine Fl.sinAlloc ?_ ?_; rotate_left) | with_reducible exact World.Since.refl _ _ | with_reducible assumption | (with_reducible refine Fl.sinStep (by with_reducible assumption) ?_))); all_goals (first | omega | (simp; done) | (simp; omega) | (simp [go_sem]; done) | (simp [go_sem]; omega))⟩
end Go.Proofs.Ytbjjggelgpomhaa

/- Dynamics: the gate. -/
set_option linter.unusedVariables false
set_option linter.unusedSimpArgs false
namespace Go.Proofs.Ytbjjggelgpomhaa
open Fl Go.RowKit
theorem specHold_b (n lo hi : Int) (b : Bool) (w : World) (h : inB n lo hi = b) :
    Calls Try.prog 22 #[.int .i64 n, .int .i64 lo, .int .i64 hi] w fun e w' => e = .returned (.bool b) ∧ w = w' := by subst h; exact l00In_any n lo hi w
/-- what the closure of a gate finds in its boxes -/
structure GateI (b t : Nat) (hold H : Int) (W : World) : Prop where
  lt : b + 1 + 1 < W.heap.size
  t : W.cell? ⟨b, 0, none⟩ = some (.float .f32 t)
  ho : W.cell? ⟨b + 1, 0, none⟩ = some (.int .i64 hold)
  he : W.heap[b + 1 + 1]? = some (.cells #[.int .i64 H] 2 (0, 0))
theorem GateI.of {b t : Nat} {hold H : Int} {W W' : World} (h : GateI b t hold H W) (hs : W.heap.size ≤ W'.heap.size) (e : ∀ i, i ≤ b + 1 + 1 → W'.heap[i]? = W.heap[i]?) : GateI b t hold H W' :=
  ⟨Nat.lt_of_lt_of_le h.lt hs, (cell_of_block (e _ (by omega)) _).trans h.t, (cell_of_block (e _ (by omega)) _).trans h.ho, (e _ (by omega)).trans h.he⟩
theorem GateI.set {b t : Nat} {hold H H' : Int} {W : World} (h : GateI b t hold H W) : GateI b t hold H' (W.setCell ⟨b + 1 + 1, 0, none⟩ (.int .i64 H')) :=
  ⟨by rw [Go.Deep.nblk_setCell]; exact h.lt, (cell_of_block (Go.Deep.blk_setCell_other _ _ _ _ (show b ≠ b + 1 + 1 by omega)) _).trans h.t, (cell_of_block (Go.Deep.blk_setCell_other _ _ _ _ (show b + 1 ≠ b + 1 + 1 by omega)) _).trans h.ho, by
    simp [World.setCell, Array.getElem?_modify, h.he]⟩
theorem implSize2 (b : Nat) (w : World) (hb : b < 4294967296) : Calls Try.prog 64 #[.float .f32 b] w fun e w' => e = .returned (.float .f32 (sizeN b)) ∧ w' = w := (implSize_any b w hb).mono fun _ _ ⟨h1, h2⟩ => ⟨h1, h2.symm⟩
end Go.Proofs.Ytbjjggelgpomhaa

/- Voices: envelopes and notes by value: valid ones, and their ends. -/
set_option linter.unusedVariables false
set_option linter.unusedSimpArgs false
namespace Go.Proofs.Ytbjjggelgpomhaa
open Fl Go.RowKit
/-- words of an envelope, of a note, of an oscillator -/
structure EnvN where
  a : Int
  d : Int
  s : Nat
  r : Int
structure NotN where
  st : Int
  h : Int
  p : Int
  g : Nat
structure OscN where
  k : Int
  st : Nat
  ph : Nat
def EnvN.val (e : EnvN) : Value := .agg #[.int .i64 e.a, .int .i64 e.d, .float .f32 e.s, .int .i64 e.r]
def NotN.val (e : NotN) : Value := .agg #[.int .i64 e.st, .int .i64 e.h, .int .i64 e.p, .float .f32 e.g]
def OscN.val (e : OscN) : Value := .agg #[.int .i64 e.k, .float .f32 e.st, .float .f32 e.ph]
set_option maxRecDepth 100000 in
theorem toOscillator_any (d : OscN) (w : World) :
    Calls Try.prog 5 #[d.val] w fun e w' => e = .returned d.val ∧ w.Since w.heap.size w' := by
  obtain ⟨a, b, r⟩ := d
  unfold OscN.val
  go_enter Try.func5, Try.ntmps5
  go_wp2
  exact bodyPost_ret (v := .agg #[.int .i64 a, .float .f32 b, .float .f32 r]) (by simp [results, Try.results5, go_sem]) rfl ⟨rfl, by (repeat (first | (with_reducible refine Fl.sinDrew ?_) | (with_reducible refine World.Since.drew ?_) | (with_reducible refine Fl.sinSet ?_ ?_; rotate_left) | (with_reducible refine Fl.sinAlloc ?_ ?_; rotate_left) | with_reducible exact World.Since.refl _ _ | with_reducible assumption | (with_reducible refine Fl.sinStep (by with_reducible assumption) ?_))); all_goals (first | omega | (simp; done) | (simp; omega) | (simp [go_sem]; done) | (simp [go_sem]; omega))⟩
def okEnv (a d r : Int) : Bool := inB a 0 1000 && inB d 0 1000 && inB r 0 1000
def okNote (s h p : Int) : Bool := inB s 0 1000 && inB h 0 1000 && inB p 0 127
theorem allowX_any (a b x : Int) (w : World) :
    Calls Try.prog 26 #[.agg #[.int .i64 a, .int .i64 b], .int .i64 x] w fun e w' => e = .returned (.bool (inB x a b)) ∧ w.alloc (.cells #[.int .i64 a, .int .i64 b] 56) = w' := by
  by_cases h : a ≤ x
  all_goals
    go_enter Try.func26, Try.ntmps26
    go_wp2
    go_ret
    exact ⟨ret_bool (by simp [inB]; omega), rfl⟩
def lim (a b : Int) : Obj := .cells #[.int .i64 a, .int .i64 b] 56
theorem isCount_b (x : Int) (b : Bool) (w : World) (h : inB x 0 256 = b) : Calls Try.prog 17 #[.int .i64 x] w fun e w' => e = .returned (.bool b) ∧ w.alloc (lim 0 256) = w' := by
  subst h
  unfold lim
  go_enter Try.func17, Try.ntmps17
  go_wp2_with (go_at_call 26; refine (allowX_any _ _ _ _).mono ?_; rintro e w1 ⟨rfl, rfl⟩)
  go_ret
  exact ⟨rfl, rfl⟩
/-- an envelope, a note, an oscillator in a box -/
structure EnvAt (w : World) (g : Nat) (e : EnvN) : Prop where
  lt : g < w.heap.size
  a : w.cell? ⟨g, 0, none⟩ = some (.int .i64 e.a)
  d : w.cell? ⟨g, 1, none⟩ = some (.int .i64 e.d)
  s : w.cell? ⟨g, 2, none⟩ = some (.float .f32 e.s)
  r : w.cell? ⟨g, 3, none⟩ = some (.int .i64 e.r)
structure NotAt (w : World) (g : Nat) (e : NotN) : Prop where
  lt : g < w.heap.size
  st : w.cell? ⟨g, 0, none⟩ = some (.int .i64 e.st)
  h : w.cell? ⟨g, 1, none⟩ = some (.int .i64 e.h)
  p : w.cell? ⟨g, 2, none⟩ = some (.int .i64 e.p)
  g : w.cell? ⟨g, 3, none⟩ = some (.float .f32 e.g)
theorem EnvAt.since {w w' : World} {g B : Nat} {e : EnvN} (h : EnvAt w g e) (s : w.Since B w') (hg : g < B) : EnvAt w' g e :=
  ⟨Nat.lt_of_lt_of_le h.lt s.size, (s.cell (a := ⟨g, 0, none⟩) hg).trans h.a, (s.cell (a := ⟨g, 1, none⟩) hg).trans h.d, (s.cell (a := ⟨g, 2, none⟩) hg).trans h.s, (s.cell (a := ⟨g, 3, none⟩) hg).trans h.r⟩
theorem NotAt.since {w w' : World} {g B : Nat} {e : NotN} (h : NotAt w g e) (s : w.Since B w') (hg : g < B) : NotAt w' g e :=
  ⟨Nat.lt_of_lt_of_le h.lt s.size, (s.cell (a := ⟨g, 0, none⟩) hg).trans h.st, (s.cell (a := ⟨g, 1, none⟩) hg).trans h.h, (s.cell (a := ⟨g, 2, none⟩) hg).trans h.p, (s.cell (a := ⟨g, 3, none⟩) hg).trans h.g⟩
def endR (e : EnvN) (n : NotN) (b : Bool) : Int := if b then n.st + n.h + e.r else 0
end Go.Proofs.Ytbjjggelgpomhaa

/- Dynamics: a follower's step, both sides. -/
set_option linter.unusedVariables false
set_option linter.unusedSimpArgs false
namespace Go.Proofs.Ytbjjggelgpomhaa
open Fl Go.RowKit
/-- a follower's three words lie in block g from place o on -/
structure FolAt (w : World) (g : Nat) (a r l : Nat) : Prop where
  lt : g < w.heap.size
  a : w.cell? ⟨g, 0, none⟩ = some (.float .f32 a)
  r : w.cell? ⟨g, 1, none⟩ = some (.float .f32 r)
  l : w.cell? ⟨g, 2, none⟩ = some (.float .f32 l)
theorem FolAt.of {w w' : World} {g a r l : Nat} (h : FolAt w g a r l) (hs : w.heap.size ≤ w'.heap.size) (e : w'.heap[g]? = w.heap[g]?) : FolAt w' g a r l :=
  ⟨Nat.lt_of_lt_of_le h.lt hs, (cell_of_block e _).trans h.a, (cell_of_block e _).trans h.r, (cell_of_block e _).trans h.l⟩
theorem flushH {x : Nat} {F : O} (h : Hid (Fv .f32 x F)) : Hid (Fv .f32 (flushN x) (F.map flushN)) := Lib.hid (flushN_fv h.out)
/-- a level behind a sample -/
def folO (A R L X : O) : O := (ad L (mu (if gtO (sizeO X) L then A else R) (su (sizeO X) L))).map flushN
end Go.Proofs.Ytbjjggelgpomhaa

/- Dynamics: levels, the model's. -/
set_option linter.unusedVariables false
set_option linter.unusedSimpArgs false
namespace Go.Proofs.Ytbjjggelgpomhaa
namespace Lo
open Fl Ieee
section
variable {P : Program} {ops : Array Oper} {rest : List Oper} {o : Oper} {a : Act} {Q : Act → Prop} {ds : List Nat}
theorem keeps (ts : List Nat) (vs : List Value) (hv : ts.map (fun t => a.tmps.getD t undef) = vs) (ht : ts.all (fun t => !ds.contains t) = true) (b : Act) (h : AR (fun i => ds.contains i) a b) : (ts.map Operand.tmp).map b.eval = vs := by
  subst hv
  rw [List.map_map]
  refine List.map_congr_left fun t hm => ?_
  have h1 := List.all_eq_true.1 ht t hm
  exact (h.2.2 t).2 (by simpa using h1)
/-- a call of a Go function, of nothing that the statement computes, which gives a float -/
theorem wpL_callF {w : World} (hg : o.guard = none) (f : FuncId) (ys : List Operand) (vs : List Value) (tys : Array TypeId) (hop : o.op = Op.call ⟨.value (.func f), ys.toArray, tys⟩) (hd : ∀ d, o.dst = some d → ds.contains d = true)
    (henter : ∀ args w2, (callFunc f args).run P w2 = .ok (.enter f args) w2)
    (k2 : FloatKind) (F : Option Nat) (hys : ∀ b, AR (fun i => ds.contains i) a b → ys.map b.eval = vs)
    (hc : ∀ m, Calls P f vs.toArray (w.drewN m) fun e w2 => ∃ r n, e = .returned (.float k2 r) ∧ Fv k2 r F ∧ w2 = w.drewN n)
    (hex : ∃ r, Fv k2 r F)
    (hK : ∀ r, RowKit.Hid (Fv k2 r F) → wpL P ops (fun v => ∃ n, v = w.drewN n) (fun i => ds.contains i) Q rest (a.put o.dst (.float k2 r))) :
    wpL P ops (fun v => ∃ n, v = w.drewN n) (fun i => ds.contains i) Q (o :: rest) a := by
  obtain ⟨r, hr⟩ := hex
  refine wpL_of_loose hg (fun b hab w2 hw => ?_) (hK r hr)
  have e : (execOp b.eval o).run P w2 = .ok (.enter f vs.toArray) w2 := by
    have h1 := hys b hab
    have ef : b.eval (.func f) = .func (.func f) #[] #[] := rfl
    simp [execOp, hop, resolve, ef, h1, invoke, Deferred.ofValue, henter, Result.andThen]
  rw [e]
  obtain ⟨m, rfl⟩ := hw
  refine ⟨⟨m, rfl⟩, (hc m).mono fun e2 w3 ⟨r2, n, he, hr2, hw3⟩ => ⟨_, he, ⟨.inr ⟨k2, r, r2, rfl, rfl, hr.1, hr2.1, by rw [hr.2, hr2.2]⟩, fun d hd2 hf2 => by have := hd d hd2; simp_all⟩, n, hw3⟩⟩
end
end Lo
open Fl Go.RowKit
theorem FolAt.drewN {w : World} {g a r l : Nat} (h : FolAt w g a r l) (m : Nat) : FolAt (w.drewN m) g a r l := ⟨h.lt, h.a, h.r, h.l⟩
theorem _root_.Go.Proofs.Ytbjjggelgpomhaa.Fl.Gs.onLow {T : TypeId} {w w' : World} {lo n g : Nat} {A : Option Addr} {xs : List Nat} (h : Gs T w lo A n xs) (o : On g w w') (hd : g < lo) : Gs T w' lo A n xs :=
  ⟨h.1, h.2.1, fun hn => by
    obtain ⟨b, cs, e, hb, hh, hc⟩ := h.2.2 hn
    exact ⟨b, cs, e, hb, (o.2 b (Array.getElem?_eq_some_iff.1 hh).1 (by omega)).trans hh, hc⟩⟩
theorem blk_keep {w : World} {b : Nat} (o : Obj) (h : b < w.heap.size) : (w.alloc o).heap[b]? = w.heap[b]? := ((World.Since.refl w.heap.size w).alloc (Nat.le_refl _) o).block b h
structure FolN where
  a : Nat
  r : Nat
  l : Nat
structure Fol where
  a : O
  r : O
  l : O
def FolN.val (d : FolN) : Value := .agg #[.float .f32 d.a, .float .f32 d.r, .float .f32 d.l]
structure FvFol (d : FolN) (D : Fol) : Prop where
  a : Hid (Fv .f32 d.a D.a)
  r : Hid (Fv .f32 d.r D.r)
  l : Hid (Fv .f32 d.l D.l)
def PLFB (n0 : Nat) (f0 : Nat → Option Nat) (S : Fol) (b : Bool) (w : World) (e : Ending) (w' : World) : Prop :=
  ∃ (p : Ls) (c : Nat) (s : FolN), e = .returned (.tuple #[.slice p.A p.n c, s.val, .bool b]) ∧ p.n = n0 ∧ Gs 22 w' w.heap.size p.A p.n p.xs ∧ Are p f0 ∧ FvFol s S ∧ w.Since w.heap.size w'
def levO (D : Fol) (X : Nat → O) : Nat → O
  | 0 => D.l
  | k + 1 => folO D.a D.r (levO D X k) (X k)
theorem folO_ex {A R L X : O} {a r l x : Nat} (ha : Hid (Fv .f32 a A)) (hr : Hid (Fv .f32 r R)) (hl : Hid (Fv .f32 l L)) (hx : Hid (Fv .f32 x X)) : ∃ q, Fv .f32 q (folO A R L X) := by
  unfold folO
  obtain ⟨d, hd⟩ := Lo.fv_ex (op := .sub) rfl .f32 _ _ _ _ (sizeN_fv hx).out hl.out
  cases gtO (sizeO X) L
  · obtain ⟨p, hp⟩ := Lo.fv_ex (op := .mul) rfl .f32 _ _ _ _ hr.out hd
    obtain ⟨s, hs⟩ := Lo.fv_ex (op := .add) rfl .f32 _ _ _ _ hl.out hp
    exact ⟨_, flushN_fv hs⟩
  · obtain ⟨p, hp⟩ := Lo.fv_ex (op := .mul) rfl .f32 _ _ _ _ ha.out hd
    obtain ⟨s, hs⟩ := Lo.fv_ex (op := .add) rfl .f32 _ _ _ _ hl.out hp
    exact ⟨_, flushN_fv hs⟩
end Go.Proofs.Ytbjjggelgpomhaa

/- Loose regions whose callees make memory: worlds that grow. -/
set_option linter.unusedVariables false
set_option linter.unusedSimpArgs false
namespace Go.Proofs.Ytbjjggelgpomhaa
namespace Lo
open Fl Ieee
/-- a world with more blocks behind, and some draws -/
def mkW (w : World) (hs : Array Obj) (d : Nat) : World := { w with heap := w.heap ++ hs, drawn := d }
@[go_sem] theorem mkW_drewN (w : World) (hs : Array Obj) (d m : Nat) : (mkW w hs d).drewN m = mkW w hs (d + m) := rfl
theorem mkW_self (w : World) (d : Nat) : { w with drawn := d } = mkW w #[] d := by simp [mkW]
theorem mkW_since (w : World) (hs : Array Obj) (d : Nat) : w.Since w.heap.size (mkW w hs d) :=
  ⟨rfl, rfl, rfl, by simp [mkW], fun k hk => by simp [mkW, Array.getElem?_append_left hk]⟩
theorem sinceG {w v : World} {hs : Array Obj} {d : Nat} (h : mkW w hs d = v) : w.Since w.heap.size v := h ▸ mkW_since w hs d
theorem mkW_of {w v : World} (h : w.Since w.heap.size v) : ∃ hs d, v = mkW w hs d := by
  refine ⟨v.heap.extract w.heap.size v.heap.size, v.drawn, ?_⟩
  obtain ⟨h1, h2, h3, h4, h5⟩ := h
  obtain ⟨vh, vt, vd, vo, vp⟩ := v
  simp only at h1 h2 h3 h4 h5
  unfold mkW
  simp only [h1, h2, h3, World.mk.injEq, and_true, true_and]
  apply Array.ext_getElem?
  intro i
  by_cases hi : i < w.heap.size
  · rw [Array.getElem?_append_left hi, h5 i hi]
  · rw [Array.getElem?_append_right (by omega), Array.getElem?_extract]
    by_cases hj : i < vh.size
    · rw [if_pos (by omega)]; congr 1; omega
    · rw [if_neg (by omega), Array.getElem?_eq_none (by omega)]
theorem mkW_mkW {w v v2 : World} (h : ∃ hs d, v = mkW w hs d) (h2 : v.Since v.heap.size v2) : ∃ hs d, v2 = mkW w hs d := by
  obtain ⟨hs, d, rfl⟩ := h
  exact mkW_of (since_step (mkW_since w hs d) h2)
theorem cell_mkW {w : World} {hs : Array Obj} {d b o : Nat} (hb : b < w.heap.size) : (mkW w hs d).cell? ⟨b, o, none⟩ = w.cell? ⟨b, o, none⟩ := (mkW_since w hs d).cell (a := ⟨b, o, none⟩) hb
def VRs : List Value → List Value → Prop
  | [], us => us = []
  | v :: vs, us => ∃ u us', us = u :: us' ∧ VR v u ∧ VRs vs us'
theorem VR_int {k : IntKind} {n : Int} {u : Value} (h : VR (.int k n) u) : u = .int k n := by
  rcases h with rfl | ⟨_, _, _, e, _⟩
  · rfl
  · cases e
theorem VR_bool {n : Bool} {u : Value} (h : VR (.bool n) u) : u = .bool n := by
  rcases h with rfl | ⟨_, _, _, e, _⟩
  · rfl
  · cases e
theorem VR_ptr {n : Option Addr} {u : Value} (h : VR (.pointer n) u) : u = .pointer n := by
  rcases h with rfl | ⟨_, _, _, e, _⟩
  · rfl
  · cases e
theorem VR_agg {n : Array Value} {u : Value} (h : VR (.agg n) u) : u = .agg n := by
  rcases h with rfl | ⟨_, _, _, e, _⟩
  · rfl
  · cases e
section
variable {P : Program} {ops : Array Oper} {rest : List Oper} {o : Oper} {a : Act} {Q : Act → Prop} {ds : List Nat}
theorem wp_looseG_tail {P : Program} {id : Nat} {Q : Exit → Act → World → Prop} {a : Act} {w : World} {l : List Oper} (ds : List Nat) (n : Nat) (hm : P.follows .mixedOrders = true) (hB : Region.lexTailB .any l.toArray n = true)
    (h : wpL P l.toArray (fun v => ∃ hs d, v = mkW w hs d) (fun i => ds.contains i) (fun a2 => ∀ hs d, After ds a2 fun b _ => wpList P l.toArray Q (l.drop n) b (mkW w hs d)) (l.take n) a) : (Code.region id l.toArray true).wp P Q a w := by
  simp only [Region.lexTailB, Bool.and_eq_true, decide_eq_true_eq] at hB
  obtain ⟨⟨⟨⟨hsel, hn⟩, hs⟩, hc⟩, hlex⟩ := hB
  have hn2 : n < l.length := by simpa using hn
  have htl : (l.take n).length = n := by simp; omega
  have hdl : (l.drop n).length = l.toArray.size - n := by simp
  have inv0 : HeadInv .any l.toArray n (Array.replicate l.toArray.size false) :=
    ⟨by simp, fun j oj _ hl => (by rw [getD_replicate_false] at hl; cases hl), fun t _ ht => getD_in (by simpa using ht) (getD_replicate_false _ _)⟩
  have H := anyM_text (md := .any) (g := l.toArray.size - n) hsel hs hc hn (l.take n) 0 _ a (fun j hj => by
    have hj2 : j < n := by rw [htl] at hj; exact hj
    simp [hj2]) (by simpa using htl) inv0 (by rw [htl]; exact hlex) h
  refine wp_region_any hm ?_
  have := wpAny_of_anyM (Q2 := Q) (g := l.toArray.size - n) (fun listed a2 b w2 hw hab hL => by
    obtain ⟨hs2, d2, rfl⟩ := hw
    have := wpAny_of_seq (md := .any) (Q' := Q) (l.drop n) n listed b (mkW w hs2 d2) (fun j => by simp [List.getElem?_drop]) (by rw [hdl]; exact hL.1) (hL.2 hs2 d2 b hab 0)
    rwa [hdl] at this) _ _ a a { w with drawn := w.drawn + 1 } ⟨#[], _, mkW_self w _⟩ (AR.refl _ _) H
  rw [htl, show n + (l.toArray.size - n) = l.toArray.size by omega] at this
  exact this
theorem wp_looseG_all {P : Program} {id : Nat} {Q : Exit → Act → World → Prop} {a : Act} {w : World} {l : List Oper} (ds : List Nat) (hm : P.follows .mixedOrders = true) (hB : Region.lexB .any l.toArray = true)
    (h : wpL P l.toArray (fun v => ∃ hs d, v = mkW w hs d) (fun i => ds.contains i) (fun a2 => ∀ hs d, After ds a2 fun b _ => Q .normal b (mkW w hs d)) l a) : (Code.region id l.toArray true).wp P Q a w := by
  simp only [Region.lexB, Bool.and_eq_true] at hB
  refine wp_region_any hm (wpAny_of_anyL (C := fun v => ∃ hs d, v = mkW w hs d) (D := fun i => ds.contains i) (Q := fun a2 => ∀ hs d, After ds a2 fun b _ => Q .normal b (mkW w hs d))
    (fun a b w2 hw hab hq => by obtain ⟨hs, d, rfl⟩ := hw; exact hq hs d b hab 0) _ _ a a _ ⟨#[], _, mkW_self w _⟩ (AR.refl _ _) ?_)
  have := anyL_text (P := P) (C := fun v => ∃ hs d, v = mkW w hs d) (D := fun i => ds.contains i) (md := .any) hB.1 l 0 (Array.replicate l.length false) a (by simp) (by simpa using hB.2) h
  simpa using this
theorem wpG_fop {C : World → Prop} (hC : ∀ v m, C v → C (v.drewN m)) {op : BinOp} (hg : o.guard = none) (t t2 : TypeId) (x y : Operand) (hop : o.op = Op.binOp op t x y t2) (hf : isF op = true) (hd : ∀ d, o.dst = some d → ds.contains d = true) (k : FloatKind) (p q : Nat) (u v : Option Nat)
    (hx : a.eval x = .float k p) (hy : a.eval y = .float k q) (hp : RowKit.Hid (Fv k p u)) (hq : RowKit.Hid (Fv k q v))
    (hK : ∀ r, RowKit.Hid (Fv k r (opO op k u v)) → wpL P ops C (fun i => ds.contains i) Q rest (a.put o.dst (.float k r))) :
    wpL P ops C (fun i => ds.contains i) Q (o :: rest) a := by
  obtain ⟨r, hr⟩ := fv_ex hf k u v p q hp hq
  refine wpL_of_loose hg (fun b hab w2 hw => ?_) (hK r hr)
  obtain ⟨p2, e1, hp2⟩ := VR_fl hp (by rw [← hx]; exact eval_AR hab x)
  obtain ⟨q2, e2, hq2⟩ := VR_fl hq (by rw [← hy]; exact eval_AR hab y)
  have he : eqGuard op t x y (.float k p2) (.float k q2) = pure () := by
    rcases isF_of hf with rfl | rfl | rfl | rfl <;> rfl
  have e : (execOp b.eval o).run P w2 = .ok (.value (.float k (ov op k p2 q2 w2))) (w2.drewN (on op k p2 q2)) := by
    simp [execOp, hop, e1, e2, he, run_fopE (P := P) hf t k p2 q2 w2, Result.andThen]
  rw [e]
  have h2 := ov_fv hf k p2 q2 w2
  rw [hp2.2, hq2.2] at h2
  exact ⟨hC _ _ hw, .inr ⟨k, r, _, rfl, rfl, hr.1, h2.1, by rw [hr.2, h2.2]⟩, fun d hd2 hf2 => by have := hd d hd2; simp_all⟩
theorem drewG {w v : World} (m : Nat) (h : ∃ hs d, v = mkW w hs d) : ∃ hs d, v.drewN m = mkW w hs d := by
  obtain ⟨hs, d, rfl⟩ := h
  exact ⟨hs, d + m, rfl⟩
/-- a call of a Go function whose arguments the statement may have computed -/
theorem wpG_callV {C : World → Prop} (hg : o.guard = none) (f : FuncId) (xs : List Operand) (vs : List Value) (tys : Array TypeId) (hop : o.op = Op.call ⟨.value (.func f), xs.toArray, tys⟩) (hd : ∀ d, o.dst = some d → ds.contains d = true)
    (henter : ∀ args w2, (callFunc f args).run P w2 = .ok (.enter f args) w2)
    (k2 : FloatKind) (F : Option Nat) (hxs : xs.map a.eval = vs)
    (hc : ∀ us, VRs vs us → ∀ v, C v → Calls P f us.toArray v fun e v2 => ∃ r, e = .returned (.float k2 r) ∧ Fv k2 r F ∧ C v2)
    (hex : ∃ r, Fv k2 r F)
    (hK : ∀ r, RowKit.Hid (Fv k2 r F) → wpL P ops C (fun i => ds.contains i) Q rest (a.put o.dst (.float k2 r))) :
    wpL P ops C (fun i => ds.contains i) Q (o :: rest) a := by
  obtain ⟨r, hr⟩ := hex
  refine wpL_of_loose hg (fun b hab w2 hw => ?_) (hK r hr)
  have hus : VRs vs (xs.map b.eval) := by
    subst hxs
    clear hop hc
    induction xs with
    | nil => exact rfl
    | cons x xs ih => exact ⟨_, _, rfl, eval_AR hab x, ih⟩
  have e : (execOp b.eval o).run P w2 = .ok (.enter f (xs.map b.eval).toArray) w2 := by
    have ef : b.eval (.func f) = .func (.func f) #[] #[] := rfl
    simp [execOp, hop, resolve, ef, invoke, Deferred.ofValue, henter, Result.andThen]
  rw [e]
  exact ⟨hw, (hc _ hus w2 hw).mono fun e2 w3 ⟨r2, he, hr2, hw3⟩ => ⟨_, he, ⟨.inr ⟨k2, r, r2, rfl, rfl, hr.1, hr2.1, by rw [hr.2, hr2.2]⟩, fun d hd2 hf2 => by have := hd d hd2; simp_all⟩, hw3⟩⟩
theorem wpL_loadRow {C : World → Prop} (hg : o.guard = none) (ty : TypeId) (x : Operand) (hop : o.op = .load ty x) (ho : avoid ds o = true) (b off : Nat) (hx : a.eval x = .pointer (some ⟨b, off, none⟩)) (cs : List Value) (d : TypeDesc)
    (hu : P.underlying ty = some d) (hd : d.isRow = true) (hi : (P.info? ty).map (·.size) = some cs.length) (hS : ∀ v, C v → v.rangeAt b off cs)
    (hK : wpL P ops C (fun i => ds.contains i) Q rest (a.put o.dst (.agg cs.toArray))) : wpL P ops C (fun i => ds.contains i) Q (o :: rest) a := by
  refine wpL_of_loose hg (fun b' hab w hw => ?_) hK
  rw [eval_avoid hab ho]
  have e : (execOp a.eval o).run P w = .ok (.value (.agg cs.toArray)) w := by
    unfold execOp
    simp only [hop, hx, Instr.loadAt, Instr.sureAddr, Sem.run_bind, Sem.run_pure, Result.andThen_ok, run_loadVar_mid w b off ty cs d (hS w hw) hu hd hi]
  rw [e]
  exact ⟨hw, okv.refl ..⟩
theorem range_since {w v : World} {B b off : Nat} {cs : List Value} (h : w.rangeAt b off cs) (s : w.Since B v) (hb : b < B) : v.rangeAt b off cs := fun j x hj => (s.cell (a := ⟨b, off + j, none⟩) hb).trans (h j x hj)
/-- a call of known arguments that gives one value -/
theorem wpG_callQ {C : World → Prop} (hg : o.guard = none) (f : FuncId) (xs : List Operand) (vs : List Value) (tys : Array TypeId) (hop : o.op = Op.call ⟨.value (.func f), xs.toArray, tys⟩) (ho : avoid ds o = true)
    (henter : ∀ args w2, (callFunc f args).run P w2 = .ok (.enter f args) w2) (hxs : xs.map a.eval = vs) (val : Value)
    (hc : ∀ v, C v → Calls P f vs.toArray v fun e v2 => e = .returned val ∧ C v2)
    (hK : wpL P ops C (fun i => ds.contains i) Q rest (a.put o.dst val)) : wpL P ops C (fun i => ds.contains i) Q (o :: rest) a := by
  refine wpL_of_loose hg (fun b hab w2 hw => ?_) hK
  rw [eval_avoid hab ho]
  have e : (execOp a.eval o).run P w2 = .ok (.enter f vs.toArray) w2 := by
    have ef : a.eval (.func f) = .func (.func f) #[] #[] := rfl
    subst hxs
    simp [execOp, hop, resolve, ef, invoke, Deferred.ofValue, henter, Result.andThen]
  rw [e]
  exact ⟨hw, (hc w2 hw).mono fun e2 w3 ⟨he, hw3⟩ => ⟨_, he, okv.refl .., hw3⟩⟩
theorem wpL_load1 {C : World → Prop} (hg : o.guard = none) (ty : TypeId) (x : Operand) (hop : o.op = .load ty x) (ho : avoid ds o = true) (p : Addr) (hx : a.eval x = .pointer (some p)) (val : Value)
    (hS : ∀ v, C v → (loadVar ty p).run P v = .ok val v)
    (hK : wpL P ops C (fun i => ds.contains i) Q rest (a.put o.dst val)) : wpL P ops C (fun i => ds.contains i) Q (o :: rest) a := by
  refine wpL_of_loose hg (fun b' hab w hw => ?_) hK
  rw [eval_avoid hab ho]
  have e : (execOp a.eval o).run P w = .ok (.value val) w := by
    unfold execOp
    simp only [hop, hx, Instr.loadAt, Instr.sureAddr, Sem.run_bind, Sem.run_pure, Result.andThen_ok, hS w hw]
  rw [e]
  exact ⟨hw, okv.refl ..⟩
end
end Lo
end Go.Proofs.Ytbjjggelgpomhaa

/- Voices: levels of envelopes. -/
set_option linter.unusedVariables false
set_option linter.unusedSimpArgs false
namespace Go.Proofs.Ytbjjggelgpomhaa
open Fl Go.RowKit
abbrev o1 : O := some 1065353216
def heldO (a d : Int) (S : O) (n : Int) : O := if n < a then qu (some (fI n)) (some (fI a)) else if n - a < d then su o1 (mu (qu (some (fI (n - a))) (some (fI d))) (su o1 S)) else S
def lvlO (a d : Int) (S : O) (r held n : Int) : O := if n < held then heldO a d S n else if n - held < r then mu (heldO a d S held) (su o1 (qu (some (fI (n - held))) (some (fI r)))) else some 0
def inR (x lo hi : Int) : Prop := lo ≤ x ∧ x ≤ hi
theorem qu_ex (p q : Int) : ∃ r, Fv .f32 r (qu (some (fI p)) (some (fI q))) := Lo.fv_ex (op := .quo) rfl .f32 _ _ _ _ (fI_fv p).out (fI_fv q).out
theorem EnvAt.drewN {w : World} {g : Nat} {e : EnvN} (h : EnvAt w g e) (m : Nat) : EnvAt (w.drewN m) g e := ⟨h.lt, h.a, h.d, h.s, h.r⟩
theorem heldO_ex {s : Nat} {S : O} (a d n : Int) (hS : Hid (Fv .f32 s S)) : ∃ r, Fv .f32 r (heldO a d S n) := by
  unfold heldO
  split
  · exact qu_ex _ _
  · split
    · obtain ⟨q1, h1⟩ := qu_ex (n - a) d
      obtain ⟨q2, h2⟩ := Lo.fv_ex (op := .sub) rfl .f32 _ _ _ _ fv1.out hS.out
      obtain ⟨q3, h3⟩ := Lo.fv_ex (op := .mul) rfl .f32 _ _ _ _ h1 h2
      exact Lo.fv_ex (op := .sub) rfl .f32 _ _ _ _ fv1.out h3
    · exact ⟨s, hS.out⟩
theorem EnvAt.range {w : World} {g : Nat} {e : EnvN} (h : EnvAt w g e) : w.rangeAt g 0 [.int .i64 e.a, .int .i64 e.d, .float .f32 e.s, .int .i64 e.r] := fun j v hj => by
  rw [Nat.zero_add]
  match j, hj with
  | 0, hj => cases hj; exact h.a
  | 1, hj => cases hj; exact h.d
  | 2, hj => cases hj; exact h.s
  | 3, hj => cases hj; exact h.r
theorem EnvAt.load3 {w : World} {g : Nat} {e : EnvN} (h : EnvAt w g e) : (loadVar 2 ⟨g, 3, none⟩).run Try.prog w = .ok (.int .i64 e.r) w := by
  have h3 := h.r
  simp [loadVar, go_sem, h3]
def okLvl (e : EnvN) (held n : Int) : Bool := okEnv e.a e.d e.r && inB held 0 4000 && inB n 0 4000
def lvlR (e : EnvN) (held n : Int) (b : Bool) : O := if b then lvlO e.a e.d (ab .f32 e.s) e.r held n else some 0
theorem inR_of {x lo hi : Int} (h : inB x lo hi = true) : inR x lo hi := by simpa [inB, inR] using h
theorem env_in {e : EnvN} (h : okEnv e.a e.d e.r = true) : inR e.a 0 1000 ∧ inR e.d 0 1000 ∧ inR e.r 0 1000 := by
  simp only [okEnv, Bool.and_eq_true] at h
  exact ⟨inR_of h.1.1, inR_of h.1.2, inR_of h.2⟩
theorem allowB (a b x : Int) (bb : Bool) (w : World) (h : inB x a b = bb) :
    Calls Try.prog 26 #[.agg #[.int .i64 a, .int .i64 b], .int .i64 x] w fun e w' => e = .returned (.bool bb) ∧ w.alloc (.cells #[.int .i64 a, .int .i64 b] 56) = w' := by subst h; exact allowX_any a b x w
end Go.Proofs.Ytbjjggelgpomhaa

/- Voices: kinds of waves, oscillators that are valid. -/
set_option linter.unusedVariables false
set_option linter.unusedSimpArgs false
namespace Go.Proofs.Ytbjjggelgpomhaa
open Fl Go.RowKit
def turnB (x : O) : Bool := geO x (some 0) && ltO x (some 1065353216)
theorem turnB_of {X : O} {b1 b2 b3 : Bool} (h1 : gtO X (some 0) = b1) (h2 : eqO X (some 0) = b2) (h3 : ltO X (some 1065353216) = b3) : turnB X = ((b1 || b2) && b3) := by unfold turnB geO; rw [h1, h2, h3]
theorem specTurn_b (x : Nat) (X : O) (b : Bool) (w : World) (hx : Hid (Fv .f32 x X)) (h : turnB X = b) : Calls Try.prog 21 #[.float .f32 x] w fun e w' => e = .returned (.bool b) ∧ w = w' := by
  subst h
  have g1 := gt_fv hx fv0
  have g2 := eq_fv hx fv0
  have g3 := lt_fv hx fv1
  cases e1 : gtO X (some 0) <;> cases e2 : eqO X (some 0) <;> cases e3 : ltO X (some 1065353216)
  all_goals
    rw [turnB_of e1 e2 e3]
    rw [e1] at g1; rw [e2] at g2; rw [e3] at g3
    go_enter Try.func21, Try.ntmps21
    go_wp2
    go_ret
    exact ⟨rfl, rfl⟩
theorem implPhase_b (x : Nat) (X : O) (b : Bool) (w : World) (hx : Hid (Fv .f32 x X)) (h : turnB X = b) : Calls Try.prog 25 #[.float .f32 x] w fun e w' => e = .returned (.bool b) ∧ w = w' := by
  subst h
  have g1 := gt_fv hx fv0
  have g2 := eq_fv hx fv0
  have g3 := lt_fv hx fv1
  cases e1 : gtO X (some 0) <;> cases e2 : eqO X (some 0) <;> cases e3 : ltO X (some 1065353216)
  all_goals
    rw [turnB_of e1 e2 e3]
    rw [e1] at g1; rw [e2] at g2; rw [e3] at g3
    go_enter Try.func25, Try.ntmps25
    go_wp2
    go_ret
    exact ⟨rfl, rfl⟩
theorem specKind_b (k : Int) (b : Bool) (w : World) (h : inB k 0 3 = b) : Calls Try.prog 20 #[.int .i64 k] w fun e w' => e = .returned (.bool b) ∧ w = w' := by
  go_enter Try.func20, Try.ntmps20
  go_wp2_with (go_at_call 22; with_reducible refine (specHold_b k 0 3 _ _ h).mono ?_; rintro e w' ⟨rfl, rfl⟩)
  go_ret
  exact ⟨rfl, rfl⟩
/-- a wave as an interface's value -/
def wavV (k : Int) : Value := if k = 0 then .iface 51 (.agg #[]) else if k = 1 then .iface 52 (.agg #[]) else if k = 2 then .iface 53 (.agg #[]) else .iface 54 (.agg #[])
theorem waveOf_ok (k : Int) (w : World) (h : inB k 0 3 = true) : Calls Try.prog 15 #[.int .i64 k] w fun e w' => e = .returned (.tuple #[wavV k, .bool true]) ∧ w = w' := by
  simp only [inB, Bool.and_eq_true, decide_eq_true_eq] at h
  have h4 : k = 0 ∨ k = 1 ∨ k = 2 ∨ k = 3 := by omega
  clear h
  rcases h4 with rfl | rfl | rfl | rfl
  all_goals
    go_enter Try.func15, Try.ntmps15
    go_wp2
    go_ret2
    exact ⟨rfl, rfl⟩
theorem waveOf_no (k : Int) (w : World) (h : inB k 0 3 = false) : Calls Try.prog 15 #[.int .i64 k] w fun e w' => e = .returned (.tuple #[.nilIface, .bool false]) ∧ w = w' := by
  have h0 : ¬ k = 0 := by rintro rfl; simp [inB] at h
  have h1 : ¬ k = 1 := by rintro rfl; simp [inB] at h
  have h2 : ¬ k = 2 := by rintro rfl; simp [inB] at h
  have h3 : ¬ k = 3 := by rintro rfl; simp [inB] at h
  clear h
  go_enter Try.func15, Try.ntmps15
  go_wp2
  go_ret2
  exact ⟨rfl, rfl⟩
structure OscAt (w : World) (g : Nat) (e : OscN) : Prop where
  lt : g < w.heap.size
  k : w.cell? ⟨g, 0, none⟩ = some (.int .i64 e.k)
  st : w.cell? ⟨g, 1, none⟩ = some (.float .f32 e.st)
  ph : w.cell? ⟨g, 2, none⟩ = some (.float .f32 e.ph)
def oscB (e : OscN) : Obj := .cells #[.int .i64 e.k, .float .f32 e.st, .float .f32 e.ph] 26
theorem OscAt.new (w : World) (e : OscN) : OscAt (w.alloc (oscB e)) w.heap.size e := by unfold oscB; exact ⟨by simp, by simp [go_sem], by simp [go_sem], by simp [go_sem]⟩
theorem OscAt.since {w w' : World} {g B : Nat} {e : OscN} (h : OscAt w g e) (s : w.Since B w') (hg : g < B) : OscAt w' g e :=
  ⟨Nat.lt_of_lt_of_le h.lt s.size, (s.cell (a := ⟨g, 0, none⟩) hg).trans h.k, (s.cell (a := ⟨g, 1, none⟩) hg).trans h.st, (s.cell (a := ⟨g, 2, none⟩) hg).trans h.ph⟩
def okOsc (k : Int) (s p : O) : Bool := inB k 0 3 && turnB s && turnB p
theorem specIs_b (g : Nat) (e : OscN) (S P : O) (b : Bool) (w : World) (hA : OscAt w g e) (hs : Hid (Fv .f32 e.st S)) (hp : Hid (Fv .f32 e.ph P)) (h : okOsc e.k S P = b) :
    Calls Try.prog 11 #[.pointer (some ⟨g, 0, none⟩)] w fun e w' => e = .returned (.bool b) ∧ w = w' := by
  subst h
  obtain ⟨k, s, p⟩ := e
  obtain ⟨_, c0, c1, c2⟩ := hA
  simp only [okOsc] at *
  cases h1 : inB k 0 3 <;> cases h2 : turnB S <;> cases h3 : turnB P
  all_goals
    go_enter Try.func11, Try.ntmps11
    go_wp2_with (first | (go_at_call 20; with_reducible refine (specKind_b k _ _ h1).mono ?_; rintro e w1 ⟨rfl, rfl⟩) | (go_at_call 21; with_reducible refine (specTurn_b s S _ _ hs h2).mono ?_; rintro e w1 ⟨rfl, rfl⟩) | (go_at_call 21; with_reducible refine (specTurn_b p P _ _ hp h3).mono ?_; rintro e w1 ⟨rfl, rfl⟩))
    go_ret
    exact ⟨rfl, rfl⟩
theorem implValidOsc_b (e : OscN) (S P : O) (b : Bool) (w : World) (hs : Hid (Fv .f32 e.st S)) (hp : Hid (Fv .f32 e.ph P)) (h : okOsc e.k S P = b) : Calls Try.prog 16 #[e.val] w (PB b w) := by
  subst h
  obtain ⟨k, s, p⟩ := e
  simp only [OscN.val, okOsc] at *
  cases h1 : inB k 0 3
  · go_enter Try.func16, Try.ntmps16
    go_wp2_with (first | (go_at_call 15; with_reducible refine (waveOf_no k _ h1).mono ?_; rintro e w1 ⟨rfl, rfl⟩))
    go_ret
    exact ⟨rfl, by (repeat (first | (with_reducible refine Fl.sinDrew ?_) | (with_reducible refine World.Since.drew ?_) | (with_reducible refine Fl.sinSet ?_ ?_; rotate_left) | (with_reducible refine Fl.sinAlloc ?_ ?_; rotate_left) | with_reducible exact World.Since.refl _ _ | with_reducible assumption | (with_reducible refine Fl.sinStep (by with_reducible assumption) ?_))); all_goals (first | omega | (simp; done) | (simp; omega) | (simp [go_sem]; done) | (simp [go_sem]; omega))⟩
  · have hw := fun w => waveOf_ok k w h1
    generalize wavV k = V at hw
    cases h2 : turnB S <;> cases h3 : turnB P
    all_goals
      go_enter Try.func16, Try.ntmps16
      go_wp2_with (first | (go_at_call 15; refine (hw _).mono ?_; rintro e w1 ⟨rfl, rfl⟩) | (go_at_call 25; with_reducible refine (implPhase_b s S _ _ hs h2).mono ?_; rintro e w1 ⟨rfl, rfl⟩) | (go_at_call 25; with_reducible refine (implPhase_b p P _ _ hp h3).mono ?_; rintro e w1 ⟨rfl, rfl⟩))
      go_ret
      exact ⟨rfl, by (repeat (first | (with_reducible refine Fl.sinDrew ?_) | (with_reducible refine World.Since.drew ?_) | (with_reducible refine Fl.sinSet ?_ ?_; rotate_left) | (with_reducible refine Fl.sinAlloc ?_ ?_; rotate_left) | with_reducible exact World.Since.refl _ _ | with_reducible assumption | (with_reducible refine Fl.sinStep (by with_reducible assumption) ?_))); all_goals (first | omega | (simp; done) | (simp; omega) | (simp [go_sem]; done) | (simp [go_sem]; omega))⟩
end Go.Proofs.Ytbjjggelgpomhaa

/- The size of a difference. -/
set_option linter.unusedVariables false
set_option linter.unusedSimpArgs false
namespace Go.Proofs.Ytbjjggelgpomhaa
namespace Fl
open Ieee
/-- THE SIZE OF A DIFFERENCE, bounded by that of a sum of numbers without sign -/
theorem sub_size (k : FloatKind) {x y c d : Nat} (hx : Fin k x) (hy : Fin k y) (hc : Fin k c) (hd : Fin k d) (sc : sgn k c = false) (sd : sgn k d = false) (h1 : rung k x ≤ rung k c) (h2 : rung k y ≤ rung k d) :
    ∃ r t, floatBits .sub k x y = some r ∧ floatBits .add k c d = some t ∧ rung k r ≤ rung k t := by
  obtain ⟨m, e, hm, hz⟩ := read_fin k hx
  obtain ⟨n, f, hn, hz2⟩ := read_fin k hy
  obtain ⟨M, E, hM, hZ⟩ := read_fin k hc
  obtain ⟨N', F, hN, hZ2⟩ := read_fin k hd
  rw [sc] at hM
  rw [sd] at hN
  simp only [floatBits, Format.sub, Format.add, hm, hn, hM, hN, Datum.opposite, Datum.sum, Option.map_some]
  refine ⟨_, _, rfl, rfl, ?_⟩
  refine nearest_mono k _ _ (b := k.format.leastPlace) (by omega) (by omega) (by omega) ?_
  have e1 : (min (k.format.leastPlace + (e : Int)) (k.format.leastPlace + (f : Int)) - k.format.leastPlace).toNat = min e f := by omega
  have e2 : (min (k.format.leastPlace + (E : Int)) (k.format.leastPlace + (F : Int)) - k.format.leastPlace).toNat = min E F := by omega
  have e3 : (k.format.leastPlace + (e : Int) - min (k.format.leastPlace + (e : Int)) (k.format.leastPlace + (f : Int))).toNat = e - min e f := by omega
  have e4 : (k.format.leastPlace + (f : Int) - min (k.format.leastPlace + (e : Int)) (k.format.leastPlace + (f : Int))).toNat = f - min e f := by omega
  have e5 : (k.format.leastPlace + (E : Int) - min (k.format.leastPlace + (E : Int)) (k.format.leastPlace + (F : Int))).toNat = E - min E F := by omega
  have e6 : (k.format.leastPlace + (F : Int) - min (k.format.leastPlace + (E : Int)) (k.format.leastPlace + (F : Int))).toNat = F - min E F := by omega
  rw [e1, e2, e3, e4, e5, e6]
  have sgd : ∀ (s : Bool) (a u : Nat), signed s a u = sg s (a * 2 ^ u) := by intro s a u; simp only [signed, sg, Nat.shiftLeft_eq]
  rw [sgd, sgd, sgd, sgd]
  have a1 := sum_abs (sgn k x) (!sgn k y) (m * 2 ^ (e - min e f)) (n * 2 ^ (f - min e f))
  have a2 : (sg false (M * 2 ^ (E - min E F)) + sg false (N' * 2 ^ (F - min E F))).natAbs = M * 2 ^ (E - min E F) + N' * 2 ^ (F - min E F) := sum_pos _ _
  rw [a2]
  have b1 := Nat.mul_le_mul_right (2 ^ min e f) a1
  rw [Nat.add_mul, Nat.mul_assoc, Nat.mul_assoc, ← Nat.pow_add, ← Nat.pow_add, Nat.sub_add_cancel (Nat.min_le_left ..), Nat.sub_add_cancel (Nat.min_le_right ..), ← hz, ← hz2] at b1
  rw [Nat.add_mul, Nat.mul_assoc, Nat.mul_assoc, ← Nat.pow_add, ← Nat.pow_add, Nat.sub_add_cancel (Nat.min_le_left ..), Nat.sub_add_cancel (Nat.min_le_right ..), ← hZ, ← hZ2]
  have c1 := (zv_le k).2 h1
  have c2 := (zv_le k).2 h2
  omega
end Fl
end Go.Proofs.Ytbjjggelgpomhaa

/- Sines of phases: both sides. -/
set_option linter.unusedVariables false
set_option linter.unusedSimpArgs false
namespace Go.Proofs.Ytbjjggelgpomhaa
open Fl Go.RowKit Ieee
theorem cutz (s : Bool) (n d : Nat) (h : n < 2 ^ d) : Toward.zero.cut s n d = 0 := by
  unfold Toward.cut
  dsimp only
  rw [Nat.shiftLeft_eq, Nat.one_mul]
  rw [Nat.div_eq_of_lt ?_]
  · rfl
  · rcases Nat.le_total d (n.log2 + 2) with h1 | h1
    · rw [Nat.min_eq_left h1]; exact h
    · rw [Nat.min_eq_right h1]
      exact Nat.lt_trans Nat.lt_log2_self (Nat.pow_lt_pow_right (by decide) (by omega))
theorem toInt_small {y : Nat} (h : rung .f64 y < rung .f64 cOne) : floatToIntVal .f64 y .i64 = some 0 := by
  have hf : rung .f64 y < FloatKind.f64.format.infRung := Nat.lt_trans h (by decide)
  obtain ⟨m, e, hr, hz⟩ := read_fin .f64 hf
  obtain ⟨D, hD⟩ : ∃ D : Nat, D = 1074 := ⟨_, rfl⟩
  have h1 : zv .f64 (rung .f64 cOne) = 2 ^ D := by rw [hD]; decide +kernel
  have h2 : FloatKind.f64.format.leastPlace = -(D : Int) := by rw [hD]; decide
  have h3 : m * 2 ^ e < 2 ^ D := by rw [← hz, ← h1]; exact (zv_lt .f64).2 h
  clear hD h1
  have hd : FloatKind.f64.decode y = .number (sgn .f64 y) m (-(D : Int) + e) := by rw [← h2]; exact hr
  have hi : (Datum.number (sgn .f64 y) m (-(D : Int) + e)).toInt .zero = some 0 := by
    unfold Datum.toInt Datum.integral
    dsimp only
    have hc : Toward.zero.cut (sgn .f64 y) (m <<< (-(D : Int) + e).toNat) (-(-(D : Int) + e)).toNat = 0 := by
      refine cutz _ _ _ ?_
      rw [Nat.shiftLeft_eq]
      rcases Nat.le_total e D with h4 | h4
      · rw [show (-(D : Int) + e).toNat = 0 by omega, show (-(-(D : Int) + e)).toNat = D - e by omega, Nat.pow_zero, Nat.mul_one]
        have h5 : 2 ^ D = 2 ^ (D - e) * 2 ^ e := by rw [← Nat.pow_add]; congr 1; omega
        rw [h5] at h3
        exact Nat.lt_of_mul_lt_mul_right h3
      · have h5 : 2 ^ D ≤ 2 ^ e := Nat.pow_le_pow_right (by decide) h4
        have h6 : m = 0 := by
          rcases Nat.eq_zero_or_pos m with h6 | h6
          · exact h6
          · have := Nat.le_mul_of_pos_left (2 ^ e) h6
            omega
        subst h6
        rw [Nat.zero_mul]
        exact Nat.two_pow_pos _
    rw [hc]
    simp [signed]
  unfold floatToIntVal
  rw [hd, hi]
  rfl
def p2 (k : Nat) : Nat := (1023 + k) * 4503599627370496
theorem mulC {x y c d M : Nat} (hx : rung .f64 x ≤ rung .f64 c) (hy : rung .f64 y ≤ rung .f64 d) (hc : Fin .f64 c) (hd : Fin .f64 d) (hM : (floatBits .mul .f64 c d).map (fun m => decide (rung .f64 m ≤ rung .f64 M)) = some true) : ∃ m, opO .mul .f64 (some x) (some y) = some m ∧ rung .f64 m ≤ rung .f64 M := by
  obtain ⟨m, m', hm, hm', hle⟩ := mul_size .f64 (Nat.lt_of_le_of_lt hx hc) (Nat.lt_of_le_of_lt hy hd) hc hd hx hy
  rw [hm'] at hM
  exact ⟨m, hm, Nat.le_trans hle (by simpa using hM)⟩
theorem addC {x y c d M : Nat} (hx : rung .f64 x ≤ rung .f64 c) (hy : rung .f64 y ≤ rung .f64 d) (hc : Fin .f64 c) (hd : Fin .f64 d) (sc : sgn .f64 c = false) (sd : sgn .f64 d = false) (hM : (floatBits .add .f64 c d).map (fun m => decide (rung .f64 m ≤ rung .f64 M)) = some true) : ∃ m, opO .add .f64 (some x) (some y) = some m ∧ rung .f64 m ≤ rung .f64 M := by
  obtain ⟨m, m', hm, hm', hle⟩ := add_size .f64 (Nat.lt_of_le_of_lt hx hc) (Nat.lt_of_le_of_lt hy hd) hc hd sc sd hx hy
  rw [hm'] at hM
  exact ⟨m, hm, Nat.le_trans hle (by simpa using hM)⟩
theorem subC {x y c d M : Nat} (hx : rung .f64 x ≤ rung .f64 c) (hy : rung .f64 y ≤ rung .f64 d) (hc : Fin .f64 c) (hd : Fin .f64 d) (sc : sgn .f64 c = false) (sd : sgn .f64 d = false) (hM : (floatBits .add .f64 c d).map (fun m => decide (rung .f64 m ≤ rung .f64 M)) = some true) : ∃ m, opO .sub .f64 (some x) (some y) = some m ∧ rung .f64 m ≤ rung .f64 M := by
  obtain ⟨m, m', hm, hm', hle⟩ := sub_size .f64 (Nat.lt_of_le_of_lt hx hc) (Nat.lt_of_le_of_lt hy hd) hc hd sc sd hx hy
  rw [hm'] at hM
  exact ⟨m, hm, Nat.le_trans hle (by simpa using hM)⟩
theorem divC {x y c : Nat} (hx : rung .f64 x ≤ rung .f64 c) (hc : Fin .f64 c) (hy : rung .f64 cOne ≤ rung .f64 y) (hf : Fin .f64 y) : ∃ q, opO .quo .f64 (some x) (some y) = some q ∧ rung .f64 q ≤ rung .f64 c := by
  refine div_size .f64 (x := x) (y := y) (t := c) (Nat.lt_of_le_of_lt hx hc) hf hc (by
    have : 0 < rung .f64 cOne := by decide
    omega) 1074 (by decide) ?_
  have e1 := (zv_le .f64).2 hy
  rw [show zv .f64 (rung .f64 cOne) = 2 ^ 1074 by decide +kernel] at e1
  exact Nat.mul_le_mul ((zv_le .f64).2 hx) e1
def sinK (i : Nat) : Int := ((2 * (8 - i) * (2 * (8 - i) + 1) : Nat) : Int)
def sinP (u : O) : Nat → O
  | 0 => some cOne
  | i + 1 => opO .sub .f64 (some cOne) (opO .quo .f64 (opO .mul .f64 u (sinP u i)) (some (floatOfInt .f64 (sinK i))))
theorem sinW : ∀ i < 8, (floatBits .mul .f64 (p2 10) (p2 (11 * i))).map (fun m => decide (rung .f64 m ≤ rung .f64 (p2 (11 * i + 10)))) = some true ∧ (floatBits .add .f64 cOne (p2 (11 * i + 10))).map (fun m => decide (rung .f64 m ≤ rung .f64 (p2 (11 * (i + 1))))) = some true
    ∧ rung .f64 (p2 (11 * i)) < FloatKind.f64.format.infRung ∧ rung .f64 (p2 (11 * i + 10)) < FloatKind.f64.format.infRung ∧ sgn .f64 (p2 (11 * i + 10)) = false ∧ rung .f64 (floatOfInt .f64 (sinK i)) < FloatKind.f64.format.infRung ∧ rung .f64 cOne ≤ rung .f64 (floatOfInt .f64 (sinK i)) := by decide +kernel
theorem sinP_size {u : Nat} (h : rung .f64 u ≤ rung .f64 (p2 10)) : ∀ i, i ≤ 8 → ∃ p, sinP (some u) i = some p ∧ rung .f64 p ≤ rung .f64 (p2 (11 * i))
  | 0, _ => ⟨cOne, rfl, by decide⟩
  | i + 1, hi => by
    obtain ⟨p, hp, hb⟩ := sinP_size h i (by omega)
    obtain ⟨w1, w2, w3, w4, w5, w6, w7⟩ := sinW i (by omega)
    obtain ⟨m, hm, hmb⟩ := mulC h hb (by decide : rung .f64 (p2 10) < _) w3 w1
    obtain ⟨q, hq, hqb⟩ := divC hmb w4 w7 w6
    obtain ⟨r, hr, hrb⟩ := subC (c := cOne) (Nat.le_refl (rung .f64 cOne)) hqb (by decide : rung .f64 cOne < _) w4 (by decide) w5 w2
    refine ⟨r, ?_, hrb⟩
    unfold sinP
    rw [hp, hm, hq, hr]
def ser (z : O) : O := opO .mul .f64 z (sinP (opO .mul .f64 z z) 8)
theorem ser_size {z : Nat} (h : rung .f64 z ≤ rung .f64 (p2 5)) : ∃ r, ser (some z) = some r ∧ rung .f64 r ≤ rung .f64 w100 := by
  obtain ⟨u, hu, hub⟩ := mulC (M := p2 10) h h (by decide : rung .f64 (p2 5) < _) (by decide : rung .f64 (p2 5) < _) (by decide +kernel)
  obtain ⟨p, hp, hpb⟩ := sinP_size hub 8 (Nat.le_refl _)
  obtain ⟨r, hr, hrb⟩ := mulC (M := w100) h hpb (by decide : rung .f64 (p2 5) < _) (by decide : rung .f64 (p2 (11 * 8)) < _) (by decide +kernel)
  refine ⟨r, ?_, hrb⟩
  unfold ser
  rw [hu, hp, hr]
def cHalf : Nat := 4602678819172646912
def cQuar : Nat := 4598175219545276416
def c2pi : Nat := 4618760256179416344
def lt64 (a b : O) : Bool := ordO .f64 a b == some .lt
def gt64 (a b : O) : Bool := ordO .f64 a b == some .gt
def eq64 (a b : O) : Bool := ordO .f64 a b == some .eq
def ge64 (a b : O) : Bool := gt64 a b || eq64 a b
def sinF1 (f : O) : O := if lt64 f (some 0) then opO .add .f64 f (some cOne) else f
def sinB (f : O) : Bool := ge64 f (some cHalf)
def sinF2 (f : O) : O := if sinB f then opO .sub .f64 f (some cHalf) else f
def sinF3 (f : O) : O := if gt64 f (some cQuar) then opO .sub .f64 (some cHalf) f else f
def sinS (f1 : O) : O := ser (opO .mul .f64 (sinF3 (sinF2 f1)) (some c2pi))
def sinR (f0 : O) : O := if sinB (sinF1 f0) then (sinS (sinF1 f0)).map (Op.negFloat .f64) else sinS (sinF1 f0)
def w25 : Nat := 4612811918334230528
def w3 : Nat := 4613937818241073152
theorem sinS_size {f : Nat} (h : rung .f64 f ≤ rung .f64 (p2 1)) : ∃ r, sinS (some f) = some r ∧ rung .f64 r ≤ rung .f64 w100 := by
  obtain ⟨a, ha, hab⟩ : ∃ a, sinF2 (some f) = some a ∧ rung .f64 a ≤ rung .f64 w25 := by
    unfold sinF2
    split
    · exact subC h (Nat.le_refl (rung .f64 cHalf)) (by decide : rung .f64 (p2 1) < _) (by decide : rung .f64 cHalf < _) (by decide) (by decide) (by decide +kernel)
    · exact ⟨f, rfl, Nat.le_trans h (by decide)⟩
  obtain ⟨b, hb, hbb⟩ : ∃ b, sinF3 (some a) = some b ∧ rung .f64 b ≤ rung .f64 w3 := by
    unfold sinF3
    split
    · exact subC (Nat.le_refl (rung .f64 cHalf)) hab (by decide : rung .f64 cHalf < _) (by decide : rung .f64 w25 < _) (by decide) (by decide) (by decide +kernel)
    · exact ⟨a, rfl, Nat.le_trans hab (by decide)⟩
  obtain ⟨z, hz, hzb⟩ := mulC (M := p2 5) hbb (Nat.le_refl (rung .f64 c2pi)) (by decide : rung .f64 w3 < _) (by decide : rung .f64 c2pi < _) (by decide +kernel)
  unfold sinS
  rw [ha, hb, hz]
  exact ser_size hzb
theorem sinF1_size {f : Nat} (h : rung .f64 f ≤ rung .f64 cOne) : ∃ a, sinF1 (some f) = some a ∧ rung .f64 a ≤ rung .f64 (p2 1) := by
  unfold sinF1
  split
  · exact addC h (Nat.le_refl (rung .f64 cOne)) (by decide : rung .f64 cOne < _) (by decide : rung .f64 cOne < _) (by decide) (by decide) (by decide +kernel)
  · exact ⟨f, rfl, Nat.le_trans h (by decide)⟩
theorem sinR_size {f : Nat} (h : rung .f64 f ≤ rung .f64 cOne) : ∃ r, sinR (some f) = some r ∧ rung .f64 r ≤ rung .f64 w100 := by
  obtain ⟨a, ha, hab⟩ := sinF1_size h
  obtain ⟨r, hr, hrb⟩ := sinS_size hab
  unfold sinR
  rw [ha, hr]
  split
  · refine ⟨_, rfl, ?_⟩
    unfold rung at *
    rw [neg_mod]; exact hrb
  · exact ⟨r, rfl, hrb⟩
theorem fits_sin {f r : Nat} (h : rung .f64 f ≤ rung .f64 cOne) (hr : Fv .f64 r (sinR (some f))) : Fits .f64 .f32 r := by
  obtain ⟨q, e, hql⟩ := sinR_size h
  have h3 := hr.2
  rw [e] at h3
  obtain rfl := ab_some h3
  exact fits_size hql
end Go.Proofs.Ytbjjggelgpomhaa

/- Sines of phases: the walks. -/
set_option linter.unusedVariables false
set_option linter.unusedSimpArgs false
namespace Go.Proofs.Ytbjjggelgpomhaa
open Fl Go.RowKit Ieee
theorem lt64_fv {p q : Nat} {P Q : O} (hp : Hid (Fv .f64 p P)) (hq : Hid (Fv .f64 q Q)) : (FloatKind.f64.format.order p q == some .lt) = lt64 P Q := by rw [ord_fv hp hq]; rfl
theorem gt64_fv {p q : Nat} {P Q : O} (hp : Hid (Fv .f64 p P)) (hq : Hid (Fv .f64 q Q)) : (FloatKind.f64.format.order p q == some .gt) = gt64 P Q := by rw [ord_fv hp hq]; rfl
theorem eq64_fv {p q : Nat} {P Q : O} (hp : Hid (Fv .f64 p P)) (hq : Hid (Fv .f64 q Q)) : (FloatKind.f64.format.order p q == some .eq) = eq64 P Q := by rw [ord_fv hp hq]; rfl
theorem fv64c {b : Nat} (h : b < 18446744073709551616) (h2 : ab .f64 b = some b) : Hid (Fv .f64 b (some b)) := Lib.hid ⟨h, h2⟩
theorem fq1 : Hid (Fv .f64 4607182418800017408 (some cOne)) := fv64c (by decide) (by rw [ab64]; rfl)
theorem fqh : Hid (Fv .f64 4602678819172646912 (some cHalf)) := fv64c (by decide) (by rw [ab64]; rfl)
theorem fqq : Hid (Fv .f64 4598175219545276416 (some cQuar)) := fv64c (by decide) (by rw [ab64]; rfl)
theorem fqp : Hid (Fv .f64 4618760256179416344 (some c2pi)) := fv64c (by decide) (by rw [ab64]; rfl)
theorem fqz : Hid (Fv .f64 0 (some 0)) := fv64c (by decide) (by rw [ab64]; rfl)
theorem fqi (n : Int) : Hid (Fv .f64 (floatOfInt .f64 n) (some (floatOfInt .f64 n))) := Lib.hid (fv_write .f64 (d := .number (decide (n < 0)) n.natAbs 0) rfl)
theorem sinK_of {k : Nat} (h : k ≤ 8) : sinK (8 - k) = ((2 * k * (2 * k + 1) : Nat) : Int) := by unfold sinK; rw [show 8 - (8 - k) = k by omega]
set_option maxHeartbeats 4000000 in
set_option maxRecDepth 100000 in
theorem implSeries_any (z : Nat) (Z : O) (w : World) (hz : Hid (Fv .f64 z Z)) :
    Calls Try.prog 59 #[.float .f64 z] w (RetF .f64 (ser Z) w) := by
  have k1 := fq1
  go_enter Try.func59, Try.ntmps59
  go_wp2_with (with_reducible_and_instances refine Lo.wpList_fo _ rfl _ _ _ _ _ rfl _ _ _ _ _ rfl rfl rfl (by assumption) (by assumption) ?_; intro rr nn hrr)
  have hu := hrr
  go_loopw [4, 5] (fun p kk wr => ∃ (k m r : Nat), k ≤ 8 ∧ kk = .int .i64 k ∧ p = .float .f64 r ∧ Hid (Fv .f64 r (sinP (opO .mul .f64 Z Z) (8 - k))) ∧ wr = w.drewN m) (fun _ kk _ => (intOf kk).toNat)
  case atStart => exact ⟨8, _, _, Nat.le_refl _, rfl, rfl, fq1, rfl⟩
  case round =>
    obtain ⟨k, m, r, hk, rfl, rfl, hr, rfl⟩ := hrel
    by_cases hlt : 1 ≤ k
    · obtain ⟨M, hM⟩ : ∃ M, 2 * k * (2 * k + 1) = M := ⟨_, rfl⟩
      have hM2 : 2 * (k : Int) * (2 * (k : Int) + 1) = (M : Int) := by rw [← hM]; push_cast; rfl
      have hMb : M ≤ 272 := by rw [← hM]; exact Nat.mul_le_mul (show 2 * k ≤ 16 by omega) (show 2 * k + 1 ≤ 17 by omega)
      have hi := fqi (M : Int)
      have eK : Hid (sinP (opO .mul .f64 Z Z) (8 - (k - 1)) = opO .sub .f64 (some cOne) (opO .quo .f64 (opO .mul .f64 (opO .mul .f64 Z Z) (sinP (opO .mul .f64 Z Z) (8 - k))) (some (floatOfInt .f64 (M : Int))))) := Lib.hid (by
        rw [show 8 - (k - 1) = (8 - k) + 1 by omega, ← hM, ← sinK_of (by omega)]; rfl)
      clear hM
      go_wp2_with (with_reducible_and_instances refine Lo.wpList_fo _ rfl _ _ _ _ _ rfl _ _ _ _ _ rfl rfl rfl (by assumption) (by assumption) ?_; intro rr nn hrr)
      rw [← eK.out] at hrr
      go_roundw
      case rel => exact ⟨k - 1, _, _, by omega, by go_num, rfl, hrr, rfl⟩
      case measure => simp [intOf]; omega
    · obtain rfl : k = 0 := by omega
      rw [show ((0 : Nat) : Int) = 0 from rfl]
      go_wp2_with (with_reducible_and_instances refine Lo.wpList_fo _ rfl _ _ _ _ _ rfl _ _ _ _ _ rfl rfl rfl (by assumption) (by assumption) ?_; intro rr nn hrr)
      go_ret
      exact ⟨_, _, rfl, hrr.out, rfl⟩
end Go.Proofs.Ytbjjggelgpomhaa

/- A float made whole, to the nearest even: it keeps to whole bounds. -/
set_option linter.unusedVariables false
set_option linter.unusedSimpArgs false
namespace Go.Proofs.Ytbjjggelgpomhaa
namespace Fl
open Ieee
/-- a 64-bit word rounded to a whole number -/
def rneW (x : Nat) : Nat := match FloatKind.f64.decode x with
  | .nan _ _ => x
  | d => FloatKind.f64.encode (d.integral .even)
def fd (c : Int) : Nat := floatOfInt .f64 c
theorem cutze (s : Bool) (n d : Nat) : Toward.zero.cut s n d ≤ n / 2 ^ d := by
  unfold Toward.cut
  dsimp only
  rw [Nat.shiftLeft_eq, Nat.one_mul]
  show n / 2 ^ min d (n.log2 + 2) + 0 ≤ _
  rcases Nat.le_total d (n.log2 + 2) with h1 | h1
  · rw [Nat.min_eq_left h1]; exact Nat.le_refl _
  · rw [Nat.min_eq_right h1, Nat.div_eq_of_lt (Nat.lt_trans Nat.lt_log2_self (Nat.pow_lt_pow_right (by decide) (by omega)))]
    exact Nat.zero_le _
/-- what lies within 2^20 goes into an integer -/
theorem toInt_some {y : Nat} (h : rung .f64 y ≤ 1043 * 4503599627370496) : ∃ v, floatToIntVal .f64 y .i64 = some v := by
  have hf : rung .f64 y < FloatKind.f64.format.infRung := Nat.lt_of_le_of_lt h (by decide)
  obtain ⟨m, e, hr, hz⟩ := read_fin .f64 hf
  obtain ⟨D, hD⟩ : ∃ D : Nat, D = 1074 := ⟨_, rfl⟩
  have h1 : zv .f64 (1043 * 4503599627370496) = 2 ^ 20 * 2 ^ D := by rw [hD]; decide +kernel
  have h2 : FloatKind.f64.format.leastPlace = -(D : Int) := by rw [hD]; decide
  have h3 : m * 2 ^ e ≤ 2 ^ 20 * 2 ^ D := by rw [← hz, ← h1]; exact (zv_le .f64).2 h
  clear hD h1
  have hd : FloatKind.f64.decode y = .number (sgn .f64 y) m (-(D : Int) + e) := by rw [← h2]; exact hr
  have hc : Toward.zero.cut (sgn .f64 y) (m <<< (-(D : Int) + e).toNat) (-(-(D : Int) + e)).toNat ≤ 1048576 := by
    refine Nat.le_trans (cutze _ _ _) ?_
    rw [Nat.shiftLeft_eq, Nat.div_le_iff_le_mul_add_pred (Nat.two_pow_pos _)]
    rcases Nat.le_total e D with h4 | h4
    · rw [show (-(D : Int) + e).toNat = 0 by omega, show (-(-(D : Int) + e)).toNat = D - e by omega, Nat.pow_zero, Nat.mul_one]
      have h5 : 2 ^ D = 2 ^ (D - e) * 2 ^ e := by rw [← Nat.pow_add]; congr 1; omega
      rw [h5, ← Nat.mul_assoc] at h3
      have := Nat.le_of_mul_le_mul_right h3 (Nat.two_pow_pos e)
      rw [Nat.mul_comm] at this
      exact Nat.le_trans this (Nat.le_add_right _ _)
    · rw [show (-(D : Int) + e).toNat = e - D by omega, show (-(-(D : Int) + e)).toNat = 0 by omega]
      have h5 : 2 ^ e = 2 ^ (e - D) * 2 ^ D := by rw [← Nat.pow_add]; congr 1; omega
      rw [h5, ← Nat.mul_assoc] at h3
      have := Nat.le_of_mul_le_mul_right h3 (Nat.two_pow_pos D)
      simp only [Nat.pow_zero, Nat.one_mul]
      omega
  have hi : ∃ v : Int, (Datum.number (sgn .f64 y) m (-(D : Int) + e)).toInt .zero = some v ∧ -1048576 ≤ v ∧ v ≤ 1048576 := by
    unfold Datum.toInt Datum.integral
    dsimp only
    generalize Toward.zero.cut (sgn .f64 y) (m <<< (-(D : Int) + e).toNat) (-(-(D : Int) + e)).toNat = c at *
    refine ⟨_, rfl, ?_, ?_⟩ <;> (unfold signed; rw [Nat.shiftLeft_zero]; split <;> omega)
  obtain ⟨v, hv, v1, v2⟩ := hi
  refine ⟨v, ?_⟩
  unfold floatToIntVal
  rw [hd, hv]
  dsimp only
  have r1 : IntKind.i64.min ≤ v := by show (-9223372036854775808 : Int) ≤ v; omega
  have r2 : v ≤ IntKind.i64.max := by show v ≤ (9223372036854775807 : Int); omega
  rw [if_pos ⟨r1, r2⟩]
theorem sgn_word0 (k : FloatKind) {r : Nat} (h : r ≤ k.format.infRung) : sgn k (k.format.word false r) = false := by
  have h1 := k.format.infRung_lt
  have e : k.format.word false r = r := by unfold Format.word; simp
  rw [e]
  unfold sgn
  rw [Nat.div_eq_of_lt (by omega)]
  rfl

theorem sgn_wordR (k : FloatKind) (s : Bool) {r : Nat} (h : r ≤ k.format.infRung) : sgn k (k.format.word s r) = s := by
  have h1 := k.format.infRung_lt
  have h0 := sw_pos k
  cases s
  · exact sgn_word0 k h
  · have e : k.format.word true r = k.format.signWeight + r := by unfold Format.word; simp
    rw [e]
    unfold sgn
    rw [Nat.add_div_left _ h0, Nat.div_eq_of_lt (by omega)]
    rfl
theorem sgn_nearR (k : FloatKind) (s : Bool) (mag : Nat) (place : Int) : sgn k (k.format.nearest s mag place) = s := by
  unfold Format.nearest
  dsimp only
  split
  · exact sgn_wordR k s (Nat.zero_le _)
  · exact sgn_wordR k s (Nat.min_le_right ..)
theorem rne_fin {x : Nat} (h : rung .f64 x < FloatKind.f64.format.infRung) (D : Nat) (hD : FloatKind.f64.format.leastPlace = -(D : Int)) : ∃ m e : Nat, zv .f64 (rung .f64 x) = m * 2 ^ e ∧
    rneW x = FloatKind.f64.format.nearest (sgn .f64 x) (Toward.even.cut (sgn .f64 x) (m * 2 ^ (e - D)) (D - e)) 0 := by
  obtain ⟨m, e, hr, hz⟩ := read_fin .f64 h
  refine ⟨m, e, hz, ?_⟩
  have hd : FloatKind.f64.decode x = .number (sgn .f64 x) m (-(D : Int) + e) := by rw [← hD]; exact hr
  unfold rneW
  rw [hd]
  dsimp only
  show FloatKind.f64.format.nearest _ _ _ = _
  rw [Nat.shiftLeft_eq, show (-(D : Int) + e).toNat = e - D by omega, show (-(-(D : Int) + e)).toNat = D - e by omega]
theorem rne_inf {x : Nat} (h : rung .f64 x = FloatKind.f64.format.infRung) : rneW x = FloatKind.f64.format.word (sgn .f64 x) FloatKind.f64.format.infRung := by
  have hd : FloatKind.f64.decode x = .infinity (sgn .f64 x) := read_inf .f64 h
  unfold rneW
  rw [hd]
  rfl
/-- c stands for the whole number C -/
def Whl (c C : Nat) : Prop := rung .f64 c = rung .f64 (FloatKind.f64.format.nearest false C 0) ∧ zv .f64 (rung .f64 c) = C * 2 ^ 1074
theorem rne_ge {x c C : Nat} (hx : rung .f64 x ≤ FloatKind.f64.format.infRung) (hc : Whl c C) (h : rung .f64 c ≤ rung .f64 x) : rung .f64 c ≤ rung .f64 (rneW x) := by
  obtain ⟨D, hD⟩ : ∃ D : Nat, D = 1074 := ⟨_, rfl⟩
  obtain ⟨hc1, hc2⟩ := hc
  rw [← hD] at hc2
  have h2 : FloatKind.f64.format.leastPlace = -(D : Int) := by rw [hD]; decide
  clear hD
  rcases Nat.lt_or_eq_of_le hx with h1 | h1
  · obtain ⟨m, e, hz, hr⟩ := rne_fin h1 D h2
    have h3 : C * 2 ^ D ≤ m * 2 ^ e := by rw [← hz, ← hc2]; exact (zv_le .f64).2 h
    rw [hr, hc1]
    refine nearest_mono .f64 _ _ (b := FloatKind.f64.format.leastPlace) (by have := lp_neg .f64; omega) (by have := lp_neg .f64; omega) (Int.le_refl _) (Nat.mul_le_mul_right _ ?_)
    have h4 := cut_mono false (sgn .f64 x) (n := C) (d := 0) (n' := m * 2 ^ (e - D)) (d' := D - e) (by
      rw [Nat.pow_zero, Nat.mul_one]
      rcases Nat.le_total e D with h4 | h4
      · rw [show e - D = 0 by omega, Nat.pow_zero, Nat.mul_one]
        have h5 : 2 ^ D = 2 ^ (D - e) * 2 ^ e := by rw [← Nat.pow_add]; congr 1; omega
        rw [h5, ← Nat.mul_assoc] at h3
        exact Nat.le_of_mul_le_mul_right h3 (Nat.two_pow_pos e)
      · rw [show D - e = 0 by omega, Nat.pow_zero, Nat.mul_one]
        have h5 : 2 ^ e = 2 ^ (e - D) * 2 ^ D := by rw [← Nat.pow_add]; congr 1; omega
        rw [h5, ← Nat.mul_assoc] at h3
        exact Nat.le_of_mul_le_mul_right h3 (Nat.two_pow_pos D))
    rw [cut_zero] at h4
    exact h4
  · rw [rne_inf h1]
    have h5 : rung .f64 (FloatKind.f64.format.word (sgn .f64 x) FloatKind.f64.format.infRung) = FloatKind.f64.format.infRung := by unfold rung; rw [word_rung_mod _ _ (Nat.le_refl _)]
    omega
theorem rne_le {x c C : Nat} (hx : rung .f64 x ≤ FloatKind.f64.format.infRung) (hc : Whl c C) (hcf : rung .f64 c < FloatKind.f64.format.infRung) (h : rung .f64 x ≤ rung .f64 c) : rung .f64 (rneW x) ≤ rung .f64 c := by
  obtain ⟨D, hD⟩ : ∃ D : Nat, D = 1074 := ⟨_, rfl⟩
  obtain ⟨hc1, hc2⟩ := hc
  rw [← hD] at hc2
  have h2 : FloatKind.f64.format.leastPlace = -(D : Int) := by rw [hD]; decide
  clear hD
  have h1 : rung .f64 x < FloatKind.f64.format.infRung := by omega
  obtain ⟨m, e, hz, hr⟩ := rne_fin h1 D h2
  have h3 : m * 2 ^ e ≤ C * 2 ^ D := by rw [← hz, ← hc2]; exact (zv_le .f64).2 h
  rw [hr, hc1]
  refine nearest_mono .f64 _ _ (b := FloatKind.f64.format.leastPlace) (by have := lp_neg .f64; omega) (by have := lp_neg .f64; omega) (Int.le_refl _) (Nat.mul_le_mul_right _ ?_)
  have h4 := cut_mono (sgn .f64 x) false (n := m * 2 ^ (e - D)) (d := D - e) (n' := C) (d' := 0) (by
    rw [Nat.pow_zero, Nat.mul_one]
    rcases Nat.le_total e D with h4 | h4
    · rw [show e - D = 0 by omega, Nat.pow_zero, Nat.mul_one]
      have h5 : 2 ^ D = 2 ^ (D - e) * 2 ^ e := by rw [← Nat.pow_add]; congr 1; omega
      rw [h5, ← Nat.mul_assoc] at h3
      exact Nat.le_of_mul_le_mul_right h3 (Nat.two_pow_pos e)
    · rw [show D - e = 0 by omega, Nat.pow_zero, Nat.mul_one]
      have h5 : 2 ^ e = 2 ^ (e - D) * 2 ^ D := by rw [← Nat.pow_add]; congr 1; omega
      rw [h5, ← Nat.mul_assoc] at h3
      exact Nat.le_of_mul_le_mul_right h3 (Nat.two_pow_pos D))
  rw [cut_zero] at h4
  exact h4
theorem rne_sgn {x : Nat} (hx : rung .f64 x ≤ FloatKind.f64.format.infRung) : sgn .f64 (rneW x) = sgn .f64 x := by
  rcases Nat.lt_or_eq_of_le hx with h1 | h1
  · obtain ⟨m, e, hz, hr⟩ := rne_fin h1 1074 (by decide)
    rw [hr]; exact sgn_nearR _ _ _ _
  · rw [rne_inf h1]; exact sgn_wordR _ _ (Nat.le_refl _)
theorem rne_fits {x : Nat} (hx : rung .f64 x ≤ FloatKind.f64.format.infRung) : rung .f64 (rneW x) ≤ FloatKind.f64.format.infRung ∧ rneW x < 2 ^ 64 := by
  rcases Nat.lt_or_eq_of_le hx with h1 | h1
  · obtain ⟨m, e, hz, hr⟩ := rne_fin h1 1074 (by decide)
    rw [hr]
    exact ⟨nearest_fin _ _ _ _, (fv_write .f64 (d := .number (sgn .f64 x) _ 0) rfl).1⟩
  · rw [rne_inf h1]
    refine ⟨?_, (fv_write .f64 (d := .infinity (sgn .f64 x)) rfl).1⟩
    unfold rung; rw [word_rung_mod _ _ (Nat.le_refl _)]; exact Nat.le_refl _
theorem ab_of_rung {x : Nat} (h : rung .f64 x ≤ FloatKind.f64.format.infRung) : ab .f64 x = some x := by
  unfold ab rung at *
  rw [if_neg (by omega)]
end Fl
end Go.Proofs.Ytbjjggelgpomhaa

/- Lists of int64 as a law holds them: copied, compared, marked. -/
set_option linter.unusedVariables false
set_option linter.unusedSimpArgs false
namespace Go.Proofs.Ytbjjggelgpomhaa
namespace Fl
def wi (xs : List Int) (j : Nat) : Int := xs.getD j 0
def iv (xs : List Int) (j : Nat) : Value := .int .i64 (wi xs j)
def mki (k n : Nat) : List Int := (List.range n).map fun j => ((k + j : Nat) : Int)
theorem mki_wi {k n j : Nat} (h : j < n) : wi (mki k n) j = ((k + j : Nat) : Int) := by unfold wi mki; simp [h]
theorem mki_len (k n : Nat) : (mki k n).length = n := by unfold mki; simp
def Is (w : World) (B : Nat) (A : Option Addr) (n : Nat) (xs : List Int) : Prop :=
  xs.length = n ∧ (0 < n → ∃ g off, A = some ⟨g, off, none⟩ ∧ g < B ∧ ∀ k, k < n → w.cell? ⟨g, off + k, none⟩ = some (iv xs k))

theorem Is.keep {w w' : World} {B : Nat} {A : Option Addr} {n : Nat} {xs : List Int} (h : Is w B A n xs) (hk : ∀ g o, g < B → w'.cell? ⟨g, o, none⟩ = w.cell? ⟨g, o, none⟩) : Is w' B A n xs :=
  ⟨h.1, fun hn => by
    obtain ⟨g, off, e, hg, hc⟩ := h.2 hn
    exact ⟨g, off, e, hg, fun k hk' => (hk g _ hg).trans (hc k hk')⟩⟩
theorem Is.more {w : World} {B B' : Nat} {A : Option Addr} {n : Nat} {xs : List Int} (h : Is w B A n xs) (hB : B ≤ B') : Is w B' A n xs :=
  ⟨h.1, fun hn => by
    obtain ⟨g, off, e, hg, hc⟩ := h.2 hn
    exact ⟨g, off, e, by omega, hc⟩⟩
theorem Is.since {w w' : World} {B : Nat} {A : Option Addr} {n : Nat} {xs : List Int} (h : Is w B A n xs) (hs : w.Since B w') : Is w' B A n xs :=
  h.keep fun g o hg => hs.cell (a := ⟨g, o, none⟩) hg
theorem Is.drewN {w : World} {B : Nat} {A : Option Addr} {n : Nat} {xs : List Int} (h : Is w B A n xs) (k : Nat) : Is (w.drewN k) B A n xs := h
theorem Is.now {w w1 : World} {A : Option Addr} {n : Nat} {xs : List Int} (h : Is w w.heap.size A n xs) (s : w.Since w.heap.size w1) : Is w1 w1.heap.size A n xs := (h.since s).more s.size
theorem Is.of_row {w : World} {g : Nat} {t : TypeId} {n : Nat} {xs : List Int} {B : Nat} (h : w.rowIs g t n (iv xs)) (hl : xs.length = n) (hg : g < B) : Is w B (some ⟨g, 0, none⟩) n xs :=
  ⟨hl, fun _ => ⟨g, 0, rfl, hg, fun k hk => by rw [Nat.zero_add]; exact h.cell hk⟩⟩

def IGs (T : TypeId) (w : World) (lo : Nat) (A : Option Addr) (n : Nat) (xs : List Int) : Prop :=
  xs.length = n ∧ (0 < n → ∃ g cs, A = some ⟨g, 0, none⟩ ∧ lo ≤ g ∧ w.heap[g]? = some (.cells cs T (0, 0)) ∧ ∀ k, k < n → cs[k]? = some (iv xs k))
section
variable {T : TypeId} {w w' : World} {lo n : Nat} {A : Option Addr} {xs : List Int}
theorem IGs.read (h : IGs T w lo A n xs) : Is w w.heap.size A n xs :=
  ⟨h.1, fun hn => by
    obtain ⟨g, cs, e, hg, hb, hc⟩ := h.2 hn
    refine ⟨g, 0, e, (Array.getElem?_eq_some_iff.1 hb).1, fun k hk => ?_⟩
    simp only [World.cell?, hb, Nat.zero_add]
    simpa using hc k hk⟩
theorem IGs.since (h : IGs T w lo A n xs) (hs : w.Since w.heap.size w') : IGs T w' lo A n xs :=
  ⟨h.1, fun hn => by
    obtain ⟨g, cs, e, hg, hb, hc⟩ := h.2 hn
    exact ⟨g, cs, e, hg, (hs.block g (Array.getElem?_eq_some_iff.1 hb).1).trans hb, hc⟩⟩
theorem IGs.drewN (h : IGs T w lo A n xs) (k : Nat) : IGs T (w.drewN k) lo A n xs := h
theorem IGs.less (h : IGs T w lo A n xs) {l : Nat} (hl : l ≤ lo) : IGs T w l A n xs :=
  ⟨h.1, fun hn => by
    obtain ⟨g, cs, e, hg, hb, hc⟩ := h.2 hn
    exact ⟨g, cs, e, by omega, hb, hc⟩⟩
theorem IGs.of_row {g : Nat} (h : w.rowIs g T n (iv xs)) (hl : xs.length = n) (hg : lo ≤ g) : IGs T w lo (some ⟨g, 0, none⟩) n xs :=
  ⟨hl, fun _ => by
    obtain ⟨cs, hb, _, hc⟩ := h
    exact ⟨g, cs, rfl, hg, hb, hc⟩⟩
theorem IGs.nil_ : IGs T w lo none 0 [] := ⟨rfl, (fun h => by omega)⟩
end
end Fl
open Fl Go.RowKit
theorem Try.infoI : (Try.prog.info? 2).map (fun i => (i.zero, i.size, i.bytes)) = some (some (.int .i64 0), 1, 8) := by kernel_rfl

def ipart (xs : List Int) (k j : Nat) : Value := if j < k then iv xs j else .int .i64 0

def imarked (k : Nat) (xs : List Int) (i j : Nat) : Value := if j < i then .int .i64 ((k + j : Nat) : Int) else iv xs j

end Go.Proofs.Ytbjjggelgpomhaa

/- Lists of any one-cell kind that a law holds, apart from one another. -/
set_option linter.unusedVariables false
set_option linter.unusedSimpArgs false
namespace Go.Proofs.Ytbjjggelgpomhaa
namespace Fl
/-- a list: its elements' type, where it lies, how many cells, its cells -/
structure Lx where
  T : TypeId
  A : Option Addr
  n : Nat
  f : Nat → Value
  ok : Prop
/-- it lies in a block of the law's own, from lo on -/
def Gx (w : World) (lo : Nat) (p : Lx) : Prop := p.ok ∧ (0 < p.n → ∃ g cs, p.A = some ⟨g, 0, none⟩ ∧ lo ≤ g ∧ w.heap[g]? = some (.cells cs p.T (0, 0)) ∧ ∀ k, k < p.n → cs[k]? = some (p.f k))
theorem Gx.since {w w' : World} {lo : Nat} {p : Lx} (h : Gx w lo p) (hs : w.Since w.heap.size w') : Gx w' lo p := ⟨h.1, fun hn => by
  obtain ⟨g, cs, e, hg, hb, hc⟩ := h.2 hn
  exact ⟨g, cs, e, hg, (hs.block g (Array.getElem?_eq_some_iff.1 hb).1).trans hb, hc⟩⟩
theorem Gx.less {w : World} {lo l : Nat} {p : Lx} (h : Gx w lo p) (hl : l ≤ lo) : Gx w l p := ⟨h.1, fun hn => by
  obtain ⟨g, cs, e, hg, hb, hc⟩ := h.2 hn
  exact ⟨g, cs, e, by omega, hb, hc⟩⟩
theorem Gx.block {w : World} {lo : Nat} {p : Lx} (h : Gx w lo p) (hn : 0 < p.n) : ∃ g, p.A = some ⟨g, 0, none⟩ ∧ lo ≤ g ∧ g < w.heap.size := by
  obtain ⟨g, cs, e, hg, hb, _⟩ := h.2 hn
  exact ⟨g, e, hg, (Array.getElem?_eq_some_iff.1 hb).1⟩
/-- lists of floats, of integers -/
def fx (A : Option Addr) (n : Nat) (xs : List Nat) : Lx := ⟨22, A, n, fv xs, xs.length = n ∧ Small xs⟩
def ix64 (A : Option Addr) (n : Nat) (xs : List Int) : Lx := ⟨2, A, n, iv xs, xs.length = n⟩
theorem Gs.toX {w : World} {lo n : Nat} {A : Option Addr} {xs : List Nat} (h : Gs 22 w lo A n xs) : Gx w lo (fx A n xs) := ⟨⟨h.1, h.2.1⟩, h.2.2⟩
theorem Gx.toF {w : World} {lo n : Nat} {A : Option Addr} {xs : List Nat} (h : Gx w lo (fx A n xs)) : Gs 22 w lo A n xs := ⟨h.1.1, h.1.2, h.2⟩
theorem IGs.toX {w : World} {lo n : Nat} {A : Option Addr} {xs : List Int} (h : IGs 2 w lo A n xs) : Gx w lo (ix64 A n xs) := h
theorem Gx.toI {w : World} {lo n : Nat} {A : Option Addr} {xs : List Int} (h : Gx w lo (ix64 A n xs)) : IGs 2 w lo A n xs := h
/-- two lists with something in them lie in two blocks -/
def Dx (p q : Lx) : Prop := 0 < p.n → 0 < q.n → ∀ g o s o' s', p.A = some ⟨g, o, s⟩ → q.A = some ⟨g, o', s'⟩ → False
theorem Dx.symm {p q : Lx} (h : Dx p q) : Dx q p := fun a b g o s o' s' e e' => h b a g o' s' o s e' e
def Hx (B : Nat) (v : World) : List Lx → Prop
  | [] => True
  | p :: r => (Gx v B p ∧ ∀ q ∈ r, Dx p q) ∧ Hx B v r
section
variable {B : Nat} {v v' : World} {p q : Lx} {r : List Lx}
theorem Hx.at_ : ∀ {r : List Lx} (h : Hx B v r) {p : Lx}, p ∈ r → Gx v B p
  | _ :: _, h, _, .head _ => h.1.1
  | _ :: _, h, _, .tail _ hp => Hx.at_ h.2 hp
theorem Hx.since : ∀ {r : List Lx} (h : Hx B v r) (hs : v.Since v.heap.size v'), Hx B v' r
  | [], _, _ => trivial
  | _ :: _, h, hs => ⟨⟨h.1.1.since hs, h.1.2⟩, Hx.since h.2 hs⟩
theorem Hx.new (h : Hx B v r) (hs : v.Since v.heap.size v') (g : Gx v' v.heap.size p) (hB : B ≤ v.heap.size) : Hx B v' (p :: r) :=
  ⟨⟨g.less hB, fun q hq a b c o s o' s' e e' => by
    obtain ⟨g1, e1, h1, h2⟩ := g.block a
    obtain ⟨g2, e2, h3, h4⟩ := (h.at_ hq).block b
    rw [e1] at e; rw [e2] at e'
    injection e with e; injection e with e _ _
    injection e' with e'; injection e' with e' _ _
    omega⟩, h.since hs⟩
theorem Hx.new2 (h : Hx B v r) (hs : v.Since v.heap.size v') (g : Gx v' v.heap.size p) (k : Gx v' v.heap.size q) (hd : Dx p q) (hB : B ≤ v.heap.size) : Hx B v' (p :: q :: r) := by
  have h1 := h.new hs g hB
  have h2 := h.new hs k hB
  refine ⟨⟨h1.1.1, fun s hs => ?_⟩, h2⟩
  rcases List.mem_cons.1 hs with rfl | hs
  · exact hd
  · exact h1.1.2 s hs
/-- what a mark leaves: this list's cells, all else as it was -/
theorem Hx.mark_hd {p' : Lx} (h : Hx B v (p :: r)) (g : Gx v' B p') (hA : p'.A = p.A) (hN : p'.n = p.n) (ho : ∀ g, (0 < p.n → ∀ g', p.A = some ⟨g', 0, none⟩ → g ≠ g') → v'.heap[g]? = v.heap[g]?) : Hx B v' (p' :: r) := by
  refine ⟨⟨g, fun q hq a b g o s o' s' e e' => h.1.2 q hq (hN ▸ a) b g o s o' s' (hA ▸ e) e'⟩, ?_⟩
  have hd := h.1.2
  have ht := h.2
  clear h
  induction r with
  | nil => trivial
  | cons q r ih =>
    refine ⟨⟨?_, ht.1.2⟩, ih (fun q' hq' => hd q' (.tail _ hq')) ht.2⟩
    have hq := ht.1.1
    refine ⟨hq.1, fun hn => ?_⟩
    obtain ⟨b, cs, e, hb, hh, hc⟩ := hq.2 hn
    refine ⟨b, cs, e, hb, (ho b fun hp g' e' he => ?_).trans hh, hc⟩
    subst he
    exact hd q (.head _) hp hn b 0 none 0 none e' e
theorem Hx.swap (h : Hx B v (p :: q :: r)) : Hx B v (q :: p :: r) := by
  obtain ⟨⟨h1, h2⟩, ⟨h3, h4⟩, h5⟩ := h
  refine ⟨⟨h3, fun s hs => ?_⟩, ⟨h1, fun s hs => h2 s (.tail _ hs)⟩, h5⟩
  rcases List.mem_cons.1 hs with rfl | hs
  · exact (h2 q (.head _)).symm
  · exact h4 s hs
theorem Hx.front {l : List Lx} : ∀ (k : List Lx), Hx B v (k ++ p :: l) → Hx B v (p :: (k ++ l))
  | [], h => h
  | q :: k, h => by
    have h2 : Hx B v (p :: (k ++ l)) := Hx.front k h.2
    have h3 : Hx B v (q :: p :: (k ++ l)) := ⟨⟨h.1.1, fun s hs => h.1.2 s (by
      rcases List.mem_cons.1 hs with rfl | hs
      · simp
      · rcases List.mem_append.1 hs with h4 | h4
        · simp [h4]
        · simp [h4])⟩, h2⟩
    exact h3.swap
end
end Fl
open Fl Go.RowKit
theorem markLx_any (A : Option Addr) (n : Nat) (xs : List Nat) (c k0 : Nat) (K : Int) (v : World) (B : Nat) (r : List Lx) (h : Hx B v (fx A n xs :: r)) (hn : n ≤ 1048576) (hk0 : k0 ≤ 1073741824) (hK : K = (k0 : Nat)) :
    Calls Try.prog 9 #[.slice A n c, .int .i64 K] v fun e v' => e = .returned (.int .i64 ((k0 + n : Nat) : Int)) ∧ Hx B v' (fx A n (mk k0 n) :: r) ∧ v.Since B v' := by
  subst hK
  exact (markF_any A n c k0 xs v B h.1.1.toF hn hk0).mono fun e v' ⟨he, hg, hz, hs, ho⟩ => ⟨he, h.mark_hd hg.toX rfl rfl ho, hs⟩
end Go.Proofs.Ytbjjggelgpomhaa

/- Dynamics: levels, the program's. -/
set_option linter.unusedVariables false
set_option linter.unusedSimpArgs false
namespace Go.Proofs.Ytbjjggelgpomhaa
open Fl Go.RowKit
end Go.Proofs.Ytbjjggelgpomhaa

/- Lists of any kind that a law holds: compared and held; structs in boxes of a law. -/
set_option linter.unusedVariables false
set_option linter.unusedSimpArgs false
namespace Go.Proofs.Ytbjjggelgpomhaa
open Fl Go.RowKit
theorem Fl.Gx.readF {w : World} {lo n : Nat} {A : Option Addr} {xs : List Nat} (h : Gx w lo (fx A n xs)) : Fs w w.heap.size A n xs := h.toF.read
theorem heldLx_any (A : Option Addr) (n c k0 : Nat) (K : Int) (v : World) (lo : Nat) (h : Gx v lo (fx A n (mk k0 n))) (hn : n ≤ 1048576) (hk0 : k0 ≤ 1073741824) (hK : K = (k0 : Nat)) :
    Calls Try.prog 10 #[.slice A n c, .int .i64 K] v fun e v' => e = .returned (.int .i64 ((k0 + n : Nat) : Int)) ∧ v = v' := by
  subst hK
  exact heldF_any A n c k0 v _ h.readF hn hk0
/-- a struct of floats in a box of its own -/
def bx (T : TypeId) (g : Nat) (xs : List Nat) : Lx := ⟨T, some ⟨g, 0, none⟩, xs.length, fv xs, True⟩
theorem Fl.Gx.box {w : World} {T : TypeId} {lo g : Nat} {xs : List Nat} (h : Gx w lo (bx T g xs)) (i : Nat) (hi : i < xs.length) : w.cell? ⟨g, i, none⟩ = some (.float .f32 (wd xs i)) := by
  obtain ⟨g', cs, e, hg, hb, hc⟩ := h.2 (by show 0 < xs.length; omega)
  injection e with e; injection e with e _ _; subst e
  have h1 := hc i hi
  simp only [World.cell?, hb]
  simpa [bx, fv] using h1
theorem cells3 {w : World} {T : TypeId} {g : Nat} {x y z a r l : Value} (h : w.heap[g]? = some (.cells #[x, y, z] T (0, 0))) : (((w.setCell ⟨g, 0, none⟩ a).setCell ⟨g, 1, none⟩ r).setCell ⟨g, 2, none⟩ l).heap[g]? = some (.cells #[a, r, l] T (0, 0)) := by
  simp [World.setCell, Array.getElem?_modify, h]
theorem cells5 {w : World} {T : TypeId} {g : Nat} {x0 x1 x2 x3 x4 a b c d e : Value} (h : w.heap[g]? = some (.cells #[x0, x1, x2, x3, x4] T (0, 0))) : (((((w.setCell ⟨g, 0, none⟩ a).setCell ⟨g, 1, none⟩ b).setCell ⟨g, 2, none⟩ c).setCell ⟨g, 3, none⟩ d).setCell ⟨g, 4, none⟩ e).heap[g]? = some (.cells #[a, b, c, d, e] T (0, 0)) := by
  simp [World.setCell, Array.getElem?_modify, h]
/-- a box made and filled with three floats -/
theorem box3 (v : World) (T : TypeId) (a b c : Nat) (z : Value) : ∃ V, V = (((v.alloc (.cells #[z, z, z] T)).setCell ⟨v.heap.size, 0, none⟩ (.float .f32 a)).setCell ⟨v.heap.size, 1, none⟩ (.float .f32 b)).setCell ⟨v.heap.size, 2, none⟩ (.float .f32 c) ∧ v.Since v.heap.size V ∧ Gx V v.heap.size (bx T v.heap.size [a, b, c]) := by
  refine ⟨_, rfl, ((((World.Since.refl _ _).alloc (Nat.le_refl _) _).setCell (Nat.le_refl _) _).setCell (Nat.le_refl _) _).setCell (Nat.le_refl _) _, trivial, fun _ => ⟨v.heap.size, #[.float .f32 a, .float .f32 b, .float .f32 c], rfl, Nat.le_refl _, ?_, fun k hk => ?_⟩⟩
  · exact cells3 (Go.Deep.blk_alloc_new v (.cells #[z, z, z] T))
  · simp only [bx, List.length_cons, List.length_nil] at hk
    match k, hk with
    | 0, _ => rfl
    | 1, _ => rfl
    | 2, _ => rfl
theorem box5 (v : World) (T : TypeId) (a b c d e : Nat) (z : Value) : ∃ V, V = (((((v.alloc (.cells #[z, z, z, z, z] T)).setCell ⟨v.heap.size, 0, none⟩ (.float .f32 a)).setCell ⟨v.heap.size, 1, none⟩ (.float .f32 b)).setCell ⟨v.heap.size, 2, none⟩ (.float .f32 c)).setCell ⟨v.heap.size, 3, none⟩ (.float .f32 d)).setCell ⟨v.heap.size, 4, none⟩ (.float .f32 e) ∧ v.Since v.heap.size V ∧ Gx V v.heap.size (bx T v.heap.size [a, b, c, d, e]) := by
  refine ⟨_, rfl, ((((((World.Since.refl _ _).alloc (Nat.le_refl _) _).setCell (Nat.le_refl _) _).setCell (Nat.le_refl _) _).setCell (Nat.le_refl _) _).setCell (Nat.le_refl _) _).setCell (Nat.le_refl _) _, trivial, fun _ => ⟨v.heap.size, #[.float .f32 a, .float .f32 b, .float .f32 c, .float .f32 d, .float .f32 e], rfl, Nat.le_refl _, ?_, fun k hk => ?_⟩⟩
  · exact cells5 (Go.Deep.blk_alloc_new v (.cells #[z, z, z, z, z] T))
  · simp only [bx, List.length_cons, List.length_nil] at hk
    match k, hk with
    | 0, _ => rfl
    | 1, _ => rfl
    | 2, _ => rfl
    | 3, _ => rfl
    | 4, _ => rfl
/-- a box made with its floats in it -/
theorem boxa (v : World) (T : TypeId) (xs : List Nat) : ∃ V, V = v.alloc (.cells (xs.map fun x => Value.float .f32 x).toArray T) ∧ v.Since v.heap.size V ∧ Gx V v.heap.size (bx T v.heap.size xs) :=
  ⟨_, rfl, (World.Since.refl _ _).alloc (Nat.le_refl _) _, trivial, fun _ => ⟨v.heap.size, _, rfl, Nat.le_refl _, Go.Deep.blk_alloc_new _ _, fun k hk => by
    simp only [bx] at hk ⊢
    unfold fv wd
    simp [hk]⟩⟩
/-! followers as a law holds them -/
def zFol : Fol := ⟨some 0, some 0, some 0⟩
theorem PLFB.none_ {w w' : World} (s : w.Since w.heap.size w') (f0 : Nat → Option Nat) : PLFB 0 f0 zFol false w (.returned (.tuple #[.slice none 0 0, .agg #[.float .f32 0, .float .f32 0, .float .f32 0], .bool false])) w' :=
  ⟨⟨none, 0, []⟩, 0, ⟨0, 0, 0⟩, rfl, rfl, Gs.nil_, (fun k hk => by simp at hk), ⟨fv0, fv0, fv0⟩, s⟩
end Go.Proofs.Ytbjjggelgpomhaa

/- Lists of int64 that functions give: contracts, looked at, held; rows of integers that a loop appends to. -/
set_option linter.unusedVariables false
set_option linter.unusedSimpArgs false
namespace Go.Proofs.Ytbjjggelgpomhaa
open Fl Go.RowKit
namespace Fl
/-- a list of integers: where it lies, how long, its numbers -/
structure Li where
  A : Option Addr
  n : Nat
  xs : List Int
end Fl
theorem Fl.Gx.readI {w : World} {lo n : Nat} {A : Option Addr} {xs : List Int} (h : Gx w lo (ix64 A n xs)) : Is w w.heap.size A n xs := h.toI.read
def PJB (n0 : Nat) (f0 : List Int) (b : Bool) (w : World) (e : Ending) (w' : World) : Prop :=
  ∃ (p : Li) (c : Nat), e = .returned (.tuple #[.slice p.A p.n c, .bool b]) ∧ p.n = n0 ∧ IGs 2 w' w.heap.size p.A p.n p.xs ∧ p.xs = f0 ∧ w.Since w.heap.size w'
theorem PJB.none_ {w w' : World} (s : w.Since w.heap.size w') : PJB 0 [] false w (.returned (.tuple #[.slice none 0 0, .bool false])) w' :=
  ⟨⟨none, 0, []⟩, 0, rfl, rfl, IGs.nil_, rfl, s⟩
def PJVB (n0 : Nat) (f0 : List Int) (o : O) (b : Bool) (w : World) (e : Ending) (w' : World) : Prop :=
  ∃ (p : Li) (c r : Nat), e = .returned (.tuple #[.slice p.A p.n c, .float .f32 r, .bool b]) ∧ p.n = n0 ∧ IGs 2 w' w.heap.size p.A p.n p.xs ∧ p.xs = f0 ∧ Hid (Fv .f32 r o) ∧ w.Since w.heap.size w'
/-! rows of integers that a loop appends to -/
namespace Fl
def ivl (os : List Int) : List Value := os.map fun x => Value.int .i64 x
theorem ivl_snoc (xs : List Int) (x : Int) : ivl xs ++ [Value.int .i64 x] = ivl (xs ++ [x]) := by unfold ivl; simp
theorem IGs.of_own {w : World} {lo n c : Nat} {A : Option Addr} {xs : List Int} (h : w.ownsRow lo 2 1 (.slice A n c) n (ivl xs)) : IGs 2 w lo A n xs := by
  have hl : xs.length = n := by simpa [ivl] using h.1
  refine ⟨hl, fun hn => ?_⟩
  rcases h.2 with ⟨hv, h0⟩ | ⟨g, cap, cur, hv, hg, hb, hnc, _, hsz, htk⟩
  · omega
  · injection hv with h1 _ _
    subst h1
    refine ⟨g, cur, rfl, hg, hb, fun k hk => ?_⟩
    have e1 : (cur.toList.take (n * 1))[k]? = (ivl xs)[k]? := by rw [htk]
    rw [List.getElem?_take_of_lt (by omega)] at e1
    rw [Array.getElem?_toList] at e1
    rw [e1]
    unfold ivl iv wi
    simp [List.getD_eq_getElem?_getD, List.getElem?_eq_getElem (show k < xs.length by omega)]
end Fl
/-- v is a row of the loop's own, from block lo on, whose numbers are these -/
def RwI (lo : Nat) (w : World) (v : Value) (os : List Int) : Prop := w.ownsRow lo 2 1 v os.length (ivl os)
theorem RwI.start (w : World) (lo : Nat) (h : lo ≤ w.heap.size) : RwI lo (w.alloc (.cells #[] 2)) (.slice (some ⟨w.heap.size, 0, none⟩) 0 0) [] :=
  ⟨rfl, .inr ⟨w.heap.size, 0, #[], rfl, h, Go.Deep.blk_alloc_new _ _, Nat.le_refl _, Nat.zero_le _, rfl, rfl⟩⟩
theorem RwI.keep {lo : Nat} {w w' : World} {v : Value} {os : List Int} (h : RwI lo w v os) (e : ∀ b, lo ≤ b → b < w.heap.size → w'.heap[b]? = w.heap[b]?) : RwI lo w' v os := by
  obtain ⟨h1, h2⟩ := h
  refine ⟨h1, ?_⟩
  rcases h2 with h2 | ⟨g, cap, cur, e1, h3, h4, r⟩
  · exact .inl h2
  · exact .inr ⟨g, cap, cur, e1, h3, (e g h3 (Array.getElem?_eq_some_iff.1 h4).1).trans h4, r⟩
theorem RwI.since {lo : Nat} {w w' : World} {v : Value} {os : List Int} (h : RwI lo w v os) (s : w.Since w.heap.size w') : RwI lo w' v os := h.keep fun b _ hb => s.block b hb
theorem RwI.drewN {lo : Nat} {w : World} {v : Value} {os : List Int} (h : RwI lo w v os) (n : Nat) : RwI lo (w.drewN n) v os := h
theorem RwI.alloc {lo : Nat} {w : World} {v : Value} {os : List Int} (h : RwI lo w v os) (o : Obj) : RwI lo (w.alloc o) v os := h.since ((World.Since.refl _ _).alloc (Nat.le_refl _) _)
theorem RwI.done {lo : Nat} {w : World} {v : Value} {os : List Int} (h : RwI lo w v os) : ∃ (p : Li) (c : Nat), v = .slice p.A p.n c ∧ p.n = os.length ∧ IGs 2 w lo p.A p.n p.xs ∧ p.xs = os := by
  have hf' : v = .slice none 0 0 ∧ os.length = 0 ∨ ∃ g cap, v = .slice (some ⟨g, 0, none⟩) os.length cap := by
    rcases h.2 with h2 | ⟨g, cap, cur, e, _⟩
    · exact .inl h2
    · exact .inr ⟨g, cap, e⟩
  rcases hf' with ⟨rfl, h0⟩ | ⟨g, cap, rfl⟩
  · obtain rfl : os = [] := List.eq_nil_of_length_eq_zero h0
    exact ⟨⟨none, 0, []⟩, 0, rfl, rfl, IGs.nil_, rfl⟩
  · exact ⟨⟨some ⟨g, 0, none⟩, os.length, os⟩, cap, rfl, rfl, IGs.of_own h, rfl⟩
end Go.Proofs.Ytbjjggelgpomhaa

/- Rates: factors; samples picked, both. -/
set_option linter.unusedVariables false
set_option linter.unusedSimpArgs false
namespace Go.Proofs.Ytbjjggelgpomhaa
open Fl Go.RowKit
theorem specIn_b (l a b : Int) (bb : Bool) (w : World) (h : inB l a b = bb) : Calls Try.prog 22 #[.int .i64 l, .int .i64 a, .int .i64 b] w fun e w' => e = .returned (.bool bb) ∧ w = w' := by
  subst h
  exact specIn_any l a b w
theorem allowR_any (a b x : Int) (w : World) :
    Calls Try.prog 26 #[.agg #[.int .i64 a, .int .i64 b], .int .i64 x] w fun e w' => e = .returned (.bool (inB x a b)) ∧ w.alloc (.cells #[.int .i64 a, .int .i64 b] 56) = w' := by
  by_cases h : a ≤ x
  all_goals
    go_enter Try.func26, Try.ntmps26
    go_wp2
    go_ret
    exact ⟨ret_bool (by simp [inB]; omega), rfl⟩
theorem allowR (a b x : Int) (bb : Bool) (w : World) (h : inB x a b = bb) :
    Calls Try.prog 26 #[.agg #[.int .i64 a, .int .i64 b], .int .i64 x] w fun e w' => e = .returned (.bool bb) ∧ w.alloc (.cells #[.int .i64 a, .int .i64 b] 56) = w' := by subst h; exact allowR_any a b x w
/-- how many samples are picked, from t on, each f-th -/
def cntP (n f t : Nat) : Nat := (n + f - 1 - t) / f
theorem cntP_lt {n f t k : Nat} (hf : 1 ≤ f) (ht : t < f) : k < cntP n f t ↔ t + k * f < n := by
  unfold cntP
  rw [← Nat.succ_le_iff, Nat.le_div_iff_mul_le (by omega), Nat.succ_mul]
  omega
theorem cntP_le {n f t : Nat} (hf : 1 ≤ f) : cntP n f t ≤ n + f := by
  unfold cntP
  exact Nat.le_trans (Nat.div_le_self _ _) (by omega)
def pickF (xs : List Nat) (f t : Nat) (k : Nat) : O := ab .f32 (wd xs (t + k * f))
def okPick (f t : Int) (n : Nat) : Bool := inB f 1 8 && inB t 0 (f - 1) && decide (n ≤ 256)
theorem okPick_nat {f t : Int} {n : Nat} (h : okPick f t n = true) : ∃ f' t' : Nat, f = f' ∧ t = t' ∧ 1 ≤ f' ∧ f' ≤ 8 ∧ t' < f' ∧ n ≤ 256 := by
  simp only [okPick, inB, Bool.and_eq_true, decide_eq_true_eq] at h
  exact ⟨f.toNat, t.toNat, by omega, by omega, by omega, by omega, by omega, by omega⟩
theorem PL.toB {n0 : Nat} {f0 : Nat → O} {w w' : World} {e : Ending} (h : PL n0 f0 w e w') : ∃ (p : Ls) (c : Nat), e = .returned (.slice p.A p.n c) ∧ Hid (p.n = n0) ∧ Hid (Gs 22 w' w.heap.size p.A p.n p.xs) ∧ Hid (Are p f0) ∧ Hid (w.Since w.heap.size w') := by
  obtain ⟨p, c, h1, h2, h3, h4, h5⟩ := h
  exact ⟨p, c, h1, Lib.hid h2, Lib.hid h3, Lib.hid h4, Lib.hid h5⟩
end Go.Proofs.Ytbjjggelgpomhaa

/- Bits: the most of bits, a coder, codes that are codes. -/
set_option linter.unusedVariables false
set_option linter.unusedSimpArgs false
namespace Go.Proofs.Ytbjjggelgpomhaa
open Fl Go.RowKit
def mst (b : Nat) : Nat := 2 ^ (b - 1)
theorem mst_le {b : Nat} (h1 : 2 ≤ b) (h2 : b ≤ 16) : 2 ≤ mst b ∧ mst b ≤ 32768 := by
  obtain rfl | rfl | rfl | rfl | rfl | rfl | rfl | rfl | rfl | rfl | rfl | rfl | rfl | rfl | rfl : b = 2 ∨ b = 3 ∨ b = 4 ∨ b = 5 ∨ b = 6 ∨ b = 7 ∨ b = 8 ∨ b = 9 ∨ b = 10 ∨ b = 11 ∨ b = 12 ∨ b = 13 ∨ b = 14 ∨ b = 15 ∨ b = 16 := by omega
  all_goals (unfold mst; decide)
def codV (m : Nat) : Value := .agg #[.int .i64 (-(m : Int)), .int .i64 ((m : Int) - 1), .float .f32 (floatOfInt .f32 (m : Int))]
def codZ : Value := .agg #[.int .i64 0, .int .i64 0, .float .f32 0]
def PC (v : Value) (b : Bool) (w : World) (e : Ending) (w' : World) : Prop := e = .returned (.tuple #[v, .bool b]) ∧ w.Since w.heap.size w'
end Go.Proofs.Ytbjjggelgpomhaa

/- The code nearest to a number: the model's and the program's. -/
set_option linter.unusedVariables false
set_option linter.unusedSimpArgs false
namespace Go.Proofs.Ytbjjggelgpomhaa
open Fl Go.RowKit
/-- what is asked of the greatest and of the least code as 64-bit numbers -/
structure Cst (m : Nat) : Prop where
  wM : Whl (fd ((m : Int) - 1)) (m - 1)
  wL : Whl (fd (-(m : Int))) m
  sM : sgn .f64 (fd ((m : Int) - 1)) = false
  sL : sgn .f64 (fd (-(m : Int))) = true
  pM : 0 < rung .f64 (fd ((m : Int) - 1))
  pL : 0 < rung .f64 (fd (-(m : Int)))
  zM : rung .f64 (fd ((m : Int) - 1)) ≤ 1042 * 4503599627370496
  zL : rung .f64 (fd (-(m : Int))) ≤ 1042 * 4503599627370496
  iM : floatToIntVal .f64 (fd ((m : Int) - 1)) .i64 = some ((m : Int) - 1)
  iL : floatToIntVal .f64 (fd (-(m : Int))) .i64 = some (-(m : Int))
set_option maxRecDepth 10000 in
theorem cst_of {b : Nat} (h1 : 2 ≤ b) (h2 : b ≤ 16) : Cst (mst b) := by
  obtain rfl | rfl | rfl | rfl | rfl | rfl | rfl | rfl | rfl | rfl | rfl | rfl | rfl | rfl | rfl : b = 2 ∨ b = 3 ∨ b = 4 ∨ b = 5 ∨ b = 6 ∨ b = 7 ∨ b = 8 ∨ b = 9 ∨ b = 10 ∨ b = 11 ∨ b = 12 ∨ b = 13 ∨ b = 14 ∨ b = 15 ∨ b = 16 := by omega
  all_goals exact ⟨⟨by decide +kernel, by decide +kernel⟩, ⟨by decide +kernel, by decide +kernel⟩, by decide +kernel, by decide +kernel, by decide +kernel, by decide +kernel, by decide +kernel, by decide +kernel, by decide +kernel, by decide +kernel⟩
def codO (m : Nat) : O → Int
  | none => 0
  | some x => if key .f64 (fd ((m : Int) - 1)) ≤ key .f64 x then (m : Int) - 1 else if key .f64 x ≤ key .f64 (fd (-(m : Int))) then -(m : Int) else (floatToIntVal .f64 (rneW x) .i64).getD 0
theorem key_pos {x : Nat} (h : sgn .f64 x = false) : key .f64 x = (rung .f64 x : Int) := by unfold key; rw [h]; rfl
theorem key_neg {x : Nat} (h : sgn .f64 x = true) : key .f64 x = -(rung .f64 x : Int) := by unfold key; rw [h]; rfl
theorem rne_hi {m x : Nat} (C : Cst m) (hx : rung .f64 x ≤ FloatKind.f64.format.infRung) : (key .f64 (fd ((m : Int) - 1)) ≤ key .f64 x → key .f64 (fd ((m : Int) - 1)) ≤ key .f64 (rneW x)) ∧ (key .f64 x ≤ key .f64 (fd ((m : Int) - 1)) → key .f64 (rneW x) ≤ key .f64 (fd ((m : Int) - 1))) := by
  have h1 := rne_sgn hx
  have p := C.pM
  have hf : rung .f64 (fd ((m : Int) - 1)) < FloatKind.f64.format.infRung := Nat.lt_of_le_of_lt C.zM (by decide)
  have h2 := rne_ge (x := x) hx C.wM
  have h3 := rne_le (x := x) hx C.wM hf
  rw [key_pos C.sM]
  cases hs : sgn .f64 x
  · rw [hs] at h1; rw [key_pos hs, key_pos h1]
    exact ⟨fun h => by have := h2 (by omega); omega, fun h => by have := h3 (by omega); omega⟩
  · rw [hs] at h1; rw [key_neg hs, key_neg h1]
    exact ⟨fun h => by omega, fun h => by omega⟩
theorem rne_lo {m x : Nat} (C : Cst m) (hx : rung .f64 x ≤ FloatKind.f64.format.infRung) : (key .f64 (fd (-(m : Int))) ≤ key .f64 x → key .f64 (fd (-(m : Int))) ≤ key .f64 (rneW x)) ∧ (key .f64 x ≤ key .f64 (fd (-(m : Int))) → key .f64 (rneW x) ≤ key .f64 (fd (-(m : Int)))) := by
  have h1 := rne_sgn hx
  have p := C.pL
  have hf : rung .f64 (fd (-(m : Int))) < FloatKind.f64.format.infRung := Nat.lt_of_le_of_lt C.zL (by decide)
  have h2 := rne_ge (x := x) hx C.wL
  have h3 := rne_le (x := x) hx C.wL hf
  rw [key_neg C.sL]
  cases hs : sgn .f64 x
  · rw [hs] at h1; rw [key_pos hs, key_pos h1]
    exact ⟨fun h => by omega, fun h => by omega⟩
  · rw [hs] at h1; rw [key_neg hs, key_neg h1]
    exact ⟨fun h => by have := h3 (by omega); omega, fun h => by have := h2 (by omega); omega⟩
theorem key_inj {x y : Nat} (hx : x < 2 ^ 64) (hy : y < 2 ^ 64) (h : key .f64 x = key .f64 y) (h0 : rung .f64 y ≠ 0) : x = y := by
  rw [← word_of .f64 (b := x) hx, ← word_of .f64 (b := y) hy]
  cases hs : sgn .f64 x <;> cases ht : sgn .f64 y
  · rw [key_pos hs, key_pos ht] at h; rw [show rung .f64 x = rung .f64 y by omega]
  · rw [key_pos hs, key_neg ht] at h; omega
  · rw [key_neg hs, key_pos ht] at h; omega
  · rw [key_neg hs, key_neg ht] at h; rw [show rung .f64 x = rung .f64 y by omega]
theorem rne_int {m x : Nat} (C : Cst m) (hx : rung .f64 x ≤ FloatKind.f64.format.infRung) (h1 : key .f64 (fd (-(m : Int))) ≤ key .f64 x) (h2 : key .f64 x ≤ key .f64 (fd ((m : Int) - 1))) : floatToIntVal .f64 (rneW x) .i64 = some ((floatToIntVal .f64 (rneW x) .i64).getD 0) := by
  have h3 := (rne_hi C hx).2 h2
  have h4 := (rne_lo C hx).1 h1
  have zM := C.zM; have zL := C.zL
  rw [key_pos C.sM] at h3; rw [key_neg C.sL] at h4
  obtain ⟨v, hv⟩ := toInt_some (y := rneW x) (by
    cases hs : sgn .f64 (rneW x)
    · rw [key_pos hs] at h3; omega
    · rw [key_neg hs] at h4; omega)
  rw [hv]; rfl
theorem fd_fits (c : Int) : ab .f64 (fd c) = some (fd c) ∧ fd c < 2 ^ 64 := ⟨(fv_write .f64 (d := .number (decide (c < 0)) c.natAbs 0) rfl).2, (fv_write .f64 (d := .number (decide (c < 0)) c.natAbs 0) rfl).1⟩
end Go.Proofs.Ytbjjggelgpomhaa

/- The code nearest to a number: both. -/
set_option linter.unusedVariables false
set_option linter.unusedSimpArgs false
namespace Go.Proofs.Ytbjjggelgpomhaa
open Fl Go.RowKit
theorem run_rne {P : Program} (x : Nat) (hx : ab .f64 x = some x) (w : World) : (Extern.MathFloor.toIntegral "math.RoundToEven" .even #[.float .f64 x]).run P w = .ok (.float .f64 (rneW x)) w := by
  have hn : (FloatKind.f64.decode x).isNaN = false := by
    have := read_nan (k := .f64) (b := x)
    rw [hx] at this
    exact this
  unfold rneW
  change Sem.run P (match FloatKind.f64.decode x with
    | .nan s t => if FloatKind.f64.format.quiet t = t then pure (Value.float .f64 x) else do
      let kept ← choose (.extern "math.Floor,Ceil,Trunc,RoundToEven.signallingNaN kept" 2)
      pure (Value.float .f64 (if kept == 1 then x else FloatKind.f64.encode (.nan s (FloatKind.f64.format.quiet t))))
    | d => pure (Value.float .f64 (FloatKind.f64.encode (d.integral .even)))) w = _
  cases hd : FloatKind.f64.decode x with
  | nan s t => rw [hd] at hn; cases hn
  | number s m e => rfl
  | infinity s => rfl
theorem codO_some (m x : Nat) : codO m (some x) = if key .f64 (fd ((m : Int) - 1)) ≤ key .f64 x then (m : Int) - 1 else if key .f64 x ≤ key .f64 (fd (-(m : Int))) then -(m : Int) else (floatToIntVal .f64 (rneW x) .i64).getD 0 := rfl
theorem ord_of {x c : Nat} (hx : ab .f64 x = some x) (hc : ab .f64 c = some c) : (key .f64 x < key .f64 c ∧ FloatKind.f64.format.order x c = some .lt) ∨ (key .f64 x = key .f64 c ∧ FloatKind.f64.format.order x c = some .eq) ∨ (key .f64 c < key .f64 x ∧ FloatKind.f64.format.order x c = some .gt) := by
  rw [order_key .f64 hx hc, cmp_def]
  rcases Int.lt_trichotomy (key .f64 x) (key .f64 c) with h | h | h
  · exact .inl ⟨h, by rw [if_pos h]⟩
  · exact .inr (.inl ⟨h, by rw [if_neg (by omega), if_pos h]⟩)
  · exact .inr (.inr ⟨h, by rw [if_neg (by omega), if_neg (by omega)]⟩)
end Go.Proofs.Ytbjjggelgpomhaa

/- The code nearest to a number: the program's. -/
set_option linter.unusedVariables false
set_option linter.unusedSimpArgs false
namespace Go.Proofs.Ytbjjggelgpomhaa
open Fl Go.RowKit
theorem isNaN_nan (x : Nat) (h : FloatKind.f64.format.order x x = none) (w : World) : Calls Try.prog 55 #[.float .f64 x] w fun e w' => e = .returned (.bool true) ∧ w = w' := by
  go_enter Try.func55, Try.ntmps55
  go_wp2
  go_ret
  exact ⟨rfl, rfl⟩
theorem isNaN_num (x : Nat) (h : FloatKind.f64.format.order x x = some .eq) (w : World) : Calls Try.prog 55 #[.float .f64 x] w fun e w' => e = .returned (.bool false) ∧ w = w' := by
  go_enter Try.func55, Try.ntmps55
  go_wp2
  go_ret
  exact ⟨rfl, rfl⟩
theorem run_max {P : Program} (ts : Array TypeId) (t : TypeId) (x y r : Nat) (h : (FloatKind.f64.format.order x y = some .lt ∧ r = y) ∨ (FloatKind.f64.format.order x y = some .gt ∧ r = x) ∨ (FloatKind.f64.format.order x y = some .eq ∧ x = y ∧ r = x)) (W : World) :
    (Builtin.max_ ts t #[.float .f64 x, .float .f64 y]).run P W = .ok (.float .f64 r) W := by
  rcases h with ⟨h, rfl⟩ | ⟨h, rfl⟩ | ⟨h, rfl, rfl⟩
  · simp [Builtin.max_, Builtin.max2, h]
  · simp [Builtin.max_, Builtin.max2, h]
  · simp [Builtin.max_, Builtin.max2, h]
theorem run_min {P : Program} (ts : Array TypeId) (t : TypeId) (x y r : Nat) (h : (FloatKind.f64.format.order x y = some .lt ∧ r = x) ∨ (FloatKind.f64.format.order x y = some .gt ∧ r = y) ∨ (FloatKind.f64.format.order x y = some .eq ∧ x = y ∧ r = x)) (W : World) :
    (Builtin.min_ ts t #[.float .f64 x, .float .f64 y]).run P W = .ok (.float .f64 r) W := by
  rcases h with ⟨h, rfl⟩ | ⟨h, rfl⟩ | ⟨h, rfl, rfl⟩
  · simp [Builtin.min_, Builtin.min2, h]
  · simp [Builtin.min_, Builtin.min2, h]
  · simp [Builtin.min_, Builtin.min2, h]
/-- the rounded number, brought between the bounds, as an integer -/
theorem clamp_num {m x : Nat} (C : Cst m) (hab : ab .f64 x = some x) :
    ∃ r1 r2, ((FloatKind.f64.format.order (rneW x) (fd (-(m : Int))) = some .lt ∧ r1 = fd (-(m : Int))) ∨ (FloatKind.f64.format.order (rneW x) (fd (-(m : Int))) = some .gt ∧ r1 = rneW x) ∨ (FloatKind.f64.format.order (rneW x) (fd (-(m : Int))) = some .eq ∧ rneW x = fd (-(m : Int)) ∧ r1 = rneW x)) ∧
      ((FloatKind.f64.format.order r1 (fd ((m : Int) - 1)) = some .lt ∧ r2 = r1) ∨ (FloatKind.f64.format.order r1 (fd ((m : Int) - 1)) = some .gt ∧ r2 = fd ((m : Int) - 1)) ∨ (FloatKind.f64.format.order r1 (fd ((m : Int) - 1)) = some .eq ∧ r1 = fd ((m : Int) - 1) ∧ r2 = r1)) ∧
      floatToIntVal .f64 r2 .i64 = some (codO m (some x)) := by
  have hr := rung_of_ab .f64 hab
  have hR := rne_fits hr
  have hRa := ab_of_rung hR.1
  have fM := fd_fits ((m : Int) - 1)
  have fL := fd_fits (-(m : Int))
  have hi := rne_hi C hr
  have lo := rne_lo C hr
  have kM := key_pos C.sM; have pM := C.pM
  have kL := key_neg C.sL; have pL := C.pL
  have hML : FloatKind.f64.format.order (fd (-(m : Int))) (fd ((m : Int) - 1)) = some .lt := by
    rcases ord_of fL.1 fM.1 with ⟨h, h2⟩ | ⟨h, h2⟩ | ⟨h, h2⟩
    · exact h2
    · omega
    · omega
  rw [codO_some]
  rcases ord_of hRa fL.1 with ⟨h1, o1⟩ | ⟨h1, o1⟩ | ⟨h1, o1⟩
  · refine ⟨fd (-(m : Int)), fd (-(m : Int)), .inl ⟨o1, rfl⟩, .inl ⟨hML, rfl⟩, ?_⟩
    rw [C.iL, if_neg (by omega), if_pos (by omega)]
  · have e := key_inj hR.2 fL.2 h1 (by omega)
    refine ⟨rneW x, rneW x, .inr (.inr ⟨o1, e, rfl⟩), .inl ⟨by rw [e]; exact hML, rfl⟩, ?_⟩
    rw [if_neg (by omega)]
    split
    · rw [e]; exact C.iL
    · exact rne_int C hr (by omega) (by omega)
  · rcases ord_of hRa fM.1 with ⟨h2, o2⟩ | ⟨h2, o2⟩ | ⟨h2, o2⟩
    · refine ⟨rneW x, rneW x, .inr (.inl ⟨o1, rfl⟩), .inl ⟨o2, rfl⟩, ?_⟩
      rw [if_neg (by omega), if_neg (by omega)]
      exact rne_int C hr (by omega) (by omega)
    · have e := key_inj hR.2 fM.2 h2 (by omega)
      refine ⟨rneW x, rneW x, .inr (.inl ⟨o1, rfl⟩), .inr (.inr ⟨o2, e, rfl⟩), ?_⟩
      split
      · rw [e]; exact C.iM
      · rw [if_neg (by omega)]
        exact rne_int C hr (by omega) (by omega)
    · refine ⟨rneW x, fd ((m : Int) - 1), .inr (.inl ⟨o1, rfl⟩), .inr (.inl ⟨o2, rfl⟩), ?_⟩
      rw [C.iM, if_pos (by omega)]
end Go.Proofs.Ytbjjggelgpomhaa

/- Products with powers of two: the code of the product in 32 bits is that of the product in 64 bits. -/
set_option linter.unusedVariables false
set_option linter.unusedSimpArgs false
namespace Go.Proofs.Ytbjjggelgpomhaa
namespace Fl
open Ieee
theorem nearest_exact (k : FloatKind) (neg : Bool) {r mag : Nat} {place b : Int} (hr : r < k.format.infRung) (hb : b ≤ place) (hbl : b ≤ k.format.leastPlace)
    (h : zv k r * 2 ^ (k.format.leastPlace - b).toNat = mag * 2 ^ (place - b).toNat) : rung k (k.format.nearest neg mag place) = r := by
  obtain ⟨m, e, hz, hme, _⟩ := rung_form k r
  have h0 := nearest_rung k neg hr hz hme
  have h1 : m * 2 ^ (k.format.leastPlace + (e : Int) - b).toNat = mag * 2 ^ (place - b).toNat := by
    rw [← h, hz, Nat.mul_assoc, ← Nat.pow_add]
    congr 2
    omega
  have a := nearest_mono k neg neg (mag := m) (mag' := mag) (place := k.format.leastPlace + e) (place' := place) (b := b) (by omega) hb hbl (Nat.le_of_eq h1)
  have a' := nearest_mono k neg neg (mag := mag) (mag' := m) (place := place) (place' := k.format.leastPlace + e) (b := b) hb (by omega) hbl (Nat.le_of_eq h1.symm)
  omega
theorem zv_dbl1 (k : FloatKind) (r : Nat) : ∃ r', zv k r' = zv k r * 2 := by
  have hp := bin_pos k
  by_cases h : r < k.format.binade
  · refine ⟨2 * r, ?_⟩
    by_cases h2 : 2 * r < k.format.binade
    · unfold zv; rw [if_pos h2, if_pos h]; omega
    · have e1 : 2 * r / k.format.binade = 1 := by
        rw [Nat.div_eq_sub_div hp (by omega), Nat.div_eq_of_lt (by omega)]
      have e2 : 2 * r % k.format.binade = 2 * r - k.format.binade := by
        rw [Nat.mod_eq_sub_mod (by omega), Nat.mod_eq_of_lt (by omega)]
      unfold zv
      rw [if_neg h2, if_pos h, e1, e2]
      simp
      omega
  · refine ⟨r + k.format.binade, ?_⟩
    have e1 : (r + k.format.binade) / k.format.binade = r / k.format.binade + 1 := Nat.add_div_right _ hp
    have e2 : (r + k.format.binade) % k.format.binade = r % k.format.binade := Nat.add_mod_right _ _
    have hq : 1 ≤ r / k.format.binade := (Nat.one_le_div_iff hp).2 (by omega)
    unfold zv
    rw [if_neg (by omega), if_neg h, e1, e2, Nat.mul_assoc, ← Nat.pow_succ]
    congr 2
    omega
theorem zv_dbl (k : FloatKind) (r : Nat) : ∀ j, ∃ r', zv k r' = zv k r * 2 ^ j
  | 0 => ⟨r, by rw [Nat.pow_zero, Nat.mul_one]⟩
  | j + 1 => by
    obtain ⟨s, hs⟩ := zv_dbl k r j
    obtain ⟨t, ht⟩ := zv_dbl1 k s
    exact ⟨t, by rw [ht, hs, Nat.pow_succ, Nat.mul_assoc]⟩
/-- a product that is exact -/
theorem mul_exact (k : FloatKind) {x c r m : Nat} (hx : rung k x < k.format.infRung) (hc : rung k c < k.format.infRung) (sc : sgn k c = false) (P : Nat) (hP : k.format.leastPlace = -(P : Int)) (hzc : zv k (rung k c) = m * 2 ^ P) (hr : r < k.format.infRung)
    (hzr : zv k r = zv k (rung k x) * m) : ∃ q, floatBits .mul k x c = some q ∧ rung k q = r ∧ sgn k q = sgn k x := by
  obtain ⟨mx, ex, h1, h2⟩ := read_fin k hx
  obtain ⟨mc, ec, h3, h4⟩ := read_fin k hc
  simp only [floatBits, Format.mul, h1, h3, Datum.product, Option.map_some]
  refine ⟨_, rfl, ?_, ?_⟩
  · show rung k (k.format.nearest _ _ _) = r
    refine nearest_exact k _ (b := k.format.leastPlace + k.format.leastPlace) hr (by omega) (by omega) ?_
    rw [show (k.format.leastPlace - (k.format.leastPlace + k.format.leastPlace)).toNat = P by omega,
      show (k.format.leastPlace + (ex : Int) + (k.format.leastPlace + (ec : Int)) - (k.format.leastPlace + k.format.leastPlace)).toNat = ex + ec by omega, hzr, h2, Nat.pow_add]
    have e : mx * mc * (2 ^ ex * 2 ^ ec) = (mx * 2 ^ ex) * (mc * 2 ^ ec) := by rw [Nat.mul_assoc, Nat.mul_assoc, Nat.mul_left_comm mc]
    rw [e, ← h4, hzc, Nat.mul_assoc]
  · show sgn k (k.format.nearest _ _ _) = _
    rw [sgn_nearest, sc]
    cases sgn k x <;> rfl
/-- a product with a number without sign, at least 1, is not less, and has the sign -/
theorem mul_big (k : FloatKind) {x c o t : Nat} (hx : rung k x < k.format.infRung) (hc : rung k c < k.format.infRung) (sc : sgn k c = false) (ht : rung k t < k.format.infRung) (ho : rung k o < k.format.infRung) (h1 : rung k t ≤ rung k x) (h2 : rung k o ≤ rung k c)
    (h3 : (floatBits .mul k t o).map (fun r => decide (rung k t ≤ rung k r)) = some true) : ∃ q, floatBits .mul k x c = some q ∧ rung k t ≤ rung k q ∧ sgn k q = sgn k x ∧ rung k q ≤ k.format.infRung := by
  obtain ⟨r, q, e1, e2, e3⟩ := mul_size k ht ho hx hc h1 h2
  rw [e1] at h3
  simp only [Option.map_some, Option.some.injEq, decide_eq_true_eq] at h3
  refine ⟨q, e2, by omega, ?_⟩
  obtain ⟨mx, ex, g1, g2⟩ := read_fin k hx
  obtain ⟨mc, ec, g3, g4⟩ := read_fin k hc
  simp only [floatBits, Format.mul, g1, g3, Datum.product, Option.map_some] at e2
  injection e2 with e2
  rw [← e2]
  refine ⟨?_, nearest_fin _ _ _ _⟩
  show sgn k (k.format.nearest _ _ _) = _
  rw [sgn_nearest, sc]
  cases sgn k x <;> rfl
end Fl
open Fl Go.RowKit Ieee
/-- what is asked of m as a number of 32 and of 64 bits -/
structure Pw (m : Nat) : Prop where
  f3 : rung .f32 (fI (m : Int)) < FloatKind.f32.format.infRung
  f6 : rung .f64 (fd (m : Int)) < FloatKind.f64.format.infRung
  s3 : sgn .f32 (fI (m : Int)) = false
  s6 : sgn .f64 (fd (m : Int)) = false
  z3 : zv .f32 (rung .f32 (fI (m : Int))) = m * 2 ^ 149
  z6 : zv .f64 (rung .f64 (fd (m : Int))) = m * 2 ^ 1074
  o3 : rung .f32 1065353216 ≤ rung .f32 (fI (m : Int))
  o6 : rung .f64 4607182418800017408 ≤ rung .f64 (fd (m : Int))
  i3 : ∀ s : Bool, (Datum.infinity s).product (FloatKind.f32.format.read (fI (m : Int))) = some (.infinity s)
  i6 : ∀ s : Bool, (Datum.infinity s).product (FloatKind.f64.format.read (fd (m : Int))) = some (.infinity s)
set_option maxRecDepth 10000 in
theorem pw_of {b : Nat} (h1 : 2 ≤ b) (h2 : b ≤ 16) : Pw (mst b) := by
  obtain rfl | rfl | rfl | rfl | rfl | rfl | rfl | rfl | rfl | rfl | rfl | rfl | rfl | rfl | rfl : b = 2 ∨ b = 3 ∨ b = 4 ∨ b = 5 ∨ b = 6 ∨ b = 7 ∨ b = 8 ∨ b = 9 ∨ b = 10 ∨ b = 11 ∨ b = 12 ∨ b = 13 ∨ b = 14 ∨ b = 15 ∨ b = 16 := by omega
  all_goals exact ⟨by decide +kernel, by decide +kernel, by decide +kernel, by decide +kernel, by decide +kernel, by decide +kernel, by decide +kernel, by decide +kernel, by decide +kernel, by decide +kernel⟩
def t32 : Nat := 147 * 8388608
def t64 : Nat := 1043 * 4503599627370496
theorem cod_sat {m y : Nat} (C : Cst m) (h : rung .f64 t64 ≤ rung .f64 y) : codO m (some y) = if sgn .f64 y then -(m : Int) else (m : Int) - 1 := by
  have kM := key_pos C.sM; have kL := key_neg C.sL
  have zM := C.zM; have zL := C.zL; have pM := C.pM
  have ht : rung .f64 t64 = 1043 * 4503599627370496 := by decide
  rw [codO_some]
  cases hs : sgn .f64 y
  · have ky := key_pos hs
    rw [if_pos (by omega)]; rfl
  · have ky := key_neg hs
    rw [if_neg (by omega), if_pos (by omega)]; rfl
theorem wide_some (x : Nat) : wide (some x) = some (FloatKind.f64.encode (FloatKind.f32.decode x)) := rfl
theorem opO_some (op : BinOp) (k : FloatKind) (x y : Nat) : opO op k (some x) (some y) = floatBits op k x y := rfl
theorem wide_big {p : Nat} (hp : rung .f32 p ≤ FloatKind.f32.format.infRung) (h : rung .f32 t32 ≤ rung .f32 p) : rung .f64 t64 ≤ rung .f64 (FloatKind.f64.encode (FloatKind.f32.decode p)) ∧ sgn .f64 (FloatKind.f64.encode (FloatKind.f32.decode p)) = sgn .f32 p := by
  obtain ⟨D, hD⟩ : ∃ D : Nat, D = 925 := ⟨_, rfl⟩
  rcases Nat.lt_or_eq_of_le hp with h1 | h1
  · obtain ⟨a, b⟩ := wide_zv h1 D hD
    refine ⟨?_, a⟩
    have h2 := wide_zv (b := t32) (by decide) D hD
    rw [show FloatKind.f64.encode (FloatKind.f32.decode t32) = t64 by decide +kernel] at h2
    refine (zv_le .f64).1 ?_
    rw [h2.2, b]
    exact Nat.mul_le_mul_right _ ((zv_le .f32).2 h)
  · have hr : FloatKind.f32.decode p = .infinity (sgn .f32 p) := read_inf .f32 h1
    rw [hr]
    cases sgn .f32 p <;> decide +kernel
theorem sg_word_inj {x y : Nat} (hx : x < 2 ^ 64) (hy : y < 2 ^ 64) (h1 : rung .f64 x = rung .f64 y) (h2 : sgn .f64 x = sgn .f64 y) : x = y := by
  rw [← word_of .f64 (b := x) hx, ← word_of .f64 (b := y) hy, h1, h2]
theorem op_lt {op : BinOp} {k : FloatKind} {x y q : Nat} (h : floatBits op k x y = some q) : q < 2 ^ k.format.width := by
  cases op <;> simp only [floatBits] at h <;> first | (cases h; done) | skip
  all_goals
    simp only [Format.add, Format.sub, Format.mul, Format.div, Option.map_eq_some_iff] at h
    obtain ⟨d, hd, rfl⟩ := h
    exact k.format.write_lt d
set_option maxHeartbeats 1000000 in
theorem cod_mul {m j : Nat} (hj : m = 2 ^ j) (hm : m ≤ 32768) (C : Cst m) (W : Pw m) (X : O) (hX : ∀ x, X = some x → rung .f32 x ≤ FloatKind.f32.format.infRung) :
    codO m (wide (opO .mul .f32 X (some (fI (m : Int))))) = codO m (opO .mul .f64 (wide X) (some (fd (m : Int)))) := by
  cases X with
  | none => rfl
  | some x =>
    have hx := hX x rfl
    rw [wide_some, opO_some, opO_some]
    have one6 : rung .f64 4607182418800017408 < FloatKind.f64.format.infRung := by decide
    have one3 : rung .f32 1065353216 < FloatKind.f32.format.infRung := by decide
    rcases Nat.lt_or_eq_of_le hx with h1 | h1
    · obtain ⟨D, hD⟩ : ∃ D : Nat, D = 925 := ⟨_, rfl⟩
      obtain ⟨sx, zx⟩ := wide_zv h1 D hD
      have hD3 : zv .f32 FloatKind.f32.format.infRung * 2 ^ D ≤ zv .f64 FloatKind.f64.format.infRung := by rw [hD]; decide +kernel
      have hwf : rung .f64 (FloatKind.f64.encode (FloatKind.f32.decode x)) < FloatKind.f64.format.infRung := by
        refine (zv_lt .f64).1 ?_
        rw [zx]
        have h2 : zv .f32 (rung .f32 x) < zv .f32 FloatKind.f32.format.infRung := (zv_lt .f32).2 h1
        exact Nat.lt_of_lt_of_le (Nat.mul_lt_mul_of_pos_right h2 (Nat.two_pow_pos _)) hD3
      rcases Nat.lt_or_ge (rung .f32 x) (rung .f32 t32) with h2 | h2
      · -- small: both products are exact
        obtain ⟨r, hr⟩ := zv_dbl .f32 (rung .f32 x) j
        rw [← hj] at hr
        have hrf : r < FloatKind.f32.format.infRung := by
          refine (zv_lt .f32).1 ?_
          rw [hr]
          have h3 : zv .f32 (rung .f32 x) < zv .f32 (rung .f32 t32) := (zv_lt .f32).2 h2
          have h4 : zv .f32 (rung .f32 t32) * 32768 ≤ zv .f32 FloatKind.f32.format.infRung := by decide +kernel
          have h5 : zv .f32 (rung .f32 x) * m ≤ zv .f32 (rung .f32 x) * 32768 := Nat.mul_le_mul_left _ hm
          omega
        obtain ⟨p, e1, e2, e3⟩ := mul_exact .f32 h1 W.f3 W.s3 149 (by decide) W.z3 hrf hr
        have hpf : rung .f32 p < FloatKind.f32.format.infRung := by rw [e2]; exact hrf
        obtain ⟨sp, zp⟩ := wide_zv hpf D hD
        have hpw : rung .f64 (FloatKind.f64.encode (FloatKind.f32.decode p)) < FloatKind.f64.format.infRung := by
          refine (zv_lt .f64).1 ?_
          rw [zp]
          have h2 : zv .f32 (rung .f32 p) < zv .f32 FloatKind.f32.format.infRung := (zv_lt .f32).2 hpf
          exact Nat.lt_of_lt_of_le (Nat.mul_lt_mul_of_pos_right h2 (Nat.two_pow_pos _)) hD3
        obtain ⟨q, g1, g2, g3⟩ := mul_exact .f64 hwf W.f6 W.s6 1074 (by decide) W.z6 hpw (by rw [zp, e2, hr, zx, Nat.mul_assoc, Nat.mul_comm m, ← Nat.mul_assoc])
        rw [e1, g1, wide_some]
        have : FloatKind.f64.encode (FloatKind.f32.decode p) = q := sg_word_inj (FloatKind.f64.format.write_lt _) (op_lt g1) g2.symm (by rw [sp, e3, g3, sx])
        rw [this]
      · obtain ⟨p, e1, e2, e3, e4⟩ := mul_big .f32 (t := t32) (o := 1065353216) h1 W.f3 W.s3 (by decide) one3 h2 W.o3 (by decide +kernel)
        obtain ⟨w1, w2⟩ := wide_big hx h2
        obtain ⟨q, g1, g2, g3, g4⟩ := mul_big .f64 (t := t64) (o := 4607182418800017408) hwf W.f6 W.s6 (by decide) one6 w1 W.o6 (by decide +kernel)
        obtain ⟨v1, v2⟩ := wide_big e4 e2
        rw [e1, g1, wide_some, cod_sat C v1, cod_sat C g2, v2, e3, g3, w2]
    · have hr : FloatKind.f32.format.read x = .infinity (sgn .f32 x) := read_inf .f32 h1
      have hd : FloatKind.f32.decode x = .infinity (sgn .f32 x) := hr
      have e1 : floatBits .mul .f32 x (fI (m : Int)) = some (FloatKind.f32.format.word (sgn .f32 x) FloatKind.f32.format.infRung) := by
        simp only [floatBits, Format.mul, hr, W.i3, Option.map_some]; rfl
      have hr6 : FloatKind.f64.format.read (FloatKind.f64.encode (FloatKind.f32.decode x)) = .infinity (sgn .f32 x) := by
        rw [hd]; cases sgn .f32 x <;> decide +kernel
      have e2 : floatBits .mul .f64 (FloatKind.f64.encode (FloatKind.f32.decode x)) (fd (m : Int)) = some (FloatKind.f64.format.word (sgn .f32 x) FloatKind.f64.format.infRung) := by
        simp only [floatBits, Format.mul, hr6, W.i6, Option.map_some]; rfl
      rw [e1, e2, wide_some]
      cases sgn .f32 x
      · rw [show FloatKind.f64.encode (FloatKind.f32.decode (FloatKind.f32.format.word false FloatKind.f32.format.infRung)) = FloatKind.f64.format.word false FloatKind.f64.format.infRung by decide +kernel]
      · rw [show FloatKind.f64.encode (FloatKind.f32.decode (FloatKind.f32.format.word true FloatKind.f32.format.infRung)) = FloatKind.f64.format.word true FloatKind.f64.format.infRung by decide +kernel]
end Go.Proofs.Ytbjjggelgpomhaa

/- Whole parts of floats: what goes into an integer, and what is left of it. -/
set_option linter.unusedVariables false
set_option linter.unusedSimpArgs false
namespace Go.Proofs.Ytbjjggelgpomhaa
namespace Fl
open Ieee
theorem cutz_eq (s : Bool) (n d : Nat) : Toward.zero.cut s n d = n / 2 ^ d := by
  unfold Toward.cut
  dsimp only
  rw [Nat.shiftLeft_eq, Nat.one_mul]
  show n / 2 ^ min d (n.log2 + 2) + 0 = _
  rcases Nat.le_total d (n.log2 + 2) with h1 | h1
  · rw [Nat.min_eq_left h1]; rfl
  · have h2 : n < 2 ^ (n.log2 + 2) := Nat.lt_trans Nat.lt_log2_self (Nat.pow_lt_pow_right (by decide) (by omega))
    rw [Nat.min_eq_right h1, Nat.div_eq_of_lt h2, Nat.div_eq_of_lt (Nat.lt_of_lt_of_le h2 (Nat.pow_le_pow_right (by decide) h1))]
/-- the whole part of a finite number's size -/
def whl (D y : Nat) : Nat := zv .f64 (rung .f64 y) / 2 ^ D
theorem toInt_whole {y D : Nat} (hD : D = 1074) (hf : rung .f64 y < FloatKind.f64.format.infRung) (hlt : whl D y < 4611686018427387904) : floatToIntVal .f64 y .i64 = some (sg (sgn .f64 y) (whl D y)) := by
  obtain ⟨m, e, hr, hz⟩ := read_fin .f64 hf
  have h2 : FloatKind.f64.format.leastPlace = -(D : Int) := by rw [hD]; decide
  clear hD
  have hd : FloatKind.f64.decode y = .number (sgn .f64 y) m (-(D : Int) + e) := by rw [← h2]; exact hr
  have hc : Toward.zero.cut (sgn .f64 y) (m <<< (-(D : Int) + e).toNat) (-(-(D : Int) + e)).toNat = whl D y := by
    rw [cutz_eq, Nat.shiftLeft_eq]
    unfold whl
    rw [hz]
    rcases Nat.le_total e D with h4 | h4
    · rw [show (-(D : Int) + e).toNat = 0 by omega, show (-(-(D : Int) + e)).toNat = D - e by omega, Nat.pow_zero, Nat.mul_one]
      have h5 : 2 ^ D = 2 ^ (D - e) * 2 ^ e := by rw [← Nat.pow_add]; congr 1; omega
      rw [h5, Nat.mul_div_mul_right _ _ (Nat.two_pow_pos e)]
    · rw [show (-(D : Int) + e).toNat = e - D by omega, show (-(-(D : Int) + e)).toNat = 0 by omega, Nat.pow_zero, Nat.div_one]
      have h5 : 2 ^ e = 2 ^ (e - D) * 2 ^ D := by rw [← Nat.pow_add]; congr 1; omega
      rw [h5, ← Nat.mul_assoc, Nat.mul_div_cancel _ (Nat.two_pow_pos D)]
  have hi : (Datum.number (sgn .f64 y) m (-(D : Int) + e)).toInt .zero = some (sg (sgn .f64 y) (whl D y)) := by
    unfold Datum.toInt Datum.integral
    dsimp only
    rw [hc]
    simp only [signed, sg, Nat.shiftLeft_zero]
  unfold floatToIntVal
  rw [hd, hi]
  dsimp only
  have r1 : IntKind.i64.min ≤ sg (sgn .f64 y) (whl D y) := by show (-9223372036854775808 : Int) ≤ _; unfold sg; split <;> omega
  have r2 : sg (sgn .f64 y) (whl D y) ≤ IntKind.i64.max := by show _ ≤ (9223372036854775807 : Int); unfold sg; split <;> omega
  rw [if_pos ⟨r1, r2⟩]
theorem zv_low {C : Nat} (h : C < 9007199254740992) : zv .f64 C = C := by
  have hb : FloatKind.f64.format.binade = 4503599627370496 := by decide
  unfold zv
  rw [hb]
  by_cases h1 : C < 4503599627370496
  · rw [if_pos h1]
  · have e1 : C / 4503599627370496 = 1 := by omega
    have e2 : C % 4503599627370496 = C - 4503599627370496 := by omega
    rw [if_neg h1, e1, e2]
    simp
    omega
theorem fd_whole {C D : Nat} {s : Bool} (hD : D = 1074) (h : C < 9007199254740992) : rung .f64 (fd (sg s C)) < FloatKind.f64.format.infRung ∧ zv .f64 (rung .f64 (fd (sg s C))) = C * 2 ^ D ∧ (C ≠ 0 → sgn .f64 (fd (sg s C)) = s) := by
  obtain ⟨r, hr⟩ := zv_dbl .f64 C D
  rw [zv_low h] at hr
  have h2 : FloatKind.f64.format.leastPlace = -(D : Int) := by rw [hD]; decide
  have hbig : zv .f64 (1076 * 4503599627370496) = 9007199254740992 * 2 ^ D := by rw [hD]; decide +kernel
  have hfin : 1076 * 4503599627370496 < FloatKind.f64.format.infRung := by decide
  have hri : r < FloatKind.f64.format.infRung := by
    refine Nat.lt_trans ((zv_lt .f64).1 ?_) hfin
    rw [hr, hbig]
    exact Nat.mul_lt_mul_of_pos_right h (Nat.two_pow_pos D)
  clear hD hbig
  have hn : (sg s C).natAbs = C := by unfold sg; split <;> omega
  have e : fd (sg s C) = FloatKind.f64.format.nearest (decide (sg s C < 0)) C 0 := by
    show FloatKind.f64.format.nearest (decide (sg s C < 0)) (sg s C).natAbs 0 = _
    rw [hn]
  have hrr : rung .f64 (fd (sg s C)) = r := by
    rw [e]
    refine nearest_exact .f64 _ (b := -(D : Int)) hri (by omega) (by omega) ?_
    rw [h2, show (-(D : Int) - -(D : Int)).toNat = 0 by omega, show ((0 : Int) - -(D : Int)).toNat = D by omega, Nat.pow_zero, Nat.mul_one, hr]
  refine ⟨by rw [hrr]; exact hri, by rw [hrr, hr], fun h0 => ?_⟩
  rw [e, sgn_nearR]
  unfold sg
  cases s
  · simp
  · simp; omega
theorem sub_whole {x D : Nat} (hD : D = 1074) (hf : rung .f64 x < FloatKind.f64.format.infRung) (hlt : whl D x < 9007199254740992) : ∃ d, floatBits .sub .f64 x (fd (sg (sgn .f64 x) (whl D x))) = some d ∧ rung .f64 d ≤ 4607182418800017408 := by
  obtain ⟨hv1, hv2, hv3⟩ := fd_whole (s := sgn .f64 x) hD hlt
  have h2 : FloatKind.f64.format.leastPlace = -(D : Int) := by rw [hD]; decide
  have hone : rung .f64 (FloatKind.f64.format.nearest false 1 0) = 4607182418800017408 := by decide
  clear hD
  obtain ⟨m, e, hm, hz⟩ := read_fin .f64 hf
  obtain ⟨n, f, hn, hz2⟩ := read_fin .f64 hv1
  have hdm : zv .f64 (rung .f64 x) = whl D x * 2 ^ D + zv .f64 (rung .f64 x) % 2 ^ D := by unfold whl; rw [Nat.mul_comm]; exact (Nat.div_add_mod _ _).symm
  have hmod := Nat.mod_lt (zv .f64 (rung .f64 x)) (Nat.two_pow_pos D)
  obtain ⟨C, hC⟩ : ∃ C, C = whl D x := ⟨_, rfl⟩
  rw [← hC] at hv1 hv2 hv3 hn hz2 hdm hlt ⊢
  simp only [floatBits, Format.sub, hm, hn, Datum.opposite, Datum.sum, Option.map_some]
  refine ⟨_, rfl, ?_⟩
  rw [← hone]
  refine nearest_mono .f64 _ _ (b := FloatKind.f64.format.leastPlace) (by omega) (by omega) (by omega) ?_
  rw [h2]
  have e1 : (min (-(D : Int) + (e : Int)) (-(D : Int) + (f : Int)) - -(D : Int)).toNat = min e f := by omega
  have e3 : (-(D : Int) + (e : Int) - min (-(D : Int) + (e : Int)) (-(D : Int) + (f : Int))).toNat = e - min e f := by omega
  have e4 : (-(D : Int) + (f : Int) - min (-(D : Int) + (e : Int)) (-(D : Int) + (f : Int))).toNat = f - min e f := by omega
  have e5 : ((0 : Int) - -(D : Int)).toNat = D := by omega
  rw [e1, e3, e4, e5]
  have sgd : ∀ (s : Bool) (a u : Nat), signed s a u = sg s (a * 2 ^ u) := by intro s a u; simp only [signed, sg, Nat.shiftLeft_eq]
  rw [sgd, sgd]
  have a1 : m * 2 ^ (e - min e f) * 2 ^ min e f = C * 2 ^ D + zv .f64 (rung .f64 x) % 2 ^ D := by
    rw [Nat.mul_assoc, ← Nat.pow_add, Nat.sub_add_cancel (Nat.min_le_left ..), ← hz]; exact hdm
  have a2 : n * 2 ^ (f - min e f) * 2 ^ min e f = C * 2 ^ D := by
    rw [Nat.mul_assoc, ← Nat.pow_add, Nat.sub_add_cancel (Nat.min_le_right ..), ← hz2]; exact hv2
  generalize zv .f64 (rung .f64 x) % 2 ^ D = R at *
  generalize m * 2 ^ (e - min e f) = M at *
  generalize n * 2 ^ (f - min e f) = N' at *
  have hle : N' ≤ M := Nat.le_of_mul_le_mul_right (show N' * 2 ^ min e f ≤ M * 2 ^ min e f by rw [a1, a2]; omega) (Nat.two_pow_pos _)
  have hdiff : (M - N') * 2 ^ min e f = R := by rw [Nat.sub_mul, a1, a2]; omega
  have hab : (sg (sgn .f64 x) M + sg (!sgn .f64 (fd (sg (sgn .f64 x) C))) N').natAbs = M - N' := by
    by_cases h0 : C = 0
    · have hN : N' = 0 := by
        rw [h0, Nat.zero_mul] at a2
        rcases Nat.mul_eq_zero.1 a2 with h | h
        · exact h
        · have := Nat.two_pow_pos (min e f); omega
      rw [hN]
      unfold sg
      generalize sgn .f64 (fd (sg (sgn .f64 x) C)) = t
      generalize sgn .f64 x = u
      cases u <;> cases t <;> simp
    · rw [hv3 h0]
      unfold sg
      cases sgn .f64 x
      · simp; omega
      · simp; omega
  rw [hab, hdiff, Nat.one_mul]
  exact Nat.le_of_lt hmod
end Fl
end Go.Proofs.Ytbjjggelgpomhaa

/- Sines of phases: both sides. -/
set_option linter.unusedVariables false
set_option linter.unusedSimpArgs false
namespace Go.Proofs.Ytbjjggelgpomhaa
open Fl Go.RowKit Ieee
theorem sw64 : FloatKind.f64.format.signWeight = 9223372036854775808 := by decide
/-- 2 to the power of 52 -/
def c52 : Nat := 4841369599423283200
/-- a number of less size, against one that is not -/
theorem ord_lt {x c : Nat} (hx : ab .f64 x = some x) (hc : ab .f64 c = some c) (h : rung .f64 x < rung .f64 c52) (sc : sgn .f64 c = false) (h2 : rung .f64 c52 ≤ rung .f64 c) : FloatKind.f64.format.order x c = some .lt := by
  rw [order_key .f64 hx hc]
  unfold key
  rw [sc]
  have : sg (sgn .f64 x) (rung .f64 x) < sg false (rung .f64 c) := by unfold sg; simp only [Bool.false_eq_true, if_false]; split <;> omega
  simp [compare, compareOfLessAndEq, this]
theorem ord_gt {x c : Nat} (hx : ab .f64 x = some x) (hc : ab .f64 c = some c) (h : rung .f64 x < rung .f64 c52) (sc : sgn .f64 c = true) (h2 : rung .f64 c52 ≤ rung .f64 c) : FloatKind.f64.format.order x c = some .gt := by
  rw [order_key .f64 hx hc]
  unfold key
  rw [sc]
  have h3 : sg true (rung .f64 c) < sg (sgn .f64 x) (rung .f64 x) := by unfold sg; simp only [if_true]; split <;> omega
  have h4 : ¬ sg (sgn .f64 x) (rung .f64 x) < sg true (rung .f64 c) := by omega
  have h5 : ¬ sg (sgn .f64 x) (rung .f64 x) = sg true (rung .f64 c) := by omega
  simp [compare, compareOfLessAndEq, h4, h5]
theorem ab_size {x : Nat} (h : rung .f64 x < rung .f64 c52) : ab .f64 (x % 9223372036854775808) = some (x % 9223372036854775808) := by
  rw [ab64]
  have h1 : x % 9223372036854775808 < rung .f64 c52 := by unfold rung at h; rw [sw64] at h; exact h
  have h2 : rung .f64 c52 = 4841369599423283200 := by decide
  rw [if_neg (by omega)]
theorem abx {x : Nat} (h : rung .f64 x < rung .f64 c52) : ab .f64 x = some x := by
  rw [ab64]
  have h1 : x % 9223372036854775808 < rung .f64 c52 := by unfold rung at h; rw [sw64] at h; exact h
  have h2 : rung .f64 c52 = 4841369599423283200 := by decide
  rw [if_neg (by omega)]
theorem bitsc64 {p : Nat} (hp : p < 18446744073709551616) : bits .andNot .u64 (p : Int) 9223372036854775808 = ((p % 9223372036854775808 : Nat) : Int) := by
  have h := u64_andNot_nat p 9223372036854775808 hp (by decide)
  have e : ((9223372036854775808 : Nat) : Int) = 9223372036854775808 := rfl
  rw [e] at h
  rw [h]
  have e2 : (18446744073709551615 - 9223372036854775808 : Nat) = 2 ^ 63 - 1 := rfl
  rw [e2, Nat.and_two_pow_sub_one_eq_mod]
@[go_sem] theorem Try.f64bits (b : Nat) (w : World) : (callFunc 60 #[.float .f64 b]).run Try.prog w = .ok (.value (.int .u64 b)) w := by
  rw [run_callFunc_extern (P := Try.prog) (fn := Try.f60) (e := Extern.MathFloatBits.float64bits) (by kernel_rfl) (by kernel_rfl) (by kernel_rfl) (by kernel_rfl) (by kernel_rfl)]
  rfl
set_option maxRecDepth 100000 in
theorem mathAbs64 (x : Nat) (w : World) (hx : x < 18446744073709551616) :
    Calls Try.prog 57 #[.float .f64 x] w fun e w' => e = .returned (.float .f64 (x % 9223372036854775808)) ∧ w = w' := by
  have hb := bitsc64 hx
  go_enter Try.func57, Try.ntmps57
  go_wp2
  go_ret
  exact ⟨by simp, rfl⟩
theorem mathNaN0 (x : Nat) (w : World) (h : ab .f64 x = some x) : Calls Try.prog 55 #[.float .f64 x] w fun e w' => e = .returned (.bool false) ∧ w = w' := by
  have hs : FloatKind.f64.format.order x x = some .eq := ord_self x h
  clear h
  go_enter Try.func55, Try.ntmps55
  go_wp2
  go_ret
  exact ⟨rfl, rfl⟩
set_option maxRecDepth 100000 in
theorem mathInf0 (x : Nat) (w : World) (hx : x < 18446744073709551616) (h : rung .f64 x < rung .f64 c52) : Calls Try.prog 56 #[.float .f64 x, .int .i64 0] w fun e w' => e = .returned (.bool false) ∧ w = w' := by
  have h1 : rung .f64 (x % 9223372036854775808) < rung .f64 c52 := by unfold rung at *; rw [sw64] at *; rw [Nat.mod_mod]; exact h
  have ho := ord_lt (c := 9218868437227405311) (ab_size h) (by rw [ab64]; rfl) h1 (by decide) (by decide)
  clear h h1
  go_enter Try.func56, Try.ntmps56
  go_wp2_with (go_at_call 57; refine (mathAbs64 _ _ hx).mono ?_; rintro e w' ⟨rfl, rfl⟩)
  go_ret
  exact ⟨rfl, rfl⟩
/-- the whole part of a number -/
def wpI (y : Nat) : Int := sg (sgn .f64 y) (whl 1074 y)
theorem whl_lt {y : Nat} (h : rung .f64 y < rung .f64 c52) : whl 1074 y < 4503599627370496 := by
  obtain ⟨D, hD⟩ : ∃ D : Nat, D = 1074 := ⟨_, rfl⟩
  have hz : zv .f64 (rung .f64 c52) = 4503599627370496 * 2 ^ D := by rw [hD]; decide +kernel
  rw [← hD]
  clear hD
  have h1 : zv .f64 (rung .f64 y) < 4503599627370496 * 2 ^ D := by rw [← hz]; exact (zv_lt .f64).2 h
  unfold whl
  exact Nat.div_lt_of_lt_mul (by rw [Nat.mul_comm]; exact h1)
theorem fin52 {y : Nat} (h : rung .f64 y < rung .f64 c52) : rung .f64 y < FloatKind.f64.format.infRung := Nat.lt_trans h (by decide)
def sinF0 (y : Nat) : O := opO .sub .f64 (some y) (some (floatOfInt .f64 (wpI y)))
theorem sinF0_size {y : Nat} (h : rung .f64 y < rung .f64 c52) : ∃ f, sinF0 y = some f ∧ rung .f64 f ≤ rung .f64 cOne := by
  obtain ⟨d, h1, h2⟩ := sub_whole (D := 1074) rfl (fin52 h) (Nat.lt_trans (whl_lt h) (by decide))
  exact ⟨d, h1, h2⟩
theorem conv0 {y : Nat} (h : rung .f64 y < rung .f64 c52) (w : World) : (convert 46 2 (.float .f64 y)).run Try.prog w = .ok (.int .i64 (wpI y)) w :=
  run_convert_float_int w 46 2 .f64 .i64 y (wpI y) (by kernel_rfl) (by kernel_rfl) (toInt_whole (D := 1074) rfl (fin52 h) (Nat.lt_trans (whl_lt h) (by decide)))
set_option maxHeartbeats 2000000 in
set_option maxRecDepth 100000 in
theorem implPart_any (y : Nat) (w : World) (hy : y < 18446744073709551616) (h : rung .f64 y < rung .f64 c52) :
    Calls Try.prog 58 #[.float .f64 y] w (RetF .f64 (sinF1 (sinF0 y)) w) := by
  have hcv := conv0 h
  have hy2 := fv64c hy (abx h)
  have h0 := fqi (wpI y)
  have k1 := fq1
  clear h
  cases e : lt64 (sinF0 y) (some 0)
  · have eF : sinF1 (sinF0 y) = sinF0 y := by unfold sinF1; rw [e]; rfl
    rw [eF]
    unfold sinF0 at *
    go_enter Try.func58, Try.ntmps58
    go_wp2_with (first | (with_reducible_and_instances refine Lo.wpList_fo _ rfl .sub _ _ _ _ rfl _ _ _ _ _ rfl rfl rfl (by assumption) (by assumption) ?_; intro r1 n1 hr1; have g := lt64_fv hr1 fqz; rw [e] at g))
    go_ret
    exact ⟨_, _, rfl, hr1.out, rfl⟩
  · have eF : sinF1 (sinF0 y) = opO .add .f64 (sinF0 y) (some cOne) := by unfold sinF1; rw [e]; rfl
    rw [eF]
    unfold sinF0 at *
    go_enter Try.func58, Try.ntmps58
    go_wp2_with (first | (with_reducible_and_instances refine Lo.wpList_fo _ rfl .sub _ _ _ _ rfl _ _ _ _ _ rfl rfl rfl (by assumption) (by assumption) ?_; intro r1 n1 hr1; have g := lt64_fv hr1 fqz; rw [e] at g) | (with_reducible_and_instances refine Lo.wpList_fo _ rfl _ _ _ _ _ rfl _ _ _ _ _ rfl rfl rfl (by assumption) (by assumption) ?_; intro rr nn hrr))
    go_ret
    exact ⟨_, _, rfl, hrr.out, rfl⟩
end Go.Proofs.Ytbjjggelgpomhaa

/- Sines of phases: both sides. -/
set_option linter.unusedVariables false
set_option linter.unusedSimpArgs false
namespace Go.Proofs.Ytbjjggelgpomhaa
open Fl Go.RowKit Ieee
theorem neg64_fv {b : Nat} {X : O} (h : Hid (Fv .f64 b X)) : Hid (Fv .f64 (Op.negFloat .f64 b) (X.map (Op.negFloat .f64))) := Lib.hid ⟨neg_lt .f64 h.out.1, by rw [ab_neg, h.out.2]⟩
theorem sinB_of {F : O} {b1 b2 : Bool} (h1 : gt64 F (some cHalf) = b1) (h2 : eq64 F (some cHalf) = b2) : sinB F = (b1 || b2) := by unfold sinB ge64; rw [h1, h2]
theorem sinR_no {f : O} {F1 : O} (h : sinF1 f = F1) (hb : sinB F1 = false) : sinR f = ser (opO .mul .f64 (sinF3 F1) (some c2pi)) := by
  unfold sinR sinS sinF2; rw [h, hb]; rfl
theorem sinR_yes {f : O} {F1 : O} (h : sinF1 f = F1) (hb : sinB F1 = true) : sinR f = (ser (opO .mul .f64 (sinF3 (opO .sub .f64 F1 (some cHalf))) (some c2pi))).map (Op.negFloat .f64) := by
  unfold sinR sinS sinF2; rw [h, hb]; rfl
theorem sinF3_no {f : O} (h : gt64 f (some cQuar) = false) : sinF3 f = f := by unfold sinF3; rw [h]; rfl
theorem sinF3_yes {f : O} (h : gt64 f (some cQuar) = true) : sinF3 f = opO .sub .f64 (some cHalf) f := by unfold sinF3; rw [h]; rfl
set_option maxHeartbeats 8000000 in
set_option maxRecDepth 100000 in
theorem implSine_any (y : Nat) (w : World) (hy : y < 18446744073709551616) (h : rung .f64 y < rung .f64 c52) :
    Calls Try.prog 54 #[.float .f64 y] w (RetF .f64 (sinR (sinF0 y)) w) := by
  have hN := fun w => mathNaN0 y w (abx h)
  have hI := fun w => mathInf0 y w hy h
  have h1 : rung .f64 (y % 9223372036854775808) < rung .f64 c52 := by unfold rung at *; rw [sw64] at *; rw [Nat.mod_mod]; exact h
  have ho := ord_lt (c := 4841369599423283200) (ab_size h) (by rw [ab64]; rfl) h1 (by decide) (by decide)
  have hP := fun w => implPart_any y w hy h
  have k1 := fqh; have k2 := fqp
  clear h h1
  generalize hF : sinF1 (sinF0 y) = F1 at *
  have HF := Lib.hid hF; clear hF
  cases e1 : gt64 F1 (some cHalf) <;> cases e2 : eq64 F1 (some cHalf)
  case false.false =>
    have hb : sinB F1 = false := sinB_of e1 e2
    rw [sinR_no HF.out hb]
    cases e3 : gt64 F1 (some cQuar)
    · rw [sinF3_no e3]
      go_enter Try.func54, Try.ntmps54
      go_wp2_with (first | (go_at_call 55; refine (hN _).mono ?_; rintro e w' ⟨rfl, rfl⟩) | (go_at_call 56; refine (hI _).mono ?_; rintro e w' ⟨rfl, rfl⟩) | (go_at_call 57; refine (mathAbs64 _ _ hy).mono ?_; rintro e w' ⟨rfl, rfl⟩) | (go_at_call 58; refine (hP _).mono ?_; rintro e w' ⟨f1, m1, rfl, hv, rfl⟩; have hf1 := Lib.hid hv; clear hv; have g1 := gt64_fv hf1 fqh; have g2 := eq64_fv hf1 fqh; have g3 := gt64_fv hf1 fqq; rw [e1] at g1; rw [e2] at g2; rw [e3] at g3) | (go_at_call 59; refine (implSeries_any _ _ _ (by assumption)).mono ?_; rintro e w' ⟨r9, m9, rfl, hv, rfl⟩; have hr9 := Lib.hid hv; clear hv) | (with_reducible_and_instances refine Lo.wpList_fo _ rfl _ _ _ _ _ rfl _ _ _ _ _ rfl rfl rfl (by assumption) (by assumption) ?_; intro rr nn hrr))
      go_ret
      exact ⟨_, _, rfl, hr9.out, rfl⟩
    · rw [sinF3_yes e3]
      go_enter Try.func54, Try.ntmps54
      go_wp2_with (first | (go_at_call 55; refine (hN _).mono ?_; rintro e w' ⟨rfl, rfl⟩) | (go_at_call 56; refine (hI _).mono ?_; rintro e w' ⟨rfl, rfl⟩) | (go_at_call 57; refine (mathAbs64 _ _ hy).mono ?_; rintro e w' ⟨rfl, rfl⟩) | (go_at_call 58; refine (hP _).mono ?_; rintro e w' ⟨f1, m1, rfl, hv, rfl⟩; have hf1 := Lib.hid hv; clear hv; have g1 := gt64_fv hf1 fqh; have g2 := eq64_fv hf1 fqh; rw [e1] at g1; rw [e2] at g2; have g3 := gt64_fv hf1 fqq; rw [e3] at g3) | (go_at_call 59; refine (implSeries_any _ _ _ (by assumption)).mono ?_; rintro e w' ⟨r9, m9, rfl, hv, rfl⟩; have hr9 := Lib.hid hv; clear hv) | (with_reducible_and_instances refine Lo.wpList_fo _ rfl _ _ _ _ _ rfl _ _ _ _ _ rfl rfl rfl (by assumption) (by assumption) ?_; intro rr nn hrr))
      go_ret
      exact ⟨_, _, rfl, hr9.out, rfl⟩
  all_goals
    have hb : sinB F1 = true := sinB_of e1 e2
    rw [sinR_yes HF.out hb]
    cases e3 : gt64 (opO .sub .f64 F1 (some cHalf)) (some cQuar)
    · rw [sinF3_no e3]
      go_enter Try.func54, Try.ntmps54
      go_wp2_with (first | (go_at_call 55; refine (hN _).mono ?_; rintro e w' ⟨rfl, rfl⟩) | (go_at_call 56; refine (hI _).mono ?_; rintro e w' ⟨rfl, rfl⟩) | (go_at_call 57; refine (mathAbs64 _ _ hy).mono ?_; rintro e w' ⟨rfl, rfl⟩) | (go_at_call 58; refine (hP _).mono ?_; rintro e w' ⟨f1, m1, rfl, hv, rfl⟩; have hf1 := Lib.hid hv; clear hv; have g1 := gt64_fv hf1 fqh; have g2 := eq64_fv hf1 fqh; rw [e1] at g1; rw [e2] at g2) | (go_at_call 59; refine (implSeries_any _ _ _ (by assumption)).mono ?_; rintro e w' ⟨r9, m9, rfl, hv, rfl⟩; have hr9 := Lib.hid hv; clear hv) | (with_reducible_and_instances refine Lo.wpList_fo _ rfl .sub _ _ _ _ rfl _ _ _ _ _ rfl rfl rfl hf1 k1 ?_; intro r2 n2 hr2; have g3 := gt64_fv hr2 fqq; rw [e3] at g3) | (with_reducible_and_instances refine Lo.wpList_fo _ rfl _ _ _ _ _ rfl _ _ _ _ _ rfl rfl rfl (by assumption) (by assumption) ?_; intro rr nn hrr))
      go_ret
      exact ⟨_, _, rfl, (neg64_fv hr9).out, rfl⟩
    · rw [sinF3_yes e3]
      go_enter Try.func54, Try.ntmps54
      go_wp2_with (first | (go_at_call 55; refine (hN _).mono ?_; rintro e w' ⟨rfl, rfl⟩) | (go_at_call 56; refine (hI _).mono ?_; rintro e w' ⟨rfl, rfl⟩) | (go_at_call 57; refine (mathAbs64 _ _ hy).mono ?_; rintro e w' ⟨rfl, rfl⟩) | (go_at_call 58; refine (hP _).mono ?_; rintro e w' ⟨f1, m1, rfl, hv, rfl⟩; have hf1 := Lib.hid hv; clear hv; have g1 := gt64_fv hf1 fqh; have g2 := eq64_fv hf1 fqh; rw [e1] at g1; rw [e2] at g2) | (go_at_call 59; refine (implSeries_any _ _ _ (by assumption)).mono ?_; rintro e w' ⟨r9, m9, rfl, hv, rfl⟩; have hr9 := Lib.hid hv; clear hv) | (with_reducible_and_instances refine Lo.wpList_fo _ rfl .sub _ _ _ _ rfl _ _ _ _ _ rfl rfl rfl hf1 k1 ?_; intro r2 n2 hr2; have g3 := gt64_fv hr2 fqq; rw [e3] at g3) | (with_reducible_and_instances refine Lo.wpList_fo _ rfl _ _ _ _ _ rfl _ _ _ _ _ rfl rfl rfl (by assumption) (by assumption) ?_; intro rr nn hrr))
      go_ret
      exact ⟨_, _, rfl, (neg64_fv hr9).out, rfl⟩
end Go.Proofs.Ytbjjggelgpomhaa

