/- Floats that are whole multiples of a power of two: sums, differences, products and comparisons of them are exact. -/
import Derived.Test.YtfgebggfoboalaaFw
import Derived.Test.YtfgebggfoboalaaEg
set_option linter.unusedVariables false
set_option linter.unusedSimpArgs false
namespace Go.Proofs.Ytfgebggfoboalaa
namespace Fl
open Ieee
/-- a finite word's number, in units of the least place -/
def sv (k : FloatKind) (b : Nat) : Int := sg (sgn k b) (zv k (rung k b))
theorem sv_abs (k : FloatKind) (b : Nat) : (sv k b).natAbs = zv k (rung k b) := by unfold sv sg; split <;> omega
theorem sg_xor (s t : Bool) (a b : Nat) : sg (s ^^ t) (a * b) = sg s a * sg t b := by
  cases s <;> cases t <;> simp [sg, Int.neg_mul, Int.mul_neg]
/-- rounding leaves a number that the format has -/
theorem nearest_exact (k : FloatKind) (neg : Bool) {mag r : Nat} {place b : Int} (hr : r < k.format.infRung) (hb : b ≤ place) (hbl : b ≤ k.format.leastPlace)
    (h : mag * 2 ^ (place - b).toNat = zv k r * 2 ^ (k.format.leastPlace - b).toNat) : rung k (k.format.nearest neg mag place) = r := by
  obtain ⟨m, e, hz, hform, hlt⟩ := rung_form k r
  have hN := nearest_rung k neg hr hz hform
  have he : (k.format.leastPlace + (e : Int) - b).toNat = e + (k.format.leastPlace - b).toNat := by omega
  have h2 : mag * 2 ^ (place - b).toNat = m * 2 ^ (k.format.leastPlace + (e : Int) - b).toNat := by
    rw [h, hz, he, Nat.pow_add, Nat.mul_assoc]
  have h3 := nearest_mono k neg neg (mag := mag) (mag' := m) (place := place) (place' := k.format.leastPlace + (e : Int)) (b := b) hb (by omega) hbl (Nat.le_of_eq h2)
  have h4 := nearest_mono k neg neg (mag := m) (mag' := mag) (place := k.format.leastPlace + (e : Int)) (place' := place) (b := b) (by omega) hb hbl (Nat.le_of_eq h2.symm)
  rw [hN] at h3 h4
  omega
theorem sv_nearest (k : FloatKind) (neg : Bool) {mag r : Nat} {place : Int} (h : rung k (k.format.nearest neg mag place) = r) : sv k (k.format.nearest neg mag place) = sg neg (zv k r) := by
  unfold sv
  rw [sgn_nearest, h]
theorem sum_scaled (s t : Bool) (m n e f c : Nat) (h1 : c ≤ e) (h2 : c ≤ f) : (signed s m (e - c) + signed t n (f - c)) * (2 ^ c : Nat) = sg s (m * 2 ^ e) + sg t (n * 2 ^ f) := by
  have sgd : ∀ (s : Bool) (a u : Nat), signed s a u = sg s (a * 2 ^ u) := by intro s a u; simp only [signed, sg, Nat.shiftLeft_eq]
  rw [sgd, sgd, Int.add_mul, ← sg_mul, ← sg_mul, Nat.mul_assoc, Nat.mul_assoc, ← Nat.pow_add, ← Nat.pow_add, Nat.sub_add_cancel h1, Nat.sub_add_cancel h2]
/-- A SUM THAT THE FORMAT HAS -/
theorem add_exact (k : FloatKind) {x y r : Nat} (hx : Fin k x) (hy : Fin k y) (hr : r < k.format.infRung) (h : (sv k x + sv k y).natAbs = zv k r) :
    ∃ z, floatBits .add k x y = some z ∧ Fin k z ∧ sv k z = sv k x + sv k y := by
  obtain ⟨m, e, hm, hz⟩ := read_fin k hx
  obtain ⟨n, f, hn, hz2⟩ := read_fin k hy
  simp only [floatBits, Format.add, hm, hn, Datum.sum, Option.map_some]
  refine ⟨_, rfl, ?_⟩
  have e2 : min (k.format.leastPlace + (e : Int)) (k.format.leastPlace + (f : Int)) = k.format.leastPlace + ((min e f : Nat) : Int) := by omega
  rw [e2]
  have e3 : (k.format.leastPlace + (e : Int) - (k.format.leastPlace + ((min e f : Nat) : Int))).toNat = e - min e f := by omega
  have e4 : (k.format.leastPlace + (f : Int) - (k.format.leastPlace + ((min e f : Nat) : Int))).toNat = f - min e f := by omega
  rw [e3, e4]
  have hS := sum_scaled (sgn k x) (sgn k y) m n e f (min e f) (Nat.min_le_left ..) (Nat.min_le_right ..)
  rw [← hz, ← hz2] at hS
  change _ = sv k x + sv k y at hS
  generalize signed (sgn k x) m (e - min e f) + signed (sgn k y) n (f - min e f) = T at *
  generalize min e f = c at *
  have hpos : 0 < 2 ^ c := Nat.two_pow_pos c
  have hab : T.natAbs * 2 ^ c = zv k r := by rw [← h, ← hS, Int.natAbs_mul, Int.natAbs_natCast]
  have hrung := nearest_exact k (if T = 0 then sgn k x && sgn k y else decide (T < 0)) (mag := T.natAbs) (r := r) (place := k.format.leastPlace + (c : Int)) (b := k.format.leastPlace) hr (by omega) (Int.le_refl _) (by
    rw [show (k.format.leastPlace + (c : Int) - k.format.leastPlace).toNat = c by omega, show (k.format.leastPlace - k.format.leastPlace).toNat = 0 by omega, Nat.pow_zero, Nat.mul_one]; exact hab)
  show Fin k (k.format.nearest _ _ _) ∧ sv k (k.format.nearest _ _ _) = _
  refine ⟨by unfold Fin; rw [hrung]; exact hr, ?_⟩
  rw [sv_nearest k _ hrung, ← hS, ← hab]
  by_cases h0 : T = 0
  · subst h0
    rw [if_pos rfl]
    cases sgn k x && sgn k y <;> simp [sg]
  · rw [if_neg h0]
    by_cases h1 : T < 0
    · rw [decide_eq_true h1]
      simp only [sg, if_true]
      rw [Int.natCast_mul, ← Int.neg_mul]
      congr 1; omega
    · rw [decide_eq_false h1]
      simp only [sg, Bool.false_eq_true, if_false]
      rw [Int.natCast_mul]
      congr 1; omega
/-- A PRODUCT THAT THE FORMAT HAS (P: the least place) -/
theorem mul_exact (k : FloatKind) {x y r : Nat} (hx : Fin k x) (hy : Fin k y) (hr : r < k.format.infRung) (P : Nat) (hP : (P : Int) = -k.format.leastPlace) (h : (sv k x * sv k y).natAbs = zv k r * 2 ^ P) :
    ∃ z, floatBits .mul k x y = some z ∧ Fin k z ∧ sv k z * ((2 ^ P : Nat) : Int) = sv k x * sv k y := by
  obtain ⟨m, e, hm, hz⟩ := read_fin k hx
  obtain ⟨n, f, hn, hz2⟩ := read_fin k hy
  simp only [floatBits, Format.mul, hm, hn, Datum.product, Option.map_some]
  refine ⟨_, rfl, ?_⟩
  have hprod : (m * n) * 2 ^ (e + f) = zv k r * 2 ^ P := by
    rw [← h, Int.natAbs_mul, sv_abs, sv_abs, hz, hz2, Nat.pow_add]; ac_rfl
  have hrung := nearest_exact k (sgn k x ^^ sgn k y) (mag := m * n) (r := r) (place := k.format.leastPlace + (e : Int) + (k.format.leastPlace + (f : Int))) (b := k.format.leastPlace + k.format.leastPlace) hr (by omega) (by omega) (by
    rw [show (k.format.leastPlace + (e : Int) + (k.format.leastPlace + (f : Int)) - (k.format.leastPlace + k.format.leastPlace)).toNat = e + f by omega, show (k.format.leastPlace - (k.format.leastPlace + k.format.leastPlace)).toNat = P by omega]; exact hprod)
  show Fin k (k.format.nearest _ _ _) ∧ sv k (k.format.nearest _ _ _) * _ = _
  refine ⟨by unfold Fin; rw [hrung]; exact hr, ?_⟩
  rw [sv_nearest k _ hrung, ← sg_mul, ← hprod]
  unfold sv
  rw [← sg_xor, hz, hz2]
  congr 1
  rw [Nat.pow_add]; ac_rfl
theorem opp_neg (k : FloatKind) {y : Nat} (hy : Fin k y) (hl : y < 2 ^ k.format.width) : ∃ n e s, k.format.read y = .number s n e := by
  obtain ⟨n, f, hn, hz2⟩ := read_fin k hy
  exact ⟨_, _, _, hn⟩
/-- A DIFFERENCE THAT THE FORMAT HAS -/
theorem sub_exact (k : FloatKind) {x y r : Nat} (hx : Fin k x) (hy : Fin k y) (hr : r < k.format.infRung) (h : (sv k x - sv k y).natAbs = zv k r) :
    ∃ z, floatBits .sub k x y = some z ∧ Fin k z ∧ sv k z = sv k x - sv k y := by
  obtain ⟨m, e, hm, hz⟩ := read_fin k hx
  obtain ⟨n, f, hn, hz2⟩ := read_fin k hy
  simp only [floatBits, Format.sub, hm, hn, Datum.opposite, Datum.sum, Option.map_some]
  refine ⟨_, rfl, ?_⟩
  have e2 : min (k.format.leastPlace + (e : Int)) (k.format.leastPlace + (f : Int)) = k.format.leastPlace + ((min e f : Nat) : Int) := by omega
  rw [e2]
  have e3 : (k.format.leastPlace + (e : Int) - (k.format.leastPlace + ((min e f : Nat) : Int))).toNat = e - min e f := by omega
  have e4 : (k.format.leastPlace + (f : Int) - (k.format.leastPlace + ((min e f : Nat) : Int))).toNat = f - min e f := by omega
  rw [e3, e4]
  have hS := sum_scaled (sgn k x) (!(sgn k y)) m n e f (min e f) (Nat.min_le_left ..) (Nat.min_le_right ..)
  rw [← hz, ← hz2] at hS
  have hopp : sg (!(sgn k y)) (zv k (rung k y)) = - sv k y := by unfold sv; cases sgn k y <;> simp [sg]
  have hS : _ = sv k x - sv k y := hS.trans (by rw [hopp]; rfl)
  generalize signed (sgn k x) m (e - min e f) + signed (!(sgn k y)) n (f - min e f) = T at *
  generalize min e f = c at *
  have hpos : 0 < 2 ^ c := Nat.two_pow_pos c
  have hab : T.natAbs * 2 ^ c = zv k r := by rw [← h, ← hS, Int.natAbs_mul, Int.natAbs_natCast]
  have hrung := nearest_exact k (if T = 0 then sgn k x && !(sgn k y) else decide (T < 0)) (mag := T.natAbs) (r := r) (place := k.format.leastPlace + (c : Int)) (b := k.format.leastPlace) hr (by omega) (Int.le_refl _) (by
    rw [show (k.format.leastPlace + (c : Int) - k.format.leastPlace).toNat = c by omega, show (k.format.leastPlace - k.format.leastPlace).toNat = 0 by omega, Nat.pow_zero, Nat.mul_one]; exact hab)
  show Fin k (k.format.nearest _ _ _) ∧ sv k (k.format.nearest _ _ _) = _
  refine ⟨by unfold Fin; rw [hrung]; exact hr, ?_⟩
  rw [sv_nearest k _ hrung, ← hS, ← hab]
  by_cases h0 : T = 0
  · subst h0
    rw [if_pos rfl]
    cases sgn k x && !(sgn k y) <;> simp [sg]
  · rw [if_neg h0]
    by_cases h1 : T < 0
    · rw [decide_eq_true h1]
      simp only [sg, if_true]
      rw [Int.natCast_mul, ← Int.neg_mul]
      congr 1; omega
    · rw [decide_eq_false h1]
      simp only [sg, Bool.false_eq_true, if_false]
      rw [Int.natCast_mul]
      congr 1; omega
/-- what the format has: few digits, and not too great -/
theorem rep (k : FloatKind) {m e : Nat} (hm : m < 2 ^ (k.format.fractionBits + 1)) (he : (e + 2) * k.format.binade ≤ k.format.infRung) : ∃ r, r < k.format.infRung ∧ zv k r = m * 2 ^ e := by
  have hB : k.format.binade = 2 ^ k.format.fractionBits := rfl
  have hp := bin_pos k
  by_cases h0 : m = 0
  · subst h0; exact ⟨0, by have := bin_le k; omega, by rw [zv_zero, Nat.zero_mul]⟩
  · have hl1 : 2 ^ m.log2 ≤ m := Nat.log2_self_le h0
    have hl2 : m < 2 ^ (m.log2 + 1) := Nat.lt_log2_self
    have hl : m.log2 ≤ k.format.fractionBits := log2_lt hm
    generalize m.log2 = l at *
    by_cases hc : l + e < k.format.fractionBits
    · have h1 : m * 2 ^ e < k.format.binade := by
        rw [hB]
        calc m * 2 ^ e < 2 ^ (l + 1) * 2 ^ e := Nat.mul_lt_mul_of_pos_right hl2 (Nat.two_pow_pos _)
          _ = 2 ^ (l + 1 + e) := (Nat.pow_add ..).symm
          _ ≤ 2 ^ k.format.fractionBits := Nat.pow_le_pow_right (by omega) (by omega)
      refine ⟨m * 2 ^ e, by have := bin_le k; omega, ?_⟩
      unfold zv; rw [if_pos h1]
    · have k1 : k.format.binade ≤ m * 2 ^ (k.format.fractionBits - l) := by
        have := Nat.mul_le_mul_right (2 ^ (k.format.fractionBits - l)) hl1
        rw [← Nat.pow_add, show l + (k.format.fractionBits - l) = k.format.fractionBits by omega] at this
        exact this
      have k2 : m * 2 ^ (k.format.fractionBits - l) < 2 * k.format.binade := by
        have := Nat.mul_lt_mul_of_pos_right hl2 (Nat.two_pow_pos (k.format.fractionBits - l))
        rw [← Nat.pow_add, show l + 1 + (k.format.fractionBits - l) = k.format.fractionBits + 1 by omega, Nat.pow_succ, ← hB] at this
        omega
      have hK : m * 2 ^ (k.format.fractionBits - l) * 2 ^ (e - (k.format.fractionBits - l)) = m * 2 ^ e := by
        rw [Nat.mul_assoc, ← Nat.pow_add, show k.format.fractionBits - l + (e - (k.format.fractionBits - l)) = e by omega]
      generalize m * 2 ^ (k.format.fractionBits - l) = M at *
      generalize hE : e - (k.format.fractionBits - l) = E at *
      have hEe : E ≤ e := by omega
      refine ⟨(E + 1) * k.format.binade + (M - k.format.binade), ?_, ?_⟩
      · have h5 := Nat.mul_le_mul_right k.format.binade (show E + 2 ≤ e + 2 by omega)
        rw [show E + 2 = E + 1 + 1 from rfl, Nat.succ_mul] at h5
        omega
      · unfold zv
        rw [if_neg (by rw [Nat.succ_mul]; omega)]
        have hmod : ((E + 1) * k.format.binade + (M - k.format.binade)) % k.format.binade = M - k.format.binade := by
          rw [Nat.mul_comm, Nat.mul_add_mod, Nat.mod_eq_of_lt (by omega)]
        have hdiv : ((E + 1) * k.format.binade + (M - k.format.binade)) / k.format.binade = E + 1 := by
          rw [Nat.mul_comm, Nat.mul_add_div hp, Nat.div_eq_of_lt (by omega), Nat.add_zero]
        rw [hmod, hdiv, show k.format.binade + (M - k.format.binade) = M by omega, Nat.add_sub_cancel, hK]
end Fl
end Go.Proofs.Ytfgebggfoboalaa
