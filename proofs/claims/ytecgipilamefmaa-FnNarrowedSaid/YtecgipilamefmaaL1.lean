/- The least size of a quotient; halving is exact. -/
import Derived.Test.YtecgipilamefmaaFh
set_option linter.unusedVariables false
set_option linter.unusedSimpArgs false
namespace Go.Proofs.Ytecgipilamefmaa
namespace Fl
open Ieee
/-- THE LEAST SIZE OF A QUOTIENT: where x is at least t times y, x / y is rounded to at least t. -/
theorem div_low (k : FloatKind) {x y t : Nat} (hx : Fin k x) (hy : Fin k y) (ht : Fin k t) (hy0 : rung k y ≠ 0) (P : Nat) (hP : (P : Int) = -k.format.leastPlace)
    (h : zv k (rung k t) * zv k (rung k y) ≤ zv k (rung k x) * 2 ^ P) :
    ∃ r, floatBits .quo k x y = some r ∧ rung k t ≤ rung k r := by
  obtain ⟨m, e, hm, hz⟩ := read_fin k hx
  obtain ⟨n, f, hn, hz2⟩ := read_fin k hy
  obtain ⟨M, E, hZ, hform, hML⟩ := rung_form k (rung k t)
  have hn0 : n ≠ 0 := by
    intro e0
    subst e0
    rw [Nat.zero_mul] at hz2
    have := (zv_inj k (r := rung k y) (s := 0)).1 (by rw [zv_zero]; exact hz2)
    exact hy0 this
  simp only [floatBits, Format.div, hm, hn, Datum.quotient, if_neg hn0, Option.map_some]
  refine ⟨_, rfl, ?_⟩
  show _ ≤ rung k (k.format.nearest _ _ _)
  have hT := nearest_rung k false ht hZ hform
  rw [← hT]
  generalize hmo : k.format.fractionBits + 2 + n.log2 - m.log2 = more
  have hsh : m <<< more = m * 2 ^ more := Nat.shiftLeft_eq ..
  rw [hsh]
  rw [hz, hz2, hZ] at h
  have hnp := Nat.pos_of_ne_zero hn0
  by_cases hm0 : m = 0
  · subst hm0
    rw [Nat.zero_mul, Nat.zero_mul] at h
    have hM0 : M = 0 := by
      rcases Nat.eq_zero_or_pos M with h1 | h1
      · exact h1
      · exfalso
        have := Nat.mul_pos (Nat.mul_pos h1 (Nat.two_pow_pos E)) (Nat.mul_pos hnp (Nat.two_pow_pos f))
        omega
    subst hM0
    refine nearest_mono k _ _ (b := min (k.format.leastPlace + (e : Int) - (k.format.leastPlace + (f : Int)) - (more : Int) - 1) k.format.leastPlace) (by omega) (by omega) (by omega) ?_
    rw [Nat.zero_mul]; exact Nat.zero_le _
  · have hD : 2 ^ (k.format.fractionBits + 2 + n.log2) ≤ m * 2 ^ more := by
      have h1 : 2 ^ m.log2 ≤ m := Nat.log2_self_le hm0
      calc 2 ^ (k.format.fractionBits + 2 + n.log2) ≤ 2 ^ (m.log2 + more) := Nat.pow_le_pow_right (by omega) (by omega)
        _ = 2 ^ m.log2 * 2 ^ more := Nat.pow_add ..
        _ ≤ m * 2 ^ more := Nat.mul_le_mul_right _ h1
    have hn1 : n < 2 ^ (n.log2 + 1) := Nat.lt_log2_self
    refine nearest_mono k _ _ (b := min (k.format.leastPlace + (e : Int) - (k.format.leastPlace + (f : Int)) - (more : Int) - 1) k.format.leastPlace) (by omega) (by omega) (by omega) ?_
    generalize hb : min (k.format.leastPlace + (e : Int) - (k.format.leastPlace + (f : Int)) - (more : Int) - 1) k.format.leastPlace = b
    rcases Nat.lt_or_ge (E + f + more + 1) (e + P) with hlt | hge
    · -- the unit of the quotient is greater than that of t
      obtain ⟨v, hv⟩ : ∃ v, E + f + more + 1 + v = e + P := ⟨e + P - (E + f + more + 1), by omega⟩
      have hE : (k.format.leastPlace + (e : Int) - (k.format.leastPlace + (f : Int)) - (more : Int) - 1 - b).toNat = v + (k.format.leastPlace + (E : Int) - b).toNat := by omega
      rw [hE, Nat.pow_add, ← Nat.mul_assoc]
      refine Nat.mul_le_mul_right _ ?_
      have hdm := Nat.div_add_mod (m * 2 ^ more) n
      have hml := Nat.mod_lt (m * 2 ^ more) hnp
      have h1 : 2 ^ (k.format.fractionBits + 1) ≤ m * 2 ^ more / n := by
        rw [Nat.le_div_iff_mul_le hnp]
        calc 2 ^ (k.format.fractionBits + 1) * n ≤ 2 ^ (k.format.fractionBits + 1) * 2 ^ (n.log2 + 1) := Nat.mul_le_mul_left _ (Nat.le_of_lt hn1)
          _ = 2 ^ (k.format.fractionBits + 2 + n.log2) := by rw [← Nat.pow_add]; congr 1; omega
          _ ≤ _ := hD
      have h2 : 1 ≤ 2 ^ v := Nat.two_pow_pos v
      calc M ≤ m * 2 ^ more / n := by omega
        _ ≤ 2 * (m * 2 ^ more / n) + (m * 2 ^ more % n != 0).toNat := by omega
        _ = (2 * (m * 2 ^ more / n) + (m * 2 ^ more % n != 0).toNat) * 1 := (Nat.mul_one _).symm
        _ ≤ _ := Nat.mul_le_mul_left _ h2
    · obtain ⟨u, hu2⟩ : ∃ u, u + (e + P) = E + f + more + 1 := ⟨E + f + more + 1 - (e + P), by omega⟩
      have hK : M * 2 ^ u * n ≤ 2 * (m * 2 ^ more) := by
        have h2 := Nat.mul_le_mul_right (2 ^ (more + 1)) h
        have l1 : m * 2 ^ e * 2 ^ P * 2 ^ (more + 1) = (2 * (m * 2 ^ more)) * 2 ^ (e + P) := by
          rw [Nat.pow_succ, Nat.pow_add]; ac_rfl
        have l2 : M * 2 ^ E * (n * 2 ^ f) * 2 ^ (more + 1) = (M * 2 ^ u * n) * 2 ^ (e + P) := by
          have l3 : M * 2 ^ E * (n * 2 ^ f) * 2 ^ (more + 1) = (M * n) * 2 ^ (E + f + more + 1) := by
            rw [show E + f + more + 1 = E + f + (more + 1) from rfl, Nat.pow_add 2 (E + f), Nat.pow_add 2 E]; ac_rfl
          have l4 : (M * 2 ^ u * n) * 2 ^ (e + P) = (M * n) * 2 ^ (u + (e + P)) := by
            rw [Nat.pow_add 2 u]; ac_rfl
          rw [l3, l4, hu2]
        rw [l1, l2] at h2
        exact Nat.le_of_mul_le_mul_right h2 (Nat.two_pow_pos _)
      have hq : M * 2 ^ u ≤ 2 * (m * 2 ^ more / n) + (m * 2 ^ more % n != 0).toNat := by
        have hdm := Nat.div_add_mod (m * 2 ^ more) n
        have hml := Nat.mod_lt (m * 2 ^ more) hnp
        generalize m * 2 ^ more = D at *
        generalize M * 2 ^ u = K at *
        generalize D / n = q at *
        cases hr : (D % n != 0)
        · simp at hr
          rw [hr] at hdm
          simp only [Bool.toNat_false]
          have h1 : K * n ≤ (2 * q) * n := by rw [Nat.mul_assoc, Nat.mul_comm q]; omega
          have := Nat.le_of_mul_le_mul_right h1 hnp
          omega
        · simp only [Bool.toNat_true]
          rcases Nat.lt_or_ge (2 * q + 1) K with h1 | h1
          · exfalso
            have h2 := Nat.mul_le_mul_right n h1
            rw [show (2 * q + 1).succ = 2 * q + 2 from rfl, Nat.add_mul, Nat.mul_assoc, Nat.mul_comm q] at h2
            omega
          · exact h1
      have hE : (k.format.leastPlace + (E : Int) - b).toNat = u + (k.format.leastPlace + (e : Int) - (k.format.leastPlace + (f : Int)) - (more : Int) - 1 - b).toNat := by omega
      rw [hE, Nat.pow_add, ← Nat.mul_assoc]
      exact Nat.mul_le_mul_right _ hq
/-- halving is exact -/
theorem halfE {x : Nat} (hx : rung .f64 x < FloatKind.f64.format.infRung) (h : 2 * FloatKind.f64.format.binade ≤ rung .f64 x) :
    ∃ r, floatBits .quo .f64 x cTwo = some r ∧ rung .f64 r + FloatKind.f64.format.binade = rung .f64 x := by
  have hb : FloatKind.f64.format.binade = 4503599627370496 := by decide
  have hi : FloatKind.f64.format.infRung = 9218868437227405312 := by decide
  obtain ⟨y, hy⟩ : ∃ y, y = FloatKind.f64.format.word false (rung .f64 x - FloatKind.f64.format.binade) := ⟨_, rfl⟩
  have ry : rung .f64 y = rung .f64 x - FloatKind.f64.format.binade := by
    rw [hy]; unfold rung; rw [word_rung_mod _ _ (by have : x % FloatKind.f64.format.signWeight = rung .f64 x := rfl; omega)]
  obtain ⟨r, hr, hle⟩ := half hx h
  obtain ⟨r', hr', hge⟩ := div_low .f64 (x := x) (y := cTwo) (t := y) hx (by decide : rung .f64 cTwo < _) (by show rung .f64 y < _; omega) (by decide) 1074 (by decide) (by
    have e := zv_step .f64 (r := rung .f64 y) (by omega)
    rw [ry, Nat.sub_add_cancel (by omega)] at e
    rw [e, ry]
    have e0 : zv .f64 (rung .f64 cTwo) = 2 * 2 ^ 1074 := by decide +kernel
    rw [e0]
    generalize zv .f64 (rung .f64 x - FloatKind.f64.format.binade) = z
    generalize (2 : Nat) ^ 1074 = E
    rw [Nat.mul_comm 2 z, Nat.mul_assoc]
    exact Nat.le_refl _)
  rw [hr] at hr'
  injection hr' with hr'
  subst hr'
  exact ⟨r, hr, by omega⟩
end Fl
end Go.Proofs.Ytecgipilamefmaa
