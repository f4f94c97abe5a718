/- Sizes of sums, products and quotients of floats, bounded by those of greater ones. -/
import Derived.Test.YtipdgnhbmfmhnaaFm
set_option linter.unusedVariables false
set_option linter.unusedSimpArgs false
namespace Go.Proofs.Ytipdgnhbmfmhnaa
namespace Fl
open Ieee

/-- a finite word -/
def Fin (k : FloatKind) (b : Nat) : Prop := rung k b < k.format.infRung
theorem lp_neg (k : FloatKind) : k.format.leastPlace ≤ 0 := by cases k <;> decide

theorem zv_le (k : FloatKind) {r s : Nat} : zv k r ≤ zv k s ↔ r ≤ s := by
  have := zv_lt k (r := s) (s := r)
  omega

theorem nearest_fin (k : FloatKind) (neg : Bool) (mag : Nat) (place : Int) : rung k (k.format.nearest neg mag place) ≤ k.format.infRung := by
  unfold Format.nearest
  dsimp only
  split
  · unfold rung; rw [word_rung_mod _ _ (Nat.zero_le _)]; exact Nat.zero_le _
  · unfold rung; rw [word_rung_mod _ _ (Nat.min_le_right ..)]; exact Nat.min_le_right ..

/-- THE SIZE OF A PRODUCT -/
theorem mul_size (k : FloatKind) {x y c d : Nat} (hx : Fin k x) (hy : Fin k y) (hc : Fin k c) (hd : Fin k d) (h1 : rung k x ≤ rung k c) (h2 : rung k y ≤ rung k d) :
    ∃ r t, floatBits .mul k x y = some r ∧ floatBits .mul k c d = some t ∧ rung k r ≤ rung k t := by
  obtain ⟨m, e, hm, hz⟩ := read_fin k hx
  obtain ⟨n, f, hn, hz2⟩ := read_fin k hy
  obtain ⟨M, E, hM, hZ⟩ := read_fin k hc
  obtain ⟨N', F, hN, hZ2⟩ := read_fin k hd
  simp only [floatBits, Format.mul, hm, hn, hM, hN, Datum.product, Option.map_some]
  refine ⟨_, _, rfl, rfl, ?_⟩
  refine nearest_mono k _ _ (b := k.format.leastPlace + k.format.leastPlace) (by omega) (by omega) (by have := lp_neg k; omega) ?_
  have e1 : (k.format.leastPlace + (e : Int) + (k.format.leastPlace + (f : Int)) - (k.format.leastPlace + k.format.leastPlace)).toNat = e + f := by omega
  have e2 : (k.format.leastPlace + (E : Int) + (k.format.leastPlace + (F : Int)) - (k.format.leastPlace + k.format.leastPlace)).toNat = E + F := by omega
  rw [e1, e2, Nat.pow_add, Nat.pow_add]
  have g1 : m * n * (2 ^ e * 2 ^ f) = (m * 2 ^ e) * (n * 2 ^ f) := by
    rw [Nat.mul_assoc, Nat.mul_assoc, Nat.mul_left_comm n]
  have g2 : M * N' * (2 ^ E * 2 ^ F) = (M * 2 ^ E) * (N' * 2 ^ F) := by
    rw [Nat.mul_assoc, Nat.mul_assoc, Nat.mul_left_comm N']
  rw [g1, g2, ← hz, ← hz2, ← hZ, ← hZ2]
  exact Nat.mul_le_mul ((zv_le k).2 h1) ((zv_le k).2 h2)

theorem sum_abs (s t : Bool) (a b : Nat) : (sg s a + sg t b).natAbs ≤ a + b := by
  cases s <;> cases t <;> simp [sg] <;> omega

theorem sum_pos (a b : Nat) : (sg false a + sg false b).natAbs = a + b := by simp [sg]; omega
/-- THE SIZE OF A SUM, bounded by that of two numbers without sign -/
theorem add_size (k : FloatKind) {x y c d : Nat} (hx : Fin k x) (hy : Fin k y) (hc : Fin k c) (hd : Fin k d) (sc : sgn k c = false) (sd : sgn k d = false) (h1 : rung k x ≤ rung k c) (h2 : rung k y ≤ rung k d) :
    ∃ r t, floatBits .add k x y = some r ∧ floatBits .add k c d = some t ∧ rung k r ≤ rung k t := by
  obtain ⟨m, e, hm, hz⟩ := read_fin k hx
  obtain ⟨n, f, hn, hz2⟩ := read_fin k hy
  obtain ⟨M, E, hM, hZ⟩ := read_fin k hc
  obtain ⟨N', F, hN, hZ2⟩ := read_fin k hd
  rw [sc] at hM
  rw [sd] at hN
  simp only [floatBits, Format.add, hm, hn, hM, hN, Datum.sum, Option.map_some]
  refine ⟨_, _, rfl, rfl, ?_⟩
  refine nearest_mono k _ _ (b := k.format.leastPlace) (by omega) (by omega) (by omega) ?_
  have e1 : (min (k.format.leastPlace + (e : Int)) (k.format.leastPlace + (f : Int)) - k.format.leastPlace).toNat = min e f := by omega
  have e2 : (min (k.format.leastPlace + (E : Int)) (k.format.leastPlace + (F : Int)) - k.format.leastPlace).toNat = min E F := by omega
  have e3 : (k.format.leastPlace + (e : Int) - min (k.format.leastPlace + (e : Int)) (k.format.leastPlace + (f : Int))).toNat = e - min e f := by omega
  have e4 : (k.format.leastPlace + (f : Int) - min (k.format.leastPlace + (e : Int)) (k.format.leastPlace + (f : Int))).toNat = f - min e f := by omega
  have e5 : (k.format.leastPlace + (E : Int) - min (k.format.leastPlace + (E : Int)) (k.format.leastPlace + (F : Int))).toNat = E - min E F := by omega
  have e6 : (k.format.leastPlace + (F : Int) - min (k.format.leastPlace + (E : Int)) (k.format.leastPlace + (F : Int))).toNat = F - min E F := by omega
  rw [e1, e2, e3, e4, e5, e6]
  have sgd : ∀ (s : Bool) (a u : Nat), signed s a u = sg s (a * 2 ^ u) := by intro s a u; simp only [signed, sg, Nat.shiftLeft_eq]
  rw [sgd, sgd, sgd, sgd]
  have a1 := sum_abs (sgn k x) (sgn k y) (m * 2 ^ (e - min e f)) (n * 2 ^ (f - min e f))
  have a2 : (sg false (M * 2 ^ (E - min E F)) + sg false (N' * 2 ^ (F - min E F))).natAbs = M * 2 ^ (E - min E F) + N' * 2 ^ (F - min E F) := sum_pos _ _
  rw [a2]
  have b1 := Nat.mul_le_mul_right (2 ^ min e f) a1
  rw [Nat.add_mul, Nat.mul_assoc, Nat.mul_assoc, ← Nat.pow_add, ← Nat.pow_add, Nat.sub_add_cancel (Nat.min_le_left ..), Nat.sub_add_cancel (Nat.min_le_right ..), ← hz, ← hz2] at b1
  rw [Nat.add_mul, Nat.mul_assoc, Nat.mul_assoc, ← Nat.pow_add, ← Nat.pow_add, Nat.sub_add_cancel (Nat.min_le_left ..), Nat.sub_add_cancel (Nat.min_le_right ..), ← hZ, ← hZ2]
  have c1 := (zv_le k).2 h1
  have c2 := (zv_le k).2 h2
  omega

theorem rung_form (k : FloatKind) (r : Nat) : ∃ m e : Nat, zv k r = m * 2 ^ e ∧ ((r < k.format.binade ∧ m = r ∧ e = 0) ∨ (¬ r < k.format.binade ∧ m = k.format.binade + r % k.format.binade ∧ e = r / k.format.binade - 1)) ∧ m < 2 ^ (k.format.fractionBits + 1) := by
  have hp := bin_pos k
  have hB : k.format.binade = 2 ^ k.format.fractionBits := rfl
  have h2 : 2 ^ (k.format.fractionBits + 1) = 2 * k.format.binade := by rw [Nat.pow_succ, ← hB]; omega
  unfold zv
  by_cases h : r < k.format.binade
  · exact ⟨r, 0, by rw [if_pos h]; omega, .inl ⟨h, rfl, rfl⟩, by omega⟩
  · exact ⟨_, _, by rw [if_neg h], .inr ⟨h, rfl, rfl⟩, by have := Nat.mod_lt r hp; omega⟩
/-- THE SIZE OF A QUOTIENT: where x is at most t times y, x / y is rounded to at most t. -/
theorem div_size (k : FloatKind) {x y t : Nat} (hx : Fin k x) (hy : Fin k y) (ht : Fin k t) (hy0 : rung k y ≠ 0) (P : Nat) (hP : (P : Int) = -k.format.leastPlace)
    (h : zv k (rung k x) * 2 ^ P ≤ zv k (rung k t) * zv k (rung k y)) :
    ∃ r, floatBits .quo k x y = some r ∧ rung k r ≤ rung k t := by
  obtain ⟨m, e, hm, hz⟩ := read_fin k hx
  obtain ⟨n, f, hn, hz2⟩ := read_fin k hy
  obtain ⟨M, E, hZ, hform, hML⟩ := rung_form k (rung k t)
  have hn0 : n ≠ 0 := by
    intro e0
    subst e0
    rw [Nat.zero_mul] at hz2
    have := (zv_inj k (r := rung k y) (s := 0)).1 (by rw [zv_zero]; exact hz2)
    exact hy0 this
  simp only [floatBits, Format.div, hm, hn, Datum.quotient, if_neg hn0, Option.map_some]
  refine ⟨_, rfl, ?_⟩
  show rung k (k.format.nearest _ _ _) ≤ _
  have hT := nearest_rung k false ht hZ hform
  rw [← hT]
  generalize hmo : k.format.fractionBits + 2 + n.log2 - m.log2 = more
  have hsh : m <<< more = m * 2 ^ more := Nat.shiftLeft_eq ..
  rw [hsh]
  rw [hz, hz2, hZ] at h
  by_cases hm0 : m = 0
  · subst hm0
    have e1 : (2 * (0 * 2 ^ more / n) + (0 * 2 ^ more % n != 0).toNat) = 0 := by simp
    rw [e1]
    refine nearest_mono k _ _ (b := min (k.format.leastPlace + (e : Int) - (k.format.leastPlace + (f : Int)) - (more : Int) - 1) k.format.leastPlace) (by omega) (by omega) (by omega) ?_
    rw [Nat.zero_mul]; exact Nat.zero_le _
  · have hD : 2 ^ (k.format.fractionBits + 2 + n.log2) ≤ m * 2 ^ more := by
      have h1 : 2 ^ m.log2 ≤ m := Nat.log2_self_le hm0
      calc 2 ^ (k.format.fractionBits + 2 + n.log2) ≤ 2 ^ (m.log2 + more) := Nat.pow_le_pow_right (by omega) (by omega)
        _ = 2 ^ m.log2 * 2 ^ more := Nat.pow_add ..
        _ ≤ m * 2 ^ more := Nat.mul_le_mul_right _ h1
    have hn1 : n < 2 ^ (n.log2 + 1) := Nat.lt_log2_self
    -- the unit of the quotient is no greater than that of t
    have hu : e + P ≤ E + f + more + 1 := by
      rcases Nat.lt_or_ge (E + f + more + 1) (e + P) with hlt | hge
      · exfalso
        have h2 := Nat.mul_le_mul_right (2 ^ more) h
        have l1 : m * 2 ^ e * 2 ^ P * 2 ^ more = (m * 2 ^ more) * 2 ^ (e + P) := by
          rw [Nat.pow_add]; ac_rfl
        have l2 : M * 2 ^ E * (n * 2 ^ f) * 2 ^ more = (M * n) * 2 ^ (E + f + more) := by
          rw [Nat.pow_add, Nat.pow_add]; ac_rfl
        rw [l1, l2] at h2
        have h3 : 2 ^ (E + f + more + 2) ≤ 2 ^ (e + P) := Nat.pow_le_pow_right (by omega) (by omega)
        have h4 : 2 ^ (E + f + more + 2) = 4 * 2 ^ (E + f + more) := by rw [Nat.pow_add]; omega
        have h5 : m * 2 ^ more * (4 * 2 ^ (E + f + more)) ≤ m * 2 ^ more * 2 ^ (e + P) := Nat.mul_le_mul_left _ (by omega)
        have h6 : (m * 2 ^ more * 4) * 2 ^ (E + f + more) ≤ (M * n) * 2 ^ (E + f + more) := by rw [Nat.mul_assoc]; omega
        have h7 := Nat.le_of_mul_le_mul_right h6 (Nat.two_pow_pos _)
        have h8 : M * n ≤ 2 ^ (k.format.fractionBits + 1) * 2 ^ (n.log2 + 1) := Nat.mul_le_mul (Nat.le_of_lt hML) (Nat.le_of_lt hn1)
        rw [← Nat.pow_add] at h8
        have h9 : 2 ^ (k.format.fractionBits + 1 + (n.log2 + 1)) = 2 ^ (k.format.fractionBits + 2 + n.log2) := by congr 1; omega
        have hpos := Nat.two_pow_pos (k.format.fractionBits + 2 + n.log2)
        omega
      · exact hge
    obtain ⟨u, hu2⟩ : ∃ u, u + (e + P) = E + f + more + 1 := ⟨E + f + more + 1 - (e + P), by omega⟩
    have hK : 2 * (m * 2 ^ more) ≤ M * 2 ^ u * n := by
      have h2 := Nat.mul_le_mul_right (2 ^ (more + 1)) h
      have l1 : m * 2 ^ e * 2 ^ P * 2 ^ (more + 1) = (2 * (m * 2 ^ more)) * 2 ^ (e + P) := by
        rw [Nat.pow_succ, Nat.pow_add]; ac_rfl
      have l2 : M * 2 ^ E * (n * 2 ^ f) * 2 ^ (more + 1) = (M * 2 ^ u * n) * 2 ^ (e + P) := by
        have l3 : M * 2 ^ E * (n * 2 ^ f) * 2 ^ (more + 1) = (M * n) * 2 ^ (E + f + more + 1) := by
          rw [show E + f + more + 1 = E + f + (more + 1) from rfl, Nat.pow_add 2 (E + f), Nat.pow_add 2 E]; ac_rfl
        have l4 : (M * 2 ^ u * n) * 2 ^ (e + P) = (M * n) * 2 ^ (u + (e + P)) := by
          rw [Nat.pow_add 2 u]; ac_rfl
        rw [l3, l4, hu2]
      rw [l1, l2] at h2
      exact Nat.le_of_mul_le_mul_right h2 (Nat.two_pow_pos _)
    have hq : 2 * (m * 2 ^ more / n) + (m * 2 ^ more % n != 0).toNat ≤ M * 2 ^ u := by
      have hnp := Nat.pos_of_ne_zero hn0
      have hdm := Nat.div_add_mod (m * 2 ^ more) n
      generalize m * 2 ^ more = D at *
      generalize M * 2 ^ u = K at *
      generalize D / n = q at *
      cases hr : (D % n != 0)
      · simp at hr
        rw [hr] at hdm
        have h1 : (2 * q) * n ≤ K * n := by rw [Nat.mul_assoc, Nat.mul_comm q]; omega
        have := Nat.le_of_mul_le_mul_right h1 hnp
        simp only [Bool.toNat_false]; omega
      · simp at hr
        simp only [Bool.toNat_true]
        rcases Nat.lt_or_ge (2 * q) K with h1 | h1
        · omega
        · exfalso
          have h2 := Nat.mul_le_mul_right n h1
          rw [Nat.mul_assoc, Nat.mul_comm q] at h2
          omega
    refine nearest_mono k _ _ (b := min (k.format.leastPlace + (e : Int) - (k.format.leastPlace + (f : Int)) - (more : Int) - 1) k.format.leastPlace) (by omega) (by omega) (by omega) ?_
    generalize hb : min (k.format.leastPlace + (e : Int) - (k.format.leastPlace + (f : Int)) - (more : Int) - 1) k.format.leastPlace = b
    have hE : (k.format.leastPlace + (E : Int) - b).toNat = u + (k.format.leastPlace + (e : Int) - (k.format.leastPlace + (f : Int)) - (more : Int) - 1 - b).toNat := by omega
    rw [hE, Nat.pow_add, ← Nat.mul_assoc]
    exact Nat.mul_le_mul_right _ hq
end Fl
end Go.Proofs.Ytipdgnhbmfmhnaa
