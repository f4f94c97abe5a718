/- Products with powers of two: the code of the product in 32 bits is that of the product in 64 bits. -/
import Derived.Test.YtdibobheggffnaaFw
import Derived.Test.YtdibobheggffnaaJr
set_option linter.unusedVariables false
set_option linter.unusedSimpArgs false
namespace Go.Proofs.Ytdibobheggffnaa
namespace Fl
open Ieee
theorem nearest_exact (k : FloatKind) (neg : Bool) {r mag : Nat} {place b : Int} (hr : r < k.format.infRung) (hb : b ≤ place) (hbl : b ≤ k.format.leastPlace)
    (h : zv k r * 2 ^ (k.format.leastPlace - b).toNat = mag * 2 ^ (place - b).toNat) : rung k (k.format.nearest neg mag place) = r := by
  obtain ⟨m, e, hz, hme, _⟩ := rung_form k r
  have h0 := nearest_rung k neg hr hz hme
  have h1 : m * 2 ^ (k.format.leastPlace + (e : Int) - b).toNat = mag * 2 ^ (place - b).toNat := by
    rw [← h, hz, Nat.mul_assoc, ← Nat.pow_add]
    congr 2
    omega
  have a := nearest_mono k neg neg (mag := m) (mag' := mag) (place := k.format.leastPlace + e) (place' := place) (b := b) (by omega) hb hbl (Nat.le_of_eq h1)
  have a' := nearest_mono k neg neg (mag := mag) (mag' := m) (place := place) (place' := k.format.leastPlace + e) (b := b) hb (by omega) hbl (Nat.le_of_eq h1.symm)
  omega
theorem zv_dbl1 (k : FloatKind) (r : Nat) : ∃ r', zv k r' = zv k r * 2 := by
  have hp := bin_pos k
  by_cases h : r < k.format.binade
  · refine ⟨2 * r, ?_⟩
    by_cases h2 : 2 * r < k.format.binade
    · unfold zv; rw [if_pos h2, if_pos h]; omega
    · have e1 : 2 * r / k.format.binade = 1 := by
        rw [Nat.div_eq_sub_div hp (by omega), Nat.div_eq_of_lt (by omega)]
      have e2 : 2 * r % k.format.binade = 2 * r - k.format.binade := by
        rw [Nat.mod_eq_sub_mod (by omega), Nat.mod_eq_of_lt (by omega)]
      unfold zv
      rw [if_neg h2, if_pos h, e1, e2]
      simp
      omega
  · refine ⟨r + k.format.binade, ?_⟩
    have e1 : (r + k.format.binade) / k.format.binade = r / k.format.binade + 1 := Nat.add_div_right _ hp
    have e2 : (r + k.format.binade) % k.format.binade = r % k.format.binade := Nat.add_mod_right _ _
    have hq : 1 ≤ r / k.format.binade := (Nat.one_le_div_iff hp).2 (by omega)
    unfold zv
    rw [if_neg (by omega), if_neg h, e1, e2, Nat.mul_assoc, ← Nat.pow_succ]
    congr 2
    omega
theorem zv_dbl (k : FloatKind) (r : Nat) : ∀ j, ∃ r', zv k r' = zv k r * 2 ^ j
  | 0 => ⟨r, by rw [Nat.pow_zero, Nat.mul_one]⟩
  | j + 1 => by
    obtain ⟨s, hs⟩ := zv_dbl k r j
    obtain ⟨t, ht⟩ := zv_dbl1 k s
    exact ⟨t, by rw [ht, hs, Nat.pow_succ, Nat.mul_assoc]⟩
/-- a product that is exact -/
theorem mul_exact (k : FloatKind) {x c r m : Nat} (hx : rung k x < k.format.infRung) (hc : rung k c < k.format.infRung) (sc : sgn k c = false) (P : Nat) (hP : k.format.leastPlace = -(P : Int)) (hzc : zv k (rung k c) = m * 2 ^ P) (hr : r < k.format.infRung)
    (hzr : zv k r = zv k (rung k x) * m) : ∃ q, floatBits .mul k x c = some q ∧ rung k q = r ∧ sgn k q = sgn k x := by
  obtain ⟨mx, ex, h1, h2⟩ := read_fin k hx
  obtain ⟨mc, ec, h3, h4⟩ := read_fin k hc
  simp only [floatBits, Format.mul, h1, h3, Datum.product, Option.map_some]
  refine ⟨_, rfl, ?_, ?_⟩
  · show rung k (k.format.nearest _ _ _) = r
    refine nearest_exact k _ (b := k.format.leastPlace + k.format.leastPlace) hr (by omega) (by omega) ?_
    rw [show (k.format.leastPlace - (k.format.leastPlace + k.format.leastPlace)).toNat = P by omega,
      show (k.format.leastPlace + (ex : Int) + (k.format.leastPlace + (ec : Int)) - (k.format.leastPlace + k.format.leastPlace)).toNat = ex + ec by omega, hzr, h2, Nat.pow_add]
    have e : mx * mc * (2 ^ ex * 2 ^ ec) = (mx * 2 ^ ex) * (mc * 2 ^ ec) := by rw [Nat.mul_assoc, Nat.mul_assoc, Nat.mul_left_comm mc]
    rw [e, ← h4, hzc, Nat.mul_assoc]
  · show sgn k (k.format.nearest _ _ _) = _
    rw [sgn_nearest, sc]
    cases sgn k x <;> rfl
/-- a product with a number without sign, at least 1, is not less, and has the sign -/
theorem mul_big (k : FloatKind) {x c o t : Nat} (hx : rung k x < k.format.infRung) (hc : rung k c < k.format.infRung) (sc : sgn k c = false) (ht : rung k t < k.format.infRung) (ho : rung k o < k.format.infRung) (h1 : rung k t ≤ rung k x) (h2 : rung k o ≤ rung k c)
    (h3 : (floatBits .mul k t o).map (fun r => decide (rung k t ≤ rung k r)) = some true) : ∃ q, floatBits .mul k x c = some q ∧ rung k t ≤ rung k q ∧ sgn k q = sgn k x ∧ rung k q ≤ k.format.infRung := by
  obtain ⟨r, q, e1, e2, e3⟩ := mul_size k ht ho hx hc h1 h2
  rw [e1] at h3
  simp only [Option.map_some, Option.some.injEq, decide_eq_true_eq] at h3
  refine ⟨q, e2, by omega, ?_⟩
  obtain ⟨mx, ex, g1, g2⟩ := read_fin k hx
  obtain ⟨mc, ec, g3, g4⟩ := read_fin k hc
  simp only [floatBits, Format.mul, g1, g3, Datum.product, Option.map_some] at e2
  injection e2 with e2
  rw [← e2]
  refine ⟨?_, nearest_fin _ _ _ _⟩
  show sgn k (k.format.nearest _ _ _) = _
  rw [sgn_nearest, sc]
  cases sgn k x <;> rfl
end Fl
open Fl Go.RowKit Ieee
/-- what is asked of m as a number of 32 and of 64 bits -/
structure Pw (m : Nat) : Prop where
  f3 : rung .f32 (fI (m : Int)) < FloatKind.f32.format.infRung
  f6 : rung .f64 (fd (m : Int)) < FloatKind.f64.format.infRung
  s3 : sgn .f32 (fI (m : Int)) = false
  s6 : sgn .f64 (fd (m : Int)) = false
  z3 : zv .f32 (rung .f32 (fI (m : Int))) = m * 2 ^ 149
  z6 : zv .f64 (rung .f64 (fd (m : Int))) = m * 2 ^ 1074
  o3 : rung .f32 1065353216 ≤ rung .f32 (fI (m : Int))
  o6 : rung .f64 4607182418800017408 ≤ rung .f64 (fd (m : Int))
  i3 : ∀ s : Bool, (Datum.infinity s).product (FloatKind.f32.format.read (fI (m : Int))) = some (.infinity s)
  i6 : ∀ s : Bool, (Datum.infinity s).product (FloatKind.f64.format.read (fd (m : Int))) = some (.infinity s)
set_option maxRecDepth 10000 in
theorem pw_of {b : Nat} (h1 : 2 ≤ b) (h2 : b ≤ 16) : Pw (mst b) := by
  obtain rfl | rfl | rfl | rfl | rfl | rfl | rfl | rfl | rfl | rfl | rfl | rfl | rfl | rfl | rfl : b = 2 ∨ b = 3 ∨ b = 4 ∨ b = 5 ∨ b = 6 ∨ b = 7 ∨ b = 8 ∨ b = 9 ∨ b = 10 ∨ b = 11 ∨ b = 12 ∨ b = 13 ∨ b = 14 ∨ b = 15 ∨ b = 16 := by omega
  all_goals exact ⟨by decide +kernel, by decide +kernel, by decide +kernel, by decide +kernel, by decide +kernel, by decide +kernel, by decide +kernel, by decide +kernel, by decide +kernel, by decide +kernel⟩
def t32 : Nat := 147 * 8388608
def t64 : Nat := 1043 * 4503599627370496
theorem cod_sat {m y : Nat} (C : Cst m) (h : rung .f64 t64 ≤ rung .f64 y) : codO m (some y) = if sgn .f64 y then -(m : Int) else (m : Int) - 1 := by
  have kM := key_pos C.sM; have kL := key_neg C.sL
  have zM := C.zM; have zL := C.zL; have pM := C.pM
  have ht : rung .f64 t64 = 1043 * 4503599627370496 := by decide
  rw [codO_some]
  cases hs : sgn .f64 y
  · have ky := key_pos hs
    rw [if_pos (by omega)]; rfl
  · have ky := key_neg hs
    rw [if_neg (by omega), if_pos (by omega)]; rfl
theorem wide_some (x : Nat) : wide (some x) = some (FloatKind.f64.encode (FloatKind.f32.decode x)) := rfl
theorem opO_some (op : BinOp) (k : FloatKind) (x y : Nat) : opO op k (some x) (some y) = floatBits op k x y := rfl
theorem wide_big {p : Nat} (hp : rung .f32 p ≤ FloatKind.f32.format.infRung) (h : rung .f32 t32 ≤ rung .f32 p) : rung .f64 t64 ≤ rung .f64 (FloatKind.f64.encode (FloatKind.f32.decode p)) ∧ sgn .f64 (FloatKind.f64.encode (FloatKind.f32.decode p)) = sgn .f32 p := by
  obtain ⟨D, hD⟩ : ∃ D : Nat, D = 925 := ⟨_, rfl⟩
  rcases Nat.lt_or_eq_of_le hp with h1 | h1
  · obtain ⟨a, b⟩ := wide_zv h1 D hD
    refine ⟨?_, a⟩
    have h2 := wide_zv (b := t32) (by decide) D hD
    rw [show FloatKind.f64.encode (FloatKind.f32.decode t32) = t64 by decide +kernel] at h2
    refine (zv_le .f64).1 ?_
    rw [h2.2, b]
    exact Nat.mul_le_mul_right _ ((zv_le .f32).2 h)
  · have hr : FloatKind.f32.decode p = .infinity (sgn .f32 p) := read_inf .f32 h1
    rw [hr]
    cases sgn .f32 p <;> decide +kernel
theorem sg_word_inj {x y : Nat} (hx : x < 2 ^ 64) (hy : y < 2 ^ 64) (h1 : rung .f64 x = rung .f64 y) (h2 : sgn .f64 x = sgn .f64 y) : x = y := by
  rw [← word_of .f64 (b := x) hx, ← word_of .f64 (b := y) hy, h1, h2]
theorem op_lt {op : BinOp} {k : FloatKind} {x y q : Nat} (h : floatBits op k x y = some q) : q < 2 ^ k.format.width := by
  cases op <;> simp only [floatBits] at h <;> first | (cases h; done) | skip
  all_goals
    simp only [Format.add, Format.sub, Format.mul, Format.div, Option.map_eq_some_iff] at h
    obtain ⟨d, hd, rfl⟩ := h
    exact k.format.write_lt d
set_option maxHeartbeats 1000000 in
theorem cod_mul {m j : Nat} (hj : m = 2 ^ j) (hm : m ≤ 32768) (C : Cst m) (W : Pw m) (X : O) (hX : ∀ x, X = some x → rung .f32 x ≤ FloatKind.f32.format.infRung) :
    codO m (wide (opO .mul .f32 X (some (fI (m : Int))))) = codO m (opO .mul .f64 (wide X) (some (fd (m : Int)))) := by
  cases X with
  | none => rfl
  | some x =>
    have hx := hX x rfl
    rw [wide_some, opO_some, opO_some]
    have one6 : rung .f64 4607182418800017408 < FloatKind.f64.format.infRung := by decide
    have one3 : rung .f32 1065353216 < FloatKind.f32.format.infRung := by decide
    rcases Nat.lt_or_eq_of_le hx with h1 | h1
    · obtain ⟨D, hD⟩ : ∃ D : Nat, D = 925 := ⟨_, rfl⟩
      obtain ⟨sx, zx⟩ := wide_zv h1 D hD
      have hD3 : zv .f32 FloatKind.f32.format.infRung * 2 ^ D ≤ zv .f64 FloatKind.f64.format.infRung := by rw [hD]; decide +kernel
      have hwf : rung .f64 (FloatKind.f64.encode (FloatKind.f32.decode x)) < FloatKind.f64.format.infRung := by
        refine (zv_lt .f64).1 ?_
        rw [zx]
        have h2 : zv .f32 (rung .f32 x) < zv .f32 FloatKind.f32.format.infRung := (zv_lt .f32).2 h1
        exact Nat.lt_of_lt_of_le (Nat.mul_lt_mul_of_pos_right h2 (Nat.two_pow_pos _)) hD3
      rcases Nat.lt_or_ge (rung .f32 x) (rung .f32 t32) with h2 | h2
      · -- small: both products are exact
        obtain ⟨r, hr⟩ := zv_dbl .f32 (rung .f32 x) j
        rw [← hj] at hr
        have hrf : r < FloatKind.f32.format.infRung := by
          refine (zv_lt .f32).1 ?_
          rw [hr]
          have h3 : zv .f32 (rung .f32 x) < zv .f32 (rung .f32 t32) := (zv_lt .f32).2 h2
          have h4 : zv .f32 (rung .f32 t32) * 32768 ≤ zv .f32 FloatKind.f32.format.infRung := by decide +kernel
          have h5 : zv .f32 (rung .f32 x) * m ≤ zv .f32 (rung .f32 x) * 32768 := Nat.mul_le_mul_left _ hm
          omega
        obtain ⟨p, e1, e2, e3⟩ := mul_exact .f32 h1 W.f3 W.s3 149 (by decide) W.z3 hrf hr
        have hpf : rung .f32 p < FloatKind.f32.format.infRung := by rw [e2]; exact hrf
        obtain ⟨sp, zp⟩ := wide_zv hpf D hD
        have hpw : rung .f64 (FloatKind.f64.encode (FloatKind.f32.decode p)) < FloatKind.f64.format.infRung := by
          refine (zv_lt .f64).1 ?_
          rw [zp]
          have h2 : zv .f32 (rung .f32 p) < zv .f32 FloatKind.f32.format.infRung := (zv_lt .f32).2 hpf
          exact Nat.lt_of_lt_of_le (Nat.mul_lt_mul_of_pos_right h2 (Nat.two_pow_pos _)) hD3
        obtain ⟨q, g1, g2, g3⟩ := mul_exact .f64 hwf W.f6 W.s6 1074 (by decide) W.z6 hpw (by rw [zp, e2, hr, zx, Nat.mul_assoc, Nat.mul_comm m, ← Nat.mul_assoc])
        rw [e1, g1, wide_some]
        have : FloatKind.f64.encode (FloatKind.f32.decode p) = q := sg_word_inj (FloatKind.f64.format.write_lt _) (op_lt g1) g2.symm (by rw [sp, e3, g3, sx])
        rw [this]
      · obtain ⟨p, e1, e2, e3, e4⟩ := mul_big .f32 (t := t32) (o := 1065353216) h1 W.f3 W.s3 (by decide) one3 h2 W.o3 (by decide +kernel)
        obtain ⟨w1, w2⟩ := wide_big hx h2
        obtain ⟨q, g1, g2, g3, g4⟩ := mul_big .f64 (t := t64) (o := 4607182418800017408) hwf W.f6 W.s6 (by decide) one6 w1 W.o6 (by decide +kernel)
        obtain ⟨v1, v2⟩ := wide_big e4 e2
        rw [e1, g1, wide_some, cod_sat C v1, cod_sat C g2, v2, e3, g3, w2]
    · have hr : FloatKind.f32.format.read x = .infinity (sgn .f32 x) := read_inf .f32 h1
      have hd : FloatKind.f32.decode x = .infinity (sgn .f32 x) := hr
      have e1 : floatBits .mul .f32 x (fI (m : Int)) = some (FloatKind.f32.format.word (sgn .f32 x) FloatKind.f32.format.infRung) := by
        simp only [floatBits, Format.mul, hr, W.i3, Option.map_some]; rfl
      have hr6 : FloatKind.f64.format.read (FloatKind.f64.encode (FloatKind.f32.decode x)) = .infinity (sgn .f32 x) := by
        rw [hd]; cases sgn .f32 x <;> decide +kernel
      have e2 : floatBits .mul .f64 (FloatKind.f64.encode (FloatKind.f32.decode x)) (fd (m : Int)) = some (FloatKind.f64.format.word (sgn .f32 x) FloatKind.f64.format.infRung) := by
        simp only [floatBits, Format.mul, hr6, W.i6, Option.map_some]; rfl
      rw [e1, e2, wide_some]
      cases sgn .f32 x
      · rw [show FloatKind.f64.encode (FloatKind.f32.decode (FloatKind.f32.format.word false FloatKind.f32.format.infRung)) = FloatKind.f64.format.word false FloatKind.f64.format.infRung by decide +kernel]
      · rw [show FloatKind.f64.encode (FloatKind.f32.decode (FloatKind.f32.format.word true FloatKind.f32.format.infRung)) = FloatKind.f64.format.word true FloatKind.f64.format.infRung by decide +kernel]
end Go.Proofs.Ytdibobheggffnaa
