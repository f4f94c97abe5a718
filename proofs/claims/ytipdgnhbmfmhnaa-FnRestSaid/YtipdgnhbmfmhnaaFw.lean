/- A number of 32 bits keeps its value, and so its place in the order, in 64 bits; sizes of differences. -/
import Derived.Test.YtipdgnhbmfmhnaaFe
set_option linter.unusedVariables false
set_option linter.unusedSimpArgs false
namespace Go.Proofs.Ytipdgnhbmfmhnaa
namespace Fl
open Ieee

theorem sgn_word2 (k : FloatKind) (s : Bool) {r : Nat} (h : r ≤ k.format.infRung) : sgn k (k.format.word s r) = s := by
  have h1 := k.format.infRung_lt
  have h0 := sw_pos k
  cases s
  · exact sgn_word k h
  · have e : k.format.word true r = k.format.signWeight + r := by unfold Format.word; simp
    rw [e]
    unfold sgn
    rw [Nat.add_div_left _ h0, Nat.div_eq_of_lt (by omega)]
    rfl
theorem sgn_nearest (k : FloatKind) (s : Bool) (mag : Nat) (place : Int) : sgn k (k.format.nearest s mag place) = s := by
  unfold Format.nearest
  dsimp only
  split
  · exact sgn_word2 k s (Nat.zero_le _)
  · exact sgn_word2 k s (Nat.min_le_right ..)

theorem wide_zv {b : Nat} (h : rung .f32 b < FloatKind.f32.format.infRung) (D : Nat) (hD : D = 925) :
    sgn .f64 (FloatKind.f64.encode (FloatKind.f32.decode b)) = sgn .f32 b ∧ zv .f64 (rung .f64 (FloatKind.f64.encode (FloatKind.f32.decode b))) = zv .f32 (rung .f32 b) * 2 ^ D := by
  obtain ⟨m, e, hr, hz⟩ := read_fin .f32 h
  have hd : FloatKind.f32.decode b = .number (sgn .f32 b) m (FloatKind.f32.format.leastPlace + e) := hr
  obtain ⟨h1, h2, h3⟩ := read32_bound hd
  have lp : FloatKind.f32.format.leastPlace = -149 := by decide
  have lp2 : FloatKind.f64.format.leastPlace = -1074 := by decide
  have fb : FloatKind.f64.format.fractionBits = 52 := rfl
  rw [hd]
  show sgn .f64 (FloatKind.f64.format.nearest (sgn .f32 b) m (FloatKind.f32.format.leastPlace + e)) = _ ∧ zv .f64 (rung .f64 (FloatKind.f64.format.nearest (sgn .f32 b) m (FloatKind.f32.format.leastPlace + e))) = _
  refine ⟨sgn_nearest _ _ _ _, ?_⟩
  rw [hz]
  by_cases hm : m = 0
  · subst hm
    rw [Nat.zero_mul, Nat.zero_mul]
    have e0 : FloatKind.f64.format.nearest (sgn .f32 b) 0 (FloatKind.f32.format.leastPlace + e) = FloatKind.f64.format.word (sgn .f32 b) 0 := rfl
    rw [e0]
    unfold rung
    rw [word_rung_mod _ _ (Nat.zero_le _)]
    exact zv_zero .f64
  · have hl := log2_lt (n := 23) h1
    have hl1 : 2 ^ m.log2 ≤ m := Nat.log2_self_le hm
    have hl2 : m < 2 ^ (m.log2 + 1) := Nat.lt_log2_self
    generalize hL : m.log2 = L at *
    rw [lp] at h2 h3 ⊢
    rw [nearest_form .f64 _ m _ hm (-149 + (e : Int) + L - 52) (by rw [hL, fb, lp2]; omega)]
    have e1 : ((-149 + (e : Int)) - (-149 + (e : Int) + L - 52)).toNat = 52 - L := by omega
    have e2 : ((-149 + (e : Int) + L - 52) - (-149 + (e : Int))).toNat = 0 := by omega
    have e3 : ((-149 + (e : Int) + L - 52) - FloatKind.f64.format.leastPlace).toNat = e + L + 873 := by rw [lp2]; omega
    rw [e1, e2, e3, cut_zero]
    have hb : FloatKind.f64.format.binade = 2 ^ 52 := rfl
    have hi : FloatKind.f64.format.infRung = 2047 * 2 ^ 52 := by decide
    have k1 : 2 ^ 52 ≤ m * 2 ^ (52 - L) := by
      have := Nat.mul_le_mul_right (2 ^ (52 - L)) hl1
      rw [← Nat.pow_add, show L + (52 - L) = 52 by omega] at this
      exact this
    have k2 : m * 2 ^ (52 - L) < 2 ^ 53 := by
      have := Nat.mul_lt_mul_of_pos_right hl2 (Nat.two_pow_pos (52 - L))
      rw [← Nat.pow_add, show L + 1 + (52 - L) = 53 by omega] at this
      exact this
    have hK : m * 2 ^ (52 - L) * 2 ^ (e + L + 873) = m * 2 ^ e * 2 ^ D := by
      rw [Nat.mul_assoc, ← Nat.pow_add, Nat.mul_assoc, ← Nat.pow_add, show 52 - L + (e + L + 873) = e + D by omega]
    generalize m * 2 ^ (52 - L) = K at *
    have hB : (2 : Nat) ^ 52 = 4503599627370496 := by decide
    have hB2 : (2 : Nat) ^ 53 = 9007199254740992 := by decide
    rw [hb, hi]
    rw [hB] at k1 ⊢
    rw [hB2] at k2
    have he : e ≤ 253 := by omega
    rw [Nat.min_eq_left (by omega), ← hK]
    unfold zv
    rw [hb, hB, if_neg (by omega)]
    have q1 : ((e + L + 873) * 4503599627370496 + K) / 4503599627370496 = e + L + 874 := by omega
    have q2 : ((e + L + 873) * 4503599627370496 + K) % 4503599627370496 = K - 4503599627370496 := by omega
    rw [q1, q2]
    rw [show e + L + 874 - 1 = e + L + 873 by omega, show 4503599627370496 + (K - 4503599627370496) = K by omega]

theorem ab_wide {b : Nat} (h : ab .f32 b = some b) : ab .f64 (FloatKind.f64.encode (FloatKind.f32.decode b)) = some (FloatKind.f64.encode (FloatKind.f32.decode b)) := by
  have hn := read_nan (k := .f32) (b := b)
  rw [h] at hn
  exact (fv_write .f64 (d := FloatKind.f32.decode b) hn).2
/-- THE ORDER IS THE SAME in 64 bits. -/
theorem ord_wide {b c : Nat} (hb : ab .f32 b = some b) (hc : ab .f32 c = some c) (hf : rung .f32 c < FloatKind.f32.format.infRung) :
    ordO .f64 (wide (some b)) (wide (some c)) = ordO .f32 (some b) (some c) := by
  show FloatKind.f64.format.order (FloatKind.f64.encode (FloatKind.f32.decode b)) (FloatKind.f64.encode (FloatKind.f32.decode c)) = FloatKind.f32.format.order b c
  have bc : ab .f64 (FloatKind.f64.encode (FloatKind.f32.decode c)) = some (FloatKind.f64.encode (FloatKind.f32.decode c)) := ab_wide hc
  have bb : ab .f64 (FloatKind.f64.encode (FloatKind.f32.decode b)) = some (FloatKind.f64.encode (FloatKind.f32.decode b)) := ab_wide hb
  obtain ⟨D, hD⟩ : ∃ D, D = 925 := ⟨_, rfl⟩
  obtain ⟨sc, zc⟩ := wide_zv hf D hD
  have rb := rung_of_ab .f32 hb
  rw [order_key .f64 bb bc, order_key .f32 hb hc]
  congr 1
  unfold key
  have hp := Nat.two_pow_pos D
  have z32 := zv_zero .f32
  have z64 := zv_zero .f64
  by_cases hfb : rung .f32 b < FloatKind.f32.format.infRung
  · obtain ⟨sb, zb⟩ := wide_zv hfb D hD
    rw [sb, sc]
    have key0 : ∀ x y x' y' : Nat, zv .f64 x = zv .f32 x' * 2 ^ D → zv .f64 y = zv .f32 y' * 2 ^ D → (x ≤ y ↔ x' ≤ y') := fun x y x' y' h1 h2 => by
      have u1 := zv_le .f64 (r := x) (s := y)
      have u2 := zv_le .f32 (r := x') (s := y')
      rw [← u1, h1, h2, ← u2]
      exact Nat.mul_le_mul_right_iff hp
    have a1 := key0 _ _ _ _ zb zc
    have a2 := key0 _ _ _ _ zc zb
    have a3 := key0 _ 0 _ 0 zb (by rw [z32, z64, Nat.zero_mul])
    have a4 := key0 _ 0 _ 0 zc (by rw [z32, z64, Nat.zero_mul])
    exact cmp_sg _ _ (by omega) (by omega) (by omega) (by omega)
  · have hbe : rung .f32 b = FloatKind.f32.format.infRung := by omega
    have hr : FloatKind.f32.decode b = .infinity (sgn .f32 b) := read_inf .f32 hbe
    have e1 : sgn .f64 (FloatKind.f64.encode (FloatKind.f32.decode b)) = sgn .f32 b := by rw [hr]; cases sgn .f32 b <;> decide
    have e2 : rung .f64 (FloatKind.f64.encode (FloatKind.f32.decode b)) = FloatKind.f64.format.infRung := by rw [hr]; cases sgn .f32 b <;> decide
    rw [e1, e2, sc, hbe]
    have key0 : ∀ x y x' y' : Nat, zv .f64 x = zv .f32 x' * 2 ^ D → zv .f64 y = zv .f32 y' * 2 ^ D → (x ≤ y ↔ x' ≤ y') := fun x y x' y' h1 h2 => by
      have u1 := zv_le .f64 (r := x) (s := y)
      have u2 := zv_le .f32 (r := x') (s := y')
      rw [← u1, h1, h2, ← u2]
      exact Nat.mul_le_mul_right_iff hp
    have a4 := key0 _ 0 _ 0 zc (by rw [z32, z64, Nat.zero_mul])
    have i64 : 0 < FloatKind.f64.format.infRung := by decide
    have i32 : 0 < FloatKind.f32.format.infRung := by decide
    have fin64 : rung .f64 (FloatKind.f64.encode (FloatKind.f32.decode c)) < FloatKind.f64.format.infRung := by
      refine Nat.lt_of_le_of_ne (rung_of_ab .f64 bc) fun he => ?_
      have hi := read_inf .f64 he
      obtain ⟨m, e, hr2, _⟩ := read_fin .f32 hf
      have hd : FloatKind.f32.decode c = .number (sgn .f32 c) m (FloatKind.f32.format.leastPlace + e) := hr2
      rcases fits_wide c with h | h
      · cases h
      · rw [hd] at h
        rw [hd] at hi
        have h' : (FloatKind.f64.format.read (FloatKind.f64.encode (.number (sgn .f32 c) m (FloatKind.f32.format.leastPlace + e)))).isInfinity = false := h
        rw [hi] at h'
        cases h'
    exact cmp_sg _ _ (by omega) (by omega) (by omega) (by omega)
end Fl
end Go.Proofs.Ytipdgnhbmfmhnaa
