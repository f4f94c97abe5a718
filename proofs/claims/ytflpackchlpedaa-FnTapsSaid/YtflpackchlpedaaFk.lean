/- The order of words of floats is the order of their rungs with their signs. -/
import Derived.Test.YtflpackchlpedaaFl
set_option linter.unusedVariables false
set_option linter.unusedSimpArgs false
namespace Go.Proofs.Ytflpackchlpedaa
namespace Fl
open Ieee

theorem cmp_def (a b : Int) : compare a b = if a < b then Ordering.lt else if a = b then Ordering.eq else Ordering.gt := rfl

/-- the sign of a word; its rung; the exact value of a finite rung, in units of the least place -/
def sgn (k : FloatKind) (b : Nat) : Bool := b / k.format.signWeight % 2 == 1
def rung (k : FloatKind) (b : Nat) : Nat := b % k.format.signWeight
def zv (k : FloatKind) (r : Nat) : Nat := if r < k.format.binade then r else (k.format.binade + r % k.format.binade) * 2 ^ (r / k.format.binade - 1)
def sg (s : Bool) (x : Nat) : Int := if s then -(x : Int) else x
def key (k : FloatKind) (b : Nat) : Int := sg (sgn k b) (rung k b)

theorem bin_pos (k : FloatKind) : 0 < k.format.binade := Nat.two_pow_pos _

theorem zv_mono (k : FloatKind) {r s : Nat} (h : r < s) : zv k r < zv k s := by
  unfold zv
  have hB := bin_pos k
  generalize k.format.binade = B at *
  by_cases hs : s < B
  · rw [if_pos hs, if_pos (by omega)]; exact h
  · rw [if_neg hs]
    have hp : ∀ n, 0 < 2 ^ n := fun n => Nat.two_pow_pos n
    by_cases hr : r < B
    · rw [if_pos hr]
      have : (B + s % B) * 1 ≤ (B + s % B) * 2 ^ (s / B - 1) := Nat.mul_le_mul_left _ (hp _)
      omega
    · rw [if_neg hr]
      have hq : r / B ≤ s / B := Nat.div_le_div_right (by omega)
      have hr1 : 1 ≤ r / B := (Nat.one_le_div_iff hB).2 (by omega)
      have er := Nat.div_add_mod r B
      have es := Nat.div_add_mod s B
      have hra := Nat.mod_lt r hB
      rcases Nat.lt_or_eq_of_le hq with hlt | heq
      · have h1 : (B + r % B) * 2 ^ (r / B - 1) < (2 * B) * 2 ^ (r / B - 1) := Nat.mul_lt_mul_of_pos_right (by omega) (hp _)
        have h2 : (2 * B) * 2 ^ (r / B - 1) = B * 2 ^ (r / B) := by
          have : r / B = r / B - 1 + 1 := by omega
          rw [this, Nat.pow_succ, Nat.add_sub_cancel, Nat.mul_comm (2 ^ _) 2, ← Nat.mul_assoc, Nat.mul_comm B 2]
        have h3 : B * 2 ^ (r / B) ≤ B * 2 ^ (s / B - 1) := Nat.mul_le_mul_left _ (Nat.pow_le_pow_right (by omega) (by omega))
        have h4 : B * 2 ^ (s / B - 1) ≤ (B + s % B) * 2 ^ (s / B - 1) := Nat.mul_le_mul_right _ (by omega)
        omega
      · rw [← heq]
        refine Nat.mul_lt_mul_of_pos_right ?_ (hp _)
        rw [← heq] at es
        omega

theorem zv_lt (k : FloatKind) {r s : Nat} : zv k r < zv k s ↔ r < s := by
  refine ⟨fun h => ?_, zv_mono k⟩
  rcases Nat.lt_trichotomy r s with h1 | h1 | h1
  · exact h1
  · subst h1; omega
  · have := zv_mono k h1; omega
theorem zv_inj (k : FloatKind) {r s : Nat} : zv k r = zv k s ↔ r = s := by
  have h1 := zv_lt k (r := r) (s := s)
  have h2 := zv_lt k (r := s) (s := r)
  constructor
  · intro h; omega
  · intro h; rw [h]
theorem zv_zero (k : FloatKind) : zv k 0 = 0 := by
  unfold zv; rw [if_pos (bin_pos k)]

theorem read_fin (k : FloatKind) {b : Nat} (h : rung k b < k.format.infRung) :
    ∃ m e : Nat, k.format.read b = .number (sgn k b) m (k.format.leastPlace + e) ∧ zv k (rung k b) = m * 2 ^ e := by
  unfold Format.read zv
  dsimp only
  unfold rung at h ⊢
  split
  · exact ⟨b % k.format.signWeight, 0, by simp [sgn], by omega⟩
  · exact ⟨_, _, rfl, rfl⟩
theorem read_inf (k : FloatKind) {b : Nat} (h : rung k b = k.format.infRung) : k.format.read b = .infinity (sgn k b) := by
  unfold Format.read
  dsimp only
  unfold rung at h
  have := bin_le k
  have hp := bin_pos k
  rw [if_neg (by omega), if_neg (by omega), if_pos h]
  rfl

theorem cmp_scale (a b : Int) (p : Nat) (hp : 0 < p) : compare (a * p) (b * p) = compare a b := by
  have hp' : (0 : Int) < p := by omega
  rw [cmp_def, cmp_def]
  have h1 : a * p < b * p ↔ a < b := Int.mul_lt_mul_right hp'
  have h2 : a * p = b * p ↔ a = b := Int.mul_eq_mul_right_iff (by omega)
  simp only [h1, h2]

theorem sg_mul (s : Bool) (x p : Nat) : sg s (x * p) = sg s x * p := by
  unfold sg; split <;> simp [Int.neg_mul]

theorem order_num (f : Format) (s t : Bool) (m n e g : Nat) :
    (Datum.number s m (f.leastPlace + e)).order (.number t n (f.leastPlace + g)) = some (compare (sg s (m * 2 ^ e)) (sg t (n * 2 ^ g))) := by
  simp only [Datum.order]
  have he : (f.leastPlace + e - min (f.leastPlace + e) (f.leastPlace + g)).toNat = e - min e g := by omega
  have hg : (f.leastPlace + g - min (f.leastPlace + e) (f.leastPlace + g)).toNat = g - min e g := by omega
  rw [he, hg]
  have h1 : m * 2 ^ e = m * 2 ^ (e - min e g) * 2 ^ min e g := by
    rw [Nat.mul_assoc, ← Nat.pow_add, Nat.sub_add_cancel (Nat.min_le_left ..)]
  have h2 : n * 2 ^ g = n * 2 ^ (g - min e g) * 2 ^ min e g := by
    rw [Nat.mul_assoc, ← Nat.pow_add, Nat.sub_add_cancel (Nat.min_le_right ..)]
  rw [h1, h2, sg_mul s _ (2 ^ min e g), sg_mul t _ (2 ^ min e g), cmp_scale _ _ _ (Nat.two_pow_pos _)]
  simp only [signed, sg, Nat.shiftLeft_eq]

theorem cmp_sg (s t : Bool) {a b x y : Nat} (h1 : x < y ↔ a < b) (h2 : y < x ↔ b < a) (h3 : x = 0 ↔ a = 0) (h4 : y = 0 ↔ b = 0) :
    compare (sg s x) (sg t y) = compare (sg s a) (sg t b) := by
  rw [cmp_def, cmp_def]
  have h5 : x = y ↔ a = b := by omega
  cases s <;> cases t <;> simp only [sg, if_true, if_false, Bool.false_eq_true]
  · have e1 : (x : Int) < y ↔ (a : Int) < b := by omega
    have e2 : (x : Int) = y ↔ (a : Int) = b := by omega
    simp only [e1, e2]
  · have e1 : (x : Int) < -y ↔ (a : Int) < -b := by omega
    have e2 : (x : Int) = -y ↔ (a : Int) = -b := by omega
    simp only [e1, e2]
  · have e1 : -(x : Int) < y ↔ -(a : Int) < b := by omega
    have e2 : -(x : Int) = y ↔ -(a : Int) = b := by omega
    simp only [e1, e2]
  · have e1 : -(x : Int) < -y ↔ -(a : Int) < -b := by omega
    have e2 : -(x : Int) = -y ↔ -(a : Int) = -b := by omega
    simp only [e1, e2]

theorem rung_of_ab (k : FloatKind) {b : Nat} (h : ab k b = some b) : rung k b ≤ k.format.infRung := by
  unfold ab at h; unfold rung
  split at h
  · cases h
  · omega

/-- THE ORDER OF TWO NUMBERS IS THAT OF THEIR KEYS. -/
theorem order_key (k : FloatKind) {b c : Nat} (hb : ab k b = some b) (hc : ab k c = some c) : k.format.order b c = some (compare (key k b) (key k c)) := by
  have rb := rung_of_ab k hb
  have rc := rung_of_ab k hc
  have hi : 0 < k.format.infRung := by have := bin_pos k; have := bin_le k; omega
  unfold Format.order key
  rcases Nat.lt_or_eq_of_le rb with h1 | h1 <;> rcases Nat.lt_or_eq_of_le rc with h2 | h2
  · obtain ⟨m, e, hm, hz⟩ := read_fin k h1
    obtain ⟨n, g, hn, hz'⟩ := read_fin k h2
    rw [hm, hn, order_num, ← hz, ← hz']
    refine congrArg some (cmp_sg _ _ (zv_lt k) (zv_lt k) ?_ ?_)
    · have := zv_inj k (r := rung k b) (s := 0); rw [zv_zero] at this; exact this
    · have := zv_inj k (r := rung k c) (s := 0); rw [zv_zero] at this; exact this
  · obtain ⟨m, e, hm, hz⟩ := read_fin k h1
    rw [hm, read_inf k h2, h2]
    cases sgn k c
    · have h : compare (sg (sgn k b) (rung k b)) (sg false k.format.infRung) = .lt := by
        rw [cmp_def, if_pos (by cases sgn k b <;> simp [sg] <;> omega)]
      rw [h]; rfl
    · have h : compare (sg (sgn k b) (rung k b)) (sg true k.format.infRung) = .gt := by
        rw [cmp_def, if_neg (by cases sgn k b <;> simp [sg] <;> omega), if_neg (by cases sgn k b <;> simp [sg] <;> omega)]
      rw [h]; rfl
  · obtain ⟨n, g, hn, hz'⟩ := read_fin k h2
    rw [hn, read_inf k h1, h1]
    cases sgn k b
    · have h : compare (sg false k.format.infRung) (sg (sgn k c) (rung k c)) = .gt := by
        rw [cmp_def, if_neg (by cases sgn k c <;> simp [sg] <;> omega), if_neg (by cases sgn k c <;> simp [sg] <;> omega)]
      rw [h]; rfl
    · have h : compare (sg true k.format.infRung) (sg (sgn k c) (rung k c)) = .lt := by
        rw [cmp_def, if_pos (by cases sgn k c <;> simp [sg] <;> omega)]
      rw [h]; rfl
  · rw [read_inf k h1, read_inf k h2, h1, h2]
    have e3 : compare (k.format.infRung : Int) (-(k.format.infRung : Int)) = .gt := by rw [cmp_def, if_neg (by omega), if_neg (by omega)]
    have e4 : compare (-(k.format.infRung : Int)) k.format.infRung = .lt := by rw [cmp_def, if_pos (by omega)]
    cases sgn k b <;> cases sgn k c <;> simp [Datum.order, sg, e3, e4] <;> rfl

theorem key32 (b : Nat) (hb : b < 4294967296) : key .f32 b = if b < 2147483648 then (b : Int) else -((b : Int) - 2147483648) := by
  unfold key sgn rung sg
  rw [sw32]
  by_cases h : b < 2147483648
  · have h1 : b / 2147483648 = 0 := by omega
    rw [h1, if_pos h]; simp; omega
  · have h1 : b / 2147483648 = 1 := by omega
    rw [h1, if_neg h]; simp; omega

theorem ab32_zero : ab .f32 0 = some 0 := by rw [ab32]; rfl
theorem ord_zero32 {b : Nat} (hb : b < 4294967296) (h : ab .f32 b = some b) :
    FloatKind.f32.format.order b 0 = some (if b % 2147483648 = 0 then .eq else if b < 2147483648 then .gt else .lt) := by
  have k0 : key .f32 0 = 0 := by rw [key32 0 (by omega)]; rfl
  have kb := key32 b hb
  rw [order_key .f32 h ab32_zero, cmp_def, k0]
  by_cases h1 : b < 2147483648
  · rw [if_pos h1] at kb
    rw [kb]
    by_cases h2 : b % 2147483648 = 0
    · rw [if_neg (show ¬ (b : Int) < 0 by omega), if_pos (show (b : Int) = 0 by omega), if_pos h2]
    · rw [if_neg (show ¬ (b : Int) < 0 by omega), if_neg (show ¬ (b : Int) = 0 by omega), if_neg h2, if_pos h1]
  · rw [if_neg h1] at kb
    rw [kb]
    by_cases h2 : b % 2147483648 = 0
    · rw [if_neg (show ¬ -((b : Int) - 2147483648) < 0 by omega), if_pos (show -((b : Int) - 2147483648) = 0 by omega), if_pos h2]
    · rw [if_pos (show -((b : Int) - 2147483648) < 0 by omega), if_neg h2, if_neg h1]

theorem nearest_zero (k : FloatKind) (place : Int) : k.format.write (.number false 0 place) = 0 := rfl
theorem write_zero (k : FloatKind) (s : Bool) (place : Int) : k.format.write (.number s 0 place) = k.format.word s 0 := rfl

/-- a number less itself -/
theorem sub_self_any (k : FloatKind) (b : Nat) : opO .sub k (ab k b) (ab k b) = if rung k b < k.format.infRung then some 0 else none := by
  rw [← floatBits_ab (.inr (.inl rfl))]
  simp only [floatBits, Format.sub]
  split
  · rename_i h
    obtain ⟨m, e, hm, -⟩ := read_fin k h
    rw [hm]
    simp only [Datum.opposite, Datum.sum]
    have e1 : (m : Int) + -(m : Int) = 0 := by omega
    have e2 : -(m : Int) + (m : Int) = 0 := by omega
    cases sgn k b
    · simp [signed, e1]; exact nearest_zero k _
    · simp [signed, e2]; exact nearest_zero k _
  · rename_i h
    by_cases h2 : rung k b = k.format.infRung
    · rw [read_inf k h2]
      cases sgn k b <;> simp [Datum.opposite, Datum.sum]
    · have : (k.format.read b).isNaN = true := by
        rw [isNaN_read _ (bin_le k)]; unfold rung at h h2; simp; omega
      rw [sum_nan_l this]; rfl
end Fl
end Go.Proofs.Ytflpackchlpedaa
