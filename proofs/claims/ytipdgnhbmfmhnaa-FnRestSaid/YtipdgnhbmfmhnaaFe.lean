/- How great the exponential function in 64 bits is for numbers from -40 to 40, and what fits in 32 bits. -/
import Derived.Test.YtipdgnhbmfmhnaaSe
import Derived.Test.YtipdgnhbmfmhnaaFi
set_option linter.unusedVariables false
set_option linter.unusedSimpArgs false
namespace Go.Proofs.Ytipdgnhbmfmhnaa
namespace Fl
open Ieee

def w40 : Nat := 4630826316843712512
def wT : Nat := 4594797519824748544
def w125 : Nat := 4608308318706860032
def w025 : Nat := 4598175219545276416
def w100 : Nat := 5057542381537067008

theorem fits_size {b : Nat} (h : rung .f64 b ≤ rung .f64 w100) : Fits .f64 .f32 b := by
  refine fits_of .f64 .f32 100 (fun g m e hd hm => ?_) (by decide) (by decide)
  have hf : rung .f64 b < FloatKind.f64.format.infRung := Nat.lt_of_le_of_lt h (by decide)
  obtain ⟨M, E, hr, hz⟩ := read_fin .f64 hf
  have hd' : FloatKind.f64.format.read b = .number g m e := hd
  rw [hr] at hd'
  injection hd' with h1 h2 h3
  subst h2
  have hle := (zv_le .f64).2 h
  rw [hz, show zv .f64 (rung .f64 w100) = 2 ^ 1174 by decide +kernel] at hle
  have h4 : 2 ^ M.log2 ≤ M := Nat.log2_self_le hm
  have h5 : 2 ^ (M.log2 + E) ≤ 2 ^ 1174 := by
    rw [Nat.pow_add]
    exact Nat.le_trans (Nat.mul_le_mul_right _ h4) hle
  have h6 := (Nat.pow_le_pow_iff_right (a := 2) (by decide)).1 h5
  have h7 : FloatKind.f64.format.leastPlace = -1074 := by decide
  omega

theorem t_size {x : Nat} (h : rung .f64 x ≤ rung .f64 w40) : ∃ t, opO .quo .f64 (some x) (some c256) = some t ∧ rung .f64 t ≤ rung .f64 wT := by
  refine div_size .f64 (Nat.lt_of_le_of_lt h (by decide)) (by decide : rung .f64 c256 < FloatKind.f64.format.infRung) (by decide : rung .f64 wT < FloatKind.f64.format.infRung) (by decide) 1074 (by decide) ?_
  refine Nat.le_trans (Nat.mul_le_mul_right _ ((zv_le .f64).2 h)) ?_
  decide +kernel

theorem ints : ∀ i < 12, rung .f64 (floatOfInt .f64 ((12 - i : Nat) : Int)) < FloatKind.f64.format.infRung ∧ rung .f64 cOne ≤ rung .f64 (floatOfInt .f64 ((12 - i : Nat) : Int)) := by decide +kernel

theorem poly_size {t : Nat} (h : rung .f64 t ≤ rung .f64 wT) : ∀ i, i ≤ 12 → ∃ p, polyO (some t) i = some p ∧ rung .f64 p ≤ rung .f64 w125
  | 0, _ => ⟨cOne, rfl, by decide⟩
  | i + 1, hi => by
    obtain ⟨p, hp, hb⟩ := poly_size h i (by omega)
    obtain ⟨i1, i2⟩ := ints i (by omega)
    obtain ⟨m, m', hm, hm', hle⟩ := mul_size .f64 (x := t) (y := p) (c := wT) (d := w125) (Nat.lt_of_le_of_lt h (by decide)) (Nat.lt_of_le_of_lt hb (by decide)) (by decide : rung .f64 wT < _) (by decide : rung .f64 w125 < _) h hb
    rw [show floatBits .mul .f64 wT w125 = some 4596204894708301824 by decide +kernel] at hm'
    injection hm' with hm'
    subst hm'
    have h25 : rung .f64 m ≤ rung .f64 w025 := Nat.le_trans hle (by decide)
    obtain ⟨q, hq, hqle⟩ := div_size .f64 (x := m) (y := floatOfInt .f64 ((12 - i : Nat) : Int)) (t := w025) (Nat.lt_of_le_of_lt h25 (by decide)) i1 (by decide : rung .f64 w025 < _) (by
      have : 0 < rung .f64 cOne := by decide
      omega) 1074 (by decide) (by
      have e1 := (zv_le .f64).2 i2
      rw [show zv .f64 (rung .f64 cOne) = 2 ^ 1074 by decide +kernel] at e1
      exact Nat.mul_le_mul ((zv_le .f64).2 h25) e1)
    obtain ⟨r, r', hr, hr', hrle⟩ := add_size .f64 (x := cOne) (y := q) (c := cOne) (d := w025) (by decide : rung .f64 cOne < _) (Nat.lt_of_le_of_lt hqle (by decide)) (by decide : rung .f64 cOne < _) (by decide : rung .f64 w025 < _) (by decide) (by decide) (Nat.le_refl _) hqle
    rw [show floatBits .add .f64 cOne w025 = some w125 by decide +kernel] at hr'
    injection hr' with hr'
    subst hr'
    refine ⟨r, ?_, hrle⟩
    show opO .add .f64 (some cOne) (opO .quo .f64 (opO .mul .f64 (some t) (polyO (some t) i)) (some (floatOfInt .f64 ((12 - i : Nat) : Int)))) = some r
    rw [hp]
    show opO .add .f64 (some cOne) (opO .quo .f64 (floatBits .mul .f64 t p) (some (floatOfInt .f64 ((12 - i : Nat) : Int)))) = some r
    rw [hm]
    show opO .add .f64 (some cOne) (floatBits .quo .f64 m (floatOfInt .f64 ((12 - i : Nat) : Int))) = some r
    rw [hq]
    exact hr

def sqW : Nat → Nat
  | 0 => w125
  | i + 1 => (floatBits .mul .f64 (sqW i) (sqW i)).getD 0
theorem sqW_step : ∀ i < 8, floatBits .mul .f64 (sqW i) (sqW i) = some (sqW (i + 1)) ∧ rung .f64 (sqW i) < FloatKind.f64.format.infRung := by decide +kernel

theorem sgn_word (k : FloatKind) {r : Nat} (h : r ≤ k.format.infRung) : sgn k (k.format.word false r) = false := by
  have h1 := k.format.infRung_lt
  have e : k.format.word false r = r := by unfold Format.word; simp
  rw [e]
  unfold sgn
  rw [Nat.div_eq_of_lt (by omega)]
  rfl

theorem sqs_size {p : Nat} (h : rung .f64 p ≤ rung .f64 w125) : ∀ i, i ≤ 8 → ∃ r, sqsO (some p) i = some r ∧ rung .f64 r ≤ rung .f64 (sqW i)
  | 0, _ => ⟨p, rfl, h⟩
  | i + 1, hi => by
    obtain ⟨r, hr, hb⟩ := sqs_size h i (by omega)
    obtain ⟨s1, s2⟩ := sqW_step i (by omega)
    obtain ⟨m, m', hm, hm', hle⟩ := mul_size .f64 (x := r) (y := r) (Nat.lt_of_le_of_lt hb s2) (Nat.lt_of_le_of_lt hb s2) s2 s2 hb hb
    rw [s1] at hm'
    injection hm' with hm'
    subst hm'
    refine ⟨m, ?_, hle⟩
    show opO .mul .f64 (sqsO (some p) i) (sqsO (some p) i) = some m
    rw [hr]
    exact hm

theorem exp_size {x : Nat} (hx : ab .f64 x = some x) (h : rung .f64 x ≤ rung .f64 w40) : ∃ r, expO (some x) = some r ∧ rung .f64 r ≤ rung .f64 w100 ∧ ∃ q, rung .f64 q < FloatKind.f64.format.infRung ∧ floatBits .mul .f64 q q = some r := by
  have hk : key .f64 x ≤ rung .f64 x ∧ -(rung .f64 x : Int) ≤ key .f64 x := by
    unfold key sg
    split <;> omega
  have o1 : (ordO .f64 (some x) (some cP200) == some .gt) = false := by
    show (FloatKind.f64.format.order x cP200 == some .gt) = false
    rw [order_key .f64 hx (by rw [ab64]; rfl : ab .f64 cP200 = some cP200)]
    have : key .f64 x < key .f64 cP200 := by
      have e : key .f64 cP200 = (rung .f64 cP200 : Int) := by decide
      have e2 : rung .f64 w40 < rung .f64 cP200 := by decide
      omega
    have e3 : compare (key .f64 x) (key .f64 cP200) = .lt := Int.compare_eq_lt.2 this
    rw [e3]; rfl
  have o2 : (ordO .f64 (some x) (some cM200) == some .lt) = false := by
    show (FloatKind.f64.format.order x cM200 == some .lt) = false
    rw [order_key .f64 hx (by rw [ab64]; rfl : ab .f64 cM200 = some cM200)]
    have : key .f64 cM200 < key .f64 x := by
      have e : key .f64 cM200 = -(rung .f64 cM200 : Int) := by decide
      have e2 : rung .f64 w40 < rung .f64 cM200 := by decide
      omega
    have e3 : compare (key .f64 x) (key .f64 cM200) = .gt := Int.compare_eq_gt.2 this
    rw [e3]; rfl
  unfold expO
  rw [o1, o2]
  obtain ⟨t, ht, htl⟩ := t_size h
  obtain ⟨p, hp, hpl⟩ := poly_size htl 12 (by omega)
  obtain ⟨r, hr, hrl⟩ := sqs_size hpl 8 (by omega)
  obtain ⟨q, hq, hql⟩ := sqs_size hpl 7 (by omega)
  have hqr : opO .mul .f64 (sqsO (some p) 7) (sqsO (some p) 7) = some r := hr
  rw [hq] at hqr
  refine ⟨r, ?_, Nat.le_trans hrl (by decide +kernel), q, Nat.lt_of_le_of_lt hql (sqW_step 7 (by omega)).2, hqr⟩
  rw [ht, hp]
  exact hr
end Fl
end Go.Proofs.Ytipdgnhbmfmhnaa
