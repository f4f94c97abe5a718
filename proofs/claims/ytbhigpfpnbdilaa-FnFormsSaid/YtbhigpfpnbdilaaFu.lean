/- Floats that stand for whole multiples of 2^-q. -/
import Derived.Test.YtbhigpfpnbdilaaFt
set_option linter.unusedVariables false
set_option linter.unusedSimpArgs false
namespace Go.Proofs.Ytbhigpfpnbdilaa
namespace Fl
open Ieee
def pl : FloatKind → Nat
  | .f32 => 149
  | .f64 => 1074
theorem pl_eq (k : FloatKind) : (pl k : Int) = -k.format.leastPlace := by cases k <;> decide
/-- 2^-q in units of the least place -/
def un (k : FloatKind) (q : Nat) : Nat := 2 ^ (pl k - q)
theorem un_pos (k : FloatKind) (q : Nat) : 0 < un k q := Nat.two_pow_pos _
theorem un_up (k : FloatKind) {q j : Nat} (h : q + j ≤ pl k) : un k q = 2 ^ j * un k (q + j) := by
  unfold un
  rw [← Nat.pow_add]
  congr 1; omega
theorem un_mul (k : FloatKind) {q p : Nat} (h : q + p ≤ pl k) : un k q * un k p = un k (q + p) * 2 ^ pl k := by
  unfold un
  rw [← Nat.pow_add, ← Nat.pow_add]
  congr 1; omega
/-- the greatest whole number of digits that the format has, and one more -/
def bd (k : FloatKind) : Nat := 2 ^ (k.format.fractionBits + 1)
theorem bd32 : bd .f32 = 16777216 := by decide
theorem bd64 : bd .f64 = 9007199254740992 := by decide
theorem rep_un (k : FloatKind) {m : Nat} (q : Nat) (hm : m < bd k) : ∃ r, r < k.format.infRung ∧ zv k r = m * un k q := by
  refine rep k hm ?_
  have h1 : (pl k - q + 2) * k.format.binade ≤ (pl k + 2) * k.format.binade := Nat.mul_le_mul_right _ (by omega)
  refine Nat.le_trans h1 ?_
  cases k <;> decide
/-- X stands for z times 2^-q -/
def EO (k : FloatKind) (q : Nat) (z : Int) (X : Option Nat) : Prop := ∃ b, X = some b ∧ Fin k b ∧ sv k b = z * (un k q : Int)
theorem fin_ab {k : FloatKind} {b : Nat} (h : Fin k b) : ab k b = some b := by
  unfold ab
  unfold Fin rung at h
  rw [if_neg (by omega)]
section
variable {k : FloatKind} {q p : Nat} {a b : Int} {X Y : Option Nat}
theorem EO.add (hx : EO k q a X) (hy : EO k q b Y) (hb : (a + b).natAbs < bd k) : EO k q (a + b) (opO .add k X Y) := by
  obtain ⟨x, rfl, fx, vx⟩ := hx
  obtain ⟨y, rfl, fy, vy⟩ := hy
  obtain ⟨r, hr, hz⟩ := rep_un k q hb
  obtain ⟨z, h1, h2, h3⟩ := add_exact k fx fy hr (by rw [vx, vy, ← Int.add_mul, Int.natAbs_mul, Int.natAbs_natCast, hz])
  exact ⟨z, h1, h2, by rw [h3, vx, vy, Int.add_mul]⟩
theorem EO.sub (hx : EO k q a X) (hy : EO k q b Y) (hb : (a - b).natAbs < bd k) : EO k q (a - b) (opO .sub k X Y) := by
  obtain ⟨x, rfl, fx, vx⟩ := hx
  obtain ⟨y, rfl, fy, vy⟩ := hy
  obtain ⟨r, hr, hz⟩ := rep_un k q hb
  obtain ⟨z, h1, h2, h3⟩ := sub_exact k fx fy hr (by rw [vx, vy, ← Int.sub_mul, Int.natAbs_mul, Int.natAbs_natCast, hz])
  exact ⟨z, h1, h2, by rw [h3, vx, vy, Int.sub_mul]⟩
theorem EO.mul (hx : EO k q a X) (hy : EO k p b Y) (hb : (a * b).natAbs < bd k) (hq : q + p ≤ pl k) : EO k (q + p) (a * b) (opO .mul k X Y) := by
  obtain ⟨x, rfl, fx, vx⟩ := hx
  obtain ⟨y, rfl, fy, vy⟩ := hy
  obtain ⟨r, hr, hz⟩ := rep_un k (q + p) hb
  have hu := un_mul k hq
  have e1 : sv k x * sv k y = a * b * ((un k (q + p) : Nat) : Int) * ((2 ^ pl k : Nat) : Int) := by
    rw [vx, vy]
    have : a * (un k q : Int) * (b * (un k p : Int)) = a * b * ((un k q * un k p : Nat) : Int) := by rw [Int.natCast_mul]; ac_rfl
    rw [this, hu, Int.natCast_mul]; ac_rfl
  obtain ⟨z, h1, h2, h3⟩ := mul_exact k fx fy hr (pl k) (pl_eq k) (by rw [e1, Int.natAbs_mul, Int.natAbs_mul, Int.natAbs_natCast, Int.natAbs_natCast, hz])
  refine ⟨z, h1, h2, ?_⟩
  rw [e1] at h3
  exact Int.eq_of_mul_eq_mul_right (by have := Nat.two_pow_pos (pl k); omega) h3
theorem EO.up (hx : EO k q a X) (j : Nat) (h : q + j ≤ pl k) : EO k (q + j) (a * ((2 ^ j : Nat) : Int)) X := by
  obtain ⟨x, rfl, fx, vx⟩ := hx
  refine ⟨x, rfl, fx, ?_⟩
  rw [vx, un_up k h, Int.natCast_mul, Int.mul_assoc]
theorem EO.cast (hx : EO k q a X) (h : a = b) : EO k q b X := by subst h; exact hx
theorem cmp_sv {x y : Nat} : compare (key k x) (key k y) = compare (sv k x) (sv k y) := by
  unfold key sv
  have z1 := zv_inj k (r := rung k x) (s := 0)
  have z2 := zv_inj k (r := rung k y) (s := 0)
  rw [zv_zero] at z1 z2
  exact cmp_sg _ _ (zv_lt k).symm (zv_lt k).symm z1.symm z2.symm
theorem EO.ord (hx : EO k q a X) (hy : EO k q b Y) : ordO k X Y = some (compare a b) := by
  obtain ⟨x, rfl, fx, vx⟩ := hx
  obtain ⟨y, rfl, fy, vy⟩ := hy
  show k.format.order x y = _
  rw [order_key k (fin_ab fx) (fin_ab fy), cmp_sv, vx, vy, cmp_scale _ _ _ (un_pos k q)]
/-- a whole number as a float -/
theorem EO.int (n : Int) (h : n.natAbs < bd k) : EO k 0 n (some (floatOfInt k n)) := by
  obtain ⟨r, hr, hz⟩ := rep_un k 0 h
  have hN : rung k (k.format.nearest (decide (n < 0)) n.natAbs 0) = r := nearest_exact k _ (b := k.format.leastPlace) hr (lp_neg k) (Int.le_refl _) (by
    rw [hz]
    have e1 : (0 - k.format.leastPlace).toNat = pl k - 0 := by have := pl_eq k; omega
    have e2 : (k.format.leastPlace - k.format.leastPlace).toNat = 0 := by omega
    rw [e1, e2, Nat.pow_zero, Nat.mul_one]; rfl)
  refine ⟨_, rfl, ?_, ?_⟩
  · show rung k (k.format.nearest _ _ _) < _
    rw [hN]; exact hr
  · show sv k (k.format.nearest _ _ _) = _
    rw [sv_nearest k _ hN, hz]
    by_cases h1 : n < 0
    · rw [decide_eq_true h1]
      simp only [sg, if_true]
      rw [Int.natCast_mul, ← Int.neg_mul]
      congr 1; omega
    · rw [decide_eq_false h1]
      simp only [sg, Bool.false_eq_true, if_false]
      rw [Int.natCast_mul]
      congr 1; omega
end
/-- by reckoning -/
def exB (k : FloatKind) (q : Nat) (z : Int) : Option Nat → Bool
  | some b => decide (rung k b < k.format.infRung) && decide (sv k b = z * (un k q : Int))
  | none => false
theorem exB_EO {k : FloatKind} {q : Nat} {z : Int} {X : Option Nat} (h : exB k q z X = true) : EO k q z X := by
  cases X with
  | none => cases h
  | some b =>
    simp only [exB, Bool.and_eq_true, decide_eq_true_eq] at h
    exact ⟨b, rfl, h.1, h.2⟩
theorem inf_wide (D : Nat) (hD : D = 925) : zv .f32 FloatKind.f32.format.infRung * 2 ^ D < zv .f64 FloatKind.f64.format.infRung := by subst hD; decide +kernel
theorem EO.wide' {q : Nat} {z : Int} {X : Option Nat} (h : EO .f32 q z X) (hq : q ≤ 149) (D : Nat) (hD : D = 925) : EO .f64 q z (wide X) := by
  obtain ⟨x, rfl, fx, vx⟩ := h
  obtain ⟨h1, h2⟩ := wide_zv fx D hD
  have hu : un .f64 q = un .f32 q * 2 ^ D := by
    unfold un
    rw [← Nat.pow_add]
    congr 1
    show 1074 - q = 149 - q + D
    omega
  have hw : Fl.wide (some x) = some (FloatKind.f64.encode (FloatKind.f32.decode x)) := rfl
  refine ⟨_, hw, ?_, ?_⟩
  · rcases Nat.lt_or_ge (rung .f64 (FloatKind.f64.encode (FloatKind.f32.decode x))) FloatKind.f64.format.infRung with h3 | h3
    · exact h3
    · exfalso
      have h4 : zv .f64 FloatKind.f64.format.infRung ≤ zv .f64 (rung .f64 (FloatKind.f64.encode (FloatKind.f32.decode x))) := (zv_le .f64).2 h3
      rw [h2] at h4
      have h5 : zv .f32 (rung .f32 x) < zv .f32 FloatKind.f32.format.infRung := (zv_lt .f32).2 fx
      have h6 := inf_wide D hD
      have h7 := Nat.mul_lt_mul_of_pos_right h5 (Nat.two_pow_pos D)
      exact Nat.lt_irrefl _ (Nat.lt_of_le_of_lt h4 (Nat.lt_trans h7 h6))
  · have hs : sv .f64 (FloatKind.f64.encode (FloatKind.f32.decode x)) = sv .f32 x * ((2 ^ D : Nat) : Int) := by
      unfold sv
      rw [h1, h2, sg_mul]
    rw [hs, vx, hu, Int.natCast_mul, Int.mul_assoc]
theorem EO.wide {q : Nat} {z : Int} {X : Option Nat} (h : EO .f32 q z X) (hq : q ≤ 149) : EO .f64 q z (wide X) := h.wide' hq 925 rfl
end Fl
open Fl
theorem EO.eq_ {q : Nat} {a b : Int} {X Y : O} (hx : EO .f32 q a X) (hy : EO .f32 q b Y) : eqO X Y = decide (a = b) := by
  unfold eqO
  rw [hx.ord hy, cmp_def]
  by_cases h : a < b
  · rw [if_pos h, decide_eq_false (by omega)]; rfl
  · rw [if_neg h]
    by_cases h2 : a = b
    · rw [if_pos h2, decide_eq_true h2]; rfl
    · rw [if_neg h2, decide_eq_false h2]; rfl
end Go.Proofs.Ytbhigpfpnbdilaa
